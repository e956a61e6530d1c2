/- bridge.Zeros and bridge.Conflict, in all cases. -/
import Derived.Test.YtgbogdckmfencaaZof
import Derived.Test.YtgbogdckmfencaaCopy
set_option linter.unusedSimpArgs false
set_option linter.unusedVariables false
namespace Go.Proofs.Ytgbogdckmfencaa
open Go.RowKit
attribute [local go_sem ↓] Go.wp_at_zero Go.wp_at_succ
set_option maxRecDepth 100000 in
set_option maxHeartbeats 1000000 in
theorem zeros_bad (st z0 z1 : Int) (A : Option Addr) (n c : Nat) (es : List Ev) (w : World) (hn : n ≤ 9223372036854775807) (hl : es.length = n) (hA : EvsAt w w.heap.size A es) (hck : ckL st z0 z1 es ≠ 0) :
    Calls Try.prog 18 #[.agg #[.int .i64 st, .int .i64 z0, .int .i64 z1, .slice A n c]] w fun e w' => e = .returned (.tuple #[.slice none 0 0, .int .i64 (ckL st z0 z1 es)]) ∧ Below w.heap.size w w' := by
  have hz1 : (ckL st z0 z1 es != 0) = true := by simpa using hck
  have HC := Lib.hid hck
  clear hck
  go_enter Try.func18, Try.ntmps18
  go_wp2_with (first
    | (go_at_call 58; refine (zerosOf_bad st z0 z1 A n c es _ hn hl ((hA.below ((Below.refl _ _).alloc (Nat.le_refl _) _)).more (by simp)) HC.out).mono ?_; rintro e w1 ⟨rfl, hb⟩; have p1 := (Bx.new w 26 _).call hb; have hB := ((Below.refl w.heap.size w).alloc (Nat.le_refl _) _).trans (hb.mono (by simp)); have hsz : w.heap.size < w1.heap.size := p1.lt; clear hb)
    | ((with_reducible (show wpList _ _ _ (⟨none, .store 91 (.tmp 4) _, _, _, _, _⟩ :: _) _ _)); rw [← zarr0]; refine wpList_store_row rfl 91 (.tmp 4) (.tmp 10) rfl w1.heap.size _ rfl rfl 91 _ (Bx.new w1 91 (zarr fun _ => (0, 0))) (by rw [zarr_size]; kernel_rfl) (by rw [zarr_size]) (zarr_one _) ?_; replace hB := (hB.alloc hB.size (.cells (zarr fun _ => (0, 0)) 91)).setRow (g := w1.heap.size) hB.size (zarr fun _ => (0, 0)); generalize World.setRow _ _ _ = w3 at *))
  go_ret2
  exact ⟨rfl, hB⟩
set_option maxRecDepth 100000 in
set_option maxHeartbeats 1000000 in
theorem zeros_none (st z0 z1 : Int) (A : Option Addr) (n c : Nat) (es : List Ev) (w : World) (hl : es.length = n) (hA : EvsAt w w.heap.size A es) (hck : ckL st z0 z1 es = 0) (m : Nat) (hfit : Fits st z0 z1 es m) (hm : m < n) :
    Calls Try.prog 18 #[.agg #[.int .i64 st, .int .i64 z0, .int .i64 z1, .slice A n c]] w fun e w' => e = .returned (.tuple #[.slice none 0 0, .int .i64 9]) ∧ Below w.heap.size w w' := by
  have HC := Lib.hid hck
  clear hck
  have HF := Lib.hid hfit
  clear hfit
  go_enter Try.func18, Try.ntmps18
  go_wp2_with (first
    | (go_at_call 58; refine (zerosOf_none st z0 z1 A n c es _ hl ((hA.below ((Below.refl _ _).alloc (Nat.le_refl _) _)).more (by simp)) HC.out m HF.out hm).mono ?_; rintro e w1 ⟨rfl, hb⟩; have p1 := (Bx.new w 26 _).call hb; have hB := ((Below.refl w.heap.size w).alloc (Nat.le_refl _) _).trans (hb.mono (by simp)); have hsz : w.heap.size < w1.heap.size := p1.lt; clear hb)
    | ((with_reducible (show wpList _ _ _ (⟨none, .store 91 (.tmp 4) _, _, _, _, _⟩ :: _) _ _)); rw [← zarr0]; refine wpList_store_row rfl 91 (.tmp 4) (.tmp 10) rfl w1.heap.size _ rfl rfl 91 _ (Bx.new w1 91 (zarr fun _ => (0, 0))) (by rw [zarr_size]; kernel_rfl) (by rw [zarr_size]) (zarr_one _) ?_; replace hB := (hB.alloc hB.size (.cells (zarr fun _ => (0, 0)) 91)).setRow (g := w1.heap.size) hB.size (zarr fun _ => (0, 0)); generalize World.setRow _ _ _ = w3 at *))
  go_ret2
  exact ⟨rfl, hB⟩
/-- conflict -/
theorem conflict_bad (st z0 z1 : Int) (A : Option Addr) (n c : Nat) (es : List Ev) (w : World) (hn : n ≤ 9223372036854775807) (hl : es.length = n) (hA : EvsAt w w.heap.size A es) (hck : ckL st z0 z1 es ≠ 0) :
    Calls Try.prog 20 #[.agg #[.int .i64 st, .int .i64 z0, .int .i64 z1, .slice A n c]] w fun e w' => e = .returned (.tuple #[.int .i64 0, .int .i64 (ckL st z0 z1 es)]) ∧ Below w.heap.size w w' := by
  have hz1 : (ckL st z0 z1 es != 0) = true := by simpa using hck
  have HC := Lib.hid hck
  clear hck
  go_enter Try.func20, Try.ntmps20
  go_wp2_with (go_at_call 22; refine (check_any st z0 z1 A n c es _ hn hl ((hA.below ((Below.refl _ _).alloc (Nat.le_refl _) _)).more (by simp))).mono ?_; rintro e w1 ⟨rfl, hb⟩; have hB := ((Below.refl w.heap.size w).alloc (Nat.le_refl _) _).trans (hb.mono (by simp)); clear hb)
  go_ret2
  exact ⟨rfl, hB⟩
set_option maxRecDepth 100000 in
set_option maxHeartbeats 1000000 in
theorem conflict_ok (st z0 z1 : Int) (A : Option Addr) (n c : Nat) (es : List Ev) (w : World) (hl : es.length = n) (hA : EvsAt w w.heap.size A es) (hck : ckL st z0 z1 es = 0) (hfit : Fits st z0 z1 es n) :
    Calls Try.prog 20 #[.agg #[.int .i64 st, .int .i64 z0, .int .i64 z1, .slice A n c]] w fun e w' => e = .returned (.tuple #[.int .i64 0, .int .i64 3]) ∧ Below w.heap.size w w' := by
  have hz1 : (ckL st z0 z1 es != 0) = false := by simpa using hck
  have hok := ckL_zero hck
  have hn : n ≤ 9223372036854775807 := by have := hok.n; omega
  have HC := Lib.hid hck
  clear hck
  have HL := Lib.hid hl
  clear hl
  have HF := Lib.hid hfit
  clear hfit
  have HO := Lib.hid hok
  clear hok
  go_enter Try.func20, Try.ntmps20
  go_wp2_with (first
    | (go_at_call 22; refine (check_any st z0 z1 A n c es _ hn HL.out ((hA.below ((Below.refl _ _).alloc (Nat.le_refl _) _)).more (by simp))).mono ?_; rintro e w1 ⟨rfl, hb⟩; have p1 := (Bx.new w 26 _).call hb; have hB := ((Below.refl w.heap.size w).alloc (Nat.le_refl _) _).trans (hb.mono (by simp)); clear hb; obtain ⟨a0, a1, a2, a3, af, az⟩ := p1.four; rw [HC.out])
    | (go_at_call 61; refine (reachable_fit st z0 z1 A n c es _ HO.out HL.out ((hA.below hB).more hB.size) HF.out).mono ?_; rintro e w2 ⟨rfl, hb2⟩; replace p1 := p1.call hb2; replace hB := hB.trans (hb2.mono hB.size); clear hb2; obtain ⟨a0, a1, a2, a3, af, az⟩ := p1.four)
    | ((with_reducible (show wpList _ _ _ (⟨none, .store 91 (.tmp 5) _, _, _, _, _⟩ :: _) _ _)); rw [← zarr0]; refine wpList_store_row rfl 91 (.tmp 5) (.tmp 15) rfl w2.heap.size _ rfl rfl 91 _ (Bx.new w2 91 (zarr fun _ => (0, 0))) (by rw [zarr_size]; kernel_rfl) (by rw [zarr_size, zarr_size]) (zarr_one _) ?_; replace p1 := (p1.alloc (.cells (zarr fun _ => (0, 0)) 91)).rowfar (g' := w2.heap.size) (cs' := zarr (kn st z0 z1 es n)) (by omega); replace hB := (hB.alloc hB.size (.cells (zarr fun _ => (0, 0)) 91)).setRow (g := w2.heap.size) hB.size (zarr (kn st z0 z1 es n)); generalize World.setRow _ _ _ = w3 at *; obtain ⟨a0, a1, a2, a3, af, az⟩ := p1.four))
  go_ret2
  exact ⟨rfl, hB⟩
set_option maxRecDepth 100000 in
set_option maxHeartbeats 1000000 in
theorem conflict_at (st z0 z1 : Int) (A : Option Addr) (n c : Nat) (es : List Ev) (w : World) (hl : es.length = n) (hA : EvsAt w w.heap.size A es) (hck : ckL st z0 z1 es = 0) (m : Nat) (hfit : Fits st z0 z1 es m) (hm : m < n) :
    Calls Try.prog 20 #[.agg #[.int .i64 st, .int .i64 z0, .int .i64 z1, .slice A n c]] w fun e w' => e = .returned (.tuple #[.int .i64 m, .int .i64 0]) ∧ Below w.heap.size w w' := by
  have hz1 : (ckL st z0 z1 es != 0) = false := by simpa using hck
  have hok := ckL_zero hck
  have hn : n ≤ 9223372036854775807 := by have := hok.n; omega
  have HC := Lib.hid hck
  clear hck
  have HL := Lib.hid hl
  clear hl
  have HF := Lib.hid hfit
  clear hfit
  have HO := Lib.hid hok
  clear hok
  have hne : ((m : Int) == (n : Int)) = false := by simp; omega
  go_enter Try.func20, Try.ntmps20
  go_wp2_with (first
    | (go_at_call 22; refine (check_any st z0 z1 A n c es _ hn HL.out ((hA.below ((Below.refl _ _).alloc (Nat.le_refl _) _)).more (by simp))).mono ?_; rintro e w1 ⟨rfl, hb⟩; have p1 := (Bx.new w 26 _).call hb; have hB := ((Below.refl w.heap.size w).alloc (Nat.le_refl _) _).trans (hb.mono (by simp)); clear hb; obtain ⟨a0, a1, a2, a3, af, az⟩ := p1.four; rw [HC.out])
    | (go_at_call 61; refine (reachable_fit st z0 z1 A n c es _ HO.out HL.out ((hA.below hB).more hB.size) HF.out).mono ?_; rintro e w2 ⟨rfl, hb2⟩; replace p1 := p1.call hb2; replace hB := hB.trans (hb2.mono hB.size); clear hb2; obtain ⟨a0, a1, a2, a3, af, az⟩ := p1.four)
    | ((with_reducible (show wpList _ _ _ (⟨none, .store 91 (.tmp 5) _, _, _, _, _⟩ :: _) _ _)); rw [← zarr0]; refine wpList_store_row rfl 91 (.tmp 5) (.tmp 15) rfl w2.heap.size _ rfl rfl 91 _ (Bx.new w2 91 (zarr fun _ => (0, 0))) (by rw [zarr_size]; kernel_rfl) (by rw [zarr_size, zarr_size]) (zarr_one _) ?_; replace p1 := (p1.alloc (.cells (zarr fun _ => (0, 0)) 91)).rowfar (g' := w2.heap.size) (cs' := zarr (kn st z0 z1 es m)) (by omega); replace hB := (hB.alloc hB.size (.cells (zarr fun _ => (0, 0)) 91)).setRow (g := w2.heap.size) hB.size (zarr (kn st z0 z1 es m)); generalize World.setRow _ _ _ = w3 at *; obtain ⟨a0, a1, a2, a3, af, az⟩ := p1.four))
  go_ret2
  exact ⟨rfl, hB⟩

def ZerosPost (st z0 z1 : Int) (es : List Ev) (n : Nat) (w : World) (e : Ending) (w' : World) : Prop :=
  (∃ A' c', e = .returned (.tuple #[.slice A' n c', .int .i64 0]) ∧ Sl w' w'.heap.size 2 A' (zrows (zst st z0 z1 es 0) n)) ∧ Below w.heap.size w w'
theorem info23 : (Try.prog.info? 23).map (fun i => (i.zero, i.size, i.bytes)) = some (some (.agg #[.int .i64 0, .int .i64 0]), 2, 16) := by kernel_rfl
set_option maxRecDepth 100000 in
set_option maxHeartbeats 1000000 in
theorem zeros_all (st z0 z1 : Int) (A : Option Addr) (n c : Nat) (es : List Ev) (w : World) (hl : es.length = n) (hA : EvsAt w w.heap.size A es) (hck : ckL st z0 z1 es = 0) (hfit : Fits st z0 z1 es n) :
    Calls Try.prog 18 #[.agg #[.int .i64 st, .int .i64 z0, .int .i64 z1, .slice A n c]] w (ZerosPost st z0 z1 es n w) := by
  have hok := ckL_zero hck
  have hn : n ≤ 14 := by have := hok.n; omega
  clear hok
  have HC := Lib.hid hck
  clear hck
  have HF := Lib.hid hfit
  clear hfit
  have HL := Lib.hid hl
  clear hl
  obtain ⟨i0, hi, hz0, hz1, hz2⟩ := info_parts info23
  have hmk := run_make_n (P := Try.prog) 39 23 i0 _ Try.underlying39 hi hz0 n (by rw [hz2]; omega) (by omega)
  have hcur : (madeCells (Value.cells (.agg #[.int .i64 0, .int .i64 0])) (n * i0.size)).size = n * 2 := by rw [size_madeCells, hz1]
  generalize madeCells (Value.cells (.agg #[.int .i64 0, .int .i64 0])) (n * i0.size) = cur at hmk hcur
  have HI := And.intro hcur (And.intro hz1 hi)
  have HI := Lib.hid HI
  clear hcur hz1 hz2 hi hz0
  go_enter Try.func18, Try.ntmps18
  go_wp2_with (first
    | (go_at_call 58; refine (zerosOf_all st z0 z1 A n c es _ HL.out ((hA.below ((Below.refl _ _).alloc (Nat.le_refl _) _)).more (by simp)) HC.out HF.out).mono ?_; rintro e w1 ⟨rfl, hb⟩; have p1 := (Bx.new w 26 _).call hb; have hB := ((Below.refl w.heap.size w).alloc (Nat.le_refl _) _).trans (hb.mono (by simp)); have hsz : w.heap.size < w1.heap.size := p1.lt; clear hb)
    | ((with_reducible (show wpList _ _ _ (⟨none, .store 91 (.tmp 4) _, _, _, _, _⟩ :: _) _ _)); rw [← zarr0]; refine wpList_store_row rfl 91 (.tmp 4) (.tmp 10) rfl w1.heap.size _ rfl rfl 91 _ (Bx.new w1 91 (zarr fun _ => (0, 0))) (by rw [zarr_size]; kernel_rfl) (by rw [zarr_size, zarr_size]) (zarr_one _) ?_; have p4 := (Bx.new w1 91 (zarr fun _ => (0, 0))).row (cs' := zarr (zst st z0 z1 es 0)); replace p1 := (p1.alloc (.cells (zarr fun _ => (0, 0)) 91)).rowfar (g' := w1.heap.size) (cs' := zarr (zst st z0 z1 es 0)) (by omega); replace hB := (hB.alloc hB.size (.cells (zarr fun _ => (0, 0)) 91)).setRow (g := w1.heap.size) hB.size (zarr (zst st z0 z1 es 0)); generalize World.setRow _ _ _ = w3 at *; obtain ⟨a0, a1, a2, a3, af, az⟩ := p1.four)
    | ((with_reducible (show wpList _ _ _ (⟨some 21, _, _, _, _, _⟩ :: _) _ _)); refine wpList_copy_all rfl (.tmp 19) (.tmp 20) 39 39 rfl 23 2 w3.heap.size n n ⟨w1.heap.size, 0, none⟩ 14 14 cur 23 ((zarr (zst st z0 z1 es 0)).toList.take (n * 2)) rfl rfl Try.underlying39 (by kernel_rfl) (Bx.new w3 23 cur) (by rw [List.length_take, Array.length_toList, zarr_size]; omega) HI.out.1 hn ?_ ?_ ?_; rotate_left 2; have p6 := (Bx.new w3 23 cur).row (cs' := ((zarr (zst st z0 z1 es 0)).toList.take (n * 2)).toArray); replace hB := (hB.alloc hB.size (.cells cur 23)).setRow (g := w3.heap.size) hB.size ((zarr (zst st z0 z1 es 0)).toList.take (n * 2)).toArray; generalize World.setRow _ _ _ = w5 at *))
  · go_ret2
    exact ⟨⟨_, _, rfl, Sl.of_bx p6 (zrows_cells hn)⟩, hB⟩
  · intro j v hv
    have e : (⟨w1.heap.size, 0, none⟩ : Addr).add j = ⟨w1.heap.size, j, none⟩ := by unfold Addr.add; split <;> simp_all
    rw [e, (p4.alloc _).cell]
    rw [List.getElem?_take] at hv
    split at hv
    · simpa using hv
    · cases hv
  · intro v hv
    exact (Array.all_eq_true_iff_forall_mem.1 (zarr_one _)) v (by simpa using List.mem_of_mem_take hv)
end Go.Proofs.Ytgbogdckmfencaa
