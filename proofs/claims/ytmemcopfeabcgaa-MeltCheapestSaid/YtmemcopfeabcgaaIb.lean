/- The iterator of melt.box.blends, as a contract. -/
import Derived.Test.YtmemcopfeabcgaaRb
import Derived.Test.YtmemcopfeabcgaaBl
set_option linter.unusedSimpArgs false
set_option linter.unusedVariables false
namespace Go.Proofs.Ytmemcopfeabcgaa
open Go Go.RowKit Go.Shelf
attribute [local go_sem] Oper.semAt_some
def SameBox (g : Nat) (A B : World) : Prop := B.heap[g]? = A.heap[g]?
theorem grown_below {w w' : World} {row : Option Nat} (h : Below w.heap.size w w') : w.grownBy w' row := ⟨h.os, h.tape, h.output, h.size, fun k hk _ => h.block k hk⟩
/-- The number of the blend that a box holds. -/
def rkW (lo hi : Nat → Int) (w : World) (g : Nat) : Int := rk lo hi (fun i => intOf ((w.cell? ⟨g, i, none⟩).getD undef))
theorem rkW_eq {lo hi d : Nat → Int} {w : World} {g : Nat} (h : Bx w g 81 (barr d)) : rkW lo hi w g = rk lo hi d := by
  have e : ∀ i, i < 4 → intOf ((w.cell? ⟨g, i, none⟩).getD undef) = d i := fun i hi => by rw [h.cell i, barr_get d hi]; rfl
  unfold rkW rk
  dsimp only
  rw [e 0 (by omega), e 1 (by omega), e 2 (by omega), e 3 (by omega)]
theorem grown_set (w : World) (g i : Nat) (v : Value) : w.grownBy (w.setCell ⟨g, i, none⟩ v) (some g) :=
  ⟨rfl, rfl, rfl, by simp [World.setCell], fun k hk hne => Below.heap_setCell w ⟨g, i, none⟩ v k (fun e => hne (by rw [e]))⟩
/-- Four stores into a box of four. -/
def st4 (w : World) (g : Nat) (d : Nat → Int) : World := (((w.setCell ⟨g, 0, none⟩ (.int .i64 (d 0))).setCell ⟨g, 1, none⟩ (.int .i64 (d 1))).setCell ⟨g, 2, none⟩ (.int .i64 (d 2))).setCell ⟨g, 3, none⟩ (.int .i64 (d 3))
theorem st4_size (w : World) (g : Nat) (d : Nat → Int) : (st4 w g d).heap.size = w.heap.size := by simp [st4, World.setCell]
theorem st4_grown (w : World) (g : Nat) (d : Nat → Int) : w.grownBy (st4 w g d) (some g) :=
  ⟨rfl, rfl, rfl, by rw [st4_size]; exact Nat.le_refl _, fun k hk hne => by
    have hne' : k ≠ g := fun e => hne (by rw [e])
    unfold st4
    rw [Below.heap_setCell _ _ _ k hne', Below.heap_setCell _ _ _ k hne', Below.heap_setCell _ _ _ k hne', Below.heap_setCell _ _ _ k hne']⟩
theorem st4_box {w : World} {g : Nat} {f d : Nat → Int} (h : Bx w g 81 (barr f)) : Bx (st4 w g d) g 81 (barr d) := by
  rw [barr_def] at h
  have := (((h.set_ 0 (.int .i64 (d 0))).set_ 1 (.int .i64 (d 1))).set_ 2 (.int .i64 (d 2))).set_ 3 (.int .i64 (d 3))
  rw [barr_def]
  simpa [st4] using this
theorem st4_far {w : World} {g k : Nat} {t : TypeId} {cs : Array Value} {d : Nat → Int} (h : Bx w k t cs) (hne : k ≠ g) : Bx (st4 w g d) k t cs :=
  (((h.far (p := ⟨g, 0, none⟩) hne _).far (p := ⟨g, 1, none⟩) hne _).far (p := ⟨g, 2, none⟩) hne _).far (p := ⟨g, 3, none⟩) hne _
set_option maxRecDepth 100000 in
set_option maxHeartbeats 2000000 in
theorem blends_in (n : Nat) (hn : 2 ≤ n) (g0 : Nat) (lo hi : Nat → Int) (hbx : BoxOk lo hi) (w0 : World) (hB0 : Bx w0 g0 91 (xarr lo hi)) :
    SeqBx Fence.wide n Try.prog 84 #[.pointer (some ⟨g0, 0, none⟩)] (fun x : BB lo hi => #[.agg (barr x.1)]) (SameBox g0) (fun xs => Ranked lo hi xs ∧ (xs.length : Int) = tot lo hi) (tot lo hi).toNat w0 := by
  intro l J W hW hJ hY h0
  have k1 := hB0.below hW hB0.lt
  have hg0 : g0 < W.heap.size := k1.lt
  obtain ⟨p0, p1, p2, p3, p4, p5, p6, p7, pf, pz⟩ := k1.xarr
  refine callsIn_of_wp Try.func84 rfl trivial ?_ rfl
  simp only [Try.ntmps84, List.size_toArray, List.length_cons, List.length_nil, Nat.reduceAdd, Nat.reduceSub, Array.replicate_succ, Array.replicate_zero, List.push_toArray, List.append_toArray, List.nil_append, List.cons_append]
  gi_wp2_with fail
  refine ⟨trivial, fun h => by simp [Fence.wide] at h, ?_⟩
  rw [← xarr_def lo hi]
  refine (callsIn_wide.2 (least_any lo hi _)).mono ?_
  rintro e w1 ⟨rfl, hb1⟩
  have k2 := (k1.call hb1).alloc (.cells (barr lo) 81)
  have kn := Bx.new w1 81 (barr lo)
  have hb2 := hb1.alloc hb1.size (.cells (barr lo) 81)
  obtain ⟨w2, hw2⟩ : ∃ w2, w1.alloc (.cells (barr lo) 81) = w2 := ⟨_, rfl⟩
  rw [hw2] at k2 kn hb2
  have hJ0 := h0 w2 hb2
  have hsz : w2.heap.size = w1.heap.size + 1 := by rw [← hw2]; simp
  have hgw := hb1.size
  have HY := Lib.hid hY
  have HJ := Lib.hid hJ
  have HW2 := Lib.hid (barr_def lo ▸ hw2)
  clear k1 hY hJ h0 hw2 p0 p1 p2 p3 p4 p5 p6 p7 pf pz
  rw [barr_def lo]
  gi_wp2_with fail
  rw [HW2.out]
  gi_loopw [4] (fun v wr => ∃ (t : Bool) (pre : List (BB lo hi)) (d : Nat → Int), v = .bool t ∧ Hid (Ranked lo hi pre ∧ (t = true → InB lo hi d ∧ rk lo hi d = pre.length) ∧ (t = false → (pre.length : Int) = tot lo hi)) ∧ Bx wr w1.heap.size 81 (barr d) ∧ Bx wr g0 91 (xarr lo hi) ∧ J w2.heap.size pre wr ∧ w2.heap.size ≤ wr.heap.size) (fun v wr => match v with | .bool true => (tot lo hi - rkW lo hi wr w1.heap.size).toNat | _ => 0)
  case atStart => exact ⟨true, [], lo, rfl, Lib.hid ⟨fun k x h => by simp at h, fun _ => ⟨fun i hi4 => ⟨Int.le_refl _, hbx.le i hi4⟩, by rw [rk_least]; rfl⟩, fun h => by cases h⟩, kn, k2, hJ0, Nat.le_refl _⟩
  case round =>
    clear hJ0 kn k2
    obtain ⟨t, pre, d, rfl, hst, kb, kx, hj, hsw⟩ := hrel
    cases t with
    | false =>
      gi_wp2_with fail
      refine ⟨fun f h => (by cases h), ?_⟩
      gi_wp2_with fail
      go_end0
      exact ⟨⟨_, rfl⟩, w2.heap.size, pre, ⟨hst.out.1, hst.out.2.2 (by first | trivial | rfl)⟩, hj, by omega, hsw⟩
    | true =>
      obtain ⟨hin, hrk⟩ := hst.out.2.1 rfl
      have hlt := rk_lt hin
      have hd6 := hin.six hbx
      have hmeas := rkW_eq (lo := lo) (hi := hi) kb
      obtain ⟨fn, tmps, assign, body, hy, hR⟩ := HY.out w2.heap.size pre ⟨d, hin⟩ wr (by omega) hsw hj (by omega)
      dsimp only at hy
      rw [barr_def] at hy
      obtain ⟨b0, b1, b2, b3, bf, bz⟩ := kb.barr
      obtain ⟨p0, p1, p2, p3, p4, p5, p6, p7, pf, pz⟩ := kx.xarr
      have HST := Lib.hid (⟨hst.out.1, hin, hrk, hlt⟩ : Ranked lo hi pre ∧ InB lo hi d ∧ rk lo hi d = pre.length ∧ rk lo hi d < tot lo hi)
      have HM := Lib.hid hmeas
      have HHD := Lib.hid hd6
      clear hmeas hst hrk hlt hd6
      gi_wp2_with fail
      refine ⟨fun h => by simp [Fence.wide] at h, hR.mono ?_⟩
      rintro e W3 ⟨rfl, hJ3, hk3, hsb3⟩
      have kb3 : Bx W3 w1.heap.size 81 (barr d) := (hk3.same _ (by omega) (by omega)).trans kb
      have kx3 : Bx W3 g0 91 (xarr lo hi) := Eq.trans hsb3 kx
      have hs3 := hk3.size
      clear kb kx b0 b1 b2 b3 bf bz p0 p1 p2 p3 p4 p5 p6 p7 pf pz hR hy hj hk3 hsb3
      obtain ⟨b0, b1, b2, b3, bf, bz⟩ := kb3.barr
      obtain ⟨p0, p1, p2, p3, p4, p5, p6, p7, pf, pz⟩ := kx3.xarr
      cases haft : aft lo hi d with
      | none =>
        have HA : Hid (aftV lo hi d = .tuple #[.agg (barr d), .bool false]) := by unfold Hid aftV; rw [haft]
        have hend := aft_none hin haft
        gi_wp2_with fail
        refine ⟨trivial, fun h => by simp [Fence.wide] at h, ?_⟩
        rw [← xarr_def lo hi, ← barr_def d]
        refine (callsIn_wide.2 (after_any lo hi d _ HHD.out)).mono ?_
        rintro e w4 ⟨rfl, hb4⟩
        rw [HA.out, barr_def d]
        have kb4 := kb3.call hb4
        have kx4 := kx3.call hb4
        have hJ4 := HJ.out _ _ _ _ none hJ3 (by omega) (grown_below hb4) (fun r e => by cases e)
        have hs4 := hb4.size
        clear b0 b1 b2 b3 bf bz p0 p1 p2 p3 p4 p5 p6 p7 pf pz
        obtain ⟨b0, b1, b2, b3, bf, bz⟩ := kb4.barr
        gi_wp2_with fail
        have kb5 := st4_box (d := d) kb4
        have kx5 := st4_far (d := d) kx4 (show g0 ≠ w1.heap.size by omega)
        have hJ5 := HJ.out _ _ _ _ (some w1.heap.size) hJ4 (by omega) (st4_grown w4 w1.heap.size d) (fun r e => by cases e; omega)
        have hz5 := st4_size w4 w1.heap.size d
        unfold st4 at kb5 kx5 hJ5 hz5
        refine ⟨⟨false, pre ++ [⟨d, hin⟩], d, rfl, Lib.hid ⟨HST.out.1.snoc HST.out.2.2.1, (fun h => by cases h), fun _ => by have := HST.out.2.2.1; simp; omega⟩, kb5, kx5, hJ5, by omega⟩, ?_⟩
        dsimp only
        rw [HM.out]
        have := HST.out
        omega
      | some d' =>
        have HA : Hid (aftV lo hi d = .tuple #[.agg (barr d'), .bool true]) := by unfold Hid aftV; rw [haft]
        have HN := Lib.hid (aft_rk hin haft)
        clear haft
        gi_wp2_with fail
        refine ⟨trivial, fun h => by simp [Fence.wide] at h, ?_⟩
        rw [← xarr_def lo hi, ← barr_def d]
        refine (callsIn_wide.2 (after_any lo hi d _ HHD.out)).mono ?_
        rintro e w4 ⟨rfl, hb4⟩
        rw [HA.out, barr_def d']
        have kb4 := kb3.call hb4
        have kx4 := kx3.call hb4
        have hJ4 := HJ.out _ _ _ _ none hJ3 (by omega) (grown_below hb4) (fun r e => by cases e)
        have hs4 := hb4.size
        clear b0 b1 b2 b3 bf bz p0 p1 p2 p3 p4 p5 p6 p7 pf pz
        obtain ⟨b0, b1, b2, b3, bf, bz⟩ := kb4.barr
        gi_wp2_with fail
        have kb5 := st4_box (d := d') kb4
        have kx5 := st4_far (d := d') kx4 (show g0 ≠ w1.heap.size by omega)
        have hJ5 := HJ.out _ _ _ _ (some w1.heap.size) hJ4 (by omega) (st4_grown w4 w1.heap.size d') (fun r e => by cases e; omega)
        have hz5 := st4_size w4 w1.heap.size d'
        unfold st4 at kb5 kx5 hJ5 hz5
        refine ⟨⟨true, pre ++ [⟨d, hin⟩], d', rfl, Lib.hid ⟨HST.out.1.snoc HST.out.2.2.1, (fun _ => ⟨HN.out.2, by have := HN.out.1; have := HST.out.2.2.1; simp; omega⟩), fun h => by cases h⟩, kb5, kx5, hJ5, by omega⟩, ?_⟩
        dsimp only
        have hm2 := rkW_eq (lo := lo) (hi := hi) kb5
        rw [HM.out, hm2, HN.out.1]
        have := HST.out
        omega
end Go.Proofs.Ytmemcopfeabcgaa
