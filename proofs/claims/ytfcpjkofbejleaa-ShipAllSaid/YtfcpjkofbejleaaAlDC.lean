/- ShipAll: both ends of all ranges are reached, the barge is always level enough just if it is in all truths, and the verdict is just what all truths together say; for every list of numbers, without a condition. -/
import Derived.Test.YtfcpjkofbejleaaRows
import Derived.Test.YtfcpjkofbejleaaAlD
import Derived.ProofKit
import Derived.SizedLaws
namespace Go.Proofs.Ytfcpjkofbejleaa.shipAll
open Go.ChangeShapes Go.WideShapes Go.ChangeAt Go.RowKit
theorem own : ownKnob Try.prog.godebug = none := by kernel_rfl
theorem laidOut : laidOutB Try.prog = true := by kernel_rfl
theorem cells3 : Try.prog.cellsOf 3 = 1 := by kernel_rfl
theorem bytes3 : Try.prog.bytesOf 3 = 8 := by kernel_rfl
set_option maxHeartbeats 800000 in
set_option maxRecDepth 100000 in
theorem lifted (os : Os) (started : os.Started) (H : Type) (enc : TypeId × Value → H) :
    ReturnsInHanded {} Try.checked os 7 .any (Rows.shipAllSpec.pre6 enc Try.prog Try.f7 Rows.shipAllRow.domain false) (Rows.shipAllSpec.post enc Try.prog Try.f7 false true false false) := by
  refine returnsInHanded_of_change_sized (C := Try.checked) own started (by kernel_rfl) Try.func7
    (ChangeSpec.witness6 (enc := enc) (C := Try.checked) false ⟨#[], #[.slice none 0 0], []⟩ 8 (by kernel_rfl) (by kernel_rfl) (by kernel_rfl) (by kernel_rfl)) ?_
  intro W base args ds gs before hval0 hW _ hsz0 _
  have hsz : (DataW.weightsEach Try.prog (Try.f7.params.toList ++ Rows.shipAllSpec.plain.varTypes Try.prog) (ds ++ gs)).all (· ≤ reachBytes) = true := hsz0
  clear hsz0
  have hval : ∀ (j : Nat) t v, Try.f7.params[j]? = some t → args[j]? = some v → Value.okWide Try.prog W .any base t v := hval0
  have hW' := hW
  obtain ⟨p, q, hA0, hV, rfl, _, _⟩ := hW
  have hA : DataW.TrodAll enc Try.prog W 0 (fun _ => true) true Try.f7.params.toList args.toList ds p := hA0
  rw [Try.params7] at hA hval hsz
  obtain ⟨v0, d0, rfl, rfl, h0⟩ := trodAll_one hA
  obtain ⟨rfl, rfl⟩ := trodVars_none hV
  obtain ⟨a0, len, cap, rfl⟩ := okWide_slice Try.underlying27 (hval 0 27 v0 rfl rfl)
  have h0k := h0
  obtain ⟨fuel, hf⟩ := h0
  clear hA0 hval0
  simp only [List.append_nil] at hW'
  have hlt : ∀ x ∈ p, x.block < W.heap.size := fun x hx => by simpa using hW'.lt x hx
  have hargs : ∀ (W' : World), Below W.heap.size W W' → DataW.Trod enc Try.prog W' 0 (fun b => decide (b < W.heap.size)) true 27 (.slice a0 len cap) d0 p :=
    fun W' hn => Below.trod laidOut (by kernel_rfl) (of_decide_eq_true (by kernel_rfl)) h0k hn hlt
  rcases open_ints Try.underlying27 Try.underlying3 cells3 hf with ⟨hcs, hx⟩ | ⟨a, len', cap', zs, hcs, _, hl, hm, hz, hx, hcell, hwz⟩
  · simp [Value.cells] at hcs
    obtain ⟨rfl, rfl, rfl⟩ := hcs
    simp only [Prod.mk.injEq] at hx
    obtain ⟨rfl, rfl⟩ := hx
    refine (shipAll_run none 0 0 [] W (by omega) rfl (Sl.nil _ _ _ _)).mono fun e W' ⟨he, hnx⟩ => ?_
    subst he
    exact ⟨_, rfl, _, _, _, [], [], [], hW', trodAll_mk1 (shut_bool Try.underlying4 true), trodAll_mk1 (hargs _ hnx), rfl, hnx.frame _, fun h => by cases h⟩
  · simp [Value.cells] at hcs
    obtain ⟨rfl, rfl, rfl⟩ := hcs
    simp only [Prod.mk.injEq] at hx
    obtain ⟨rfl, rfl⟩ := hx
    simp only [if_true] at hz
    have hreach : len * 8 ≤ 140737488351232 := by
      have := sized_slice hsz (j := 0) (t := 27) (e := 3) rfl rfl Try.underlying27
      rw [bytes3] at this
      simp only [lits, List.length_map, List.length_take, List.length_drop, reachBytes] at this
      omega
    have hlen : (zs.take len).length = len := by simp; omega
    have hsl : Sl W W.heap.size 1 (some a) (ints (zs.take len)) := by
      intro k r hr
      have hk : k < (zs.take len).length := by
        have := (List.getElem?_eq_some_iff.1 hr).1
        simpa [ints] using this
      have hkl : k < len := by rw [hlen] at hk; exact hk
      have hrr : r = [.int .i64 (zs.take len)[k]] := by
        have h1 : (ints (zs.take len))[k]? = some [.int .i64 (zs.take len)[k]] := by
          show ((zs.take len).map fun a => [Value.int .i64 a])[k]? = _
          rw [List.getElem?_map, List.getElem?_eq_getElem hk]
          rfl
        rw [h1] at hr
        exact (Option.some.inj hr).symm
      subst hrr
      have hc := hcell k (by omega)
      refine ⟨a, rfl, by have h := World.block_lt_of_cell? W _ hc; rwa [add_block] at h, fun j u hu => ?_⟩
      match j, hu with
      | 0, hu =>
        obtain rfl : Value.int .i64 (zs.take len)[k] = u := by simpa using hu
        rw [Nat.mul_one, add_add, Nat.add_zero, hc]
        simp [List.getD, List.getElem?_eq_getElem (show k < zs.length by omega)]
      | j + 1, hu => simp at hu
    refine (shipAll_run (some a) len cap (zs.take len) W (by omega) hlen hsl).mono fun e W' ⟨he, hnx⟩ => ?_
    subst he
    exact ⟨_, rfl, _, _, _, [], _, [], hW', trodAll_mk1 (shut_bool Try.underlying4 true), trodAll_mk1 (hargs _ hnx), rfl, hnx.frame _, fun h => by cases h⟩
end Go.Proofs.Ytfcpjkofbejleaa.shipAll
namespace Go.Proofs.Ytfcpjkofbejleaa
theorem shipAll_holds : Rows.ShipAllSaid :=
  OpenClaim.holds_of_wide 7 Try.f7 rfl rfl rfl rfl rfl rfl rfl ⟨rfl, rfl, rfl, rfl, rfl⟩ rfl rfl rfl rfl rfl (by kernel_rfl) Try.func7 (by kernel_rfl)
    (of_decide_eq_true (by kernel_rfl)) (by unfold Func.isWrapper; first | (rw [if_pos (by decide +kernel)]; kernel_rfl) | (rw [if_neg (by decide +kernel)]; exact ⟨rfl, rfl⟩))
    (fun os started H enc _ => shipAll.lifted os started H enc)
end Go.Proofs.Ytfcpjkofbejleaa
