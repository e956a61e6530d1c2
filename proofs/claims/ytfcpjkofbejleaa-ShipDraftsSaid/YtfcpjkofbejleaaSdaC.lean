/- ShipDrafts: which voyages and stowages are valid, how deep bow and stern may lie, and whether the barge is always level enough is what the reference says, or the error is, for every voyage and stowage and three pairs made of numbers; the law returns true for all arguments. -/
import Derived.Test.YtfcpjkofbejleaaRows
import Derived.Test.YtfcpjkofbejleaaSda
import Derived.Test.YtfcpjkofbejleaaOgs
import Derived.ProofKit
import Derived.SizedLaws
import Derived.Carry
set_option linter.unusedSimpArgs false
set_option linter.unusedVariables false
namespace Go.Proofs.Ytfcpjkofbejleaa.shipDrafts
open Go Go.ChangeShapes Go.WideShapes Go.ChangeAt Go.RowKit
set_option maxHeartbeats 800000 in
set_option maxRecDepth 100000 in
theorem lifted (os : Os) (started : os.Started) (H : Type) (enc : TypeId × Value → H) :
    ReturnsInHanded {} Try.checked os 3 .any (Rows.shipDraftsSpec.pre6 enc Try.prog Try.f3 Rows.shipDraftsRow.domain false) (Rows.shipDraftsSpec.post enc Try.prog Try.f3 false true false false) := by
  refine returnsInHanded_of_change_sized (C := Try.checked) opened.own started (by kernel_rfl) Try.func3
    (ChangeSpec.witness6 (enc := enc) (C := Try.checked) false ⟨#[], #[.agg #[.int .i64 0, .int .i64 0, .int .i64 0, .slice none 0 0, .int .i64 0, .slice none 0 0, .slice none 0 0], .slice none 0 0, .int .i64 0, .int .i64 0, .slice none 0 0], []⟩ 8 (by kernel_rfl) (by kernel_rfl) (by kernel_rfl) (by kernel_rfl)) ?_
  intro W base args ds gs before hval0 hW _ hsz0 _
  have hsz : (DataW.weightsEach Try.prog (Try.f3.params.toList ++ Rows.shipDraftsSpec.plain.varTypes Try.prog) (ds ++ gs)).all (· ≤ reachBytes) = true := hsz0
  clear hsz0
  have hval : ∀ (j : Nat) t v, Try.f3.params[j]? = some t → args[j]? = some v → Value.okWide Try.prog W .any base t v := hval0
  have hW' := hW
  obtain ⟨p, q9, hA0, hV, rfl, _, _⟩ := hW
  have hA : DataW.TrodAll enc Try.prog W 0 (fun _ => true) true Try.f3.params.toList args.toList ds p := hA0
  rw [Try.params3] at hA hval hsz
  obtain ⟨v0, v1, v2, v3, v4, d0, d1, d2, d3, d4, p0, p1, p2, p3, p4, rfl, rfl, hp, h0, h1, h2, h3, h4⟩ := opened.five_open hA
  subst hp
  obtain ⟨rfl, rfl⟩ := trodVars_none hV
  obtain ⟨o, q, rfl, hFit, hLF, hVo⟩ := opened.open_voyage (hval 0 26 v0 rfl rfl) h0
  obtain ⟨A0, n0, c0, s0, rfl, hs0, hn0, hS0⟩ := opened.open_ints1 (hval 1 27 v1 rfl rfl) h1
  obtain ⟨z2, rfl, ha2, hb2⟩ := opened.open_num (hval 2 3 v2 rfl rfl) h2
  obtain ⟨z3, rfl, ha3, hb3⟩ := opened.open_num (hval 3 3 v3 rfl rfl) h3
  obtain ⟨a0, len, cap, rfl⟩ := okWide_slice Try.underlying27 (hval 4 27 v4 rfl rfl)
  have hlk := h4
  obtain ⟨fuel, hf⟩ := h4
  clear hA0 hval0
  simp only [List.append_nil, List.append_assoc] at hW'
  have hlt : ∀ x ∈ p0 ++ (p1 ++ (p2 ++ (p3 ++ p4))), x.block < W.heap.size := fun x hx => by simpa using hW'.lt x (by simpa using hx)
  have hargs : ∀ (W' : World), Below W.heap.size W W' → DataW.TrodAll enc Try.prog W' 0 (fun b => decide (b < W.heap.size)) true [26, 27, 3, 3, 27] [.agg (vcs o q), .slice A0 n0 c0, .int .i64 z2, .int .i64 z3, .slice a0 len cap] [d0, d1, d2, d3, d4] (p0 ++ (p1 ++ (p2 ++ (p3 ++ p4)))) := fun W' hn =>
    ⟨p0, _, (Below.trod opened.laidOut (by kernel_rfl) (of_decide_eq_true (by kernel_rfl)) h0 hn (fun x hx => hlt x (by simp [hx]))), trodAll_mk4 (Below.trod opened.laidOut (by kernel_rfl) (of_decide_eq_true (by kernel_rfl)) h1 hn (fun x hx => hlt x (by simp [hx]))) (Below.trod opened.laidOut (by kernel_rfl) (of_decide_eq_true (by kernel_rfl)) h2 hn (fun x hx => hlt x (by simp [hx]))) (Below.trod opened.laidOut (by kernel_rfl) (of_decide_eq_true (by kernel_rfl)) h3 hn (fun x hx => hlt x (by simp [hx]))) (Below.trod opened.laidOut (by kernel_rfl) (of_decide_eq_true (by kernel_rfl)) hlk hn (fun x hx => hlt x (by simp [hx]))), rfl⟩
  rcases open_ints Try.underlying27 Try.underlying3 opened.cells3 hf with ⟨hcs, hx⟩ | ⟨a, len', cap', zs, hcs, _, hl, hm, hz, hx, hcell, hwz⟩
  · simp [Value.cells] at hcs
    obtain ⟨rfl, rfl, rfl⟩ := hcs
    refine (shipDrafts_run o q A0 n0 c0 s0 z2 z3 none 0 0 [] W hFit hLF hVo hn0 hs0 hS0 ha2 hb2 (by omega) rfl (Sl.nil _ _ _ _)).mono fun e W' ⟨he, hnx⟩ => ?_
    subst he
    exact ⟨_, rfl, _, _, _, [], _, [], hW', trodAll_mk1 (shut_bool Try.underlying4 true), hargs _ hnx, rfl, hnx.frame _, fun h => by cases h⟩
  · simp [Value.cells] at hcs
    obtain ⟨rfl, rfl, rfl⟩ := hcs
    simp only [Prod.mk.injEq] at hx
    obtain ⟨rfl, rfl⟩ := hx
    simp only [if_true] at hz
    have hreach : len * 8 ≤ 140737488351232 := by
      have := sized_slice hsz (j := 4) (t := 27) (e := 3) rfl rfl Try.underlying27
      rw [opened.bytes3] at this
      simp only [lits, List.length_map, List.length_take, List.length_drop, reachBytes] at this
      omega
    obtain ⟨hlen, hsl⟩ := opened.row_sl (w := W) (len := len) (by omega) hcell
    refine (shipDrafts_run o q A0 n0 c0 s0 z2 z3 (some a) len cap (zs.take len) W hFit hLF hVo hn0 hs0 hS0 ha2 hb2 (by omega) hlen hsl).mono fun e W' ⟨he, hnx⟩ => ?_
    subst he
    exact ⟨_, rfl, _, _, _, [], _, [], hW', trodAll_mk1 (shut_bool Try.underlying4 true), hargs _ hnx, rfl, hnx.frame _, fun h => by cases h⟩
end Go.Proofs.Ytfcpjkofbejleaa.shipDrafts
namespace Go.Proofs.Ytfcpjkofbejleaa
theorem shipDrafts_holds : Rows.ShipDraftsSaid :=
  OpenClaim.holds_of_wide 3 Try.f3 rfl rfl rfl rfl rfl rfl rfl ⟨rfl, rfl, rfl, rfl, rfl⟩ rfl rfl rfl rfl rfl (by kernel_rfl) Try.func3 (by kernel_rfl)
    (of_decide_eq_true (by kernel_rfl)) (by unfold Func.isWrapper; first | (rw [if_pos (by decide +kernel)]; kernel_rfl) | (rw [if_neg (by decide +kernel)]; exact ⟨rfl, rfl⟩))
    (fun os started H enc _ => shipDrafts.lifted os started H enc)
end Go.Proofs.Ytfcpjkofbejleaa
