/- Equal rows of numbers, of bounds; rows that are owned read as rows. -/
import Derived.Test.YtmemcopfeabcgaaPv
set_option linter.unusedSimpArgs false
set_option linter.unusedVariables false
namespace Go.Proofs.Ytmemcopfeabcgaa
open Go Go.RowKit
theorem Sl.of_bx {w : World} {g t s : Nat} {cs : Array Value} {xs : List (List Value)} (h : Bx w g t cs) (hx : ∀ k r, xs[k]? = some r → ∀ j u, r[j]? = some u → cs[k * s + j]? = some u) : Sl w w.heap.size s (some ⟨g, 0, none⟩) xs := by
  intro k r hr
  refine ⟨_, rfl, h.lt, fun j u hu => ?_⟩
  rw [add_add]
  have e : (⟨g, 0, none⟩ : Addr).add (k * s + j) = ⟨g, k * s + j, none⟩ := by unfold Addr.add; split <;> simp_all
  rw [e, h.cell]
  exact hx k r hr j u hu
theorem flat_at {s : Nat} : ∀ (xs : List (List Value)) (_ : ∀ r ∈ xs, r.length = s) (k : Nat) (r : List Value), xs[k]? = some r → ∀ j u, r[j]? = some u → xs.flatten[k * s + j]? = some u
  | [], _, k, r, h, j, u, _ => by simp at h
  | x :: xs, hs, 0, r, h, j, u, hj => by
    have hx : x = r := by simpa using h
    subst hx
    rw [List.flatten_cons, Nat.zero_mul, Nat.zero_add, List.getElem?_append_left (List.getElem?_eq_some_iff.1 hj).1]
    exact hj
  | x :: xs, hs, k + 1, r, h, j, u, hj => by
    have hx := hs x (by simp)
    have h' : xs[k]? = some r := by simpa using h
    have := flat_at xs (fun r hr => hs r (by simp [hr])) k r h' j u hj
    rw [List.flatten_cons, List.getElem?_append_right (by rw [hx, Nat.succ_mul]; omega), hx, show (k + 1) * s + j - s = k * s + j by rw [Nat.succ_mul]; omega]
    exact this
theorem Sl.of_flat {w : World} {g t s : Nat} {cs : Array Value} {xs : List (List Value)} (h : Bx w g t cs) (hs : ∀ r ∈ xs, r.length = s) (hc : cs = xs.flatten.toArray) : Sl w w.heap.size s (some ⟨g, 0, none⟩) xs :=
  Sl.of_bx h fun k r hr j u hu => by
    rw [hc]
    simpa using flat_at xs hs k r hr j u hu
theorem own_sl {w : World} {b : Nat} {e : TypeId} {size : Nat} {v : Value} {n : Nat} {rs : List (List Value)} (h : w.ownsRow b e size v n rs.flatten) (hs : ∀ r ∈ rs, r.length = size) (hn : rs.length = n) : ∃ A c, v = .slice A n c ∧ Sl w w.heap.size size A rs := by
  rcases h.2 with ⟨rfl, rfl⟩ | ⟨g, cap, cur, rfl, hb, hg, hc, hm, hcs, ht⟩
  · have : rs = [] := List.eq_nil_of_length_eq_zero hn
    subst this
    exact ⟨none, 0, rfl, Sl.nil _ _ _ _⟩
  · refine ⟨some ⟨g, 0, none⟩, cap, rfl, Sl.of_bx (show Bx w g e cur from hg) fun k r hr j u hu => ?_⟩
    have := flat_at rs hs k r hr j u hu
    rw [← ht, List.getElem?_take] at this
    split at this
    · simpa using this
    · cases this


theorem bd_at {w : World} {B k : Nat} {A : Option Addr} {L : List Bd} (h : Sl w B 3 A (L.map bdr)) (hk : k < L.length) : ∃ ad, A = some ad ∧ ad.block < B ∧ w.cell? (ad.add (k * 3)) = some (.int .i64 L[k].rs) ∧ w.cell? ⟨(ad.add (k * 3)).block, (ad.add (k * 3)).off + 1, none⟩ = some (.int .i64 L[k].at_) ∧ w.cell? ⟨(ad.add (k * 3)).block, (ad.add (k * 3)).off + 2, none⟩ = some (.int .i64 L[k].ct) := by
  obtain ⟨ad, h1, h2, h3⟩ := h.at_ (k := k) (by simpa using hk)
  simp only [List.getElem_map, bdr] at h3
  exact ⟨ad, h1, h2, h3.head rfl, h3.next 0 rfl, h3.next 1 rfl⟩
set_option maxRecDepth 100000 in
set_option maxHeartbeats 2000000 in
theorem equalInts_any (A : Option Addr) (n c : Nat) (B : Option Addr) (m d : Nat) (La Lb : List Int) (w : World) (hn : n ≤ 9000000000000000000) (hm : m ≤ 9000000000000000000) (hla : La.length = n) (hlb : Lb.length = m) (hA : Sl w w.heap.size 1 A (inr La)) (hB : Sl w w.heap.size 1 B (inr Lb)) :
    Calls Try.prog 23 #[.slice A n c, .slice B m d] w fun e w' => e = .returned (.bool (decide (La = Lb))) ∧ Below w.heap.size w w' := by
  have HLA := Lib.hid hla
  have HLB := Lib.hid hlb
  clear hla hlb
  go_enter Try.func23, Try.ntmps23
  go_wp2_with fail
  go_loopw [5, 6] (fun b i wr => ∃ (k : Nat) (t : Bool), k ≤ n ∧ i = .int .i64 k ∧ b = .bool t ∧ Hid (t = decide (n = m ∧ La.take k = Lb.take k)) ∧ Below w.heap.size w wr) (fun _ i _ => n - (intOf i).toNat)
  case atStart => exact ⟨0, _, by omega, rfl, rfl, by unfold Hid; by_cases h : n = m <;> simp [h]; omega, Below.refl _ _⟩
  case round =>
    obtain ⟨k, t, hk, rfl, rfl, ht, hBe⟩ := hrel
    by_cases hgo : t = true ∧ k < n
    · obtain ⟨rfl, hkn⟩ := hgo
      have htt := ht.out
      have hnm : n = m ∧ La.take k = Lb.take k := of_decide_eq_true htt.symm
      have HNM := Lib.hid hnm
      clear hnm
      have hkm : k < m := by have := HNM.out.1; omega
      clear htt ht
      have hka : k < La.length := by rw [HLA.out]; exact hkn
      have hkb : k < Lb.length := by rw [HLB.out]; omega
      obtain ⟨ad, rfl, hab, p0⟩ := inr_at (hA.below hBe) hka
      obtain ⟨bd, rfl, hbb, q0⟩ := inr_at (hB.below hBe) hkb
      have HTA := Lib.hid (List.take_succ_eq_append_getElem hka)
      have HTB := Lib.hid (List.take_succ_eq_append_getElem hkb)
      generalize La[k]'hka = x at *
      generalize Lb[k]'hkb = y at *
      clear hka hkb
      go_wp2_with fail
      refine AnyG.start (fun w' : World => Below wr.heap.size wr w') (fun i => true) (by kernel_rfl) ?_
      have hS : (fun w' : World => Below wr.heap.size wr w') (World.drew _) := (Below.refl _ _).drew
      refine AnyG.take (i := 0) (v := ?_) rfl (by kernel_rfl) (fun _ _ _ h => h) rfl ?_ hS ?_
      rotate_left
      · (intro w' _; go_simp; try with_reducible rfl)
      try simp only [Act.put, List.setIfInBounds_toArray, List.set_cons_zero, List.set_cons_succ]
      refine AnyG.take (i := 1) (v := ?_) rfl (by kernel_rfl) (fun _ _ _ h => h) rfl ?_ hS ?_
      rotate_left
      · (intro w' _; go_simp; try with_reducible rfl)
      try simp only [Act.put, List.setIfInBounds_toArray, List.set_cons_zero, List.set_cons_succ]
      refine AnyG.take (i := 2) (v := ?_) rfl (by kernel_rfl) (fun _ _ _ h => h) rfl ?_ hS ?_
      rotate_left
      · (intro w' _; go_simp; try with_reducible rfl)
      try simp only [Act.put, List.setIfInBounds_toArray, List.set_cons_zero, List.set_cons_succ]
      refine AnyG.take (i := 3) (v := ?_) rfl (by kernel_rfl) (fun _ _ _ h => h) rfl ?_ hS ?_
      rotate_left
      · (intro w' hSw; (try dsimp only at hSw); have p0 := cellC hSw p0; have q0 := cellC hSw q0; go_simp; try with_reducible rfl)
      try simp only [Act.put, List.setIfInBounds_toArray, List.set_cons_zero, List.set_cons_succ]
      refine AnyG.take (i := 4) (v := ?_) rfl (by kernel_rfl) (fun _ _ _ h => h) rfl ?_ hS ?_
      rotate_left
      · (intro w' _; go_simp; try with_reducible rfl)
      try simp only [Act.put, List.setIfInBounds_toArray, List.set_cons_zero, List.set_cons_succ]
      refine AnyG.take (i := 5) (v := ?_) rfl (by kernel_rfl) (fun _ _ _ h => h) rfl ?_ hS ?_
      rotate_left
      · (intro w' _; go_simp; try with_reducible rfl)
      try simp only [Act.put, List.setIfInBounds_toArray, List.set_cons_zero, List.set_cons_succ]
      refine AnyG.take (i := 6) (v := ?_) rfl (by kernel_rfl) (fun _ _ _ h => h) rfl ?_ hS ?_
      rotate_left
      · (intro w' _; go_simp; try with_reducible rfl)
      try simp only [Act.put, List.setIfInBounds_toArray, List.set_cons_zero, List.set_cons_succ]
      refine AnyG.take (i := 7) (v := ?_) rfl (by kernel_rfl) (fun _ _ _ h => h) rfl ?_ hS ?_
      rotate_left
      · (intro w' hSw; (try dsimp only at hSw); have p0 := cellC hSw p0; have q0 := cellC hSw q0; go_simp; try with_reducible rfl)
      try simp only [Act.put, List.setIfInBounds_toArray, List.set_cons_zero, List.set_cons_succ]
      refine AnyG.take (i := 8) (v := .bool (decide (x = y))) rfl (by kernel_rfl) (fun _ _ _ h => h) rfl ?_ hS ?_
      · (intro w' _; go_simp; by_cases h1 : x = y <;> simp [h1])
      try simp only [Act.put, List.setIfInBounds_toArray, List.set_cons_zero, List.set_cons_succ]
      refine AnyG.take (i := 9) (v := ?_) rfl (by kernel_rfl) (fun _ _ _ h => h) rfl ?_ hS ?_
      rotate_left
      · (intro w' _; go_simp; try with_reducible rfl)
      try simp only [Act.put, List.setIfInBounds_toArray, List.set_cons_zero, List.set_cons_succ]
      refine AnyG.done (by kernel_rfl) ?_ _
      clear hS
      go_simp
      go_wp2_with fail
      go_roundw
      case rel =>
        refine ⟨k + 1, _, by omega, by go_num, rfl, ?_, hBe.drew⟩
        unfold Hid
        rw [HTA.out, HTB.out, HNM.out.2, decide_eq_decide]
        constructor
        · rintro rfl
          exact ⟨HNM.out.1, rfl⟩
        · rintro ⟨_, h⟩
          have := (List.append_inj' h rfl).2
          simp only [List.cons.injEq, and_true] at this
          exact this
      case measure => simp [intOf]; omega
    · have hend : t = decide (La = Lb) := by
        rw [ht.out, decide_eq_decide]
        by_cases hkn : k < n
        · have htf : t = false := by
            cases t with
            | false => rfl
            | true => exact absurd ⟨rfl, hkn⟩ hgo
          have h0 : ¬ (n = m ∧ La.take k = Lb.take k) := of_decide_eq_false (ht.out.symm.trans htf)
          constructor
          · intro h; exact absurd h h0
          · rintro rfl; exact absurd ⟨by rw [← HLA.out, ← HLB.out], rfl⟩ h0
        · obtain rfl : k = n := by omega
          rw [List.take_of_length_le (Nat.le_of_eq HLA.out)]
          constructor
          · rintro ⟨rfl, h⟩; rw [h, List.take_of_length_le (Nat.le_of_eq HLB.out)]
          · rintro rfl
            have hkm : k = m := by rw [← HLA.out, ← HLB.out]
            exact ⟨hkm, (List.take_of_length_le (Nat.le_of_eq HLA.out)).symm⟩
      have HE := Lib.hid hend
      clear hend ht
      by_cases hkn : k < n
      · obtain rfl : t = false := by
          cases t with
          | false => rfl
          | true => exact absurd ⟨rfl, hkn⟩ hgo
        go_wp2_with fail
        go_ret
        exact ⟨ret_bool HE.out, hBe⟩
      · cases t
        all_goals
          go_wp2_with fail
          go_ret
          exact ⟨ret_bool HE.out, hBe⟩
set_option maxRecDepth 100000 in
set_option maxHeartbeats 2000000 in
theorem equalProofs_any (A : Option Addr) (n c : Nat) (B : Option Addr) (m d : Nat) (La Lb : List Bd) (w : World) (hn : n ≤ 9000000000000000000) (hm : m ≤ 9000000000000000000) (hla : La.length = n) (hlb : Lb.length = m) (hA : Sl w w.heap.size 3 A (La.map bdr)) (hB : Sl w w.heap.size 3 B (Lb.map bdr)) :
    Calls Try.prog 44 #[.slice A n c, .slice B m d] w fun e w' => e = .returned (.bool (decide (La = Lb))) ∧ Below w.heap.size w w' := by
  have HLA := Lib.hid hla
  have HLB := Lib.hid hlb
  clear hla hlb
  go_enter Try.func44, Try.ntmps44
  go_wp2_with fail
  go_loopw [5, 6] (fun b i wr => ∃ (k : Nat) (t : Bool), k ≤ n ∧ i = .int .i64 k ∧ b = .bool t ∧ Hid (t = decide (n = m ∧ La.take k = Lb.take k)) ∧ Below w.heap.size w wr) (fun _ i _ => n - (intOf i).toNat)
  case atStart => exact ⟨0, _, by omega, rfl, rfl, by unfold Hid; by_cases h : n = m <;> simp [h]; omega, Below.refl _ _⟩
  case round =>
    obtain ⟨k, t, hk, rfl, rfl, ht, hBe⟩ := hrel
    by_cases hgo : t = true ∧ k < n
    · obtain ⟨rfl, hkn⟩ := hgo
      have htt := ht.out
      have hnm : n = m ∧ La.take k = Lb.take k := of_decide_eq_true htt.symm
      have HNM := Lib.hid hnm
      clear hnm
      have hkm : k < m := by have := HNM.out.1; omega
      clear htt ht
      have hka : k < La.length := by rw [HLA.out]; exact hkn
      have hkb : k < Lb.length := by rw [HLB.out]; omega
      obtain ⟨ad, rfl, hab, p0, p1, p2⟩ := bd_at (hA.below hBe) hka
      obtain ⟨bd, rfl, hbb, q0, q1, q2⟩ := bd_at (hB.below hBe) hkb
      have HTA := Lib.hid (List.take_succ_eq_append_getElem hka)
      have HTB := Lib.hid (List.take_succ_eq_append_getElem hkb)
      generalize La[k]'hka = x at *
      generalize Lb[k]'hkb = y at *
      clear hka hkb
      go_wp2_with fail
      refine AnyG.start (fun w' : World => Below wr.heap.size wr w') (fun i => true) (by kernel_rfl) ?_
      have hS : (fun w' : World => Below wr.heap.size wr w') (World.drew _) := (Below.refl _ _).drew
      refine AnyG.take (i := 0) (v := ?_) rfl (by kernel_rfl) (fun _ _ _ h => h) rfl ?_ hS ?_
      rotate_left
      · (intro w' _; go_simp; try with_reducible rfl)
      try simp only [Act.put, List.setIfInBounds_toArray, List.set_cons_zero, List.set_cons_succ]
      refine AnyG.take (i := 1) (v := ?_) rfl (by kernel_rfl) (fun _ _ _ h => h) rfl ?_ hS ?_
      rotate_left
      · (intro w' _; go_simp; try with_reducible rfl)
      try simp only [Act.put, List.setIfInBounds_toArray, List.set_cons_zero, List.set_cons_succ]
      refine AnyG.take (i := 2) (v := ?_) rfl (by kernel_rfl) (fun _ _ _ h => h) rfl ?_ hS ?_
      rotate_left
      · (intro w' _; go_simp; try with_reducible rfl)
      try simp only [Act.put, List.setIfInBounds_toArray, List.set_cons_zero, List.set_cons_succ]
      refine AnyG.take (i := 3) (v := ?_) rfl (by kernel_rfl) (fun _ _ _ h => h) rfl ?_ hS ?_
      rotate_left
      · (intro w' hSw; (try dsimp only at hSw); have p0 := cellC hSw p0; have p1 := cellC hSw p1; have p2 := cellC hSw p2; have q0 := cellC hSw q0; have q1 := cellC hSw q1; have q2 := cellC hSw q2; go_simp; try with_reducible rfl)
      try simp only [Act.put, List.setIfInBounds_toArray, List.set_cons_zero, List.set_cons_succ]
      refine AnyG.take (i := 4) (v := ?_) rfl (by kernel_rfl) (fun _ _ _ h => h) rfl ?_ hS ?_
      rotate_left
      · (intro w' _; go_simp; try with_reducible rfl)
      try simp only [Act.put, List.setIfInBounds_toArray, List.set_cons_zero, List.set_cons_succ]
      refine AnyG.take (i := 5) (v := ?_) rfl (by kernel_rfl) (fun _ _ _ h => h) rfl ?_ hS ?_
      rotate_left
      · (intro w' _; go_simp; try with_reducible rfl)
      try simp only [Act.put, List.setIfInBounds_toArray, List.set_cons_zero, List.set_cons_succ]
      refine AnyG.take (i := 6) (v := ?_) rfl (by kernel_rfl) (fun _ _ _ h => h) rfl ?_ hS ?_
      rotate_left
      · (intro w' _; go_simp; try with_reducible rfl)
      try simp only [Act.put, List.setIfInBounds_toArray, List.set_cons_zero, List.set_cons_succ]
      refine AnyG.take (i := 7) (v := ?_) rfl (by kernel_rfl) (fun _ _ _ h => h) rfl ?_ hS ?_
      rotate_left
      · (intro w' hSw; (try dsimp only at hSw); have p0 := cellC hSw p0; have p1 := cellC hSw p1; have p2 := cellC hSw p2; have q0 := cellC hSw q0; have q1 := cellC hSw q1; have q2 := cellC hSw q2; go_simp; try with_reducible rfl)
      try simp only [Act.put, List.setIfInBounds_toArray, List.set_cons_zero, List.set_cons_succ]
      refine AnyG.take (i := 8) (v := .bool (decide (x = y))) rfl (by kernel_rfl) (fun _ _ _ h => h) rfl ?_ hS ?_
      · (intro w' _; go_simp; obtain ⟨x1, x2, x3⟩ := x; obtain ⟨y1, y2, y3⟩ := y; simp only [Bd.mk.injEq]; by_cases h1 : x1 = y1 <;> by_cases h2 : x2 = y2 <;> by_cases h3 : x3 = y3 <;> simp [h1, h2, h3])
      try simp only [Act.put, List.setIfInBounds_toArray, List.set_cons_zero, List.set_cons_succ]
      refine AnyG.take (i := 9) (v := ?_) rfl (by kernel_rfl) (fun _ _ _ h => h) rfl ?_ hS ?_
      rotate_left
      · (intro w' _; go_simp; try with_reducible rfl)
      try simp only [Act.put, List.setIfInBounds_toArray, List.set_cons_zero, List.set_cons_succ]
      refine AnyG.done (by kernel_rfl) ?_ _
      clear hS
      go_simp
      go_wp2_with fail
      go_roundw
      case rel =>
        refine ⟨k + 1, _, by omega, by go_num, rfl, ?_, hBe.drew⟩
        unfold Hid
        rw [HTA.out, HTB.out, HNM.out.2, decide_eq_decide]
        constructor
        · rintro rfl
          exact ⟨HNM.out.1, rfl⟩
        · rintro ⟨_, h⟩
          have := (List.append_inj' h rfl).2
          simp only [List.cons.injEq, and_true] at this
          exact this
      case measure => simp [intOf]; omega
    · have hend : t = decide (La = Lb) := by
        rw [ht.out, decide_eq_decide]
        by_cases hkn : k < n
        · have htf : t = false := by
            cases t with
            | false => rfl
            | true => exact absurd ⟨rfl, hkn⟩ hgo
          have h0 : ¬ (n = m ∧ La.take k = Lb.take k) := of_decide_eq_false (ht.out.symm.trans htf)
          constructor
          · intro h; exact absurd h h0
          · rintro rfl; exact absurd ⟨by rw [← HLA.out, ← HLB.out], rfl⟩ h0
        · obtain rfl : k = n := by omega
          rw [List.take_of_length_le (Nat.le_of_eq HLA.out)]
          constructor
          · rintro ⟨rfl, h⟩; rw [h, List.take_of_length_le (Nat.le_of_eq HLB.out)]
          · rintro rfl
            have hkm : k = m := by rw [← HLA.out, ← HLB.out]
            exact ⟨hkm, (List.take_of_length_le (Nat.le_of_eq HLA.out)).symm⟩
      have HE := Lib.hid hend
      clear hend ht
      by_cases hkn : k < n
      · obtain rfl : t = false := by
          cases t with
          | false => rfl
          | true => exact absurd ⟨rfl, hkn⟩ hgo
        go_wp2_with fail
        go_ret
        exact ⟨ret_bool HE.out, hBe⟩
      · cases t
        all_goals
          go_wp2_with fail
          go_ret
          exact ⟨ret_bool HE.out, hBe⟩
end Go.Proofs.Ytmemcopfeabcgaa
