/- Equal rows of numbers, of bounds; rows that are owned read as rows. -/
import Derived.Test.YtdlohfglmagneaaDoorPvM
set_option linter.unusedSimpArgs false
set_option linter.unusedVariables false
namespace Go.Proofs.YtdlohfglmagneaaDoor
open Go Go.RowKit
theorem Sl.of_bx {w : World} {g t s : Nat} {cs : Array Value} {xs : List (List Value)} (h : Bx w g t cs) (hx : ∀ k r, xs[k]? = some r → ∀ j u, r[j]? = some u → cs[k * s + j]? = some u) : Sl w w.heap.size s (some ⟨g, 0, none⟩) xs := by
  intro k r hr
  refine ⟨_, rfl, h.lt, fun j u hu => ?_⟩
  rw [add_add]
  have e : (⟨g, 0, none⟩ : Addr).add (k * s + j) = ⟨g, k * s + j, none⟩ := by unfold Addr.add; split <;> simp_all
  rw [e, h.cell]
  exact hx k r hr j u hu
theorem flat_at {s : Nat} : ∀ (xs : List (List Value)) (_ : ∀ r ∈ xs, r.length = s) (k : Nat) (r : List Value), xs[k]? = some r → ∀ j u, r[j]? = some u → xs.flatten[k * s + j]? = some u
  | [], _, k, r, h, j, u, _ => by simp at h
  | x :: xs, hs, 0, r, h, j, u, hj => by
    have hx : x = r := by simpa using h
    subst hx
    rw [List.flatten_cons, Nat.zero_mul, Nat.zero_add, List.getElem?_append_left (List.getElem?_eq_some_iff.1 hj).1]
    exact hj
  | x :: xs, hs, k + 1, r, h, j, u, hj => by
    have hx := hs x (by simp)
    have h' : xs[k]? = some r := by simpa using h
    have := flat_at xs (fun r hr => hs r (by simp [hr])) k r h' j u hj
    rw [List.flatten_cons, List.getElem?_append_right (by rw [hx, Nat.succ_mul]; omega), hx, show (k + 1) * s + j - s = k * s + j by rw [Nat.succ_mul]; omega]
    exact this
theorem own_sl {w : World} {b : Nat} {e : TypeId} {size : Nat} {v : Value} {n : Nat} {rs : List (List Value)} (h : w.ownsRow b e size v n rs.flatten) (hs : ∀ r ∈ rs, r.length = size) (hn : rs.length = n) : ∃ A c, v = .slice A n c ∧ Sl w w.heap.size size A rs := by
  rcases h.2 with ⟨rfl, rfl⟩ | ⟨g, cap, cur, rfl, hb, hg, hc, hm, hcs, ht⟩
  · have : rs = [] := List.eq_nil_of_length_eq_zero hn
    subst this
    exact ⟨none, 0, rfl, Sl.nil _ _ _ _⟩
  · refine ⟨some ⟨g, 0, none⟩, cap, rfl, Sl.of_bx (show Bx w g e cur from hg) fun k r hr j u hu => ?_⟩
    have := flat_at rs hs k r hr j u hu
    rw [← ht, List.getElem?_take] at this
    split at this
    · simpa using this
    · cases this


set_option maxRecDepth 100000 in
set_option maxHeartbeats 2000000 in
theorem equalInts_any (A : Option Addr) (n c : Nat) (B : Option Addr) (m d : Nat) (La Lb : List Int) (w : World) (hn : n ≤ 9000000000000000000) (hm : m ≤ 9000000000000000000) (hla : La.length = n) (hlb : Lb.length = m) (hA : Sl w w.heap.size 1 A (inr La)) (hB : Sl w w.heap.size 1 B (inr Lb)) :
    Calls Tryd.prog 14 #[.slice A n c, .slice B m d] w fun e w' => e = .returned (.bool (decide (La = Lb))) ∧ Below w.heap.size w w' := by
  have HLA := Lib.hid hla
  have HLB := Lib.hid hlb
  clear hla hlb
  go_enter Tryd.func14, Tryd.ntmps14
  go_wp2_with fail
  go_loopw [5, 6] (fun b i wr => ∃ (k : Nat) (t : Bool), k ≤ n ∧ i = .int .i64 k ∧ b = .bool t ∧ Hid (t = decide (n = m ∧ La.take k = Lb.take k)) ∧ Below w.heap.size w wr) (fun _ i _ => n - (intOf i).toNat)
  case atStart => exact ⟨0, _, by omega, rfl, rfl, by unfold Hid; by_cases h : n = m <;> simp [h]; omega, Below.refl _ _⟩
  case round =>
    obtain ⟨k, t, hk, rfl, rfl, ht, hBe⟩ := hrel
    by_cases hgo : t = true ∧ k < n
    · obtain ⟨rfl, hkn⟩ := hgo
      have htt := ht.out
      have hnm : n = m ∧ La.take k = Lb.take k := of_decide_eq_true htt.symm
      have HNM := Lib.hid hnm
      clear hnm
      have hkm : k < m := by have := HNM.out.1; omega
      clear htt ht
      have hka : k < La.length := by rw [HLA.out]; exact hkn
      have hkb : k < Lb.length := by rw [HLB.out]; omega
      obtain ⟨ad, rfl, hab, p0⟩ := inr_at (hA.below hBe) hka
      obtain ⟨bd, rfl, hbb, q0⟩ := inr_at (hB.below hBe) hkb
      have HTA := Lib.hid (List.take_succ_eq_append_getElem hka)
      have HTB := Lib.hid (List.take_succ_eq_append_getElem hkb)
      generalize La[k]'hka = x at *
      generalize Lb[k]'hkb = y at *
      clear hka hkb
      go_wp2_with fail
      refine AnyG.start (fun w' : World => Below wr.heap.size wr w') (fun i => true) (by kernel_rfl) ?_
      have hS : (fun w' : World => Below wr.heap.size wr w') (World.drew _) := (Below.refl _ _).drew
      refine AnyG.take (i := 0) (v := ?_) rfl (by kernel_rfl) (fun _ _ _ h => h) rfl ?_ hS ?_
      rotate_left
      · (intro w' _; go_simp; try with_reducible rfl)
      try simp only [Act.put, List.setIfInBounds_toArray, List.set_cons_zero, List.set_cons_succ]
      refine AnyG.take (i := 1) (v := ?_) rfl (by kernel_rfl) (fun _ _ _ h => h) rfl ?_ hS ?_
      rotate_left
      · (intro w' _; go_simp; try with_reducible rfl)
      try simp only [Act.put, List.setIfInBounds_toArray, List.set_cons_zero, List.set_cons_succ]
      refine AnyG.take (i := 2) (v := ?_) rfl (by kernel_rfl) (fun _ _ _ h => h) rfl ?_ hS ?_
      rotate_left
      · (intro w' _; go_simp; try with_reducible rfl)
      try simp only [Act.put, List.setIfInBounds_toArray, List.set_cons_zero, List.set_cons_succ]
      refine AnyG.take (i := 3) (v := ?_) rfl (by kernel_rfl) (fun _ _ _ h => h) rfl ?_ hS ?_
      rotate_left
      · (intro w' hSw; (try dsimp only at hSw); have p0 := cellC hSw p0; have q0 := cellC hSw q0; go_simp; try with_reducible rfl)
      try simp only [Act.put, List.setIfInBounds_toArray, List.set_cons_zero, List.set_cons_succ]
      refine AnyG.take (i := 4) (v := ?_) rfl (by kernel_rfl) (fun _ _ _ h => h) rfl ?_ hS ?_
      rotate_left
      · (intro w' _; go_simp; try with_reducible rfl)
      try simp only [Act.put, List.setIfInBounds_toArray, List.set_cons_zero, List.set_cons_succ]
      refine AnyG.take (i := 5) (v := ?_) rfl (by kernel_rfl) (fun _ _ _ h => h) rfl ?_ hS ?_
      rotate_left
      · (intro w' _; go_simp; try with_reducible rfl)
      try simp only [Act.put, List.setIfInBounds_toArray, List.set_cons_zero, List.set_cons_succ]
      refine AnyG.take (i := 6) (v := ?_) rfl (by kernel_rfl) (fun _ _ _ h => h) rfl ?_ hS ?_
      rotate_left
      · (intro w' _; go_simp; try with_reducible rfl)
      try simp only [Act.put, List.setIfInBounds_toArray, List.set_cons_zero, List.set_cons_succ]
      refine AnyG.take (i := 7) (v := ?_) rfl (by kernel_rfl) (fun _ _ _ h => h) rfl ?_ hS ?_
      rotate_left
      · (intro w' hSw; (try dsimp only at hSw); have p0 := cellC hSw p0; have q0 := cellC hSw q0; go_simp; try with_reducible rfl)
      try simp only [Act.put, List.setIfInBounds_toArray, List.set_cons_zero, List.set_cons_succ]
      refine AnyG.take (i := 8) (v := .bool (decide (x = y))) rfl (by kernel_rfl) (fun _ _ _ h => h) rfl ?_ hS ?_
      · (intro w' _; go_simp; by_cases h1 : x = y <;> simp [h1])
      try simp only [Act.put, List.setIfInBounds_toArray, List.set_cons_zero, List.set_cons_succ]
      refine AnyG.take (i := 9) (v := ?_) rfl (by kernel_rfl) (fun _ _ _ h => h) rfl ?_ hS ?_
      rotate_left
      · (intro w' _; go_simp; try with_reducible rfl)
      try simp only [Act.put, List.setIfInBounds_toArray, List.set_cons_zero, List.set_cons_succ]
      refine AnyG.done (by kernel_rfl) ?_ _
      clear hS
      go_simp
      go_wp2_with fail
      go_roundw
      case rel =>
        refine ⟨k + 1, _, by omega, by go_num, rfl, ?_, hBe.drew⟩
        unfold Hid
        rw [HTA.out, HTB.out, HNM.out.2, decide_eq_decide]
        constructor
        · rintro rfl
          exact ⟨HNM.out.1, rfl⟩
        · rintro ⟨_, h⟩
          have := (List.append_inj' h rfl).2
          simp only [List.cons.injEq, and_true] at this
          exact this
      case measure => simp [intOf]; omega
    · have hend : t = decide (La = Lb) := by
        rw [ht.out, decide_eq_decide]
        by_cases hkn : k < n
        · have htf : t = false := by
            cases t with
            | false => rfl
            | true => exact absurd ⟨rfl, hkn⟩ hgo
          have h0 : ¬ (n = m ∧ La.take k = Lb.take k) := of_decide_eq_false (ht.out.symm.trans htf)
          constructor
          · intro h; exact absurd h h0
          · rintro rfl; exact absurd ⟨by rw [← HLA.out, ← HLB.out], rfl⟩ h0
        · obtain rfl : k = n := by omega
          rw [List.take_of_length_le (Nat.le_of_eq HLA.out)]
          constructor
          · rintro ⟨rfl, h⟩; rw [h, List.take_of_length_le (Nat.le_of_eq HLB.out)]
          · rintro rfl
            have hkm : k = m := by rw [← HLA.out, ← HLB.out]
            exact ⟨hkm, (List.take_of_length_le (Nat.le_of_eq HLA.out)).symm⟩
      have HE := Lib.hid hend
      clear hend ht
      by_cases hkn : k < n
      · obtain rfl : t = false := by
          cases t with
          | false => rfl
          | true => exact absurd ⟨rfl, hkn⟩ hgo
        go_wp2_with fail
        go_ret
        exact ⟨ret_bool HE.out, hBe⟩
      · cases t
        all_goals
          go_wp2_with fail
          go_ret
          exact ⟨ret_bool HE.out, hBe⟩
end Go.Proofs.YtdlohfglmagneaaDoor

/-! swarfkit.EqualRanges; EqualOrders of equal orders; swarflaw06.huge. -/
namespace Go.Proofs.YtdlohfglmagneaaDoor
open Go Go.RowKit
set_option maxRecDepth 100000 in
set_option maxHeartbeats 2000000 in
theorem equalRanges_any (A : Option Addr) (n c : Nat) (B : Option Addr) (m d : Nat) (La Lb : List (Int × Int)) (w : World) (hn : n ≤ 9000000000000000000) (hm : m ≤ 9000000000000000000) (hla : La.length = n) (hlb : Lb.length = m) (hA : Sl w w.heap.size 2 A (gnr La)) (hB : Sl w w.heap.size 2 B (gnr Lb)) :
    Calls Tryd.prog 15 #[.slice A n c, .slice B m d] w fun e w' => e = .returned (.bool (decide (La = Lb))) ∧ Below w.heap.size w w' := by
  have HLA := Lib.hid hla
  have HLB := Lib.hid hlb
  clear hla hlb
  go_enter Tryd.func15, Tryd.ntmps15
  go_wp2_with fail
  go_loopw [5, 6] (fun b i wr => ∃ (k : Nat) (t : Bool), k ≤ n ∧ i = .int .i64 k ∧ b = .bool t ∧ Hid (t = decide (n = m ∧ La.take k = Lb.take k)) ∧ Below w.heap.size w wr) (fun _ i _ => n - (intOf i).toNat)
  case atStart => exact ⟨0, _, by omega, rfl, rfl, by unfold Hid; by_cases h : n = m <;> simp [h]; omega, Below.refl _ _⟩
  case round =>
    obtain ⟨k, t, hk, rfl, rfl, ht, hBe⟩ := hrel
    by_cases hgo : t = true ∧ k < n
    · obtain ⟨rfl, hkn⟩ := hgo
      have htt := ht.out
      have hnm : n = m ∧ La.take k = Lb.take k := of_decide_eq_true htt.symm
      have HNM := Lib.hid hnm
      clear hnm
      have hkm : k < m := by have := HNM.out.1; omega
      clear htt ht
      have hka : k < La.length := by rw [HLA.out]; exact hkn
      have hkb : k < Lb.length := by rw [HLB.out]; omega
      obtain ⟨ad, rfl, hab, p0, p1⟩ := gnr_at (hA.below hBe) hka
      obtain ⟨bd, rfl, hbb, q0, q1⟩ := gnr_at (hB.below hBe) hkb
      have HTA := Lib.hid (List.take_succ_eq_append_getElem hka)
      have HTB := Lib.hid (List.take_succ_eq_append_getElem hkb)
      generalize La[k]'hka = x at *
      generalize Lb[k]'hkb = y at *
      clear hka hkb
      go_wp2_with fail
      refine AnyG.start (fun w' : World => Below wr.heap.size wr w') (fun i => true) (by kernel_rfl) ?_
      have hS : (fun w' : World => Below wr.heap.size wr w') (World.drew _) := (Below.refl _ _).drew
      refine AnyG.take (i := 0) (v := ?_) rfl (by kernel_rfl) (fun _ _ _ h => h) rfl ?_ hS ?_
      rotate_left
      · (intro w' _; go_simp; try with_reducible rfl)
      try simp only [Act.put, List.setIfInBounds_toArray, List.set_cons_zero, List.set_cons_succ]
      refine AnyG.take (i := 1) (v := ?_) rfl (by kernel_rfl) (fun _ _ _ h => h) rfl ?_ hS ?_
      rotate_left
      · (intro w' _; go_simp; try with_reducible rfl)
      try simp only [Act.put, List.setIfInBounds_toArray, List.set_cons_zero, List.set_cons_succ]
      refine AnyG.take (i := 2) (v := ?_) rfl (by kernel_rfl) (fun _ _ _ h => h) rfl ?_ hS ?_
      rotate_left
      · (intro w' _; go_simp; try with_reducible rfl)
      try simp only [Act.put, List.setIfInBounds_toArray, List.set_cons_zero, List.set_cons_succ]
      refine AnyG.take (i := 3) (v := ?_) rfl (by kernel_rfl) (fun _ _ _ h => h) rfl ?_ hS ?_
      rotate_left
      · (intro w' hSw; (try dsimp only at hSw); have p0 := cellC hSw p0; have p1 := cellC hSw p1; have q0 := cellC hSw q0; have q1 := cellC hSw q1; go_simp; try with_reducible rfl)
      try simp only [Act.put, List.setIfInBounds_toArray, List.set_cons_zero, List.set_cons_succ]
      refine AnyG.take (i := 4) (v := ?_) rfl (by kernel_rfl) (fun _ _ _ h => h) rfl ?_ hS ?_
      rotate_left
      · (intro w' _; go_simp; try with_reducible rfl)
      try simp only [Act.put, List.setIfInBounds_toArray, List.set_cons_zero, List.set_cons_succ]
      refine AnyG.take (i := 5) (v := ?_) rfl (by kernel_rfl) (fun _ _ _ h => h) rfl ?_ hS ?_
      rotate_left
      · (intro w' _; go_simp; try with_reducible rfl)
      try simp only [Act.put, List.setIfInBounds_toArray, List.set_cons_zero, List.set_cons_succ]
      refine AnyG.take (i := 6) (v := ?_) rfl (by kernel_rfl) (fun _ _ _ h => h) rfl ?_ hS ?_
      rotate_left
      · (intro w' _; go_simp; try with_reducible rfl)
      try simp only [Act.put, List.setIfInBounds_toArray, List.set_cons_zero, List.set_cons_succ]
      refine AnyG.take (i := 7) (v := ?_) rfl (by kernel_rfl) (fun _ _ _ h => h) rfl ?_ hS ?_
      rotate_left
      · (intro w' hSw; (try dsimp only at hSw); have p0 := cellC hSw p0; have p1 := cellC hSw p1; have q0 := cellC hSw q0; have q1 := cellC hSw q1; go_simp; try with_reducible rfl)
      try simp only [Act.put, List.setIfInBounds_toArray, List.set_cons_zero, List.set_cons_succ]
      refine AnyG.take (i := 8) (v := .bool (decide (x.1 = y.1 ∧ x.2 = y.2))) rfl (by kernel_rfl) (fun _ _ _ h => h) rfl ?_ hS ?_
      · (intro w' _; go_simp; by_cases h1 : x.1 = y.1 <;> by_cases h2 : x.2 = y.2 <;> simp [h1, h2])
      try simp only [Act.put, List.setIfInBounds_toArray, List.set_cons_zero, List.set_cons_succ]
      refine AnyG.take (i := 9) (v := ?_) rfl (by kernel_rfl) (fun _ _ _ h => h) rfl ?_ hS ?_
      rotate_left
      · (intro w' _; go_simp; try with_reducible rfl)
      try simp only [Act.put, List.setIfInBounds_toArray, List.set_cons_zero, List.set_cons_succ]
      refine AnyG.done (by kernel_rfl) ?_ _
      clear hS
      go_simp
      go_wp2_with fail
      go_roundw
      case rel =>
        refine ⟨k + 1, _, by omega, by go_num, rfl, ?_, hBe.drew⟩
        unfold Hid
        rw [HTA.out, HTB.out, HNM.out.2, ← Bool.decide_and, decide_eq_decide]
        constructor
        · rintro ⟨h1, h2⟩
          exact ⟨HNM.out.1, by rw [Prod.ext h1 h2]⟩
        · rintro ⟨_, h⟩
          have := (List.append_inj' h rfl).2
          simp only [List.cons.injEq, and_true] at this
          rw [this]; exact ⟨rfl, rfl⟩
      case measure => simp [intOf]; omega
    · have hend : t = decide (La = Lb) := by
        rw [ht.out, decide_eq_decide]
        by_cases hkn : k < n
        · have htf : t = false := by
            cases t with
            | false => rfl
            | true => exact absurd ⟨rfl, hkn⟩ hgo
          have h0 : ¬ (n = m ∧ La.take k = Lb.take k) := of_decide_eq_false (ht.out.symm.trans htf)
          constructor
          · intro h; exact absurd h h0
          · rintro rfl; exact absurd ⟨by rw [← HLA.out, ← HLB.out], rfl⟩ h0
        · obtain rfl : k = n := by omega
          rw [List.take_of_length_le (Nat.le_of_eq HLA.out)]
          constructor
          · rintro ⟨rfl, h⟩; rw [h, List.take_of_length_le (Nat.le_of_eq HLB.out)]
          · rintro rfl
            have hkm : k = m := by rw [← HLA.out, ← HLB.out]
            exact ⟨hkm, (List.take_of_length_le (Nat.le_of_eq HLA.out)).symm⟩
      have HE := Lib.hid hend
      clear hend ht
      by_cases hkn : k < n
      · obtain rfl : t = false := by
          cases t with
          | false => rfl
          | true => exact absurd ⟨rfl, hkn⟩ hgo
        go_wp2_with fail
        go_ret
        exact ⟨ret_bool HE.out, hBe⟩
      · cases t
        all_goals
          go_wp2_with fail
          go_ret
          exact ⟨ret_bool HE.out, hBe⟩
end Go.Proofs.YtdlohfglmagneaaDoor

/-! The feed that statements draw their numbers from: FeedOf, next, Below, Between, Often, Either, Range, In. -/
namespace Go.Proofs.YtdlohfglmagneaaDoor
open Go Go.RowKit
attribute [local go_sem ↓] Go.wp_at_zero Go.wp_at_succ
/-! helpers -/

theorem grown_refl (w : World) (row : Option Nat) : w.grownBy w row := ⟨rfl, rfl, rfl, Nat.le_refl _, fun _ _ _ => rfl⟩
theorem grownF_trans {a b c : World} {row : Option Nat} (h : a.grownBy b row) (k : b.grownBy c row) : a.grownBy c row := ⟨k.os.trans h.os, k.tape.trans h.tape, k.output.trans h.output, Nat.le_trans h.size k.size, fun i hi hn => (k.block i (Nat.lt_of_lt_of_le hi h.size) hn).trans (h.block i hi hn)⟩
theorem grown_drew (w : World) (row : Option Nat) : w.grownBy w.drew row := ⟨rfl, rfl, rfl, Nat.le_refl _, fun _ _ _ => rfl⟩
theorem grown_alloc {a b : World} {row : Option Nat} (h : a.grownBy b row) (o : Obj) : a.grownBy (b.alloc o) row := grownF_trans h (World.grownBy_alloc b o row)
end Go.Proofs.YtdlohfglmagneaaDoor

/-! What a feed leaves; orders that are being made. -/
namespace Go.Proofs.YtdlohfglmagneaaDoor
open Go Go.RowKit
theorem own_ne {w : World} {b b' : Nat} {e e' : TypeId} {s s' : Nat} {v v' : Value} {n n' : Nat} {xs xs' : List Value} (h : w.ownsRow b e s v n xs) (h' : w.ownsRow b' e' s' v' n' xs') (hne : e ≠ e') : v.ownBlock = none ∨ v.ownBlock ≠ v'.ownBlock := by
  rcases h.2 with ⟨rfl, _⟩ | ⟨g, cap, cur, rfl, _, hg, _⟩
  · exact .inl rfl
  · refine .inr fun he => ?_
    rcases h'.2 with ⟨rfl, _⟩ | ⟨g', cap', cur', rfl, _, hg', _⟩
    · simp [Value.ownBlock] at he
    · simp only [Value.ownBlock, Option.some.injEq] at he
      subst he
      rw [hg] at hg'
      injection hg' with h1
      injection h1 with _ h2
      exact hne h2
theorem bx_news {w : World} {q t : Nat} {cs : Array Value} (h : Bx w q t cs) : ∀ j u, cs.toList[j]? = some u → w.cell? ((⟨q, 0, none⟩ : Addr).add j) = some u := by
  intro j u hu
  have e : (⟨q, 0, none⟩ : Addr).add j = ⟨q, j, none⟩ := by unfold Addr.add; split <;> simp_all
  rw [e, h.cell]
  simpa using hu
theorem own_free {w : World} {b q n c : Nat} {t : TypeId} {s : Nat} {xs : List Value} (h : w.ownsRow b t s (.slice (some ⟨q, 0, none⟩) n c) n xs) : ∀ o, w.frozen? ⟨q, o, none⟩ = false := by
  rcases h.2 with ⟨h, _⟩ | ⟨q', cap, cur, h, _, hg, _⟩
  · simp at h
  · simp only [Value.slice.injEq, Option.some.injEq, Addr.mk.injEq, and_true, true_and] at h
    obtain ⟨rfl, rfl⟩ := h
    exact Bx.free (show Bx w q t cur from hg)
theorem inr_snoc (l : List Int) (x : Int) : (inr (l ++ [x])).flatten = (inr l).flatten ++ [.int .i64 x] := by simp [inr]
theorem gnr_snoc (l : List (Int × Int)) (a b : Int) : (gnr (l ++ [(a, b)])).flatten = (gnr l).flatten ++ [.int .i64 a, .int .i64 b] := by simp [gnr]
/-- A bin whose grams are a row of one's own. -/
def GrRow (w : World) (base : Nat) (r : List Value) (b : Bn) : Prop :=
  ∃ (A : Option Addr) (c : Nat), r = [.slice A b.gr.length c, .int .i64 b.w, .int .i64 b.c, .int .i64 b.g] ∧ w.ownsRow base 29 2 (.slice A b.gr.length c) b.gr.length (gnr b.gr).flatten
structure BinsOwn (w : World) (base : Nat) (rs : List (List Value)) (bs : List Bn) : Prop where
  len : rs.length = bs.length
  row : ∀ (j : Nat) (r : List Value) (b : Bn), rs[j]? = some r → bs[j]? = some b → GrRow w base r b
section
variable {w w' : World} {base : Nat} {rs : List (List Value)} {bs : List Bn}
theorem BinsOwn.kept (h : BinsOwn w base rs bs) {row : Option Nat} (k : w.grownBy w' row) (hne : ∀ v n xs, w.ownsRow base 29 2 v n xs → v.ownBlock = none ∨ v.ownBlock ≠ row) : BinsOwn w' base rs bs :=
  ⟨h.len, fun j r b hr hb => by obtain ⟨A, c, e, o⟩ := h.row j r b hr hb; exact ⟨A, c, e, o.kept k (hne _ _ _ o)⟩⟩
theorem BinsOwn.set_ (h : BinsOwn w base rs bs) {q t : Nat} {cs : Array Value} (hb : Bx w q t cs) (ht : t ≠ 29) (o : Nat) (u : Value) : BinsOwn (w.setCell ⟨q, o, none⟩ u) base rs bs :=
  h.kept (grown_set w q o u) fun v n xs ho => .inr fun e => own_bx ho hb ht e.symm
theorem BinsOwn.own (h : BinsOwn w base rs bs) {b n t s : Nat} {v : Value} {xs : List Value} (ho : w.ownsRow b t s v n xs) (k : w.grownBy w' v.ownBlock) (ht : t ≠ 29) : BinsOwn w' base rs bs :=
  h.kept k fun v' n' xs' ho' => own_ne ho' ho (Ne.symm ht)
theorem BinsOwn.nil (w : World) (base : Nat) : BinsOwn w base [] [] := ⟨rfl, fun j r b h => by simp at h⟩
theorem BinsOwn.four (h : BinsOwn w base rs bs) : ∀ r ∈ rs, r.length = 4 := by
  intro r hr
  obtain ⟨j, hj⟩ := List.getElem?_of_mem hr
  have hlt : j < bs.length := by have := (List.getElem?_eq_some_iff.1 hj).1; have := h.len; omega
  obtain ⟨A, c, rfl, _⟩ := h.row j r bs[j] hj (List.getElem?_eq_getElem hlt)
  rfl
theorem gnr_two (l : List (Int × Int)) : ∀ r ∈ gnr l, r.length = 2 := by
  intro r hr; unfold gnr at hr; obtain ⟨x, _, rfl⟩ := List.mem_map.1 hr; rfl
theorem inr_one (l : List Int) : ∀ r ∈ inr l, r.length = 1 := by
  intro r hr; unfold inr at hr; obtain ⟨x, _, rfl⟩ := List.mem_map.1 hr; rfl
theorem own_inr {b n c : Nat} {A : Option Addr} {l : List Int} (h : w.ownsRow b 3 1 (.slice A n c) n (inr l).flatten) (hl : l.length = n) : Sl w w.heap.size 1 A (inr l) := by
  obtain ⟨A', c', e, hs⟩ := own_sl h (inr_one l) (by simpa [inr] using hl)
  simp only [Value.slice.injEq] at e
  rw [e.1]
  exact hs
theorem own_gnr {b n c : Nat} {A : Option Addr} {l : List (Int × Int)} (h : w.ownsRow b 29 2 (.slice A n c) n (gnr l).flatten) (hl : l.length = n) : Sl w w.heap.size 2 A (gnr l) := by
  obtain ⟨A', c', e, hs⟩ := own_sl h (gnr_two l) (by simpa [gnr] using hl)
  simp only [Value.slice.injEq] at e
  rw [e.1]
  exact hs
end
section
variable {g : Nat} {w V x : World} {lm : List Int} {bs : List Bn} {le mo : Int} {lv bv : Value} {rs : List (List Value)}
end
/-- Orders that swarfkit makes: small numbers. -/
structure Small (o : Od) (bins metals grabs : Int) : Prop where
  lm : (o.lm.length : Int) ≤ metals
  li : ∀ x ∈ o.lm, 20 ≤ x ∧ x ≤ 300
  b1 : 1 ≤ o.bs.length
  bs : (o.bs.length : Int) ≤ bins
  bn : ∀ b ∈ o.bs, b.gr.length = o.lm.length ∧ (∀ p ∈ b.gr, 0 ≤ p.1 ∧ p.1 ≤ p.2 ∧ p.2 ≤ 600) ∧ 1 ≤ b.w ∧ b.w ≤ 20 ∧ 0 ≤ b.c ∧ b.c ≤ 49 ∧ 0 ≤ b.g ∧ b.g ≤ grabs
  le0 : 0 ≤ o.le
  lem : o.le ≤ o.mo
  mo : o.mo ≤ 1000
theorem Small.ok {o : Od} {bins metals grabs : Int} (h : Small o bins metals grabs) (hb : bins ≤ 4) (hm : metals ≤ 3) (hg : grabs ≤ 6) : o.Ok := by
  have h1 := h.lm
  have h2 := h.bs
  have h3 := h.b1
  have h4 := h.le0
  have h5 := h.lem
  have h6 := h.mo
  refine ⟨by omega, fun x hx => by have := h.li x hx; omega, by omega, by omega, by omega, by omega, by omega, fun b hb => ?_⟩
  obtain ⟨p1, p2, p3, p4, p5, p6, p7, p8⟩ := h.bn b hb
  refine ⟨p1, fun p hp => by have := p2 p hp; omega, by omega, by omega, by omega, by omega, by omega, by omega⟩
end Go.Proofs.YtdlohfglmagneaaDoor

/-! swarfkit.OrderOf. -/
namespace Go.Proofs.YtdlohfglmagneaaDoor
open Go Go.RowKit
theorem own_num {w : World} {b q n c : Nat} {l : List Int} (h : w.ownsRow b 3 1 (.slice (some ⟨q, 0, none⟩) n c) n (inr l).flatten) (hl : l.length = n) {j : Nat} (hj : j < l.length) : w.cell? ⟨q, j, none⟩ = some (.int .i64 l[j]) := by
  obtain ⟨ad, e, _, h2⟩ := inr_at (own_inr h hl) hj
  simp only [Option.some.injEq] at e
  subst e
  have e : (⟨q, 0, none⟩ : Addr).add j = ⟨q, j, none⟩ := by unfold Addr.add; split <;> simp_all
  rwa [e] at h2
end Go.Proofs.YtdlohfglmagneaaDoor

/-! swarflaw06.kept: whether a blend keeps all limits, grab by grab. -/
namespace Go.Proofs.YtdlohfglmagneaaDoor
open Go Go.RowKit
/-- Rows of rows of numbers. -/
def LsAt (w : World) (B : Nat) (A : Option Addr) (Ls : List (List Int)) : Prop :=
  ∀ (k : Nat) (l : List Int), Ls[k]? = some l → ∃ (ad : Addr) (G : Option Addr) (c : Nat), A = some ad ∧ ad.block < B ∧ w.cell? (ad.add k) = some (.slice G l.length c) ∧ Sl w B 1 G (inr l)
theorem LsAt.below {w w' : World} {B : Nat} {A : Option Addr} {Ls : List (List Int)} (h : LsAt w B A Ls) (hb : Below B w w') : LsAt w' B A Ls := fun k l hk => by
  obtain ⟨ad, G, c, h1, h2, h3, h4⟩ := h k l hk
  exact ⟨ad, G, c, h1, h2, (hb.cell (by rw [add_block]; exact h2)).trans h3, h4.below hb⟩
theorem LsAt.more {w : World} {B B' : Nat} {A : Option Addr} {Ls : List (List Int)} (h : LsAt w B A Ls) (hB : B ≤ B') : LsAt w B' A Ls := fun k l hk => by
  obtain ⟨ad, G, c, h1, h2, h3, h4⟩ := h k l hk
  exact ⟨ad, G, c, h1, by omega, h3, h4.more hB⟩
theorem LsAt.call {w w' : World} {A : Option Addr} {Ls : List (List Int)} (h : LsAt w w.heap.size A Ls) (hb : Below w.heap.size w w') : LsAt w' w'.heap.size A Ls := (h.below hb).more hb.size
/-- What grab a has of metal j. -/
def gmOf (Ls : List (List Int)) (a j : Nat) : Int := (Ls.getD a []).getD j 0
theorem off_mono (b : Nat → Int) : ∀ {i k : Nat}, i ≤ k → off b i ≤ off b k
  | i, 0, h => by
    have : i = 0 := by omega
    subst this; exact Nat.le_refl _
  | i, k + 1, h => by
    by_cases e : i = k + 1
    · subst e; exact Nat.le_refl _
    · have := off_mono b (i := i) (k := k) (by omega)
      simp only [off]; omega
theorem off_lt (b : Nat → Int) {i k t : Nat} (h : i < k) (ht : t < (b i).toNat) : off b i + t < off b k := by
  have := off_mono b (i := i + 1) (k := k) h
  simp only [off] at this
  omega
end Go.Proofs.YtdlohfglmagneaaDoor

/-! Rows of rows of one's own; what is in the grabs of a blend, bin by bin. -/
namespace Go.Proofs.YtdlohfglmagneaaDoor
open Go Go.RowKit
structure LsOwn (w : World) (base : Nat) (vs : List Value) (Ls : List (List Int)) : Prop where
  len : vs.length = Ls.length
  row : ∀ (k : Nat) (v : Value) (l : List Int), vs[k]? = some v → Ls[k]? = some l → ∃ A c, v = .slice A l.length c ∧ w.ownsRow base 3 1 v l.length (inr l).flatten
section
variable {w w' : World} {base : Nat} {vs : List Value} {Ls : List (List Int)}
theorem LsOwn.kept (h : LsOwn w base vs Ls) {row : Option Nat} (k : w.grownBy w' row) (hne : ∀ v n xs, w.ownsRow base 3 1 v n xs → v.ownBlock = none ∨ v.ownBlock ≠ row) : LsOwn w' base vs Ls :=
  ⟨h.len, fun j r b hr hb => by obtain ⟨A, c, e, o⟩ := h.row j r b hr hb; exact ⟨A, c, e, o.kept k (hne _ _ _ o)⟩⟩
theorem LsOwn.own (h : LsOwn w base vs Ls) {b n t s : Nat} {v : Value} {xs : List Value} (ho : w.ownsRow b t s v n xs) (k : w.grownBy w' v.ownBlock) (ht : t ≠ 3) : LsOwn w' base vs Ls :=
  h.kept k fun v' n' xs' ho' => own_ne ho' ho (Ne.symm ht)
theorem LsOwn.nil (w : World) (base : Nat) : LsOwn w base [] [] := ⟨rfl, fun j r b h => by simp at h⟩
theorem LsOwn.at_ (h : LsOwn w base vs Ls) {b c n : Nat} {A : Option Addr} (ho : w.ownsRow b 39 1 (.slice A n c) n vs) : LsAt w w.heap.size A Ls := by
  have e : vs = (vs.map fun v => [v]).flatten := by
    clear h ho
    induction vs with
    | nil => rfl
    | cons x r ih => simp only [List.map_cons, List.flatten_cons, List.singleton_append, List.cons.injEq, true_and]; exact ih
  have hn : vs.length = n := by have := ho.1; omega
  rw [e] at ho
  obtain ⟨A', c', e', hs⟩ := own_sl ho (by intro r hr; obtain ⟨x, _, rfl⟩ := List.mem_map.1 hr; rfl) (by simpa using hn)
  simp only [Value.slice.injEq] at e'
  rw [← e'.1] at hs
  intro k l hk
  have hk2 : k < vs.length := by rw [h.len]; exact (List.getElem?_eq_some_iff.1 hk).1
  obtain ⟨A2, c2, e2, o⟩ := h.row k vs[k] l (List.getElem?_eq_getElem hk2) hk
  obtain ⟨ad, q1, q2, q3⟩ := hs.at_ (k := k) (by simpa using hk2)
  simp only [List.getElem_map, Nat.mul_one] at q3
  rw [e2] at q3 o
  exact ⟨ad, A2, c2, q1, q2, q3.head rfl, own_inr o rfl⟩
end
/-! What is in the grabs, bin by bin. -/
end Go.Proofs.YtdlohfglmagneaaDoor

/-! swarflaw06.gramsOf: what each grab of a blend truly has. -/
namespace Go.Proofs.YtdlohfglmagneaaDoor
open Go Go.RowKit
/-- The bins of the grabs, grab by grab. -/
def ixOf (b : Nat → Int) : Nat → List Nat
  | 0 => []
  | i + 1 => ixOf b i ++ List.replicate (b i).toNat i
theorem ixOf_len (b : Nat → Int) : ∀ i : Nat, (ixOf b i).length = off b i
  | 0 => rfl
  | i + 1 => by simp only [ixOf, List.length_append, List.length_replicate, ixOf_len b i, off]
theorem ixOf_at (b : Nat → Int) : ∀ {k i t : Nat}, i < k → t < (b i).toNat → (ixOf b k)[off b i + t]? = some i
  | 0, i, t, h, _ => by omega
  | k + 1, i, t, h, ht => by
    simp only [ixOf]
    by_cases hi : i < k
    · rw [List.getElem?_append_left (by rw [ixOf_len]; exact off_lt b hi ht)]
      exact ixOf_at b hi ht
    · obtain rfl : i = k := by omega
      rw [List.getElem?_append_right (by rw [ixOf_len]; omega), ixOf_len, Nat.add_sub_cancel_left, List.getElem?_replicate, if_pos ht]
theorem ixOf_mem (b : Nat → Int) {r : Nat} : ∀ {k : Nat}, r ∈ ixOf b k → r < k
  | 0, h => by simp [ixOf] at h
  | k + 1, h => by
    simp only [ixOf, List.mem_append, List.mem_replicate] at h
    rcases h with h | ⟨_, rfl⟩
    · have := ixOf_mem b h; omega
    · omega
/-- A row of what a grab of bin i may have. -/
def RowIn (o : Od) (i : Nat) (r : List Int) : Prop := ∀ j, j < r.length → (o.bn i).g1 j ≤ r.getD j 0 ∧ r.getD j 0 ≤ (o.bn i).g2 j
structure GmOk (o : Od) (ln : Nat) (ix : List Nat) (GM : List (List Int)) : Prop where
  len : GM.length = ix.length
  row : ∀ (k i : Nat) (r : List Int), ix[k]? = some i → GM[k]? = some r → r.length = ln ∧ RowIn o i r
/-- What the lists of a truth say to kept. -/
theorem GmOk.gm {o : Od} {ln bn : Nat} {b : Nat → Int} {GM : List (List Int)} (h : GmOk o ln (ixOf b bn) GM) {i t j : Nat} (hi : i < bn) (ht : t < (b i).toNat) (hj : j < ln) : (o.bn i).g1 j ≤ gmOf GM (off b i + t) j ∧ gmOf GM (off b i + t) j ≤ (o.bn i).g2 j := by
  have h1 := ixOf_at b hi ht
  have hk : off b i + t < GM.length := by rw [h.len]; exact (List.getElem?_eq_some_iff.1 h1).1
  obtain ⟨e1, e2⟩ := h.row _ _ GM[off b i + t] h1 (List.getElem?_eq_getElem hk)
  have := e2 j (by omega)
  unfold gmOf
  rw [show GM.getD (off b i + t) [] = GM[off b i + t] by rw [List.getD_eq_getElem?_getD, List.getElem?_eq_getElem hk]; rfl]
  exact this
theorem GmOk.all {o : Od} {ln bn : Nat} {b : Nat → Int} {GM : List (List Int)} (h : GmOk o ln (ixOf b bn) GM) (ho : o.Ok) (hbn : bn ≤ o.bs.length) : ∀ r ∈ GM, r.length = ln ∧ ∀ x ∈ r, 0 ≤ x ∧ x ≤ 1000000 := fun r hr => by
  obtain ⟨k, hk⟩ := List.getElem?_of_mem hr
  have hk2 : k < (ixOf b bn).length := by rw [← h.len]; exact (List.getElem?_eq_some_iff.1 hk).1
  obtain ⟨e1, e2⟩ := h.row k _ r (List.getElem?_eq_getElem hk2) hk
  refine ⟨e1, fun x hx => ?_⟩
  obtain ⟨j, hj⟩ := List.getElem?_of_mem hx
  have := e2 j (List.getElem?_eq_some_iff.1 hj).1
  rw [List.getD_eq_getElem?_getD, hj] at this
  have := (ho.bn (i := (ixOf b bn)[k]) (by have := ixOf_mem b (List.getElem_mem hk2); omega)).gj j
  simp only [Option.getD_some] at *
  omega
end Go.Proofs.YtdlohfglmagneaaDoor

/-! Orders with all weights multiplied: mathematics. What is the cheapest blend is so in one way only. -/
namespace Go.Proofs.YtdlohfglmagneaaDoor
open Go Go.RowKit
def Bn.scale (k : Int) (b : Bn) : Bn := { b with w := b.w * k }
def Od.scale (k : Int) (o : Od) : Od := ⟨o.lm, o.le * k, o.mo * k, o.bs.map (Bn.scale k)⟩
section
variable (o : Od) (k : Int)
theorem scale_len : (o.scale k).bs.length = o.bs.length := by simp [Od.scale]
end
theorem Small.scale {o : Od} {bins metals grabs k : Int} (h : Small o bins metals grabs) (hb : bins ≤ 4) (hm : metals ≤ 3) (hg : grabs ≤ 6) (h1 : 1 ≤ k) (h2 : k ≤ 100) : (o.scale k).Ok := by
  have ho := h.ok hb hm hg
  have h3 := h.le0
  have h4 := h.lem
  have h5 := h.mo
  have e1 := mul_bd h3 (show o.le ≤ 1000 by omega) (show (0 : Int) ≤ k by omega) h2
  have e2 := mul_bd (show 0 ≤ o.mo by omega) h5 (show (0 : Int) ≤ k by omega) h2
  have e3 := Int.mul_le_mul_of_nonneg_right h4 (show 0 ≤ k by omega)
  refine ⟨ho.lm, ho.lv, e1.1, e3, by show o.mo * k ≤ 240000; omega, by rw [scale_len]; exact ho.b1, by rw [scale_len]; exact ho.b2, fun b hb' => ?_⟩
  obtain ⟨c, hc, rfl⟩ := List.mem_map.1 hb'
  obtain ⟨p1, p2, p3, p4, p5, p6, p7, p8⟩ := h.bn c hc
  have hc2 := ho.bs c hc
  have e4 := mul_bd (show 0 ≤ c.w by omega) p4 (show (0 : Int) ≤ k by omega) h2
  have e5 := mul_bd (show (0 : Int) ≤ 1 by omega) (show (1 : Int) ≤ 1 by omega) (show (0 : Int) ≤ 0 by omega) (show (0 : Int) ≤ 0 by omega)
  have e6 : 1 ≤ c.w * k := by have := Int.mul_le_mul p3 h1 (by omega) (by omega : (0 : Int) ≤ c.w); omega
  exact ⟨hc2.len, hc2.gr, e6, by show c.w * k ≤ 10000; omega, hc2.c1, hc2.c2, hc2.g1, hc2.g2⟩
end Go.Proofs.YtdlohfglmagneaaDoor

/-! All blends of an order, in order: mathematics. -/
namespace Go.Proofs.YtdlohfglmagneaaDoor
open Go Go.RowKit
/-- What is in such a list. -/
inductive Fit : List Int → List Int → Prop
  | nil : Fit [] []
  | cons {g x : Int} {gs l : List Int} (h1 : 0 ≤ x) (h2 : x ≤ g) (h : Fit gs l) : Fit (g :: gs) (x :: l)
theorem Fit.len {gs l : List Int} (h : Fit gs l) : l.length = gs.length := by
  induction h with
  | nil => rfl
  | cons _ _ _ ih => simp [ih]
theorem Fit.at_ {gs l : List Int} (h : Fit gs l) : ∀ i, i < gs.length → 0 ≤ l.getD i 0 ∧ l.getD i 0 ≤ gs.getD i 0 := by
  induction h with
  | nil => intro i hi; simp at hi
  | cons h1 h2 _ ih =>
    intro i hi
    cases i with
    | zero => exact ⟨h1, h2⟩
    | succ i => exact ih i (by simpa using hi)
theorem Fit.of : ∀ {gs l : List Int}, l.length = gs.length → (∀ i, i < gs.length → 0 ≤ l.getD i 0 ∧ l.getD i 0 ≤ gs.getD i 0) → Fit gs l
  | [], [], _, _ => .nil
  | g :: gs, x :: l, hl, h => .cons (h 0 (by simp)).1 (h 0 (by simp)).2 (Fit.of (by simpa using hl) fun i hi => h (i + 1) (by simpa using hi))
/-- Before, in lexicographic order. -/
inductive Lex : List Int → List Int → Prop
  | head {x y : Int} {a b : List Int} (h : x < y) : Lex (x :: a) (y :: b)
  | tail {x : Int} {a b : List Int} (h : Lex a b) : Lex (x :: a) (x :: b)
/-- The grabs of an order's bins. -/
def Od.gs (o : Od) : List Int := o.bs.map Bn.g
theorem gs_len (o : Od) : o.gs.length = o.bs.length := by simp [Od.gs]
theorem gs_at (o : Od) (i : Nat) : o.gs.getD i 0 = (o.bn i).g := by
  unfold Od.gs Od.bn
  rw [List.getD_eq_getElem?_getD, List.getD_eq_getElem?_getD, List.getElem?_map]
  cases o.bs[i]? <;> rfl
theorem mx_at (o : Od) (i : Nat) : o.mx i = (o.bn i).g := rfl
theorem Fit.inb {o : Od} {l : List Int} (h : Fit o.gs l) : InB zer o.mx (lf l) := fun i _ => by
  rw [mx_at, ← gs_at]
  by_cases hi : i < o.gs.length
  · exact h.at_ i hi
  · unfold lf
    rw [List.getD_eq_getElem?_getD, List.getD_eq_getElem?_getD, List.getElem?_eq_none (by rw [h.len]; omega), List.getElem?_eq_none (by omega)]
    exact ⟨Int.le_refl _, Int.le_refl _⟩
/-- Behind in the list is behind in rank. -/
theorem lex_rk {lo hi b d : Nat → Int} (hb : InB lo hi b) (hd : InB lo hi d) (h : (b 0 < d 0) ∨ (b 0 = d 0 ∧ b 1 < d 1) ∨ (b 0 = d 0 ∧ b 1 = d 1 ∧ b 2 < d 2) ∨ (b 0 = d 0 ∧ b 1 = d 1 ∧ b 2 = d 2 ∧ b 3 < d 3)) : rk lo hi b < rk lo hi d := by
  rcases Int.lt_or_le (rk lo hi b) (rk lo hi d) with h1 | h1
  · exact h1
  · exfalso
    have b1 := hb 1 (by omega)
    have b2 := hb 2 (by omega)
    have b3 := hb 3 (by omega)
    have d1 := hd 1 (by omega)
    have d2 := hd 2 (by omega)
    have d3 := hd 3 (by omega)
    unfold rk at h1
    have e1 := dg_mono (m := hi 3 - lo 3 + 1) (by omega) (by omega) (by omega) h1 (by omega)
    have e2 := dg_mono (m := hi 2 - lo 2 + 1) (by omega) (by omega) (by omega) e1 (by omega)
    have e3 := dg_mono (m := hi 1 - lo 1 + 1) (by omega) (by omega) (by omega) e2 (by omega)
    rcases h with h | ⟨h, h'⟩ | ⟨h, h', h''⟩ | ⟨h, h', h'', h'''⟩
    · omega
    · rw [h] at e2; omega
    · rw [h, h'] at e1; omega
    · rw [h, h', h''] at h1; omega
theorem Lex.four {a b : List Int} (h : Lex a b) (hl : a.length = b.length) (h4 : a.length ≤ 4) : (lf a 0 < lf b 0) ∨ (lf a 0 = lf b 0 ∧ lf a 1 < lf b 1) ∨ (lf a 0 = lf b 0 ∧ lf a 1 = lf b 1 ∧ lf a 2 < lf b 2) ∨ (lf a 0 = lf b 0 ∧ lf a 1 = lf b 1 ∧ lf a 2 = lf b 2 ∧ lf a 3 < lf b 3) := by
  cases h with
  | head h => exact .inl h
  | tail h =>
    cases h with
    | head h => exact .inr (.inl ⟨rfl, h⟩)
    | tail h =>
      cases h with
      | head h => exact .inr (.inr (.inl ⟨rfl, rfl, h⟩))
      | tail h =>
        cases h with
        | head h => exact .inr (.inr (.inr ⟨rfl, rfl, rfl, h⟩))
        | tail h =>
          cases h with
          | head h => simp at h4
          | tail h => simp at h4
theorem Lex.rk {o : Od} {a b : List Int} (h : Lex a b) (ha : Fit o.gs a) (hb : Fit o.gs b) (h4 : o.bs.length ≤ 4) : rk zer o.mx (lf a) < rk zer o.mx (lf b) :=
  lex_rk ha.inb hb.inb (h.four (by rw [ha.len, hb.len]) (by rw [ha.len, gs_len]; exact h4))
end Go.Proofs.YtdlohfglmagneaaDoor

/-! swarfkit.Ints, Ranges, CopyOrder. -/
namespace Go.Proofs.YtdlohfglmagneaaDoor
open Go Go.RowKit
theorem flat_back {s : Nat} (hs0 : 0 < s) : ∀ (xs : List (List Value)) (_ : ∀ r ∈ xs, r.length = s) (j : Nat) (u : Value), xs.flatten[j]? = some u → ∃ k r i, j = k * s + i ∧ xs[k]? = some r ∧ r[i]? = some u
  | [], _, j, u, h => by simp at h
  | x :: xs, hs, j, u, h => by
    have hx := hs x (by simp)
    rw [List.flatten_cons] at h
    by_cases hj : j < s
    · rw [List.getElem?_append_left (by omega)] at h
      exact ⟨0, x, j, by omega, rfl, h⟩
    · rw [List.getElem?_append_right (by omega), hx] at h
      obtain ⟨k, r, i, e, h1, h2⟩ := flat_back hs0 xs (fun r hr => hs r (by simp [hr])) _ _ h
      exact ⟨k + 1, r, i, by rw [Nat.succ_mul]; omega, by simpa using h1, h2⟩
theorem Sl.cells {w : World} {B s : Nat} {a : Addr} {xs : List (List Value)} (h : Sl w B s (some a) xs) (hs0 : 0 < s) (hs : ∀ r ∈ xs, r.length = s) : ∀ j u, xs.flatten[j]? = some u → w.cell? (a.add j) = some u := by
  intro j u hu
  obtain ⟨k, r, i, rfl, h1, h2⟩ := flat_back hs0 xs hs j u hu
  obtain ⟨ad, e, _, h3⟩ := h k r h1
  simp only [Option.some.injEq] at e
  subst e
  have := h3 i u h2
  rwa [add_add] at this
section
variable {V wr x : World} {lm : List Int} {bs : List Bn} {le mo : Int} {lv bv : Value} {rs : List (List Value)} {q : Nat}
end
end Go.Proofs.YtdlohfglmagneaaDoor

/-! swarfref06.Blends: all blends of an order. -/
namespace Go.Proofs.YtdlohfglmagneaaDoor
open Go Go.RowKit
section
variable {P : Program}
end
theorem LsOwn.up {w : World} {b b' : Nat} {vs : List Value} {Ls : List (List Int)} (h : LsOwn w b vs Ls) (hb : b' ≤ b) : LsOwn w b' vs Ls :=
  ⟨h.len, fun k v l h1 h2 => by obtain ⟨A, c, e, o⟩ := h.row k v l h1 h2; exact ⟨A, c, e, ownsRow_up o (fun q hq => Nat.le_trans hb (o.lt q hq).1)⟩⟩
theorem LsOwn.one {w : World} {b : Nat} {vs : List Value} {Ls : List (List Int)} (h : LsOwn w b vs Ls) : ∀ u ∈ vs, u.oneCell' = true := fun u hu => by
  obtain ⟨k, hk, rfl⟩ := List.getElem_of_mem hu
  obtain ⟨A, c, e, _⟩ := h.row k _ _ (List.getElem?_eq_getElem hk) (List.getElem?_eq_getElem (by rw [← h.len]; exact hk))
  rw [e]; rfl
end Go.Proofs.YtdlohfglmagneaaDoor
