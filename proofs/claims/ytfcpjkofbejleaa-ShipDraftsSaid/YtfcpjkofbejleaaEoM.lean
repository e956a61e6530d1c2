/- append to a slice of one's own: where the new slice lies. -/
import Derived.Test.YtfcpjkofbejleaaChM
import Derived.ArgAppend
import Derived.OwnWalk
set_option linter.unusedSimpArgs false
set_option linter.unusedVariables false
namespace Go.Proofs.Ytfcpjkofbejleaa
open Go Go.RowKit
section
variable {P : Program}
theorem ownsRow_pre {w : World} {b : Nat} {e : TypeId} {size : Nat} {g n m cap : Nat} {xs ys : List Value} (h : w.ownsRow b e size (.slice (some ⟨g, 0, none⟩) (n + m) cap) (n + m) (xs ++ ys)) (hx : xs.length = n * size) : w.ownsRow b e size (.slice (some ⟨g, 0, none⟩) n cap) n xs := by
  refine ⟨hx, ?_⟩
  rcases h.2 with ⟨h1, _⟩ | ⟨g', cap', cur, h1, hb, hg, hc, hm, hs, ht⟩
  · simp at h1
  · simp only [Value.slice.injEq, Option.some.injEq, Addr.mk.injEq, and_true, true_and] at h1
    obtain ⟨rfl, rfl⟩ := h1
    refine .inr ⟨g, cap, cur, rfl, hb, hg, by omega, hm, hs, ?_⟩
    have := congrArg (List.take (n * size)) ht
    rw [List.take_take, Nat.min_eq_left (Nat.mul_le_mul_right _ (by omega)), List.take_left' hx] at this
    exact this
theorem app2 (w : World) (base : Nat) (t ty e : TypeId) (i : TypeInfo) (z : Value) (size bytes : Nat) (ht : P.underlying t = some (.slice e)) (hi : P.info? e = some i) (hz : i.zero = some z)
    (hsize : i.size = size) (hby : i.bytes = bytes) (hzs : z.cells.size = size) (hsz : 0 < size)
    (v : Value) (n : Nat) (xs : List Value) (hown : w.ownsRow base e size v n xs)
    (a : Addr) (m c : Nat) (news : List Value) (hl : news.length = m * size) (hnews : ∀ j u, news[j]? = some u → w.cell? (a.add j) = some u) (h1 : ∀ u ∈ news, u.oneCell' = true)
    (h63 : n + m ≤ maxLen) (hbytes : (n + m) * bytes ≤ 140737488355328) (hbase : base ≤ w.heap.size) :
    ∃ v' w', (Builtin.append_ #[t, t] ty #[v, .slice (some a) m c]).run P w = .ok v' w' ∧ w'.ownsRow base e size v' (n + m) (xs ++ news) ∧ w.grownBy w' v.ownBlock ∧ w'.ownsRow base e size v n xs ∧ (v'.ownBlock = v.ownBlock ∨ ∀ k, v'.ownBlock = some k → w.heap.size ≤ k) := by
  obtain ⟨v', w', hr, h2, h3, _⟩ := run_append_own (P := P) w base t ty e i z size bytes ht hi hz hsize hby hzs hsz v n xs hown a m c news hl hnews h1 h63 hbytes hbase
  refine ⟨v', w', hr, h2, h3, ?_⟩
  have hown' := hown
  rcases hown'.2 with ⟨rfl, rfl⟩ | ⟨g, cap, cur, rfl, hbg, hg, hnc, hcm, hcs, htake⟩
  · have hx : xs = [] := List.eq_nil_of_length_eq_zero (by simpa using hown.1)
    subst hx
    refine ⟨World.ownsRow_nil _ _ _ _, .inr ?_⟩
    obtain ⟨v2, w2, hr2, k2, _, _⟩ := run_append_own (P := P) w w.heap.size t ty e i z size bytes ht hi hz hsize hby hzs hsz (.slice none 0 0) 0 [] (World.ownsRow_nil _ _ _ _) a m c news hl hnews h1 h63 hbytes (Nat.le_refl _)
    rw [hr] at hr2
    injection hr2 with e1 e2
    subst e1
    exact fun k hk => (k2.lt k hk).1
  · by_cases hroom : n + m ≤ cap
    · have hfit : n * i.size + news.length ≤ cur.size := by rw [hl, hcs, hsize, ← Nat.add_mul]; exact Nat.mul_le_mul_right _ hroom
      have hr2 := run_append_room (P := P) w t ty e i ht hi g n cap cur hg a m c news (by rw [hl, hsize]) hnews h1 hroom hfit
      rw [hr] at hr2
      injection hr2 with e1 e2
      subst e1
      exact ⟨ownsRow_pre h2 hown.1, .inl rfl⟩
    · have holds : ∀ j u, xs[j]? = some u → w.cell? ((⟨g, 0, none⟩ : Addr).add j) = some u := hown.cells (g := g) rfl
      obtain ⟨v2, w2, hr2, k2, k3⟩ := run_append_arg_grows (P := P) w t ty e i z size bytes ht hi hz hsize hby hzs hsz ⟨g, 0, none⟩ n cap xs hown.1 holds a m c news hl hnews (by omega) h63 hbytes
      rw [hr] at hr2
      injection hr2 with e1 e2
      subst e1 e2
      exact ⟨hown.kept k3 (.inr (by simp [Value.ownBlock])), .inr fun k hk => (k2.lt k hk).1⟩
theorem wp_app2 {o : Oper} {a : Act} {w : World} {K : Act → World → Prop} {Q : Exit → Act → World → Prop} (s x : Operand) (t : TypeId)
    (ho : o.op = .call { callee := .builtin .append, args := #[s, x], argTypes := #[t, t] })
    (base : Nat) (e : TypeId) (i : TypeInfo) (z : Value) (size bytes : Nat) (ht : P.underlying t = some (.slice e)) (hi : P.info? e = some i) (hz : i.zero = some z)
    (hsize : i.size = size) (hby : i.bytes = bytes) (hzs : z.cells.size = size) (hsz : 0 < size)
    (v : Value) (n : Nat) (xs : List Value) (hs : a.eval s = v) (hown : w.ownsRow base e size v n xs)
    (ad : Addr) (m c : Nat) (news : List Value) (hx : a.eval x = .slice (some ad) m c) (hl : news.length = m * size) (hnews : ∀ j u, news[j]? = some u → w.cell? (ad.add j) = some u) (h1 : ∀ u ∈ news, u.oneCell' = true)
    (h63 : n + m ≤ maxLen) (hbytes : (n + m) * bytes ≤ 140737488355328) (hbase : base ≤ w.heap.size)
    (h : ∀ v' w', w'.ownsRow base e size v' (n + m) (xs ++ news) → w.grownBy w' v.ownBlock → w'.ownsRow base e size v n xs → (v'.ownBlock = v.ownBlock ∨ ∀ k, v'.ownBlock = some k → w.heap.size ≤ k) → K (a.put o.dst v') w') : o.wp P a w K Q := by
  obtain ⟨v', w', hr, h2, h3, h4, h5⟩ := app2 (P := P) w base t o.type e i z size bytes ht hi hz hsize hby hzs hsz v n xs hown ad m c news hl hnews h1 h63 hbytes hbase
  unfold Oper.wp execOp
  simp only [ho, resolve, invoke, builtin, Sem.run_bind, Sem.run_pure, Result.andThen_ok, List.map_toArray, List.map_cons, List.map_nil, hs, hx, hr]
  exact h v' w' h2 h3 h4 h5
end
theorem own_bx {w : World} {b : Nat} {e : TypeId} {s : Nat} {v : Value} {n : Nat} {xs : List Value} {q t : Nat} {cs : Array Value} (h : w.ownsRow b e s v n xs) (k : Bx w q t cs) (hne : t ≠ e) : some q ≠ v.ownBlock := by
  intro he
  rcases h.2 with ⟨rfl, _⟩ | ⟨g, cap, cur, rfl, _, hg, _⟩
  · simp [Value.ownBlock] at he
  · simp only [Value.ownBlock, Option.some.injEq] at he
    subst he
    unfold Bx at k
    rw [k] at hg
    injection hg with h1
    injection h1 with _ h2
    exact hne h2
theorem own_bel {w x : World} {b n : Nat} {t : TypeId} {s : Nat} {v : Value} {xs : List Value} (h : w.ownsRow b t s v n xs) (hb : Below w.heap.size w x) : x.ownsRow b t s v n xs :=
  h.kept (grown_below (row := none) hb) (by cases h : v.ownBlock <;> simp)
end Go.Proofs.Ytfcpjkofbejleaa

/-! melt.claim.prove: the plain proof, where there is one. -/
namespace Go.Proofs.Ytfcpjkofbejleaa
open Go Go.RowKit
theorem grown_trans {a b c : World} {r s : Option Nat} (h : a.grownBy b r) (k : b.grownBy c s) (hs : s = r ∨ ∀ i, s = some i → a.heap.size ≤ i) : a.grownBy c r :=
  ⟨k.os.trans h.os, k.tape.trans h.tape, k.output.trans h.output, Nat.le_trans h.size k.size, fun i hi hne => (k.block i (by have := h.size; omega) (fun e => by
    rcases hs with rfl | hs
    · exact hne e
    · have := hs i e.symm; omega)).trans (h.block i hi hne)⟩
end Go.Proofs.Ytfcpjkofbejleaa

/-! Equal rows of numbers, of bounds; rows that are owned read as rows. -/
namespace Go.Proofs.Ytfcpjkofbejleaa
open Go Go.RowKit
theorem Sl.of_bx {w : World} {g t s : Nat} {cs : Array Value} {xs : List (List Value)} (h : Bx w g t cs) (hx : ∀ k r, xs[k]? = some r → ∀ j u, r[j]? = some u → cs[k * s + j]? = some u) : Sl w w.heap.size s (some ⟨g, 0, none⟩) xs := by
  intro k r hr
  refine ⟨_, rfl, h.lt, fun j u hu => ?_⟩
  rw [add_add]
  have e : (⟨g, 0, none⟩ : Addr).add (k * s + j) = ⟨g, k * s + j, none⟩ := by unfold Addr.add; split <;> simp_all
  rw [e, h.cell]
  exact hx k r hr j u hu
theorem flat_at {s : Nat} : ∀ (xs : List (List Value)) (_ : ∀ r ∈ xs, r.length = s) (k : Nat) (r : List Value), xs[k]? = some r → ∀ j u, r[j]? = some u → xs.flatten[k * s + j]? = some u
  | [], _, k, r, h, j, u, _ => by simp at h
  | x :: xs, hs, 0, r, h, j, u, hj => by
    have hx : x = r := by simpa using h
    subst hx
    rw [List.flatten_cons, Nat.zero_mul, Nat.zero_add, List.getElem?_append_left (List.getElem?_eq_some_iff.1 hj).1]
    exact hj
  | x :: xs, hs, k + 1, r, h, j, u, hj => by
    have hx := hs x (by simp)
    have h' : xs[k]? = some r := by simpa using h
    have := flat_at xs (fun r hr => hs r (by simp [hr])) k r h' j u hj
    rw [List.flatten_cons, List.getElem?_append_right (by rw [hx, Nat.succ_mul]; omega), hx, show (k + 1) * s + j - s = k * s + j by rw [Nat.succ_mul]; omega]
    exact this
theorem own_sl {w : World} {b : Nat} {e : TypeId} {size : Nat} {v : Value} {n : Nat} {rs : List (List Value)} (h : w.ownsRow b e size v n rs.flatten) (hs : ∀ r ∈ rs, r.length = size) (hn : rs.length = n) : ∃ A c, v = .slice A n c ∧ Sl w w.heap.size size A rs := by
  rcases h.2 with ⟨rfl, rfl⟩ | ⟨g, cap, cur, rfl, hb, hg, hc, hm, hcs, ht⟩
  · have : rs = [] := List.eq_nil_of_length_eq_zero hn
    subst this
    exact ⟨none, 0, rfl, Sl.nil _ _ _ _⟩
  · refine ⟨some ⟨g, 0, none⟩, cap, rfl, Sl.of_bx (show Bx w g e cur from hg) fun k r hr j u hu => ?_⟩
    have := flat_at rs hs k r hr j u hu
    rw [← ht, List.getElem?_take] at this
    split at this
    · simpa using this
    · cases this


set_option maxRecDepth 100000 in
set_option maxHeartbeats 2000000 in
theorem equalInts_any (A : Option Addr) (n c : Nat) (B : Option Addr) (m d : Nat) (La Lb : List Int) (w : World) (hn : n ≤ 9000000000000000000) (hm : m ≤ 9000000000000000000) (hla : La.length = n) (hlb : Lb.length = m) (hA : Sl w w.heap.size 1 A (inr La)) (hB : Sl w w.heap.size 1 B (inr Lb)) :
    Calls Try.prog 32 #[.slice A n c, .slice B m d] w fun e w' => e = .returned (.bool (decide (La = Lb))) ∧ Below w.heap.size w w' := by
  have HLA := Lib.hid hla
  have HLB := Lib.hid hlb
  clear hla hlb
  go_enter Try.func32, Try.ntmps32
  go_wp2_with fail
  go_loopw [5, 6] (fun b i wr => ∃ (k : Nat) (t : Bool), k ≤ n ∧ i = .int .i64 k ∧ b = .bool t ∧ Hid (t = decide (n = m ∧ La.take k = Lb.take k)) ∧ Below w.heap.size w wr) (fun _ i _ => n - (intOf i).toNat)
  case atStart => exact ⟨0, _, by omega, rfl, rfl, by unfold Hid; by_cases h : n = m <;> simp [h]; omega, Below.refl _ _⟩
  case round =>
    obtain ⟨k, t, hk, rfl, rfl, ht, hBe⟩ := hrel
    by_cases hgo : t = true ∧ k < n
    · obtain ⟨rfl, hkn⟩ := hgo
      have htt := ht.out
      have hnm : n = m ∧ La.take k = Lb.take k := of_decide_eq_true htt.symm
      have HNM := Lib.hid hnm
      clear hnm
      have hkm : k < m := by have := HNM.out.1; omega
      clear htt ht
      have hka : k < La.length := by rw [HLA.out]; exact hkn
      have hkb : k < Lb.length := by rw [HLB.out]; omega
      obtain ⟨ad, rfl, hab, p0⟩ := inr_at (hA.below hBe) hka
      obtain ⟨bd, rfl, hbb, q0⟩ := inr_at (hB.below hBe) hkb
      have HTA := Lib.hid (List.take_succ_eq_append_getElem hka)
      have HTB := Lib.hid (List.take_succ_eq_append_getElem hkb)
      generalize La[k]'hka = x at *
      generalize Lb[k]'hkb = y at *
      clear hka hkb
      go_wp2_with fail
      refine AnyG.start (fun w' : World => Below wr.heap.size wr w') (fun i => true) (by kernel_rfl) ?_
      have hS : (fun w' : World => Below wr.heap.size wr w') (World.drew _) := (Below.refl _ _).drew
      refine AnyG.take (i := 0) (v := ?_) rfl (by kernel_rfl) (fun _ _ _ h => h) rfl ?_ hS ?_
      rotate_left
      · (intro w' _; go_simp; try with_reducible rfl)
      try simp only [Act.put, List.setIfInBounds_toArray, List.set_cons_zero, List.set_cons_succ]
      refine AnyG.take (i := 1) (v := ?_) rfl (by kernel_rfl) (fun _ _ _ h => h) rfl ?_ hS ?_
      rotate_left
      · (intro w' _; go_simp; try with_reducible rfl)
      try simp only [Act.put, List.setIfInBounds_toArray, List.set_cons_zero, List.set_cons_succ]
      refine AnyG.take (i := 2) (v := ?_) rfl (by kernel_rfl) (fun _ _ _ h => h) rfl ?_ hS ?_
      rotate_left
      · (intro w' _; go_simp; try with_reducible rfl)
      try simp only [Act.put, List.setIfInBounds_toArray, List.set_cons_zero, List.set_cons_succ]
      refine AnyG.take (i := 3) (v := ?_) rfl (by kernel_rfl) (fun _ _ _ h => h) rfl ?_ hS ?_
      rotate_left
      · (intro w' hSw; (try dsimp only at hSw); have p0 := cellC hSw p0; have q0 := cellC hSw q0; go_simp; try with_reducible rfl)
      try simp only [Act.put, List.setIfInBounds_toArray, List.set_cons_zero, List.set_cons_succ]
      refine AnyG.take (i := 4) (v := ?_) rfl (by kernel_rfl) (fun _ _ _ h => h) rfl ?_ hS ?_
      rotate_left
      · (intro w' _; go_simp; try with_reducible rfl)
      try simp only [Act.put, List.setIfInBounds_toArray, List.set_cons_zero, List.set_cons_succ]
      refine AnyG.take (i := 5) (v := ?_) rfl (by kernel_rfl) (fun _ _ _ h => h) rfl ?_ hS ?_
      rotate_left
      · (intro w' _; go_simp; try with_reducible rfl)
      try simp only [Act.put, List.setIfInBounds_toArray, List.set_cons_zero, List.set_cons_succ]
      refine AnyG.take (i := 6) (v := ?_) rfl (by kernel_rfl) (fun _ _ _ h => h) rfl ?_ hS ?_
      rotate_left
      · (intro w' _; go_simp; try with_reducible rfl)
      try simp only [Act.put, List.setIfInBounds_toArray, List.set_cons_zero, List.set_cons_succ]
      refine AnyG.take (i := 7) (v := ?_) rfl (by kernel_rfl) (fun _ _ _ h => h) rfl ?_ hS ?_
      rotate_left
      · (intro w' hSw; (try dsimp only at hSw); have p0 := cellC hSw p0; have q0 := cellC hSw q0; go_simp; try with_reducible rfl)
      try simp only [Act.put, List.setIfInBounds_toArray, List.set_cons_zero, List.set_cons_succ]
      refine AnyG.take (i := 8) (v := .bool (decide (x = y))) rfl (by kernel_rfl) (fun _ _ _ h => h) rfl ?_ hS ?_
      · (intro w' _; go_simp; by_cases h1 : x = y <;> simp [h1])
      try simp only [Act.put, List.setIfInBounds_toArray, List.set_cons_zero, List.set_cons_succ]
      refine AnyG.take (i := 9) (v := ?_) rfl (by kernel_rfl) (fun _ _ _ h => h) rfl ?_ hS ?_
      rotate_left
      · (intro w' _; go_simp; try with_reducible rfl)
      try simp only [Act.put, List.setIfInBounds_toArray, List.set_cons_zero, List.set_cons_succ]
      refine AnyG.done (by kernel_rfl) ?_ _
      clear hS
      go_simp
      go_wp2_with fail
      go_roundw
      case rel =>
        refine ⟨k + 1, _, by omega, by go_num, rfl, ?_, hBe.drew⟩
        unfold Hid
        rw [HTA.out, HTB.out, HNM.out.2, decide_eq_decide]
        constructor
        · rintro rfl
          exact ⟨HNM.out.1, rfl⟩
        · rintro ⟨_, h⟩
          have := (List.append_inj' h rfl).2
          simp only [List.cons.injEq, and_true] at this
          exact this
      case measure => simp [intOf]; omega
    · have hend : t = decide (La = Lb) := by
        rw [ht.out, decide_eq_decide]
        by_cases hkn : k < n
        · have htf : t = false := by
            cases t with
            | false => rfl
            | true => exact absurd ⟨rfl, hkn⟩ hgo
          have h0 : ¬ (n = m ∧ La.take k = Lb.take k) := of_decide_eq_false (ht.out.symm.trans htf)
          constructor
          · intro h; exact absurd h h0
          · rintro rfl; exact absurd ⟨by rw [← HLA.out, ← HLB.out], rfl⟩ h0
        · obtain rfl : k = n := by omega
          rw [List.take_of_length_le (Nat.le_of_eq HLA.out)]
          constructor
          · rintro ⟨rfl, h⟩; rw [h, List.take_of_length_le (Nat.le_of_eq HLB.out)]
          · rintro rfl
            have hkm : k = m := by rw [← HLA.out, ← HLB.out]
            exact ⟨hkm, (List.take_of_length_le (Nat.le_of_eq HLA.out)).symm⟩
      have HE := Lib.hid hend
      clear hend ht
      by_cases hkn : k < n
      · obtain rfl : t = false := by
          cases t with
          | false => rfl
          | true => exact absurd ⟨rfl, hkn⟩ hgo
        go_wp2_with fail
        go_ret
        exact ⟨ret_bool HE.out, hBe⟩
      · cases t
        all_goals
          go_wp2_with fail
          go_ret
          exact ⟨ret_bool HE.out, hBe⟩
end Go.Proofs.Ytfcpjkofbejleaa

/-! swarfkit.EqualRanges; EqualOrders of equal orders; swarflaw06.huge. -/
namespace Go.Proofs.Ytfcpjkofbejleaa
open Go Go.RowKit
set_option maxRecDepth 100000 in
set_option maxHeartbeats 2000000 in
theorem equalRanges_any (A : Option Addr) (n c : Nat) (B : Option Addr) (m d : Nat) (La Lb : List (Int × Int)) (w : World) (hn : n ≤ 9000000000000000000) (hm : m ≤ 9000000000000000000) (hla : La.length = n) (hlb : Lb.length = m) (hA : Sl w w.heap.size 2 A (gnr La)) (hB : Sl w w.heap.size 2 B (gnr Lb)) :
    Calls Try.prog 35 #[.slice A n c, .slice B m d] w fun e w' => e = .returned (.bool (decide (La = Lb))) ∧ Below w.heap.size w w' := by
  have HLA := Lib.hid hla
  have HLB := Lib.hid hlb
  clear hla hlb
  go_enter Try.func35, Try.ntmps35
  go_wp2_with fail
  go_loopw [5, 6] (fun b i wr => ∃ (k : Nat) (t : Bool), k ≤ n ∧ i = .int .i64 k ∧ b = .bool t ∧ Hid (t = decide (n = m ∧ La.take k = Lb.take k)) ∧ Below w.heap.size w wr) (fun _ i _ => n - (intOf i).toNat)
  case atStart => exact ⟨0, _, by omega, rfl, rfl, by unfold Hid; by_cases h : n = m <;> simp [h]; omega, Below.refl _ _⟩
  case round =>
    obtain ⟨k, t, hk, rfl, rfl, ht, hBe⟩ := hrel
    by_cases hgo : t = true ∧ k < n
    · obtain ⟨rfl, hkn⟩ := hgo
      have htt := ht.out
      have hnm : n = m ∧ La.take k = Lb.take k := of_decide_eq_true htt.symm
      have HNM := Lib.hid hnm
      clear hnm
      have hkm : k < m := by have := HNM.out.1; omega
      clear htt ht
      have hka : k < La.length := by rw [HLA.out]; exact hkn
      have hkb : k < Lb.length := by rw [HLB.out]; omega
      obtain ⟨ad, rfl, hab, p0, p1⟩ := gnr_at (hA.below hBe) hka
      obtain ⟨bd, rfl, hbb, q0, q1⟩ := gnr_at (hB.below hBe) hkb
      have HTA := Lib.hid (List.take_succ_eq_append_getElem hka)
      have HTB := Lib.hid (List.take_succ_eq_append_getElem hkb)
      generalize La[k]'hka = x at *
      generalize Lb[k]'hkb = y at *
      clear hka hkb
      go_wp2_with fail
      refine AnyG.start (fun w' : World => Below wr.heap.size wr w') (fun i => true) (by kernel_rfl) ?_
      have hS : (fun w' : World => Below wr.heap.size wr w') (World.drew _) := (Below.refl _ _).drew
      refine AnyG.take (i := 0) (v := ?_) rfl (by kernel_rfl) (fun _ _ _ h => h) rfl ?_ hS ?_
      rotate_left
      · (intro w' _; go_simp; try with_reducible rfl)
      try simp only [Act.put, List.setIfInBounds_toArray, List.set_cons_zero, List.set_cons_succ]
      refine AnyG.take (i := 1) (v := ?_) rfl (by kernel_rfl) (fun _ _ _ h => h) rfl ?_ hS ?_
      rotate_left
      · (intro w' _; go_simp; try with_reducible rfl)
      try simp only [Act.put, List.setIfInBounds_toArray, List.set_cons_zero, List.set_cons_succ]
      refine AnyG.take (i := 2) (v := ?_) rfl (by kernel_rfl) (fun _ _ _ h => h) rfl ?_ hS ?_
      rotate_left
      · (intro w' _; go_simp; try with_reducible rfl)
      try simp only [Act.put, List.setIfInBounds_toArray, List.set_cons_zero, List.set_cons_succ]
      refine AnyG.take (i := 3) (v := ?_) rfl (by kernel_rfl) (fun _ _ _ h => h) rfl ?_ hS ?_
      rotate_left
      · (intro w' hSw; (try dsimp only at hSw); have p0 := cellC hSw p0; have p1 := cellC hSw p1; have q0 := cellC hSw q0; have q1 := cellC hSw q1; go_simp; try with_reducible rfl)
      try simp only [Act.put, List.setIfInBounds_toArray, List.set_cons_zero, List.set_cons_succ]
      refine AnyG.take (i := 4) (v := ?_) rfl (by kernel_rfl) (fun _ _ _ h => h) rfl ?_ hS ?_
      rotate_left
      · (intro w' _; go_simp; try with_reducible rfl)
      try simp only [Act.put, List.setIfInBounds_toArray, List.set_cons_zero, List.set_cons_succ]
      refine AnyG.take (i := 5) (v := ?_) rfl (by kernel_rfl) (fun _ _ _ h => h) rfl ?_ hS ?_
      rotate_left
      · (intro w' _; go_simp; try with_reducible rfl)
      try simp only [Act.put, List.setIfInBounds_toArray, List.set_cons_zero, List.set_cons_succ]
      refine AnyG.take (i := 6) (v := ?_) rfl (by kernel_rfl) (fun _ _ _ h => h) rfl ?_ hS ?_
      rotate_left
      · (intro w' _; go_simp; try with_reducible rfl)
      try simp only [Act.put, List.setIfInBounds_toArray, List.set_cons_zero, List.set_cons_succ]
      refine AnyG.take (i := 7) (v := ?_) rfl (by kernel_rfl) (fun _ _ _ h => h) rfl ?_ hS ?_
      rotate_left
      · (intro w' hSw; (try dsimp only at hSw); have p0 := cellC hSw p0; have p1 := cellC hSw p1; have q0 := cellC hSw q0; have q1 := cellC hSw q1; go_simp; try with_reducible rfl)
      try simp only [Act.put, List.setIfInBounds_toArray, List.set_cons_zero, List.set_cons_succ]
      refine AnyG.take (i := 8) (v := .bool (decide (x.1 = y.1 ∧ x.2 = y.2))) rfl (by kernel_rfl) (fun _ _ _ h => h) rfl ?_ hS ?_
      · (intro w' _; go_simp; by_cases h1 : x.1 = y.1 <;> by_cases h2 : x.2 = y.2 <;> simp [h1, h2])
      try simp only [Act.put, List.setIfInBounds_toArray, List.set_cons_zero, List.set_cons_succ]
      refine AnyG.take (i := 9) (v := ?_) rfl (by kernel_rfl) (fun _ _ _ h => h) rfl ?_ hS ?_
      rotate_left
      · (intro w' _; go_simp; try with_reducible rfl)
      try simp only [Act.put, List.setIfInBounds_toArray, List.set_cons_zero, List.set_cons_succ]
      refine AnyG.done (by kernel_rfl) ?_ _
      clear hS
      go_simp
      go_wp2_with fail
      go_roundw
      case rel =>
        refine ⟨k + 1, _, by omega, by go_num, rfl, ?_, hBe.drew⟩
        unfold Hid
        rw [HTA.out, HTB.out, HNM.out.2, ← Bool.decide_and, decide_eq_decide]
        constructor
        · rintro ⟨h1, h2⟩
          exact ⟨HNM.out.1, by rw [Prod.ext h1 h2]⟩
        · rintro ⟨_, h⟩
          have := (List.append_inj' h rfl).2
          simp only [List.cons.injEq, and_true] at this
          rw [this]; exact ⟨rfl, rfl⟩
      case measure => simp [intOf]; omega
    · have hend : t = decide (La = Lb) := by
        rw [ht.out, decide_eq_decide]
        by_cases hkn : k < n
        · have htf : t = false := by
            cases t with
            | false => rfl
            | true => exact absurd ⟨rfl, hkn⟩ hgo
          have h0 : ¬ (n = m ∧ La.take k = Lb.take k) := of_decide_eq_false (ht.out.symm.trans htf)
          constructor
          · intro h; exact absurd h h0
          · rintro rfl; exact absurd ⟨by rw [← HLA.out, ← HLB.out], rfl⟩ h0
        · obtain rfl : k = n := by omega
          rw [List.take_of_length_le (Nat.le_of_eq HLA.out)]
          constructor
          · rintro ⟨rfl, h⟩; rw [h, List.take_of_length_le (Nat.le_of_eq HLB.out)]
          · rintro rfl
            have hkm : k = m := by rw [← HLA.out, ← HLB.out]
            exact ⟨hkm, (List.take_of_length_le (Nat.le_of_eq HLA.out)).symm⟩
      have HE := Lib.hid hend
      clear hend ht
      by_cases hkn : k < n
      · obtain rfl : t = false := by
          cases t with
          | false => rfl
          | true => exact absurd ⟨rfl, hkn⟩ hgo
        go_wp2_with fail
        go_ret
        exact ⟨ret_bool HE.out, hBe⟩
      · cases t
        all_goals
          go_wp2_with fail
          go_ret
          exact ⟨ret_bool HE.out, hBe⟩
end Go.Proofs.Ytfcpjkofbejleaa
