/- swarfkit.Ints, Ranges, CopyOrder. -/
import Derived.Test.YtmemcopfeabcgaaSc
set_option linter.unusedSimpArgs false
set_option linter.unusedVariables false
namespace Go.Proofs.Ytmemcopfeabcgaa
open Go Go.RowKit
theorem flat_back {s : Nat} (hs0 : 0 < s) : ∀ (xs : List (List Value)) (_ : ∀ r ∈ xs, r.length = s) (j : Nat) (u : Value), xs.flatten[j]? = some u → ∃ k r i, j = k * s + i ∧ xs[k]? = some r ∧ r[i]? = some u
  | [], _, j, u, h => by simp at h
  | x :: xs, hs, j, u, h => by
    have hx := hs x (by simp)
    rw [List.flatten_cons] at h
    by_cases hj : j < s
    · rw [List.getElem?_append_left (by omega)] at h
      exact ⟨0, x, j, by omega, rfl, h⟩
    · rw [List.getElem?_append_right (by omega), hx] at h
      obtain ⟨k, r, i, e, h1, h2⟩ := flat_back hs0 xs (fun r hr => hs r (by simp [hr])) _ _ h
      exact ⟨k + 1, r, i, by rw [Nat.succ_mul]; omega, by simpa using h1, h2⟩
theorem Sl.cells {w : World} {B s : Nat} {a : Addr} {xs : List (List Value)} (h : Sl w B s (some a) xs) (hs0 : 0 < s) (hs : ∀ r ∈ xs, r.length = s) : ∀ j u, xs.flatten[j]? = some u → w.cell? (a.add j) = some u := by
  intro j u hu
  obtain ⟨k, r, i, rfl, h1, h2⟩ := flat_back hs0 xs hs j u hu
  obtain ⟨ad, e, _, h3⟩ := h k r h1
  simp only [Option.some.injEq] at e
  subst e
  have := h3 i u h2
  rwa [add_add] at this
theorem flat_len {s : Nat} : ∀ (xs : List (List Value)) (_ : ∀ r ∈ xs, r.length = s), xs.flatten.length = xs.length * s
  | [], _ => by simp
  | x :: xs, hs => by
    rw [List.flatten_cons, List.length_append, hs x (by simp), flat_len xs fun r hr => hs r (by simp [hr]), List.length_cons, Nat.succ_mul]; omega
set_option maxRecDepth 100000 in
set_option maxHeartbeats 1000000 in
theorem ints34_any (A : Option Addr) (n c : Nat) (L : List Int) (w : World) (hn : n ≤ 1000) (hl : L.length = n) (hA : Sl w w.heap.size 1 A (inr L)) :
    Calls Try.prog 34 #[.slice A n c] w fun e w' => (∃ A' c', e = .returned (.slice A' n c') ∧ w'.ownsRow w.heap.size 3 1 (.slice A' n c') n (inr L).flatten) ∧ Below w.heap.size w w' := by
  have HL := Lib.hid hl
  clear hl
  obtain ⟨i3, hi3, hz3, hs3, iy3⟩ := info_parts info3'
  have hb0 : Below w.heap.size w (w.alloc (.cells #[] 3)) := (Below.refl _ _).alloc (Nat.le_refl _) _
  have how := World.ownsRow_made (w := w) (base := w.heap.size) (e := 3) (size := 1) #[] 0 (Nat.le_refl _) (by unfold maxLen; omega) (by simp)
  have hE := Sl.below hA hb0
  cases A with
  | none =>
    have hn0 : n = 0 := by
      rcases Nat.eq_zero_or_pos n with h | h
      · exact h
      · obtain ⟨ad, h1, _⟩ := hA.at_ (k := 0) (by simp [inr]; rw [HL.out]; exact h)
        cases h1
    subst hn0
    go_enter Try.func34, Try.ntmps34
    go_wp2_with fail
    obtain rfl : L = [] := List.eq_nil_of_length_eq_zero HL.out
    go_ret
    exact ⟨⟨_, _, rfl, by simpa [inr] using how⟩, hb0⟩
  | some a =>
    have hcs := hE.cells (by decide) (inr_one L)
    have hfl : (inr L).flatten.length = n * 1 := by rw [flat_len _ (inr_one L)]; simp [inr, HL.out]
    have h1c : ∀ u ∈ (inr L).flatten, u.oneCell' = true := by
      intro u hu
      obtain ⟨r, hr, hu⟩ := List.mem_flatten.1 hu
      unfold inr at hr
      obtain ⟨x, _, rfl⟩ := List.mem_map.1 hr
      simp at hu
      rw [hu]; rfl
    obtain ⟨xs, hxs⟩ : ∃ x, (inr L).flatten = x := ⟨_, rfl⟩
    rw [hxs] at hcs hfl h1c ⊢
    clear hxs
    go_enter Try.func34, Try.ntmps34
    go_wp2_with (first
      | (at_builtin; refine wpList_append_own _ rfl (.tmp 3) (.tmp 4) 22 rfl w.heap.size 3 i3 _ 1 8 Try.underlying22 hi3 hz3 hs3 iy3 rfl (by decide) (.slice (some ⟨w.heap.size, 0, none⟩) 0 0) 0 [] rfl how a n c xs rfl hfl hcs h1c (by unfold maxLen; omega) (by omega) (by simp <;> omega) ?_; intro v' w' o1 o2 o3; obtain ⟨A', C', rfl⟩ := own_shape o1)
      | fail)
    have hB : Below w.heap.size w w' := hb0.grown o2 hb0.size (fun k e => by simp [Value.ownBlock] at e <;> omega)
    go_ret
    exact ⟨⟨_, _, rfl, by simpa using o1⟩, hB⟩
set_option maxRecDepth 100000 in
set_option maxHeartbeats 1000000 in
theorem ranges_any (A : Option Addr) (n c : Nat) (L : List (Int × Int)) (w : World) (hn : n ≤ 1000) (hl : L.length = n) (hA : Sl w w.heap.size 2 A (gnr L)) :
    Calls Try.prog 69 #[.slice A n c] w fun e w' => (∃ A' c', e = .returned (.slice A' n c') ∧ w'.ownsRow w.heap.size 39 2 (.slice A' n c') n (gnr L).flatten) ∧ Below w.heap.size w w' := by
  have HL := Lib.hid hl
  clear hl
  obtain ⟨i3, hi3, hz3, hs3, iy3⟩ := info_parts info39
  have hb0 : Below w.heap.size w (w.alloc (.cells #[] 39)) := (Below.refl _ _).alloc (Nat.le_refl _) _
  have how := World.ownsRow_made (w := w) (base := w.heap.size) (e := 39) (size := 2) #[] 0 (Nat.le_refl _) (by unfold maxLen; omega) (by simp)
  have hE := Sl.below hA hb0
  cases A with
  | none =>
    have hn0 : n = 0 := by
      rcases Nat.eq_zero_or_pos n with h | h
      · exact h
      · obtain ⟨ad, h1, _⟩ := hA.at_ (k := 0) (by simp [gnr]; rw [HL.out]; exact h)
        cases h1
    subst hn0
    go_enter Try.func69, Try.ntmps69
    go_wp2_with fail
    obtain rfl : L = [] := List.eq_nil_of_length_eq_zero HL.out
    go_ret
    exact ⟨⟨_, _, rfl, by simpa [gnr] using how⟩, hb0⟩
  | some a =>
    have hcs := hE.cells (by decide) (gnr_two L)
    have hfl : (gnr L).flatten.length = n * 2 := by rw [flat_len _ (gnr_two L)]; simp [gnr, HL.out]
    have h1c : ∀ u ∈ (gnr L).flatten, u.oneCell' = true := by
      intro u hu
      obtain ⟨r, hr, hu⟩ := List.mem_flatten.1 hu
      unfold gnr at hr
      obtain ⟨x, _, rfl⟩ := List.mem_map.1 hr
      simp at hu
      rcases hu with rfl | rfl <;> rfl
    obtain ⟨xs, hxs⟩ : ∃ x, (gnr L).flatten = x := ⟨_, rfl⟩
    rw [hxs] at hcs hfl h1c ⊢
    clear hxs
    go_enter Try.func69, Try.ntmps69
    go_wp2_with (first
      | (at_builtin; refine wpList_append_own _ rfl (.tmp 3) (.tmp 4) 40 rfl w.heap.size 39 i3 _ 2 16 Try.underlying40 hi3 hz3 hs3 iy3 rfl (by decide) (.slice (some ⟨w.heap.size, 0, none⟩) 0 0) 0 [] rfl how a n c xs rfl hfl hcs h1c (by unfold maxLen; omega) (by omega) (by simp <;> omega) ?_; intro v' w' o1 o2 o3; obtain ⟨A', C', rfl⟩ := own_shape o1)
      | fail)
    have hB : Below w.heap.size w w' := hb0.grown o2 hb0.size (fun k e => by simp [Value.ownBlock] at e <;> omega)
    go_ret
    exact ⟨⟨_, _, rfl, by simpa using o1⟩, hB⟩
/-- A copy of an order in the making. -/
structure CI (V : World) (lm : List Int) (bs : List Bn) (le mo : Int) (lv bv : Value) (rs : List (List Value)) (q : Nat) (wr : World) : Prop where
  k : Bx wr q 27 #[lv, .int .i64 le, .int .i64 mo, bv]
  ol : wr.ownsRow V.heap.size 3 1 lv lm.length (inr lm).flatten
  ob : wr.ownsRow V.heap.size 42 4 bv bs.length rs.flatten
  bo : BinsOwn wr V.heap.size rs bs
  hb : Below V.heap.size V wr
  hq : V.heap.size ≤ q
theorem BinsOwn.bel {w w' : World} {base : Nat} {rs : List (List Value)} {bs : List Bn} (h : BinsOwn w base rs bs) (hb : Below w.heap.size w w') : BinsOwn w' base rs bs :=
  ⟨h.len, fun j r b hr hb' => by obtain ⟨A, c, e, o⟩ := h.row j r b hr hb'; exact ⟨A, c, e, own_bel o hb⟩⟩
section
variable {V wr x : World} {lm : List Int} {bs : List Bn} {le mo : Int} {lv bv : Value} {rs : List (List Value)} {q : Nat}
theorem CI.bel (h : CI V lm bs le mo lv bv rs q wr) (k : Below wr.heap.size wr x) : CI V lm bs le mo lv bv rs q x :=
  ⟨h.k.call k, own_bel h.ol k, own_bel h.ob k, h.bo.bel k, h.hb.trans (k.mono h.hb.size), h.hq⟩
theorem CI.bin (h : CI V lm bs le mo lv bv rs q wr) {r : List Value} {b : Bn} {v' : Value} (k : wr.grownBy x bv.ownBlock) (o : x.ownsRow V.heap.size 42 4 v' (bs.length + 1) (rs.flatten ++ r)) (hr : GrRow wr V.heap.size r b) :
    CI V lm (bs ++ [b]) le mo lv v' (rs ++ [r]) q (x.setCell ⟨q, 3, none⟩ v') := by
  have k9' := h.k.grown k (own_bx h.ob h.k (by decide))
  refine ⟨?_, ?_, ?_, ?_, (h.hb.grown k h.hb.size (fun i e => (h.ob.lt i e).1)).setCell h.hq _, h.hq⟩
  · have := k9'.set_ 3 v'; simpa using this
  · have ol' := h.ol.kept k (own_ne h.ol h.ob (by decide))
    exact own_set ol' (own_bx ol' k9' (by decide)) v'
  · rw [List.length_append, rows_snoc]
    exact own_set o (own_bx o k9' (by decide)) v'
  · exact ((h.bo.snoc hr).own h.ob k (by decide)).set_ k9' (by decide) 3 v'
theorem CI.ord (h : CI V lm bs le mo lv bv rs q wr) {LA BA : Option Addr} {lc bc ln bn : Nat} (e1 : lv = .slice LA ln lc) (e2 : bv = .slice BA bn bc) (hl : lm.length = ln) (hb : bs.length = bn) : OrdAt wr wr.heap.size LA BA ⟨lm, le, mo, bs⟩ := by
  have ol := h.ol
  have ob := h.ob
  rw [hl, e1] at ol
  rw [hb, e2] at ob
  exact ⟨own_inr ol hl, h.bo.at_ ob hb⟩
end
set_option maxRecDepth 100000 in
set_option maxHeartbeats 8000000 in
theorem copyOrder_any (LA : Option Addr) (ln lc : Nat) (BA : Option Addr) (bn bc : Nat) (o : Od) (w : World) (hl : o.lm.length = ln) (hb' : o.bs.length = bn) (hA : OrdAt w w.heap.size LA BA o) (ho : o.Ok) :
    Calls Try.prog 31 #[.agg #[.slice LA ln lc, .int .i64 o.le, .int .i64 o.mo, .slice BA bn bc]] w fun e w' => ∃ (XA : Option Addr) (xc : Nat) (YA : Option Addr) (yc : Nat) (rs : List (List Value)), e = .returned (.agg #[.slice XA ln xc, .int .i64 o.le, .int .i64 o.mo, .slice YA bn yc]) ∧ w'.ownsRow w.heap.size 3 1 (.slice XA ln xc) ln (inr o.lm).flatten ∧ w'.ownsRow w.heap.size 42 4 (.slice YA bn yc) bn rs.flatten ∧ BinsOwn w' w.heap.size rs o.bs ∧ Below w.heap.size w w' := by
  obtain ⟨i42, hi42, hz42, hs42, iy42⟩ := info_parts info42
  have hln3 : ln ≤ 3 := by rw [← hl]; exact ho.lm
  have hbn4 : bn ≤ 4 := by rw [← hb']; exact ho.b2
  have k1 := ((Bx.new w 27 #[.slice LA ln lc, .int .i64 o.le, .int .i64 o.mo, .slice BA bn bc]).alloc (.cells #[.slice none 0 0, .int .i64 0, .int .i64 0, .slice none 0 0] 27)).alloc (.cells #[.slice LA ln lc, .int .i64 o.le, .int .i64 o.mo, .slice BA bn bc] 27)
  have k2 := (Bx.at (w.alloc (.cells #[.slice LA ln lc, .int .i64 o.le, .int .i64 o.mo, .slice BA bn bc] 27)) 27 #[.slice none 0 0, .int .i64 0, .int .i64 0, .slice none 0 0] (n := w.heap.size + 1) (by simp)).alloc (.cells #[.slice LA ln lc, .int .i64 o.le, .int .i64 o.mo, .slice BA bn bc] 27)
  have k3 := Bx.at ((w.alloc (.cells #[.slice LA ln lc, .int .i64 o.le, .int .i64 o.mo, .slice BA bn bc] 27)).alloc (.cells #[.slice none 0 0, .int .i64 0, .int .i64 0, .slice none 0 0] 27)) 27 #[.slice LA ln lc, .int .i64 o.le, .int .i64 o.mo, .slice BA bn bc] (n := w.heap.size + 1 + 1) (by simp)
  have B0 := (((Below.refl w.heap.size w).alloc (Nat.le_refl _) (.cells #[.slice LA ln lc, .int .i64 o.le, .int .i64 o.mo, .slice BA bn bc] 27)).alloc (by simp) (.cells #[.slice none 0 0, .int .i64 0, .int .i64 0, .slice none 0 0] 27)).alloc (by simp; omega) (.cells #[.slice LA ln lc, .int .i64 o.le, .int .i64 o.mo, .slice BA bn bc] 27)
  have HLN := Lib.hid hl
  have HBN := Lib.hid hb'
  have HOK := Lib.hid ho
  clear hl hb' ho
  go_enter Try.func31, Try.ntmps31
  go_upto_region 2 with fail
  obtain ⟨V, hV⟩ : ∃ V, ((w.alloc (.cells #[.slice LA ln lc, .int .i64 o.le, .int .i64 o.mo, .slice BA bn bc] 27)).alloc (.cells #[.slice none 0 0, .int .i64 0, .int .i64 0, .slice none 0 0] 27)).alloc (.cells #[.slice LA ln lc, .int .i64 o.le, .int .i64 o.mo, .slice BA bn bc] 27) = V := ⟨_, rfl⟩
  rw [hV] at k1 k2 k3 B0 ⊢
  clear hV
  have hAV := (hA.below B0).more B0.size
  obtain ⟨l0, l1, l2, l3, lf', lz⟩ := k1.four
  obtain ⟨q0, q1, q2, q3, qf, qz⟩ := k3.four
  go_upto_region 3 with (first
    | (go_at_call 34; refine (ints34_any LA ln lc o.lm _ (by omega) HLN.out hAV.lm).mono ?_; rintro e w1 ⟨⟨XA, xc, rfl, ox⟩, hb1⟩; replace k1 := k1.call hb1; replace k2 := k2.call hb1; replace k3 := k3.call hb1; have B1 := B0.trans (hb1.mono B0.size); clear l0 l1 l2 l3 lf' lz q0 q1 q2 q3 qf qz; obtain ⟨l0, l1, l2, l3, lf', lz⟩ := k1.four; obtain ⟨q0, q1, q2, q3, qf, qz⟩ := k3.four)
    | fail)
  clear l0 l1 l2 l3 lf' lz q0 q1 q2 q3 qf qz
  have z1 := k3.lt
  have hVs := B0.size
  have ox1 := ownsRow_up (b' := w.heap.size) ox (fun k e => Nat.le_trans hVs (ox.lt k e).1)
  have ox2 := own_set (own_set ox1 (own_bx ox1 k3 (by decide)) (o := 0) (.slice XA ln xc)) (own_bx ox1 k3 (by decide)) (o := 3) (.slice none 0 0)
  have k3' := (k3.set_ 0 (.slice XA ln xc)).set_ 3 (.slice none 0 0)
  have k1' := (k1.far (p := ⟨w.heap.size + 1 + 1, 0, none⟩) (by simp; try omega) (.slice XA ln xc)).far (p := ⟨w.heap.size + 1 + 1, 3, none⟩) (by simp; try omega) (.slice none 0 0)
  have k2' := (k2.far (p := ⟨w.heap.size + 1 + 1, 0, none⟩) (by simp; try omega) (.slice XA ln xc)).far (p := ⟨w.heap.size + 1 + 1, 3, none⟩) (by simp; try omega) (.slice none 0 0)
  have B2 := (B1.setCell (p := ⟨w.heap.size + 1 + 1, 0, none⟩) (by simp; try omega) (.slice XA ln xc)).setCell (p := ⟨w.heap.size + 1 + 1, 3, none⟩) (by simp; try omega) (.slice none 0 0)
  obtain ⟨X, hX⟩ : ∃ X, (w1.setCell ⟨w.heap.size + 1 + 1, 0, none⟩ (.slice XA ln xc)).setCell ⟨w.heap.size + 1 + 1, 3, none⟩ (.slice none 0 0) = X := ⟨_, rfl⟩
  rw [hX] at ox2 k1' k2' k3' B2 ⊢
  have C0 : CI w o.lm [] o.le o.mo (.slice XA ln xc) (.slice none 0 0) [] (w.heap.size + 1 + 1) X := ⟨by simpa using k3', by rw [HLN.out]; exact ox2, World.ownsRow_nil _ _ _ _, .nil _ _, B2, by omega⟩
  clear hX ox ox1 ox2 k1 k2 k3 k3' B2 B1 B0 hb1 z1 hVs hAV
  go_wp2_with fail
  go_loopw [4] (fun v wr => ∃ (i : Nat) (bv : Value) (rs : List (List Value)), v = .int .i64 i ∧ i ≤ bn ∧ CI w o.lm (o.bs.take i) o.le o.mo (.slice XA ln xc) bv rs (w.heap.size + 1 + 1) wr ∧ Bx wr w.heap.size 27 #[.slice LA ln lc, .int .i64 o.le, .int .i64 o.mo, .slice BA bn bc] ∧ Bx wr (w.heap.size + 1) 27 #[.slice none 0 0, .int .i64 0, .int .i64 0, .slice none 0 0]) (fun v _ => bn - (intOf v).toNat)
  case atStart => exact ⟨0, .slice none 0 0, [], rfl, by omega, by simpa using C0, k1', k2'⟩
  case round =>
    clear C0 k1' k2'
    obtain ⟨i, bv, rs, rfl, hi, C, k1, k2⟩ := hrel
    obtain ⟨YA, yc, rfl⟩ := own_shape C.ob
    obtain ⟨l0, l1, l2, l3, lf', lz⟩ := k1.four
    by_cases hin : i < bn
    · have hil : i < o.bs.length := by rw [HBN.out]; exact hin
      have hti : (o.bs.take i).length = i := by simp; omega
      have hbo := HOK.out.bs _ (List.getElem_mem hil)
      obtain ⟨ad, G, gc, rfl, -, p0, p1, p2, p3, hgs⟩ := (hA.call C.hb).bs.at_ hil
      obtain ⟨b, hb⟩ : ∃ b, o.bs[i] = b := ⟨_, rfl⟩
      rw [hb] at p0 p1 p2 p3 hgs hbo
      have hgl := hbo.len
      rw [HLN.out] at hgl
      rw [hgl] at p0
      have HBI := Lib.hid hb
      have HGL := Lib.hid hgl
      have HTI := Lib.hid hti
      have hjw : IntKind.i64.wrap ((i : Int) + 1) = (i : Int) + 1 := IntWalk.i64_in _ (by omega)
      clear hb hbo hgl
      rw [hti] at C
      go_upto_region 7 with fail
      clear l0 l1 l2 l3 lf' lz p0 p1 p2 p3
      obtain ⟨wt, hwt⟩ : ∃ x, b.w = x := ⟨_, rfl⟩
      obtain ⟨ct, hct⟩ : ∃ x, b.c = x := ⟨_, rfl⟩
      obtain ⟨gt, hgt⟩ : ∃ x, b.g = x := ⟨_, rfl⟩
      rw [hwt, hct, hgt]
      have HW := Lib.hid (And.intro hwt (And.intro hct hgt))
      clear hwt hct hgt
      have hk := Bx.new wr 42 #[.slice G ln gc, .int .i64 wt, .int .i64 ct, .int .i64 gt]
      have C1 := C.bel ((Below.refl _ _).alloc (Nat.le_refl _) (.cells #[.slice G ln gc, .int .i64 wt, .int .i64 ct, .int .i64 gt] 42))
      have hg1 := hgs.call ((Below.refl _ _).alloc (Nat.le_refl _) (.cells #[.slice G ln gc, .int .i64 wt, .int .i64 ct, .int .i64 gt] 42))
      have k11 := k1.alloc (.cells #[.slice G ln gc, .int .i64 wt, .int .i64 ct, .int .i64 gt] 42)
      have k21 := k2.alloc (.cells #[.slice G ln gc, .int .i64 wt, .int .i64 ct, .int .i64 gt] 42)
      have hwp : w.heap.size ≤ wr.heap.size := C.hb.size
      obtain ⟨Y, hY⟩ : ∃ Y, wr.alloc (.cells #[.slice G ln gc, .int .i64 wt, .int .i64 ct, .int .i64 gt] 42) = Y := ⟨_, rfl⟩
      rw [hY] at hk C1 hg1 k11 k21 ⊢
      have hq3 := C.k.lt
      obtain ⟨p, hp⟩ : ∃ p, wr.heap.size = p := ⟨_, rfl⟩
      have hpo : some p ≠ (Value.slice YA i yc).ownBlock := fun h => by have := (C.ob.lt _ h.symm).2; omega
      rw [hp] at hk hwp hq3 ⊢
      clear hY hp C k1 k2 hgs
      obtain ⟨b0, b1, b2, b3, bf, bz⟩ := hk.four
      go_upto_region 8 with (first
        | (go_at_call 69; refine (ranges_any G ln gc b.gr _ (by omega) HGL.out hg1).mono ?_; rintro e y2 ⟨⟨RA, rc, rfl, og⟩, hq⟩; replace hk := hk.call hq; clear b0 b1 b2 b3 bf bz; obtain ⟨b0, b1, b2, b3, bf, bz⟩ := hk.four)
        | fail)
      clear b0 b1 b2 b3 bf bz
      have C2 := C1.bel hq
      have k12 := (k11.call hq).far (p := ⟨p, 0, none⟩) (by simp; omega) (.slice RA ln rc)
      have k22 := (k21.call hq).far (p := ⟨p, 0, none⟩) (by simp; omega) (.slice RA ln rc)
      have hy1 := C1.hb.size
      have og1 := ownsRow_up (b' := w.heap.size) og (fun k e => Nat.le_trans hy1 (og.lt k e).1)
      have og2 := own_set og1 (own_bx og1 hk (by decide)) (o := 0) (.slice RA ln rc)
      have C3 : CI w o.lm (o.bs.take i) o.le o.mo (.slice XA ln xc) (.slice YA i yc) rs (w.heap.size + 1 + 1) (y2.setCell ⟨p, 0, none⟩ (.slice RA ln rc)) := by
        exact ⟨C2.k.far (by simp; omega) _, own_set C2.ol (own_bx C2.ol hk (by decide)) _, own_set C2.ob hpo _, C2.bo.set_ hk (by decide) 0 _, C2.hb.setCell hwp _, C2.hq⟩
      have hk2 : Bx (y2.setCell ⟨p, 0, none⟩ (.slice RA ln rc)) p 42 #[.slice RA ln rc, .int .i64 wt, .int .i64 ct, .int .i64 gt] := by simpa using hk.set_ 0 (.slice RA ln rc)
      obtain ⟨Z, hZ⟩ : ∃ Z, y2.setCell ⟨p, 0, none⟩ (.slice RA ln rc) = Z := ⟨_, rfl⟩
      rw [hZ] at C3 hk2 og2 k12 k22 ⊢
      clear hZ C1 C2 hk og og1 hq k11 k21 hg1 hy1 hq3
      have kb := Bx.new Z 42 #[.slice RA ln rc, .int .i64 wt, .int .i64 ct, .int .i64 gt]
      have C4 := C3.bel ((Below.refl _ _).alloc (Nat.le_refl _) (.cells #[.slice RA ln rc, .int .i64 wt, .int .i64 ct, .int .i64 gt] 42))
      have og4 := og2.alloc (.cells #[.slice RA ln rc, .int .i64 wt, .int .i64 ct, .int .i64 gt] 42)
      have k14 := k12.alloc (.cells #[.slice RA ln rc, .int .i64 wt, .int .i64 ct, .int .i64 gt] 42)
      have k24 := k22.alloc (.cells #[.slice RA ln rc, .int .i64 wt, .int .i64 ct, .int .i64 gt] 42)
      have OB := C4.ob
      rw [HTI.out] at OB
      have hCs := C4.hb.size
      obtain ⟨b0, b1, b2, b3, bf, bz⟩ := hk2.four
      obtain ⟨q0, q1, q2, q3, qf, qz⟩ := C3.k.four
      go_wp2_with (first
        | (at_builtin; refine wpList_app2 rfl (.tmp 29) (.tmp 31) 25 rfl w.heap.size 42 i42 _ 4 48 Try.underlying25 hi42 hz42 hs42 iy42 rfl (by decide) (.slice YA i yc) i rs.flatten rfl OB ⟨Z.heap.size, 0, none⟩ 1 1 [.slice RA ln rc, .int .i64 wt, .int .i64 ct, .int .i64 gt] rfl rfl (bx_news kb) (by simp [Value.oneCell']) (by unfold maxLen; omega) (by omega) hCs ?_; intro v' w' o1 o2 o3; obtain ⟨NA, NC, rfl⟩ := own_shape o1; have k3' := C4.k.grown o2 (own_bx OB C4.k (by decide)); clear q0 q1 q2 q3 qf qz; obtain ⟨q0, q1, q2, q3, qf, qz⟩ := k3'.four)
        | fail)
      go_roundw
      case rel =>
        have gr : GrRow (Z.alloc (.cells #[.slice RA ln rc, .int .i64 wt, .int .i64 ct, .int .i64 gt] 42)) w.heap.size [.slice RA ln rc, .int .i64 wt, .int .i64 ct, .int .i64 gt] b := ⟨RA, rc, by rw [HGL.out, HW.out.1, HW.out.2.1, HW.out.2.2], by rw [HGL.out]; exact og4⟩
        have C5 := C4.bin o2 (by rw [HTI.out]; exact o1) gr
        have e : o.bs.take (i + 1) = o.bs.take i ++ [b] := by rw [List.take_add_one, List.getElem?_eq_getElem hil, HBI.out]; rfl
        refine ⟨i + 1, .slice NA (i + 1) NC, rs ++ [[.slice RA ln rc, .int .i64 wt, .int .i64 ct, .int .i64 gt]], by go_num, by omega, by rw [e]; exact C5, ?_, ?_⟩
        · exact (k14.grown o2 (own_bx OB k14 (by decide))).far (by simp; try omega) _
        · exact (k24.grown o2 (own_bx OB k24 (by decide))).far (by simp; try omega) _
      case measure => simp [intOf]; omega
    · obtain rfl : i = bn := by omega
      have ht : o.bs.take i = o.bs := List.take_of_length_le (by rw [HBN.out]; exact Nat.le_refl _)
      rw [ht, HBN.out] at C
      obtain ⟨n0, n1, n2, n3, nf, nz⟩ := k2.four
      obtain ⟨q0, q1, q2, q3, qf, qz⟩ := C.k.four
      have HC := Lib.hid C
      clear C ht
      go_wp2_with fail
      have C := HC.out
      have ol := C.ol
      have ob := C.ob
      rw [HLN.out] at ol
      rw [HBN.out] at ob
      have s1 := k2.set_ 0 (.slice XA ln xc)
      have s2 := s1.set_ 1 (.int .i64 o.le)
      have s3 := s2.set_ 2 (.int .i64 o.mo)
      have s4 := s3.set_ 3 (.slice YA i yc)
      have ol1 := own_set ol (own_bx ol k2 (by decide)) (o := 0) (.slice XA ln xc)
      have ol2 := own_set ol1 (own_bx ol1 s1 (by decide)) (o := 1) (.int .i64 o.le)
      have ol3 := own_set ol2 (own_bx ol2 s2 (by decide)) (o := 2) (.int .i64 o.mo)
      have ol4 := own_set ol3 (own_bx ol3 s3 (by decide)) (o := 3) (.slice YA i yc)
      have ob1 := own_set ob (own_bx ob k2 (by decide)) (o := 0) (.slice XA ln xc)
      have ob2 := own_set ob1 (own_bx ob1 s1 (by decide)) (o := 1) (.int .i64 o.le)
      have ob3 := own_set ob2 (own_bx ob2 s2 (by decide)) (o := 2) (.int .i64 o.mo)
      have ob4 := own_set ob3 (own_bx ob3 s3 (by decide)) (o := 3) (.slice YA i yc)
      have bo4 := (((C.bo.set_ k2 (by decide) 0 (.slice XA ln xc)).set_ s1 (by decide) 1 (.int .i64 o.le)).set_ s2 (by decide) 2 (.int .i64 o.mo)).set_ s3 (by decide) 3 (.slice YA i yc)
      have hb4 := (((C.hb.setCell (p := ⟨w.heap.size + 1, 0, none⟩) (by simp) (.slice XA ln xc)).setCell (p := ⟨w.heap.size + 1, 1, none⟩) (by simp) (.int .i64 o.le)).setCell (p := ⟨w.heap.size + 1, 2, none⟩) (by simp) (.int .i64 o.mo)).setCell (p := ⟨w.heap.size + 1, 3, none⟩) (by simp) (.slice YA i yc)
      refine bodyPost_ret (v := .agg #[.slice XA ln xc, .int .i64 o.le, .int .i64 o.mo, .slice YA i yc]) (results_row1 (g := w.heap.size + 1) (t := 27) rfl rfl (by simpa using s4) Try.underlying27 rfl (by kernel_rfl)) rfl ⟨XA, xc, YA, yc, rs, rfl, ol4, ob4, bo4, hb4⟩
end Go.Proofs.Ytmemcopfeabcgaa
