/- MeltScaled. -/
import Derived.Test.YtmemcopfeabcgaaCo
set_option linter.unusedSimpArgs false
set_option linter.unusedVariables false
namespace Go.Proofs.Ytmemcopfeabcgaa
open Go Go.RowKit
theorem flatten_set {s : Nat} : ∀ (xs : List (List Value)) (_ : ∀ r ∈ xs, r.length = s) (i j : Nat) (r : List Value) (u : Value), xs[i]? = some r → j < s → xs.flatten.set (i * s + j) u = (xs.set i (r.set j u)).flatten
  | [], _, i, j, r, u, h, _ => by simp at h
  | x :: xs, hs, 0, j, r, u, h, hj => by
    obtain rfl : x = r := by simpa using h
    have hx := hs x (by simp)
    rw [List.flatten_cons, Nat.zero_mul, Nat.zero_add, List.set_append_left _ _ (by omega)]
    simp
  | x :: xs, hs, i + 1, j, r, u, h, hj => by
    have hx := hs x (by simp)
    have h' : xs[i]? = some r := by simpa using h
    rw [List.flatten_cons, List.set_append_right _ _ (by rw [hx, Nat.succ_mul]; omega), hx, show (i + 1) * s + j - s = i * s + j by rw [Nat.succ_mul]; omega, flatten_set xs (fun r hr => hs r (by simp [hr])) i j r u h' hj]
    simp
/-- A store into a row of one's own. -/
theorem own_store {w : World} {b : Nat} {e : TypeId} {s q n cap : Nat} {xs : List Value} (h : w.ownsRow b e s (.slice (some ⟨q, 0, none⟩) n cap) n xs) (j : Nat) (u : Value) (hj : j < n * s) : (w.setCell ⟨q, j, none⟩ u).ownsRow b e s (.slice (some ⟨q, 0, none⟩) n cap) n (xs.set j u) := by
  refine ⟨by rw [List.length_set]; exact h.1, ?_⟩
  rcases h.2 with ⟨h1, _⟩ | ⟨g, c, cur, h1, hb, hg, hc, hm, hs, ht⟩
  · simp at h1
  · simp only [Value.slice.injEq, Option.some.injEq, Addr.mk.injEq, and_true, true_and] at h1
    obtain ⟨rfl, rfl⟩ := h1
    have k : Bx (w.setCell ⟨q, j, none⟩ u) q e (cur.setIfInBounds j u) := Bx.set_ (show Bx w q e cur from hg) j u
    refine .inr ⟨q, cap, _, rfl, hb, k, hc, hm, by simpa using hs, ?_⟩
    rw [Array.toList_setIfInBounds, ← ht, ← List.take_set]
section
variable {V wr : World} {lm : List Int} {bs : List Bn} {le mo : Int} {lv bv : Value} {rs : List (List Value)} {q : Nat}
theorem CI.num (h : CI V lm bs le mo lv bv rs q wr) (i : Nat) (z le' mo' : Int) (hi : (#[lv, .int .i64 le, .int .i64 mo, bv] : Array Value).setIfInBounds i (.int .i64 z) = #[lv, .int .i64 le', .int .i64 mo', bv]) : CI V lm bs le' mo' lv bv rs q (wr.setCell ⟨q, i, none⟩ (.int .i64 z)) := by
  refine ⟨?_, own_set h.ol (own_bx h.ol h.k (by decide)) _, own_set h.ob (own_bx h.ob h.k (by decide)) _, h.bo.set_ h.k (by decide) i _, h.hb.setCell h.hq _, h.hq⟩
  have := h.k.set_ i (.int .i64 z)
  rw [hi] at this
  exact this
/-- A bin's number set in a row of one's own. -/
theorem CI.cell {yq n c : Nat} (h : CI V lm bs le mo lv (.slice (some ⟨yq, 0, none⟩) n c) rs q wr) (hn : bs.length = n) {i : Nat} {b b' : Bn} (hb : bs[i]? = some b) (o : Nat) (ho : o < 4) (z : Int) (hg : b'.gr = b.gr) (hrow : ∀ A C, ([.slice A b.gr.length C, .int .i64 b.w, .int .i64 b.c, .int .i64 b.g] : List Value).set o (.int .i64 z) = [.slice A b'.gr.length C, .int .i64 b'.w, .int .i64 b'.c, .int .i64 b'.g]) :
    ∃ rs', CI V lm (bs.set i b') le mo lv (.slice (some ⟨yq, 0, none⟩) n c) rs' q (wr.setCell ⟨yq, i * 4 + o, none⟩ (.int .i64 z)) := by
  subst hn
  have hib : i < bs.length := (List.getElem?_eq_some_iff.1 hb).1
  have hir : i < rs.length := by rw [h.bo.len]; exact hib
  obtain ⟨A, C, hr, og⟩ := h.bo.row i rs[i] b (List.getElem?_eq_getElem hir) hb
  refine ⟨rs.set i (rs[i].set o (.int .i64 z)), h.k.far (fun e => own_bx h.ob h.k (by decide) (by rw [e]; rfl)) _, own_set h.ol (fun e => by
      rcases own_ne h.ob h.ol (by decide) with e2 | e2
      · simp [Value.ownBlock] at e2
      · exact e2 e) _, ?_, ⟨by simp [h.bo.len], fun j r b2 h1 h2 => ?_⟩, h.hb.setCell (h.ob.lt yq rfl).1 _, h.hq⟩
  · rw [List.length_set, ← flatten_set rs h.bo.four i o rs[i] _ (List.getElem?_eq_getElem hir) ho]
    exact own_store h.ob (i * 4 + o) _ (by omega)
  · have keep : ∀ {v : Value} {n : Nat} {xs : List Value}, wr.ownsRow V.heap.size 39 2 v n xs → (wr.setCell ⟨yq, i * 4 + o, none⟩ (.int .i64 z)).ownsRow V.heap.size 39 2 v n xs := fun ho' => own_set ho' (fun e => by
      rcases own_ne h.ob ho' (by decide) with e2 | e2
      · simp [Value.ownBlock] at e2
      · exact e2 e) _
    by_cases hj : j = i
    · subst hj
      rw [List.getElem?_set_self hir] at h1
      rw [List.getElem?_set_self hib] at h2
      simp only [Option.some.injEq] at h1 h2
      subst h1 h2
      refine ⟨A, C, by rw [hr]; exact hrow A C, ?_⟩
      rw [hg]
      exact keep og
    · rw [List.getElem?_set_ne (Ne.symm hj)] at h1 h2
      obtain ⟨A2, C2, e2, o2⟩ := h.bo.row j r b2 h1 h2
      exact ⟨A2, C2, e2, keep o2⟩
theorem CI.at_ {yq n c : Nat} (h : CI V lm bs le mo lv (.slice (some ⟨yq, 0, none⟩) n c) rs q wr) (hn : bs.length = n) {i : Nat} {b : Bn} (hb : bs[i]? = some b) :
    ∃ (G : Option Addr) (gc : Nat), wr.cell? ⟨yq, i * 4, none⟩ = some (.slice G b.gr.length gc) ∧ wr.cell? ⟨yq, i * 4 + 1, none⟩ = some (.int .i64 b.w) ∧ wr.cell? ⟨yq, i * 4 + 2, none⟩ = some (.int .i64 b.c) ∧ wr.cell? ⟨yq, i * 4 + 3, none⟩ = some (.int .i64 b.g) := by
  have hib : i < bs.length := (List.getElem?_eq_some_iff.1 hb).1
  have ob := h.ob
  rw [hn] at ob
  obtain ⟨ad, G, gc, e, _, p0, p1, p2, p3, _⟩ := (h.bo.at_ ob hn).at_ hib
  simp only [Option.some.injEq] at e
  subst e
  have e : (⟨yq, 0, none⟩ : Addr).add (i * 4) = ⟨yq, i * 4, none⟩ := by unfold Addr.add; split <;> simp_all
  rw [e] at p0 p1 p2 p3
  rw [List.getElem?_eq_getElem hib] at hb
  rw [Option.some.inj hb] at p0 p1 p2 p3
  exact ⟨G, gc, p0, p1, p2, p3⟩
end
/-- The bins before i are scaled. -/
structure Half (k : Int) (bs bs' : List Bn) (i : Nat) : Prop where
  len : bs'.length = bs.length
  row : ∀ (j : Nat) (b : Bn), bs[j]? = some b → bs'[j]? = some (if j < i then b.scale k else b)
theorem Half.start (k : Int) (bs : List Bn) : Half k bs bs 0 := ⟨rfl, fun j b h => by rw [if_neg (by omega)]; exact h⟩
theorem Half.step {k : Int} {bs bs' : List Bn} {i : Nat} {b : Bn} (h : Half k bs bs' i) (hb : bs[i]? = some b) : Half k bs (bs'.set i (b.scale k)) (i + 1) := by
  have hi : i < bs'.length := by rw [h.len]; exact (List.getElem?_eq_some_iff.1 hb).1
  refine ⟨by rw [List.length_set]; exact h.len, fun j c hc => ?_⟩
  by_cases e : j = i
  · subst e
    rw [List.getElem?_set_self hi, if_pos (by omega)]
    rw [hb] at hc
    rw [Option.some.inj hc]
  · rw [List.getElem?_set_ne (Ne.symm e), h.row j c hc]
    by_cases e2 : j < i
    · rw [if_pos e2, if_pos (by omega)]
    · rw [if_neg e2, if_neg (by omega)]
theorem Half.done {k : Int} {bs bs' : List Bn} (h : Half k bs bs' bs.length) : bs' = bs.map (Bn.scale k) := by
  refine List.ext_getElem? fun j => ?_
  rw [List.getElem?_map]
  cases e : bs[j]? with
  | none => rw [List.getElem?_eq_none (by rw [h.len]; exact List.getElem?_eq_none_iff.1 e)]; rfl
  | some b => rw [h.row j b e, if_pos (List.getElem?_eq_some_iff.1 e).1]; rfl
theorem scale_blend {o : Od} {k : Int} {L : List Int} (ho : (o.scale k).Ok) (h : ckBl o L = 0) : ckBl (o.scale k) L = 0 := by
  have h1 := ckBl_zero h
  refine ckBl_ok ho (by rw [scale_len]; exact h1.len) fun j hj => ?_
  have hg : ((o.scale k).bn j).g = (o.bn j).g := by rw [scale_bn]; rfl
  rw [hg]
  rcases h1.in_ j with h2 | ⟨_, h3, h4⟩
  · unfold lf at h2
    rw [h2]
    rw [scale_len] at hj
    exact ⟨Int.le_refl _, (h1.ok.bn hj).g1⟩
  · exact ⟨h3, h4⟩
theorem rowOf_congr {d d' : Nat → Int} {n : Nat} (hn : n ≤ 4) (h : ∀ i, i < 4 → d i = d' i) : rowOf d n = rowOf d' n := by
  unfold rowOf
  refine List.map_congr_left fun i hi => ?_
  exact h i (by have := List.mem_range.1 hi; omega)
theorem cheap_row {w : World} {b q C n : Nat} {d : Nat → Int} (h : w.ownsRow b 3 1 (.slice (some ⟨q, 0, none⟩) n C) n (ivs n d)) : Sl w w.heap.size 1 (some ⟨q, 0, none⟩) (inr (rowOf d n)) := by
  rw [ivs_inr] at h
  exact own_inr h (rowOf_len _ _)
set_option maxRecDepth 100000 in
set_option maxHeartbeats 8000000 in
theorem meltScaled_run (A : Option Addr) (n c : Nat) (L : List Int) (w : World) (hn : n ≤ 9000000000000000000) (hl : L.length = n) (hA : Sl w w.heap.size 1 A (ints L)) : Calls Try.prog 9 #[.slice A n c] w fun e w' => e = .returned (.bool true) ∧ Below w.heap.size w w' := by
  have HL := Lib.hid hl
  clear hl
  obtain ⟨i3, hi3, hz3, hs3, iy3⟩ := info_parts info3'
  obtain ⟨i22, hi22, hz22, hs22, iy22⟩ := info_parts info22
  go_enter Try.func9, Try.ntmps9
  go_upto_region 3 with (first
    | (go_at_call 13; refine (feedOf_any A n c L _ hn HL.out hA).mono ?_; rintro e w1 ⟨⟨g, rfl, hg0, hfd⟩, hb1⟩)
    | (go_at_call 14; refine (orderOf_any g 3 2 4 _ hfd (by omega) (by omega) (by omega) (by omega) (by omega) (by omega)).mono ?_; rintro e w2 ⟨o, LA, BA, lc, bc, rfl, hsm, hO0, hfd2, hgr2⟩)
    | fail)
  have hok := hsm.ok (by omega) (by omega) (by omega)
  have HSM := Lib.hid hsm
  obtain ⟨ln, hln⟩ : ∃ k, o.lm.length = k := ⟨_, rfl⟩
  obtain ⟨bn, hbn⟩ : ∃ k, o.bs.length = k := ⟨_, rfl⟩
  have hln3 : ln ≤ 3 := by rw [← hln]; exact hok.lm
  have hbn4 : bn ≤ 4 := by rw [← hbn]; exact hok.b2
  have hbn1 : 1 ≤ bn := by rw [← hbn]; exact hok.b1
  rw [hln, hbn]
  have hBw : Below w.heap.size w w2 := hb1.grown hgr2 hb1.size (fun k e => by cases e; exact hg0)
  have B1 := (Below.refl w2.heap.size w2).alloc (Nat.le_refl _) (.cells #[.slice LA ln lc, .int .i64 o.le, .int .i64 o.mo, .slice BA bn bc] 27)
  have kO := Bx.new w2 27 #[.slice LA ln lc, .int .i64 o.le, .int .i64 o.mo, .slice BA bn bc]
  have hO := hO0.call B1
  have hF := hfd2.alloc (.cells #[.slice LA ln lc, .int .i64 o.le, .int .i64 o.mo, .slice BA bn bc] 27)
  have hB := hBw.alloc hBw.size (.cells #[.slice LA ln lc, .int .i64 o.le, .int .i64 o.mo, .slice BA bn bc] 27)
  have hgl := hfd2.lt
  obtain ⟨V1, hV⟩ : ∃ V, w2.alloc (.cells #[.slice LA ln lc, .int .i64 o.le, .int .i64 o.mo, .slice BA bn bc] 27) = V := ⟨_, rfl⟩
  rw [hV] at kO hO hF hB ⊢
  obtain ⟨bO, hbO⟩ : ∃ b, w2.heap.size = b := ⟨_, rfl⟩
  rw [hbO] at kO ⊢
  have hgO : bO ≠ g := by omega
  have HLN := Lib.hid hln
  have HBN := Lib.hid hbn
  have HOK := Lib.hid hok
  have hwg := hg0
  clear hV hbO B1 hO0 hfd2 hgr2 hb1 hfd hln hbn hok hBw hsm hgl
  obtain ⟨l0, l1, l2, l3, lf', lz⟩ := kO.four
  go_upto_region 4 with (first
    | (go_at_call 32; refine (between_any g 1 100 _ hF (by omega) (by omega) (by omega) (by omega)).mono ?_; rintro e Y ⟨⟨k, rfl, hk1, hk2⟩, hFY, hgY⟩)
    | fail)
  replace hk2 : k ≤ 100 := by omega
  have kOY := kO.grown hgY (by simpa using hgO)
  have hOY := FT.ord ⟨hgY, hFY⟩ hF hO
  have hBY := hB.grown hgY hB.size (fun k e => by cases e; exact hwg)
  clear l0 l1 l2 l3 lf' lz kO hO hB hF hgY
  obtain ⟨l0, l1, l2, l3, lf', lz⟩ := kOY.four
  go_upto_region 5 with (first
    | (go_at_call 31; refine (copyOrder_any LA ln lc BA bn bc o _ HLN.out HBN.out hOY HOK.out).mono ?_; rintro e y5 ⟨XA, xc, YA, yc, rs, rfl, ox, oy, bo, hq⟩)
    | fail)
  clear l0 l1 l2 l3 lf' lz
  obtain ⟨yq, rfl⟩ := own_some oy (by omega)
  have C0 : CI Y o.lm o.bs o.le o.mo (.slice XA ln xc) (.slice (some ⟨yq, 0, none⟩) bn yc) rs y5.heap.size (y5.alloc (.cells #[.slice XA ln xc, .int .i64 o.le, .int .i64 o.mo, .slice (some ⟨yq, 0, none⟩) bn yc] 27)) :=
    ⟨Bx.new _ _ _, by rw [HLN.out]; exact ox.alloc _, by rw [HBN.out]; exact oy.alloc _, bo.bel ((Below.refl _ _).alloc (Nat.le_refl _) _), hq.alloc hq.size _, hq.size⟩
  obtain ⟨X, hX⟩ : ∃ X, y5.alloc (.cells #[.slice XA ln xc, .int .i64 o.le, .int .i64 o.mo, .slice (some ⟨yq, 0, none⟩) bn yc] 27) = X := ⟨_, rfl⟩
  rw [hX] at C0 ⊢
  obtain ⟨q, hqq⟩ : ∃ q, y5.heap.size = q := ⟨_, rfl⟩
  rw [hqq] at C0 ⊢
  clear hX hqq ox oy bo hq
  have hs0 := HSM.out.le0
  have hs1 := HSM.out.lem
  have hs2 := HSM.out.mo
  have e1 := mul_bd hs0 (show o.le ≤ 1000 by omega) (show (0 : Int) ≤ k by omega) hk2
  have e2 := mul_bd (show 0 ≤ o.mo by omega) hs2 (show (0 : Int) ≤ k by omega) hk2
  obtain ⟨lk, hlk⟩ : ∃ x, o.le * k = x := ⟨_, rfl⟩
  obtain ⟨mk, hmk⟩ : ∃ x, o.mo * k = x := ⟨_, rfl⟩
  rw [hlk] at e1
  rw [hmk] at e2
  have hw1 : IntKind.i64.wrap lk = lk := IntWalk.i64_in _ (by omega)
  have hw2 : IntKind.i64.wrap mk = mk := IntWalk.i64_in _ (by omega)
  obtain ⟨q0, q1, q2, q3, qf, qz⟩ := C0.k.four
  have HC0 := Lib.hid C0
  clear C0
  go_upto_region 6 with fail
  clear q0 q1 q2 q3 qf qz
  have C1 := (HC0.out.num 1 lk lk o.mo (by simp)).num 2 mk lk mk (by simp)
  obtain ⟨X1, hX1⟩ : ∃ Z, (X.setCell ⟨q, 1, none⟩ (.int .i64 lk)).setCell ⟨q, 2, none⟩ (.int .i64 mk) = Z := ⟨_, rfl⟩
  rw [hX1] at C1 ⊢
  have HK := Lib.hid (And.intro hlk hmk)
  clear hX1 HC0 hw1 hw2 e1 e2 hs0 hs1 hs2 hlk hmk X
  go_wp2_with fail
  go_loopw [7] (fun v wr => ∃ (i : Nat) (bs' : List Bn) (rs : List (List Value)), v = .int .i64 i ∧ i ≤ bn ∧ Half k o.bs bs' i ∧ CI Y o.lm bs' lk mk (.slice XA ln xc) (.slice (some ⟨yq, 0, none⟩) bn yc) rs q wr) (fun v _ => bn - (intOf v).toNat)
  case atStart => exact ⟨0, o.bs, rs, rfl, by omega, .start k o.bs, C1⟩
  case round =>
    clear C1
    obtain ⟨i, bs', rs, rfl, hi, hh, C⟩ := hrel
    obtain ⟨q0, q1, q2, q3, qf, qz⟩ := C.k.four
    by_cases hin : i < bn
    · have hil : i < o.bs.length := by rw [HBN.out]; exact hin
      obtain ⟨b, hb⟩ : ∃ b, o.bs[i]? = some b := ⟨_, List.getElem?_eq_getElem hil⟩
      have hb' := hh.row i b hb
      rw [if_neg (Nat.lt_irrefl i)] at hb'
      have hlen : bs'.length = bn := by rw [hh.len]; exact HBN.out
      obtain ⟨-, -, p1, p2, -⟩ := HSM.out.bn b (List.mem_of_getElem? hb)
      have em := mul_bd (show 0 ≤ b.w by omega) p2 (show (0 : Int) ≤ k by omega) hk2
      obtain ⟨G, gc, -, pw, -, -⟩ := C.at_ hlen hb'
      have CC := (C.bel ((Below.refl wr.heap.size wr).drew)).cell (b' := b.scale k) hlen hb' 1 (by omega) (b.w * k) rfl (fun A c => rfl)
      obtain ⟨wt, hwt⟩ : ∃ x, b.w = x := ⟨_, rfl⟩
      rw [hwt] at pw em CC
      obtain ⟨P, hP⟩ : ∃ P, wt * k = P := ⟨_, rfl⟩
      rw [hP] at em CC
      have hPw : IntKind.i64.wrap P = P := IntWalk.i64_in _ (by omega)
      have hjw : IntKind.i64.wrap ((i : Int) + 1) = (i : Int) + 1 := IntWalk.i64_in _ (by omega)
      have HH := Lib.hid hh
      have HCC := Lib.hid CC
      have HBB := Lib.hid hb
      have HD := fun (x : World) (hx : Below wr.heap.size wr x) => C.bel hx
      have KQ := C.k
      clear hh CC hb hb' C hwt
      go_wp2_with fail
      clear q0 q1 q2 q3 qf qz
      refine AnyG.startC (by kernel_rfl) ?_
      refine AnyG.takeP (i := 0) (v := ?_) rfl (by kernel_rfl) (fun _ _ _ h => h) rfl ?_ ?_
      rotate_left
      · (intro w'; go_simp; try with_reducible rfl)
      try simp only [Act.put, List.getElem_toArray, List.getElem_cons_succ, List.getElem_cons_zero, List.setIfInBounds_toArray, List.set_cons_zero, List.set_cons_succ]
      refine AnyG.takeP (i := 2) (v := ?_) rfl (by kernel_rfl) (fun _ _ _ h => h) rfl ?_ ?_
      rotate_left
      · (intro w'; go_simp; try with_reducible rfl)
      try simp only [Act.put, List.getElem_toArray, List.getElem_cons_succ, List.getElem_cons_zero, List.setIfInBounds_toArray, List.set_cons_zero, List.set_cons_succ]
      refine AnyG.takeP (i := 3) (v := ?_) rfl (by kernel_rfl) (fun _ _ _ h => h) rfl ?_ ?_
      rotate_left
      · (intro w'; go_simp; try with_reducible rfl)
      try simp only [Act.put, List.getElem_toArray, List.getElem_cons_succ, List.getElem_cons_zero, List.setIfInBounds_toArray, List.set_cons_zero, List.set_cons_succ]
      refine AnyG.takeP (i := 5) (v := ?_) rfl (by kernel_rfl) (fun _ _ _ h => h) rfl ?_ ?_
      rotate_left
      · (intro w'; go_simp; try with_reducible rfl)
      try simp only [Act.put, List.getElem_toArray, List.getElem_cons_succ, List.getElem_cons_zero, List.setIfInBounds_toArray, List.set_cons_zero, List.set_cons_succ]
      refine AnyG.takeP (i := 9) (v := ?_) rfl (by kernel_rfl) (fun _ _ _ h => h) rfl ?_ ?_
      rotate_left
      · (intro w'; go_simp; try with_reducible rfl)
      try simp only [Act.put, List.getElem_toArray, List.getElem_cons_succ, List.getElem_cons_zero, List.setIfInBounds_toArray, List.set_cons_zero, List.set_cons_succ]
      refine AnyG.enter (fun w' : World => Below wr.heap.size wr w') (fun i => i != 13) ?_
      have hS : (fun w' : World => Below wr.heap.size wr w') (World.drew _) := ((Below.refl _ _).drew)
      refine AnyG.takeC (i := 1) (v := ?_) rfl (by kernel_rfl) (fun _ _ _ h => h) rfl ?_ hS ?_
      rotate_left
      · (intro w' hSw; (try dsimp only at hSw); obtain ⟨q0, q1, q2, q3, qf, qz⟩ := (KQ.call hSw).four; go_simp; try with_reducible rfl)
      try simp only [Act.put, List.getElem_toArray, List.getElem_cons_succ, List.getElem_cons_zero, List.setIfInBounds_toArray, List.set_cons_zero, List.set_cons_succ]
      refine AnyG.takeC (i := 4) (v := ?_) rfl (by kernel_rfl) (fun _ _ _ h => h) rfl ?_ hS ?_
      rotate_left
      · (intro w' hSw; (try dsimp only at hSw); obtain ⟨q0, q1, q2, q3, qf, qz⟩ := (KQ.call hSw).four; go_simp; try with_reducible rfl)
      try simp only [Act.put, List.getElem_toArray, List.getElem_cons_succ, List.getElem_cons_zero, List.setIfInBounds_toArray, List.set_cons_zero, List.set_cons_succ]
      refine AnyG.takeC (i := 6) (v := ?_) rfl (by kernel_rfl) (fun _ _ _ h => h) rfl ?_ hS ?_
      rotate_left
      · (intro w' hSw; (try dsimp only at hSw); go_simp; try with_reducible rfl)
      try simp only [Act.put, List.getElem_toArray, List.getElem_cons_succ, List.getElem_cons_zero, List.setIfInBounds_toArray, List.set_cons_zero, List.set_cons_succ]
      refine AnyG.takeC (i := 7) (v := ?_) rfl (by kernel_rfl) (fun _ _ _ h => h) rfl ?_ hS ?_
      rotate_left
      · (intro w' hSw; (try dsimp only at hSw); go_simp; try with_reducible rfl)
      try simp only [Act.put, List.getElem_toArray, List.getElem_cons_succ, List.getElem_cons_zero, List.setIfInBounds_toArray, List.set_cons_zero, List.set_cons_succ]
      refine AnyG.takeC (i := 8) (v := ?_) rfl (by kernel_rfl) (fun _ _ _ h => h) rfl ?_ hS ?_
      rotate_left
      · (intro w' hSw; (try dsimp only at hSw); have pw3 := cellC hSw pw; go_simp; try with_reducible rfl)
      try simp only [Act.put, List.getElem_toArray, List.getElem_cons_succ, List.getElem_cons_zero, List.setIfInBounds_toArray, List.set_cons_zero, List.set_cons_succ]
      refine AnyG.takeC (i := 10) (v := ?_) rfl (by kernel_rfl) (fun _ _ _ h => h) rfl ?_ hS ?_
      rotate_left
      · (intro w' hSw; (try dsimp only at hSw); go_simp; try with_reducible rfl)
      try simp only [Act.put, List.getElem_toArray, List.getElem_cons_succ, List.getElem_cons_zero, List.setIfInBounds_toArray, List.set_cons_zero, List.set_cons_succ]
      refine AnyG.takeC (i := 11) (v := ?_) rfl (by kernel_rfl) (fun _ _ _ h => h) rfl ?_ hS ?_
      rotate_left
      · (intro w' hSw; (try dsimp only at hSw); go_simp; try with_reducible rfl)
      try simp only [Act.put, List.getElem_toArray, List.getElem_cons_succ, List.getElem_cons_zero, List.setIfInBounds_toArray, List.set_cons_zero, List.set_cons_succ]
      refine AnyG.takeC (i := 12) (v := ?_) rfl (by kernel_rfl) (fun _ _ _ h => h) rfl ?_ hS ?_
      rotate_left
      · (intro w' hSw; (try dsimp only at hSw); go_simp; try with_reducible rfl)
      try simp only [Act.put, List.getElem_toArray, List.getElem_cons_succ, List.getElem_cons_zero, List.setIfInBounds_toArray, List.set_cons_zero, List.set_cons_succ]
      refine AnyG.one (i := 13) (by kernel_rfl) rfl rfl ?_
      have pf2 := (HD _ hS).ob
      rw [hlen] at pf2
      have pf3 := own_free pf2
      have pw2 := cellC hS pw
      go_simp
      refine Onward.last rfl ?_
      try simp only [Act.put, List.getElem_toArray, List.getElem_cons_succ, List.getElem_cons_zero, List.setIfInBounds_toArray, List.set_cons_zero, List.set_cons_succ]
      refine AnyG.done (by kernel_rfl) ?_ _
      go_simp
      go_wp2_with fail
      go_roundw
      case rel =>
        obtain ⟨rs2, C2⟩ := HCC.out
        exact ⟨i + 1, _, rs2, by go_num, by omega, HH.out.step HBB.out, C2⟩
      case measure => simp [intOf]; omega
    · obtain rfl : i = bn := by omega
      obtain ⟨V2, rfl⟩ : ∃ U, U = wr := ⟨_, rfl⟩
      have hh2 : Half k o.bs bs' o.bs.length := by rw [HBN.out]; exact hh
      obtain rfl := hh2.done
      have hX2 := C.ord rfl rfl HLN.out (by simp; exact HBN.out)
      have ex : (⟨o.lm, lk, mk, o.bs.map (Bn.scale k)⟩ : Od) = o.scale k := by unfold Od.scale; rw [HK.out.1, HK.out.2]
      rw [ex] at hX2
      have hkp : 0 < k := by omega
      have hxok := HSM.out.scale (k := k) (by omega) (by omega) (by omega) hk1 hk2
      have CE := fun r => (scale_cheap o k hkp r).1
      have KE : ∀ b, kv (o.scale k) b = kv o b := fun b => scale_kv o k hkp b
      have CC : ∀ b n, cst (o.scale k) b n = cst o b n := fun b n => scale_cst o k b n
      have SB := fun L => scale_blend (o := o) (k := k) (L := L) hxok
      have hxl : (o.scale k).le = lk := HK.out.1
      have hxm : (o.scale k).mo = mk := HK.out.2
      have hxlm : (o.scale k).lm.length = ln := HLN.out
      have hxbs : (o.scale k).bs.length = i := by rw [scale_len]; exact HBN.out
      obtain ⟨x, hx⟩ : ∃ x, o.scale k = x := ⟨_, rfl⟩
      rw [hx] at hX2 hxok CE KE CC SB hxl hxm hxlm hxbs
      have CX := fun (W : World) (h : OrdAt W W.heap.size XA (some ⟨yq, 0, none⟩) x) => cheapest_ok XA ln xc (some ⟨yq, 0, none⟩) i yc x W (by omega) (by omega) hxlm hxbs h hxok
      have KX := fun (W : World) (SA : Option Addr) (sc : Nat) (BL : List Int) (h : OrdAt W W.heap.size XA (some ⟨yq, 0, none⟩) x) (hl : BL.length = i) (hs : Sl W W.heap.size 1 SA (inr BL)) (hz : ckBl x BL = 0) => keeps_ok XA ln xc (some ⟨yq, 0, none⟩) i yc x SA i sc BL W (by omega) (by omega) hxlm hxbs h (by omega) hl hs hz
      simp only [hxl, hxm, KE] at CX KX
      have kO2 := kOY.call C.hb
      have hO2 := hOY.call C.hb
      have hF2 := Fd.below hFY C.hb
      have hB2 := hBY.trans (C.hb.mono hBY.size)
      have kX2 := C.k
      have hqg : q ≠ g := by have := C.hq; have := hFY.lt; omega
      have HCE := Lib.hid CE
      have HCC := Lib.hid CC
      have HSB := Lib.hid SB
      have HCX := Lib.hid CX
      have HKX := Lib.hid KX
      clear C hh hh2 ex CE CC SB CX KX KE hkp hx hxl hxm hxlm hxbs hxok kOY hOY hFY hBY
      go_upto_region 10 with fail
      clear q0 q1 q2 q3 qf qz
      obtain ⟨l0, l1, l2, l3, lf', lz⟩ := kO2.four
      go_upto_region 11 with (first
        | (go_at_call 15; refine (kBlendOf_any g LA ln lc BA i bc o _ hF2 HLN.out HBN.out hO2 HOK.out).mono ?_; rintro e V3 ⟨⟨SA, sc, BL, rfl, hBL, hz, hS3⟩, hF3, hg3⟩)
        | fail)
      have kO3 := kO2.grown hg3 (by simpa using hgO)
      have kX3 := kX2.grown hg3 (by simpa using hqg)
      have hO3 := FT.ord ⟨hg3, hF3⟩ hF2 hO2
      have hX3 := FT.ord ⟨hg3, hF3⟩ hF2 hX2
      have hB3 := hB2.grown hg3 hB2.size (fun k e => by cases e; exact hwg)
      have HBL := Lib.hid hBL
      have HZ := Lib.hid hz
      clear l0 l1 l2 l3 lf' lz kO2 kX2 hO2 hX2 hB2 hF2 hg3 hBL hz
      obtain ⟨l0, l1, l2, l3, lf', lz⟩ := kO3.four
      go_upto_region 12 with (first
        | (go_at_call 20; refine (cheapest_ok LA ln lc BA i bc o _ (by omega) (by omega) HLN.out HBN.out hO3 HOK.out).mono ?_; rintro e V4 ⟨⟨r1, x1, c1, hc1, rfl, hv1⟩, hq4⟩)
        | fail)
      have kO4 := kO3.call hq4
      have kX4 := kX3.call hq4
      have hO4 := hO3.call hq4
      have hX4 := hX3.call hq4
      have hS4 := hS3.call hq4
      have hB4 := hB3.trans (hq4.mono hB3.size)
      clear l0 l1 l2 l3 lf' lz kO3 kX3 hO3 hX3 hS3 hB3 hq4
      obtain ⟨l0, l1, l2, l3, lf', lz⟩ := kX4.four
      go_upto_region 13 with (first
        | (go_at_call 20; refine (HCX.out _ hX4).mono ?_; rintro e V5 ⟨⟨r2, x2, c2, hc2, rfl, hv2⟩, hq5⟩)
        | fail)
      replace hv1 := hv1.grown (row := none) (grown_below hq5) (by simp)
      have kO5 := kO4.call hq5
      have kX5 := kX4.call hq5
      have hO5 := hO4.call hq5
      have hX5 := hX4.call hq5
      have hS5 := hS4.call hq5
      have hB5 := hB4.trans (hq5.mono hB4.size)
      clear l0 l1 l2 l3 lf' lz kO4 kX4 hO4 hX4 hS4 hB4 hq5
      obtain ⟨l0, l1, l2, l3, lf', lz⟩ := kO5.four
      go_upto_region 14 with (first
        | (go_at_call 16; refine (keeps_ok LA ln lc BA i bc o SA i sc BL _ (by omega) (by omega) HLN.out HBN.out hO5 (by omega) HBL.out hS5 HZ.out).mono ?_; rintro e V6 ⟨rfl, hq6⟩)
        | fail)
      replace hv1 := hv1.grown (row := none) (grown_below hq6) (by simp)
      replace hv2 := hv2.grown (row := none) (grown_below hq6) (by simp)
      have kX6 := kX5.call hq6
      have hX6 := hX5.call hq6
      have hS6 := hS5.call hq6
      have hB6 := hB5.trans (hq6.mono hB5.size)
      clear l0 l1 l2 l3 lf' lz kO5 kX5 hO5 hX5 hS5 hB5 hq6
      obtain ⟨l0, l1, l2, l3, lf', lz⟩ := kX6.four
      go_upto_region 15 with (first
        | (go_at_call 16; refine (HKX.out _ SA sc BL hX6 HBL.out hS6 (HSB.out BL HZ.out)).mono ?_; rintro e V7 ⟨rfl, hq7⟩)
        | fail)
      replace hv1 := hv1.grown (row := none) (grown_below hq7) (by simp)
      replace hv2 := hv2.grown (row := none) (grown_below hq7) (by simp)
      have hB7 := hB6.trans (hq7.mono hB6.size)
      clear l0 l1 l2 l3 lf' lz kX6 hX6 hS6 hB6 hq7
      obtain ⟨kvv, hkv⟩ : ∃ t, kv o (lf BL) = t := ⟨_, rfl⟩
      rw [hkv]
      clear hkv
      rcases cheap_one HOK.out hc1 (HCE.out _ hc2) with ⟨rfl, rfl⟩ | ⟨d, d', rfl, rfl, hdd, hcd⟩
      · obtain ⟨rfl, rfl⟩ := hv1
        obtain ⟨rfl, rfl⟩ := hv2
        simp only [Option.isSome_none, Bool.false_eq_true, if_false]
        go_wp2_with (first | (go_at_call 23; refine (equalInts_any none 0 0 none 0 0 [] [] _ (by omega) (by omega) rfl rfl (Sl.nil _ _ _ _) (Sl.nil _ _ _ _)).mono ?_; rintro e V8 ⟨rfl, hq8⟩; rw [show decide (([] : List Int) = []) = true by decide]) | (go_at_call 19; refine (alive_any _).mono ?_; rintro e V9 ⟨rfl, hq9⟩) | fail)
        go_ret
        have h9 := hq8.trans (hq9.mono hq8.size)
        exact ⟨rfl, hB7.trans (h9.mono hB7.size)⟩
      · obtain ⟨rfl, q1, C1, rfl, ow1⟩ := hv1
        obtain ⟨rfl, q2, C2, rfl, ow2⟩ := hv2
        have e1 : cst o d i = cst x d' i := by rw [HCC.out, ← HBN.out]; exact hcd
        obtain ⟨cc, hcc⟩ : ∃ t, cst o d i = t := ⟨_, rfl⟩
        rw [← e1, hcc]
        have s1 := cheap_row ow1
        have s2 := cheap_row ow2
        rw [← rowOf_congr (by omega) hdd] at s2
        clear hcc e1 ow1 ow2
        simp only [Option.isSome_some, if_true]
        go_wp2_with (first | (go_at_call 23; refine (equalInts_any (some ⟨q1, 0, none⟩) i C1 (some ⟨q2, 0, none⟩) i C2 (rowOf d i) (rowOf d i) _ (by omega) (by omega) (rowOf_len _ _) (rowOf_len _ _) s1 s2).mono ?_; rintro e V8 ⟨rfl, hq8⟩; rw [show decide (rowOf d i = rowOf d i) = true by simp]) | (go_at_call 19; refine (alive_any _).mono ?_; rintro e V9 ⟨rfl, hq9⟩) | fail)
        go_ret
        have h9 := hq8.trans (hq9.mono hq8.size)
        exact ⟨rfl, hB7.trans (h9.mono hB7.size)⟩
end Go.Proofs.Ytmemcopfeabcgaa
