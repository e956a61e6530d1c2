/- swarfkit.BlendOf. -/
import Derived.Test.YtmemcopfeabcgaaOf
set_option linter.unusedSimpArgs false
set_option linter.unusedVariables false
namespace Go.Proofs.Ytmemcopfeabcgaa
open Go Go.RowKit
theorem ckV_ok2 : ∀ (bs : List Bn) (l : List Int), (∀ (j : Nat) (b : Bn) (x : Int), bs[j]? = some b → l[j]? = some x → 0 ≤ x ∧ x ≤ b.g) → ckV (bs.zip l) = 0
  | [], l, _ => by simp [ckV]
  | b :: r, [], _ => by simp [ckV]
  | b :: r, x :: l, h => by
    have h0 := h 0 b x rfl rfl
    have h1 := ckV_ok2 r l fun j b' x' e1 e2 => h (j + 1) b' x' (by simpa using e1) (by simpa using e2)
    simp only [List.zip_cons_cons, ckV]
    rw [if_neg (by omega)]
    exact h1
theorem ckBl_ok {o : Od} {l : List Int} (ho : o.Ok) (hl : l.length = o.bs.length) (h : ∀ j, j < o.bs.length → 0 ≤ l.getD j 0 ∧ l.getD j 0 ≤ (o.bn j).g) : ckBl o l = 0 := by
  unfold ckBl
  rw [if_neg (by rw [ckO_zero.2 ho]; simp), if_neg (by omega)]
  refine ckV_ok2 _ _ fun j b x e1 e2 => ?_
  have hj : j < o.bs.length := (List.getElem?_eq_some_iff.1 e1).1
  have := h j hj
  rw [List.getD_eq_getElem?_getD, e2] at this
  unfold Od.bn at this
  rw [List.getD_eq_getElem?_getD, e1] at this
  exact this
theorem getD_snoc (l : List Int) (x : Int) {j : Nat} : (l ++ [x]).getD j 0 = if j < l.length then l.getD j 0 else if j = l.length then x else 0 := by
  rw [List.getD_eq_getElem?_getD, List.getD_eq_getElem?_getD]
  by_cases h : j < l.length
  · rw [if_pos h, List.getElem?_append_left h]
  · rw [if_neg h, List.getElem?_append_right (by omega)]
    by_cases h2 : j = l.length
    · subst h2; simp
    · rw [if_neg h2, List.getElem?_eq_none (by simp; omega)]; rfl
set_option maxRecDepth 100000 in
set_option maxHeartbeats 4000000 in
theorem kBlendOf_any (g : Nat) (LA : Option Addr) (ln lc : Nat) (BA : Option Addr) (bn bc : Nat) (o : Od) (w : World) (h : Fd g w) (hl : o.lm.length = ln) (hb' : o.bs.length = bn) (hA : OrdAt w w.heap.size LA BA o) (ho : o.Ok) :
    Calls Try.prog 15 #[.pointer (some ⟨g, 0, none⟩), .agg #[.slice LA ln lc, .int .i64 o.le, .int .i64 o.mo, .slice BA bn bc]] w fun e w' => (∃ (A : Option Addr) (c : Nat) (L : List Int), e = .returned (.slice A bn c) ∧ L.length = bn ∧ ckBl o L = 0 ∧ Sl w' w'.heap.size 1 A (inr L)) ∧ Fd g w' ∧ w.grownBy w' (some g) := by
  have hgl := h.lt
  obtain ⟨i3, hi3, hz3, hs3, iy3⟩ := info_parts info3'
  have hF := h.alloc (.cells #[.slice LA ln lc, .int .i64 o.le, .int .i64 o.mo, .slice BA bn bc] 27)
  have hG := grown_alloc (grown_refl w (some g)) (.cells #[.slice LA ln lc, .int .i64 o.le, .int .i64 o.mo, .slice BA bn bc] 27)
  have kB := Bx.new w 27 #[.slice LA ln lc, .int .i64 o.le, .int .i64 o.mo, .slice BA bn bc]
  have hO := hA.call ((Below.refl w.heap.size w).alloc (Nat.le_refl _) (.cells #[.slice LA ln lc, .int .i64 o.le, .int .i64 o.mo, .slice BA bn bc] 27))
  have HB := Lib.hid hb'
  have HOK := Lib.hid ho
  have HO := Lib.hid hO
  have HG := Lib.hid hG
  clear hb' ho hA hO hG
  have hbn : bn ≤ 4 := by rw [← HB.out]; exact HOK.out.b2
  go_enter Try.func15, Try.ntmps15
  go_wp2_with fail
  have hne : w.heap.size ≠ g := by omega
  obtain ⟨b, hbe⟩ : ∃ b, w.heap.size = b := ⟨_, rfl⟩
  obtain ⟨V, hV⟩ : ∃ V, w.alloc (.cells #[.slice LA ln lc, .int .i64 o.le, .int .i64 o.mo, .slice BA bn bc] 27) = V := ⟨_, rfl⟩
  rw [hV] at hF HG kB HO ⊢
  rw [hbe] at kB hne ⊢
  clear hV hbe
  go_loopw [5, 6] (fun v5 v6 wr => ∃ (i : Nat) (L : List Int), v6 = .int .i64 i ∧ i ≤ bn ∧ L.length = i ∧ Hid (∀ j, j < i → 0 ≤ L.getD j 0 ∧ L.getD j 0 ≤ (o.bn j).g) ∧ FT g V wr ∧ wr.ownsRow V.heap.size 3 1 v5 i (inr L).flatten) (fun _ v _ => bn - (intOf v).toNat)
  case atStart => exact ⟨0, [], rfl, by omega, rfl, fun j hj => by omega, .self hF, World.ownsRow_nil _ _ _ _⟩
  case round =>
    obtain ⟨i, L, rfl, hi, hL, hv, hT, hR⟩ := hrel
    obtain ⟨RA, RC, rfl⟩ := own_shape hR
    obtain ⟨l0, l1, l2, l3, lf, lz⟩ := (hT.bx kB hne).four
    by_cases hik : i < bn
    · have hil : i < o.bs.length := by rw [HB.out]; exact hik
      obtain ⟨ad, G, c, rfl, hd, p0, p1, p2, p3, -⟩ := (hT.ord hF HO.out).bs.at_ hil
      obtain ⟨bi, hbi⟩ : ∃ x, o.bs[i] = x := ⟨_, rfl⟩
      have hbo := HOK.out.bs bi (by rw [← hbi]; exact List.getElem_mem hil)
      have g1 := hbo.g1
      have g2 := hbo.g2
      rw [hbi] at p0 p1 p2 p3
      have HBI := Lib.hid (show (o.bn i).g = bi.g by rw [← Od.bn_eq hil, hbi])
      have HLL := Lib.hid hL
      clear hbi hbo p0 p1 p2 hL
      have hw1 : IntKind.i64.wrap (bi.g + 1) = bi.g + 1 := IntWalk.i64_in _ (by omega)
      have hjw : IntKind.i64.wrap ((i : Int) + 1) = (i : Int) + 1 := IntWalk.i64_in _ (by omega)
      go_wp2_with (first
        | (go_at_call 25; refine (below_any g _ _ hT.2 (by omega) (by omega)).mono ?_; rintro e y ⟨⟨r, rfl, r1, r2⟩, hf, hg⟩; have hR2 := (own_fd hR hT.2 hg (by decide)).alloc (.cells #[.int .i64 r] 3); have kb := Bx.new y 3 #[.int .i64 r]; have hT2 := (hT.call hg hf).alloc (.cells #[.int .i64 r] 3); have hVs := hT2.size)
        | (at_builtin; refine wpList_app2 rfl (.tmp 14) (.tmp 24) 22 rfl V.heap.size 3 i3 _ 1 8 Try.underlying22 hi3 hz3 hs3 iy3 rfl (by decide) (.slice RA i RC) i (inr L).flatten rfl hR2 ⟨y.heap.size, 0, none⟩ 1 1 [.int .i64 r] rfl rfl (bx_news kb) (by simp [Value.oneCell']) (by unfold maxLen; omega) (by omega) hVs ?_; intro v' w' o1 o2 o3; obtain ⟨NA, NC, rfl⟩ := own_shape o1; have hT3 := hT2.own hR2 o2 (Nat.le_refl _) (by decide))
        | fail)
      go_roundw
      case rel =>
        refine ⟨i + 1, L ++ [r], by go_num, by omega, by simp; exact HLL.out, fun j hj => ?_, hT3, by rw [inr_snoc]; exact o1⟩
        rw [getD_snoc, HLL.out]
        by_cases hj2 : j < i
        · rw [if_pos hj2]; exact hv j hj2
        · rw [if_neg hj2, if_pos (by omega)]
          obtain rfl : j = i := by omega
          rw [HBI.out]
          omega
      case measure => simp [intOf]; omega
    · obtain rfl : i = bn := by omega
      go_wp2_with fail
      go_ret
      exact ⟨⟨RA, RC, L, rfl, hL, ckBl_ok HOK.out (by rw [HB.out]; exact hL) (fun j hj => hv j (by rw [← HB.out]; exact hj)), own_inr hR hL⟩, hT.2, grownF_trans HG.out hT.1⟩
end Go.Proofs.Ytmemcopfeabcgaa
