/- Boxes of blends: melt.box.blends; wholeBox. -/
import Derived.Test.YtmemcopfeabcgaaAf
set_option linter.unusedSimpArgs false
set_option linter.unusedVariables false
namespace Go.Proofs.Ytmemcopfeabcgaa
open Go Go.RowKit
theorem xarr_z (f : Nat → Int) : xarr zer (cutf 0 f) = #[.int .i64 0, .int .i64 0, .int .i64 0, .int .i64 0, .int .i64 0, .int .i64 0, .int .i64 0, .int .i64 0] := by rw [xarr_def]; rfl
theorem xarr_whole (f : Nat → Int) {k : Nat} (hk : k < 4) : (xarr zer (cutf k f)).setIfInBounds (k * 2 + 1) (.int .i64 (f k)) = xarr zer (cutf (k + 1) f) := by
  rw [xarr_sethi _ _ hk]
  refine xarr_congr (fun i _ => rfl) (fun i _ => ?_)
  unfold up1 cutf
  by_cases h : i = k
  · subst h; simp
  · rw [if_neg h]
    by_cases h2 : i < k
    · rw [if_pos h2, if_pos (by omega)]
    · rw [if_neg h2, if_neg (by omega)]
theorem xarr_mx {o : Od} {n : Nat} (h : o.bs.length = n) : xarr zer (cutf n o.mx) = xarr zer o.mx := by
  refine xarr_congr (fun i _ => rfl) (fun i _ => ?_)
  unfold cutf
  by_cases h2 : i < n
  · rw [if_pos h2]
  · rw [if_neg h2]
    unfold Od.mx Od.bn
    rw [List.getD_eq_getElem?_getD, List.getElem?_eq_none (by omega)]
    rfl
set_option maxRecDepth 100000 in
set_option maxHeartbeats 2000000 in
theorem wholeBox_any (LA : Option Addr) (ln lc : Nat) (BA : Option Addr) (bn bc : Nat) (o : Od) (w : World) (hl : o.lm.length = ln) (hb' : o.bs.length = bn) (hA : OrdAt w w.heap.size LA BA o) (ho : o.Ok) :
    Calls Try.prog 57 #[.agg #[.slice LA ln lc, .int .i64 o.le, .int .i64 o.mo, .slice BA bn bc]] w fun e w' => e = .returned (.agg (xarr zer o.mx)) ∧ Below w.heap.size w w' := by
  have k1 := ((Bx.new w 27 #[.slice LA ln lc, .int .i64 o.le, .int .i64 o.mo, .slice BA bn bc]).alloc (.cells (xarr zer (cutf 0 o.mx)) 91)).alloc (.cells (xarr zer (cutf 0 o.mx)) 91)
  have k2 := (Bx.at (w.alloc (.cells #[.slice LA ln lc, .int .i64 o.le, .int .i64 o.mo, .slice BA bn bc] 27)) 91 (xarr zer (cutf 0 o.mx)) (n := w.heap.size + 1) (by simp)).alloc (.cells (xarr zer (cutf 0 o.mx)) 91)
  have k3 := Bx.at ((w.alloc (.cells #[.slice LA ln lc, .int .i64 o.le, .int .i64 o.mo, .slice BA bn bc] 27)).alloc (.cells (xarr zer (cutf 0 o.mx)) 91)) 91 (xarr zer (cutf 0 o.mx)) (n := w.heap.size + 1 + 1) (by simp)
  have B0 := (((Below.refl w.heap.size w).alloc (Nat.le_refl _) (.cells #[.slice LA ln lc, .int .i64 o.le, .int .i64 o.mo, .slice BA bn bc] 27)).alloc (by simp) (.cells (xarr zer (cutf 0 o.mx)) 91)).alloc (by simp; omega) (.cells (xarr zer (cutf 0 o.mx)) 91)
  obtain ⟨W1, hW1⟩ : ∃ W1, ((w.alloc (.cells #[.slice LA ln lc, .int .i64 o.le, .int .i64 o.mo, .slice BA bn bc] 27)).alloc (.cells (xarr zer (cutf 0 o.mx)) 91)).alloc (.cells (xarr zer (cutf 0 o.mx)) 91) = W1 := ⟨_, rfl⟩
  rw [hW1] at k1 k2 k3 B0
  rw [xarr_z] at hW1
  have HW := Lib.hid hW1
  clear hW1
  have hbn4 : bn ≤ 4 := by rw [← hb']; exact ho.b2
  have HB := Lib.hid hb'
  have HO := Lib.hid ho
  clear hb' ho hl
  obtain ⟨c0, c1, c2, c3, cf, cz⟩ := k1.four
  go_enter Try.func57, Try.ntmps57
  go_wp2_with ((with_reducible (show wpList _ _ _ (⟨some 6, _, _, _, _, _⟩ :: _) _ _)); rw [HW.out])
  clear c0 c1 c2 c3 cf cz k1
  go_loopw [9] (fun i wr => ∃ k : Nat, k ≤ bn ∧ i = .int .i64 k ∧ Bx wr (w.heap.size + 1) 91 (xarr zer (cutf 0 o.mx)) ∧ Bx wr (w.heap.size + 1 + 1) 91 (xarr zer (cutf k o.mx)) ∧ Below w.heap.size w wr) (fun i _ => bn - (intOf i).toNat)
  case atStart => exact ⟨0, by omega, rfl, k2, k3, B0⟩
  case round =>
    clear k2 k3 B0
    obtain ⟨k, hk, rfl, k2, k3, hB⟩ := hrel
    by_cases hkn : k < bn
    · have hke : k < o.bs.length := by rw [HB.out]; exact hkn
      have hk4 : k < 4 := by omega
      have hki : (k : Int) < 4 := by omega
      obtain ⟨bd, G, gc, rfl, _, q0, q1, q2, q3, _⟩ := (hA.bs.below hB).at_ hke
      have e := Od.bn_eq hke
      rw [e] at q0 q1 q2 q3
      have hst := xarr_whole o.mx hk4
      have hmx : o.mx k = (o.bn k).g := rfl
      rw [hmx] at hst
      have f3 := k3.free
      have z3 := k3.lt
      have p3 : ∃ v, wr.cell? ⟨w.heap.size + 1 + 1, k * 2 + 1, none⟩ = some v := ⟨_, (k3.cell (k * 2 + 1)).trans (xarr_hi _ _ hk4)⟩
      obtain ⟨v3, p3⟩ := p3
      clear e hmx
      generalize (o.bn k).gr.length = gn at *
      generalize (o.bn k).w = bw at *
      generalize (o.bn k).c = bc' at *
      generalize (o.bn k).g = bg at *
      have HST := Lib.hid hst
      clear hst
      go_wp2_with fail
      go_roundw
      case rel => exact ⟨k + 1, by omega, by go_num, (k2.far (p := ⟨w.heap.size + 1 + 1, k * 2 + 1, none⟩) (by simp) _).alloc _, (by have h := k3.set_ (k * 2 + 1) (.int .i64 bg); rw [HST.out] at h; exact h.alloc _), (hB.setCell (by simp; omega) _).alloc (hB.setCell (by simp; omega) _).size _⟩
      case measure => simp [intOf]; omega
    · obtain rfl : k = bn := by omega
      rw [xarr_mx HB.out] at k3
      obtain ⟨a0, a1, a2, a3, a4, a5, a6, a7, af, az⟩ := k2.xarr
      obtain ⟨b0, b1, b2, b3, b4, b5, b6, b7, bf, bz⟩ := k3.xarr
      go_wp2_with fail
      refine bodyPost_ret (v := .agg #[.int .i64 (zer 0), .int .i64 (o.mx 0), .int .i64 (zer 1), .int .i64 (o.mx 1), .int .i64 (zer 2), .int .i64 (o.mx 2), .int .i64 (zer 3), .int .i64 (o.mx 3)]) (by simp [results, Try.results57, go_sem, a0, a1, a2, a3, a4, a5, a6, a7, af, b0, b1, b2, b3, b4, b5, b6, b7, bf]) rfl ⟨by rw [xarr_def], ?_⟩
      exact (((((((hB.setCell (by simp) _).setCell (by simp) _).setCell (by simp) _).setCell (by simp) _).setCell (by simp) _).setCell (by simp) _).setCell (by simp) _).setCell (by simp) _
set_option maxRecDepth 100000 in
theorem blends_any (lo hi : Nat → Int) (w : World) :
    Calls Try.prog 58 #[.agg (xarr lo hi)] w fun e w' => (e = .returned (.func (.func 84) #[] #[.pointer (some ⟨w.heap.size, 0, none⟩)]) ∧ Bx w' w.heap.size 91 (xarr lo hi)) ∧ Below w.heap.size w w' := by
  have k1 := Bx.new w 91 (xarr lo hi)
  have B0 := (Below.refl w.heap.size w).alloc (Nat.le_refl _) (.cells (xarr lo hi) 91)
  go_enter Try.func58, Try.ntmps58
  go_wp2_with fail
  go_ret
  exact ⟨⟨rfl, k1⟩, B0⟩
end Go.Proofs.Ytmemcopfeabcgaa
