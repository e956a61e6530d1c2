/- alive: the examples of the chapter that every statement of layer 6 asks hold. -/
import Derived.Test.YtmemcopfeabcgaaEx
import Derived.Test.YtmemcopfeabcgaaPp
import Derived.Test.YtmemcopfeabcgaaCz
set_option linter.unusedSimpArgs false
set_option linter.unusedVariables false
namespace Go.Proofs.Ytmemcopfeabcgaa
open Go Go.RowKit
theorem own_ints {w : World} {b q C : Nat} {d : Nat → Int} (h : w.ownsRow b 3 1 (.slice (some ⟨q, 0, none⟩) 3 C) 3 (ivs 3 d)) (hd : ∀ i, i < 4 → d i = bl3 2 2 2 i) : Sl w w.heap.size 1 (some ⟨q, 0, none⟩) (inr [2, 2, 2]) := by
  have e : ivs 3 d = (inr [2, 2, 2]).flatten := by rw [ivs_congr (by omega) hd]; rfl
  rw [e] at h
  obtain ⟨A, c, e2, hs⟩ := own_sl h (by intro r hr; simp [inr] at hr; subst hr; rfl) rfl
  simp only [Value.slice.injEq] at e2
  rw [e2.1]
  exact hs
theorem own_bds {w : World} {b : Nat} {A : Option Addr} {C : Nat} {L : List Bd} (h : w.ownsRow b 69 3 (.slice A L.length C) L.length (bdrs L)) : Sl w w.heap.size 3 A (L.map bdr) := by
  obtain ⟨A', c, e2, hs⟩ := own_sl (rs := L.map bdr) h (by intro r hr; obtain ⟨x, _, rfl⟩ := List.mem_map.1 hr; rfl) (by simp)
  simp only [Value.slice.injEq] at e2
  rw [e2.1]
  exact hs
def prfP : List Bd := [⟨1, 0, 2⟩, ⟨2, 0, 0⟩, ⟨5, 0, 0⟩]
theorem prfP_is : prf (ordP 3) 15 5 zer (ordP 3).mx = some prfP := ordP_prf
theorem blO : ckBl ordO [2, 3, 2] = 0 := by decide
theorem kvO : kv ordO (lf [2, 3, 2]) = 3 := by decide
set_option maxRecDepth 100000 in
set_option maxHeartbeats 4000000 in
theorem alive_any (w : World) : Calls Try.prog 19 #[] w fun e w' => e = .returned (.bool true) ∧ Below w.heap.size w w' := by
  go_enter Try.func19, Try.ntmps19
  go_wp2_with (first
    | (go_at_call 52; first
        | (have _t := hb2; clear _t; refine (order_any _).mono ?_; rintro e w3 ⟨⟨lb2, bb2, rfl, ho2⟩, hb3⟩; have B3 := B2.trans (hb3.mono B2.size))
        | (refine (order_any _).mono ?_; rintro e w1 ⟨⟨lb, bb, rfl, ho1⟩, hb1⟩; have B1 := hb1))
    | (go_at_call 16; have ha1 := (Below.refl w1.heap.size w1).alloc (Nat.le_refl _) (.cells #[.int .i64 2, .int .i64 3, .int .i64 2] 3); refine (keeps_ok (some ⟨lb, 0, none⟩) 2 2 (some ⟨bb, 0, none⟩) 3 3 ordO (some ⟨w1.heap.size, 0, none⟩) 3 3 [2, 3, 2] _ (by omega) (by omega) rfl rfl (ho1.call ha1) (by omega) rfl (Sl.of_flat (Bx.new w1 3 _) (by decide) rfl) blO).mono ?_; rintro e w2 ⟨rfl, hb2⟩; rw [kvO]; have B2 := (B1.trans (ha1.mono B1.size)).trans (hb2.mono (B1.trans (ha1.mono B1.size)).size))
    | (go_at_call 20; refine (cheapest_ok (some ⟨lb2, 0, none⟩) 2 2 (some ⟨bb2, 0, none⟩) 3 3 ordO _ (by omega) (by omega) rfl rfl ho2 ordO_ok).mono ?_; rintro e w4 ⟨⟨r4, x4, c4, hc4, rfl, hv4⟩, hb4⟩; obtain ⟨d4, rfl, hd4, hk4⟩ := ordO_cheap hc4; obtain ⟨rfl, q4, C4, rfl, how4⟩ := hv4; rw [hk4]; have hs4 := own_ints how4 hd4; have B4 := B3.trans (hb4.mono B3.size); clear how4 hk4 hd4 hc4)
    | (go_at_call 53; refine (plain_any 3 _).mono ?_; rintro e w5 ⟨⟨bb5, rfl, ho5⟩, hb5⟩; have hs5 := hs4.call hb5; have B5 := B4.trans (hb5.mono B4.size))
    | (go_at_call 26; refine (prove_ok none 0 0 (some ⟨bb5, 0, none⟩) 1 1 (ordP 3) 15 5 prfP _ (by omega) (by omega) rfl rfl ho5 ordP_ok (by omega) prfP_is (by decide)).mono ?_; rintro e w6 ⟨⟨A6, C6, rfl, how6⟩, hb6⟩; have hs6 := hs5.call hb6; have hp6 := own_bds how6; have B6 := B5.trans (hb6.mono B5.size))
    | (go_at_call 23; have ha6 := (Below.refl w6.heap.size w6).alloc (Nat.le_refl _) (.cells #[.int .i64 2, .int .i64 2, .int .i64 2] 3); refine (equalInts_any (some ⟨q4, 0, none⟩) 3 C4 (some ⟨w6.heap.size, 0, none⟩) 3 3 [2, 2, 2] [2, 2, 2] _ (by omega) (by omega) rfl rfl (hs6.call ha6) (Sl.of_flat (Bx.new w6 3 _) (by decide) rfl)).mono ?_; rintro e w7 ⟨rfl, hb7⟩; rw [show decide (([2, 2, 2] : List Int) = [2, 2, 2]) = true by decide]; have hp7 := (hp6.call ha6).call hb7; have B7 := (B6.trans (ha6.mono B6.size)).trans (hb7.mono (B6.trans (ha6.mono B6.size)).size))
    | (go_at_call 54; refine (bcut_any _ _ _).mono ?_; rintro e w8 ⟨rfl, hb8⟩; have hp8 := hp7.call hb8; have B8 := B7.trans (hb8.mono B7.size))
    | (go_at_call 55; refine (blight_any _).mono ?_; rintro e w9 ⟨rfl, hb9⟩; have hp9 := hp8.call hb9; have B9 := B8.trans (hb9.mono B8.size))
    | (go_at_call 56; refine (bdear_any _).mono ?_; rintro e w10 ⟨rfl, hb10⟩; have hp10 := hp9.call hb10; have B10 := B9.trans (hb10.mono B9.size))
    | (go_at_call 44; have ha10 := (Below.refl w10.heap.size w10).alloc (Nat.le_refl _) (.cells #[.int .i64 1, .int .i64 0, .int .i64 2, .int .i64 2, .int .i64 0, .int .i64 0, .int .i64 5, .int .i64 0, .int .i64 0] 69); refine (equalProofs_any A6 prfP.length C6 (some ⟨w10.heap.size, 0, none⟩) 3 3 prfP prfP _ (by decide) (by omega) rfl rfl (hp10.call ha10) (Sl.of_flat (Bx.new w10 69 _) (by decide) rfl)).mono ?_; rintro e w11 ⟨rfl, hb11⟩; rw [show decide (prfP = prfP) = true by decide]; have B11 := (B10.trans (ha10.mono B10.size)).trans (hb11.mono (B10.trans (ha10.mono B10.size)).size))
    | fail)
  go_ret
  exact ⟨rfl, B11⟩
end Go.Proofs.Ytmemcopfeabcgaa
