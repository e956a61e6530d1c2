/- bridge.checkAxles and isSeat. -/
import Derived.Test.YtgbogdckmfencaaCk
set_option linter.unusedSimpArgs false
set_option linter.unusedVariables false
namespace Go.Proofs.Ytgbogdckmfencaa
open Go.RowKit
def kdAt (es : List Ev) (a : Int) : Int := match es[a.toNat]? with | some e => e.kd | none => 0
def ckAx (es : List Ev) : Int → List Int → Int
  | _, [] => 0
  | b, a :: r => if a < 0 ∨ (es.length : Int) ≤ a then 3 else if kdAt es a ≠ 3 then 8 else if a ≤ b then 5 else ckAx es a r
def ckA (es : List Ev) (axs : List Int) : Int := if axs.length < 1 then 7 else if 4 < axs.length then 6 else ckAx es (-1) axs
def ints (l : List Int) : List (List Value) := l.map fun a => [.int .i64 a]
theorem ckAx_step {es : List Ev} {axs : List Int} {b : Int} {k : Nat} (hk : k < axs.length) : ckAx es b (axs.drop k) = if axs[k] < 0 ∨ (es.length : Int) ≤ axs[k] then 3 else if kdAt es axs[k] ≠ 3 then 8 else if axs[k] ≤ b then 5 else ckAx es axs[k] (axs.drop (k + 1)) := by
  rw [List.drop_eq_getElem_cons hk, ckAx]
theorem ints_at {w : World} {B k : Nat} {X : Option Addr} {l : List Int} (h : Sl w B 1 X (ints l)) (hk : k < l.length) : ∃ ad, X = some ad ∧ ad.block < B ∧ w.cell? (ad.add k) = some (.int .i64 l[k]) := by
  obtain ⟨ad, h1, h2, h3⟩ := Sl.at_ h (k := k) (by simpa [ints] using hk)
  refine ⟨ad, h1, h2, ?_⟩
  have := h3.head (u := .int .i64 l[k]) (by simp [ints])
  simpa using this
set_option maxHeartbeats 1000000 in
theorem checkAxles_any (st z0 z1 : Int) (A : Option Addr) (n c : Nat) (es : List Ev) (X : Option Addr) (m d : Nat) (axs : List Int) (w : World) (hn : n ≤ 14) (hl : es.length = n) (hA : EvsAt w w.heap.size A es) (hm : m ≤ 9223372036854775807) (hx : axs.length = m) (hX : Sl w w.heap.size 1 X (ints axs)) :
    Calls Try.prog 75 #[.agg #[.int .i64 st, .int .i64 z0, .int .i64 z1, .slice A n c], .slice X m d] w fun e w' => e = .returned (.int .i64 (ckA es axs)) ∧ Below w.heap.size w w' := by
  have HL := Lib.hid hl
  have HX := Lib.hid hx
  clear hl hx
  by_cases h1 : m < 1
  case pos =>
    have H1 : Hid (ckA es axs = 7) := by unfold Hid ckA; rw [if_pos (by rw [HX.out]; exact h1)]
    go_enter Try.func75, Try.ntmps75
    go_wp2_with fail
    go_ret
    exact ⟨ret_int H1.out.symm, (Below.refl _ _).alloc (Nat.le_refl _) _⟩
  by_cases h2 : 4 < m
  case pos =>
    have H1 : Hid (ckA es axs = 6) := by unfold Hid ckA; rw [if_neg (by rw [HX.out]; exact h1), if_pos (by rw [HX.out]; exact h2)]
    go_enter Try.func75, Try.ntmps75
    go_wp2_with fail
    go_ret
    exact ⟨ret_int H1.out.symm, (Below.refl _ _).alloc (Nat.le_refl _) _⟩
  have H1 : Hid (ckA es axs = ckAx es (-1) axs) := by unfold Hid ckA; rw [if_neg (by rw [HX.out]; exact h1), if_neg (by rw [HX.out]; exact h2)]
  go_enter Try.func75, Try.ntmps75
  go_wp2_with fail
  go_loop [5, 16] (fun b i => ∃ (k : Nat) (p : Int), k ≤ m ∧ i = .int .i64 k ∧ b = .int .i64 p ∧ Hid (ckA es axs = ckAx es p (axs.drop k))) (fun _ i => m - (intOf i).toNat)
  case atStart => exact ⟨0, -1, by omega, rfl, rfl, H1⟩
  case round =>
    obtain ⟨k, p, hk, rfl, rfl, hd⟩ := hrel
    by_cases hkm : k < m
    · have hke : k < axs.length := by rw [HX.out]; exact hkm
      obtain ⟨ad, rfl, hab, q0⟩ := ints_at hX hke
      have q1 : (w.alloc (.cells #[.int .i64 st, .int .i64 z0, .int .i64 z1, .slice A n c] 26)).cell? (ad.add k) = _ := (World.cell?_alloc_lt _ _ _ (by rw [add_block]; exact hab)).trans q0
      have hds := ckAx_step (es := es) (b := p) hke
      clear q0
      generalize axs[k] = a at *
      rw [HL.out] at hds
      by_cases c1 : a < 0 ∨ (n : Int) ≤ a
      · have hd' : Hid (ckA es axs = 3) := by unfold Hid; rw [hd.out, hds, if_pos c1]
        clear hds hd
        by_cases c0 : a < 0
        all_goals
          go_wp2_with fail
          go_ret
          exact ⟨ret_int hd'.out.symm, (Below.refl _ _).alloc (Nat.le_refl _) _⟩
      · rw [if_neg c1] at hds
        have ha0 : 0 ≤ a := by omega
        have ha1 : a < (n : Int) := by omega
        obtain ⟨t, rfl⟩ := Int.eq_ofNat_of_zero_le ha0
        clear c1 ha0
        have hte : t < es.length := by rw [HL.out]; omega
        obtain ⟨ae, rfl, hae, e0, _⟩ := (hA.alloc (Nat.le_refl _) (.cells #[.int .i64 st, .int .i64 z0, .int .i64 z1, .slice A n c] 26)).at_ hte
        have hkd : kdAt es (t : Int) = es[t].kd := by unfold kdAt; rw [Int.toNat_natCast, List.getElem?_eq_getElem hte]
        rw [hkd] at hds
        clear hkd
        generalize es[t].kd = kd at *
        by_cases c2 : kd = 3
        · subst c2
          rw [if_neg (by simp)] at hds
          by_cases c3 : (t : Int) ≤ p
          · have hd' : Hid (ckA es axs = 5) := by unfold Hid; rw [hd.out, hds, if_pos c3]
            clear hds hd
            go_wp2_with fail
            go_ret
            exact ⟨ret_int hd'.out.symm, (Below.refl _ _).alloc (Nat.le_refl _) _⟩
          · rw [if_neg c3] at hds
            have hd' : Hid (ckA es axs = ckAx es t (axs.drop (k + 1))) := by unfold Hid; rw [hd.out, hds]
            clear hds hd
            go_wp2_with fail
            go_round
            case rel => exact ⟨k + 1, t, by omega, by go_num, rfl, hd'⟩
            case measure => simp [intOf]; omega
        · have hd' : Hid (ckA es axs = 8) := by unfold Hid; rw [hd.out, hds, if_pos c2]
          have c2' : (kd != 3) = true := by simpa using c2
          clear hds hd
          go_wp2_with fail
          go_ret
          exact ⟨ret_int hd'.out.symm, (Below.refl _ _).alloc (Nat.le_refl _) _⟩
    · have hd' : Hid (ckA es axs = 0) := by unfold Hid; rw [hd.out, List.drop_eq_nil_of_le (by rw [HX.out]; omega)]; rfl
      go_wp2_with fail
      go_ret
      exact ⟨ret_int hd'.out.symm, (Below.refl _ _).alloc (Nat.le_refl _) _⟩
end Go.Proofs.Ytgbogdckmfencaa
