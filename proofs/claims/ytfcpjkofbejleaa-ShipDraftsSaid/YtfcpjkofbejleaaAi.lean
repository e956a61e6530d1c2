/- CheckStowage. -/
import Derived.Test.YtfcpjkofbejleaaAh
import Derived.Test.YtfcpjkofbejleaaVl
set_option linter.unusedSimpArgs false
set_option linter.unusedVariables false
namespace Go.Proofs.Ytfcpjkofbejleaa
open Go Go.RowKit
theorem inH_held {v : Vg} {s : List Int} (h : InH v.hs.length s) : Held v s := fun x hx => by
  obtain ⟨_, h2, h3⟩ := abd_mem hx
  have := h _ h2
  omega
set_option maxHeartbeats 1600000 in
theorem checkStowage_any (v : Vg) (p : Vp) (A : Option Addr) (sn sc : Nat) (s : List Int) (w : World) (hF : p.Fit) (hLF : LvFit v) (hV : VoyAt w w.heap.size v p) (hS : Sl w w.heap.size 1 A (inr s)) (hl : s.length = sn) (hsn : sn ≤ 1000000) :
    Calls Try.prog 29 #[.agg (vcs v p), .slice A sn sc] w fun e w' => e = .returned (.int .i64 (ckSt v s)) ∧ Below w.heap.size w w' := by
  have k0 := Bx.new w 26 (vcs v p)
  have B0 := (Below.refl w.heap.size w).alloc (Nat.le_refl _) (.cells (vcs v p) 26)
  have HL := Lib.hid hl
  obtain ⟨E, hE⟩ : ∃ E, ckV v = E := ⟨_, rfl⟩
  have HE := Lib.hid hE
  rw [vcs_def] at k0 B0 ⊢
  by_cases hz : E = 0
  case neg =>
    have hz1 : (E != 0) = true := by simpa using hz
    have HR : Hid (ckSt v s = E) := Lib.hid (by unfold ckSt; rw [hE, if_pos hz])
    rw [HR.out]
    clear hE hl
    go_enter Try.func29, Try.ntmps29
    go_wp2_with (first
        | (go_at_call 27; refine (check_any v p _ hF hLF (hV.call B0)).mono ?_; rintro e_1 w_1 ⟨rfl, hb_1⟩; rw [HE.out]; have k_1 := k0.call hb_1; have B_1 := B0.trans (hb_1.mono B0.size); obtain ⟨c0_1, c1_1, c2_1, c3_1, c4_1, c5_1, c6_1, cf_1, cz_1⟩ := k_1.seven)
        | fail)
    go_ret
    exact ⟨rfl, B_1⟩
  subst hz
  have ho := ckV_ok hE
  have HR : Hid (ckSt v s = if s.length ≠ v.ls.length then 2 else if inHb v.hs.length s = false then 3 else if roomOk v.hs (abd v.ls s) = false then 13 else 0) := Lib.hid (by unfold ckSt; rw [hE, if_neg (by simp)])
  by_cases hln : sn = p.ln
  case neg =>
    have hne : ((sn : Int) != (p.ln : Int)) = true := by simp; omega
    have HR2 : Hid (ckSt v s = 2) := Lib.hid (by rw [HR.out, if_pos (by rw [hl, hV.ll]; exact hln)])
    rw [HR2.out]
    clear hE hl hln
    go_enter Try.func29, Try.ntmps29
    go_wp2_with (first
        | (go_at_call 27; refine (check_any v p _ hF hLF (hV.call B0)).mono ?_; rintro e_1 w_1 ⟨rfl, hb_1⟩; rw [HE.out]; have k_1 := k0.call hb_1; have B_1 := B0.trans (hb_1.mono B0.size); obtain ⟨c0_1, c1_1, c2_1, c3_1, c4_1, c5_1, c6_1, cf_1, cz_1⟩ := k_1.seven)
        | fail)
    go_ret
    exact ⟨rfl, B_1⟩
  have hne : ((sn : Int) != (p.ln : Int)) = false := by simp; omega
  have h6 := ho.l6
  have h3 := ho.h3
  have h1 := ho.h1
  have hln6 : p.ln ≤ 6 := by rw [← hV.ll]; exact h6
  have hhn : p.hn ≤ 3 := by rw [← hV.hl]; exact h3
  have hhn1 : 1 ≤ p.hn := by rw [← hV.hl]; exact h1
  have HLN := Lib.hid hln
  have hwh : IntKind.i64.wrap ((p.hn : Int) - 1) = (p.hn : Int) - 1 := IntWalk.i64_in _ (by omega)
  have HR2 : Hid (ckSt v s = if inHb v.hs.length s = false then 3 else if roomOk v.hs (abd v.ls s) = false then 13 else 0) := Lib.hid (by rw [HR.out, if_neg (by rw [hl, hV.ll]; simp; exact hln)])
  clear hE hl hln HR
  go_enter Try.func29, Try.ntmps29
  go_wp2_with (first
      | (go_at_call 27; refine (check_any v p _ hF hLF (hV.call B0)).mono ?_; rintro e_1 w_1 ⟨rfl, hb_1⟩; rw [HE.out]; have k_1 := k0.call hb_1; have B_1 := B0.trans (hb_1.mono B0.size); obtain ⟨c0_1, c1_1, c2_1, c3_1, c4_1, c5_1, c6_1, cf_1, cz_1⟩ := k_1.seven)
      | fail)
  go_loopw [21] (fun i wr => ∃ k : Nat, k ≤ sn ∧ i = .int .i64 k ∧ Hid (∀ j : Nat, j < k → ∀ x, s[j]? = some x → -1 ≤ x ∧ x ≤ (p.hn : Int) - 1) ∧ Bx wr w.heap.size 26 #[.int .i64 v.li, .int .i64 v.un, .int .i64 v.tr, .slice p.HA p.hn p.hc, .int .i64 v.le, .slice p.SA p.sn p.sc, .slice p.LA p.ln p.lc] ∧ Below w.heap.size w wr) (fun i _ => sn - (intOf i).toNat)
  case atStart => exact ⟨0, by omega, rfl, Lib.hid (fun j hj => by omega), k_1, B_1⟩
  case round =>
    clear hb_1 k_1 B_1 c0_1 c1_1 c2_1 c3_1 c4_1 c5_1 c6_1 cf_1 cz_1
    obtain ⟨k, hk, rfl, hall, k0', B0'⟩ := hrel
    obtain ⟨c0_1, c1_1, c2_1, c3_1, c4_1, c5_1, c6_1, cf_1, cz_1⟩ := k0'.seven
    by_cases hks : k < sn
    · have hke : k < s.length := by rw [HL.out]; exact hks
      obtain ⟨ad, rfl, _, q0⟩ := inr_at ((hS.below B0').more B0'.size) hke
      have hget := List.getElem?_eq_getElem hke
      obtain ⟨x, hx⟩ : ∃ x, s[k] = x := ⟨_, rfl⟩
      rw [hx] at q0 hget
      have HG := Lib.hid hget
      clear hget hx
      have hiw : IntKind.i64.wrap ((k : Int) + 1) = (k : Int) + 1 := IntWalk.i64_in _ (by omega)
      by_cases hin : -1 ≤ x ∧ x ≤ (p.hn : Int) - 1
      · have hall' : Hid (∀ j : Nat, j < k + 1 → ∀ x, s[j]? = some x → -1 ≤ x ∧ x ≤ (p.hn : Int) - 1) := Lib.hid (fun j hj y hy => by
          by_cases e : j = k
          · subst e; rw [HG.out] at hy; cases hy; exact hin
          · exact hall.out j (by omega) y hy)
        clear hS
        go_wp2_with (first | (go_at_call 62; refine (isWithin_yes _ _ _ _ hin).mono ?_; rintro e w1 ⟨rfl, hb⟩) | fail)
        go_roundw
        case rel => exact ⟨k + 1, by omega, by go_num, hall', k0'.call hb, B0'.trans (hb.mono B0'.size)⟩
        case measure => simp [intOf]; omega
      · have HR3 : Hid (ckSt v s = 3) := Lib.hid (by
          rw [HR2.out, if_pos]
          cases h : inHb v.hs.length s with
          | false => rfl
          | true =>
            have := inHb_iff.1 h x (List.mem_of_getElem? HG.out)
            rw [hV.hl] at this
            omega)
        clear hS
        go_wp2_with (first | (go_at_call 62; refine (isWithin_no _ _ _ _ hin).mono ?_; rintro e w1 ⟨rfl, hb⟩) | fail)
        go_ret
        exact ⟨ret_int HR3.out.symm, B0'.trans (hb.mono B0'.size)⟩
    · have hin : InH v.hs.length s := fun x hx => by
        obtain ⟨j, hj⟩ := List.getElem?_of_mem hx
        have hjl := (List.getElem?_eq_some_iff.1 hj).1
        rw [HL.out] at hjl
        have := hall.out j (by omega) x hj
        rw [hV.hl]; omega
      have hb' := inHb_iff.2 hin
      have hroom := isRoomFor_any v p A sn sc s wr ho ((hV.below B0').more B0'.size) ((hS.below B0').more B0'.size) HL.out (by rw [HLN.out]; exact Nat.le_refl _) (inH_held hin)
      obtain ⟨rm, hrm⟩ : ∃ b, roomOk v.hs (abd v.ls s) = b := ⟨_, rfl⟩
      rw [hrm] at hroom
      have HR4 : Hid (ckSt v s = if rm = false then 13 else 0) := Lib.hid (by rw [HR2.out, if_neg (by rw [hb']; simp), hrm])
      clear hin hb' hrm hS hall
      cases rm
      · go_wp2_with (first | (go_at_call 69; refine hroom.mono ?_; rintro e w1 ⟨rfl, hb⟩) | fail)
        go_ret
        exact ⟨ret_int (by rw [HR4.out]; rfl), B0'.trans (hb.mono B0'.size)⟩
      · go_wp2_with (first | (go_at_call 69; refine hroom.mono ?_; rintro e w1 ⟨rfl, hb⟩) | fail)
        go_ret
        exact ⟨ret_int (by rw [HR4.out]; rfl), B0'.trans (hb.mono B0'.size)⟩
end Go.Proofs.Ytfcpjkofbejleaa
