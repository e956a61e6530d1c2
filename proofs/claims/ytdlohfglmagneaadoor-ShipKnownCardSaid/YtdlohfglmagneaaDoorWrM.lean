/- CheckStowage. -/
import Derived.Test.YtdlohfglmagneaaDoorAh
import Derived.Test.YtdlohfglmagneaaDoorVl
import Derived.Test.YtdlohfglmagneaaDoorItM
import Derived.Lib.AppendIntMem
import Derived.Lib.ItoaLen
set_option linter.unusedSimpArgs false
set_option linter.unusedVariables false
namespace Go.Proofs.YtdlohfglmagneaaDoor
open Go Go.RowKit
theorem inH_held {v : Vg} {s : List Int} (h : InH v.hs.length s) : Held v s := fun x hx => by
  obtain ⟨_, h2, h3⟩ := abd_mem hx
  have := h _ h2
  omega
set_option maxHeartbeats 1600000 in
theorem checkStowage_any (v : Vg) (p : Vp) (A : Option Addr) (sn sc : Nat) (s : List Int) (w : World) (hF : p.Fit) (hLF : LvFit v) (hV : VoyAt w w.heap.size v p) (hS : Sl w w.heap.size 1 A (inr s)) (hl : s.length = sn) (hsn : sn ≤ 1000000) :
    Calls Tryd.prog 8 #[.agg (vcs v p), .slice A sn sc] w fun e w' => e = .returned (.int .i64 (ckSt v s)) ∧ Below w.heap.size w w' := by
  have k0 := Bx.new w 26 (vcs v p)
  have B0 := (Below.refl w.heap.size w).alloc (Nat.le_refl _) (.cells (vcs v p) 26)
  have HL := Lib.hid hl
  obtain ⟨E, hE⟩ : ∃ E, ckV v = E := ⟨_, rfl⟩
  have HE := Lib.hid hE
  rw [vcs_def] at k0 B0 ⊢
  by_cases hz : E = 0
  case neg =>
    have hz1 : (E != 0) = true := by simpa using hz
    have HR : Hid (ckSt v s = E) := Lib.hid (by unfold ckSt; rw [hE, if_pos hz])
    rw [HR.out]
    clear hE hl
    go_enter Tryd.func8, Tryd.ntmps8
    go_wp2_with (first
        | (go_at_call 7; refine (check_any v p _ hF hLF (hV.call B0)).mono ?_; rintro e_1 w_1 ⟨rfl, hb_1⟩; rw [HE.out]; have k_1 := k0.call hb_1; have B_1 := B0.trans (hb_1.mono B0.size); obtain ⟨c0_1, c1_1, c2_1, c3_1, c4_1, c5_1, c6_1, cf_1, cz_1⟩ := k_1.seven)
        | fail)
    go_ret
    exact ⟨rfl, B_1⟩
  subst hz
  have ho := ckV_ok hE
  have HR : Hid (ckSt v s = if s.length ≠ v.ls.length then 2 else if inHb v.hs.length s = false then 3 else if roomOk v.hs (abd v.ls s) = false then 13 else 0) := Lib.hid (by unfold ckSt; rw [hE, if_neg (by simp)])
  by_cases hln : sn = p.ln
  case neg =>
    have hne : ((sn : Int) != (p.ln : Int)) = true := by simp; omega
    have HR2 : Hid (ckSt v s = 2) := Lib.hid (by rw [HR.out, if_pos (by rw [hl, hV.ll]; exact hln)])
    rw [HR2.out]
    clear hE hl hln
    go_enter Tryd.func8, Tryd.ntmps8
    go_wp2_with (first
        | (go_at_call 7; refine (check_any v p _ hF hLF (hV.call B0)).mono ?_; rintro e_1 w_1 ⟨rfl, hb_1⟩; rw [HE.out]; have k_1 := k0.call hb_1; have B_1 := B0.trans (hb_1.mono B0.size); obtain ⟨c0_1, c1_1, c2_1, c3_1, c4_1, c5_1, c6_1, cf_1, cz_1⟩ := k_1.seven)
        | fail)
    go_ret
    exact ⟨rfl, B_1⟩
  have hne : ((sn : Int) != (p.ln : Int)) = false := by simp; omega
  have h6 := ho.l6
  have h3 := ho.h3
  have h1 := ho.h1
  have hln6 : p.ln ≤ 6 := by rw [← hV.ll]; exact h6
  have hhn : p.hn ≤ 3 := by rw [← hV.hl]; exact h3
  have hhn1 : 1 ≤ p.hn := by rw [← hV.hl]; exact h1
  have HLN := Lib.hid hln
  have hwh : IntKind.i64.wrap ((p.hn : Int) - 1) = (p.hn : Int) - 1 := IntWalk.i64_in _ (by omega)
  have HR2 : Hid (ckSt v s = if inHb v.hs.length s = false then 3 else if roomOk v.hs (abd v.ls s) = false then 13 else 0) := Lib.hid (by rw [HR.out, if_neg (by rw [hl, hV.ll]; simp; exact hln)])
  clear hE hl hln HR
  go_enter Tryd.func8, Tryd.ntmps8
  go_wp2_with (first
      | (go_at_call 7; refine (check_any v p _ hF hLF (hV.call B0)).mono ?_; rintro e_1 w_1 ⟨rfl, hb_1⟩; rw [HE.out]; have k_1 := k0.call hb_1; have B_1 := B0.trans (hb_1.mono B0.size); obtain ⟨c0_1, c1_1, c2_1, c3_1, c4_1, c5_1, c6_1, cf_1, cz_1⟩ := k_1.seven)
      | fail)
  go_loopw [21] (fun i wr => ∃ k : Nat, k ≤ sn ∧ i = .int .i64 k ∧ Hid (∀ j : Nat, j < k → ∀ x, s[j]? = some x → -1 ≤ x ∧ x ≤ (p.hn : Int) - 1) ∧ Bx wr w.heap.size 26 #[.int .i64 v.li, .int .i64 v.un, .int .i64 v.tr, .slice p.HA p.hn p.hc, .int .i64 v.le, .slice p.SA p.sn p.sc, .slice p.LA p.ln p.lc] ∧ Below w.heap.size w wr) (fun i _ => sn - (intOf i).toNat)
  case atStart => exact ⟨0, by omega, rfl, Lib.hid (fun j hj => by omega), k_1, B_1⟩
  case round =>
    clear hb_1 k_1 B_1 c0_1 c1_1 c2_1 c3_1 c4_1 c5_1 c6_1 cf_1 cz_1
    obtain ⟨k, hk, rfl, hall, k0', B0'⟩ := hrel
    obtain ⟨c0_1, c1_1, c2_1, c3_1, c4_1, c5_1, c6_1, cf_1, cz_1⟩ := k0'.seven
    by_cases hks : k < sn
    · have hke : k < s.length := by rw [HL.out]; exact hks
      obtain ⟨ad, rfl, _, q0⟩ := inr_at ((hS.below B0').more B0'.size) hke
      have hget := List.getElem?_eq_getElem hke
      obtain ⟨x, hx⟩ : ∃ x, s[k] = x := ⟨_, rfl⟩
      rw [hx] at q0 hget
      have HG := Lib.hid hget
      clear hget hx
      have hiw : IntKind.i64.wrap ((k : Int) + 1) = (k : Int) + 1 := IntWalk.i64_in _ (by omega)
      by_cases hin : -1 ≤ x ∧ x ≤ (p.hn : Int) - 1
      · have hall' : Hid (∀ j : Nat, j < k + 1 → ∀ x, s[j]? = some x → -1 ≤ x ∧ x ≤ (p.hn : Int) - 1) := Lib.hid (fun j hj y hy => by
          by_cases e : j = k
          · subst e; rw [HG.out] at hy; cases hy; exact hin
          · exact hall.out j (by omega) y hy)
        clear hS
        go_wp2_with (first | (go_at_call 18; refine (isWithin_yes _ _ _ _ hin).mono ?_; rintro e w1 ⟨rfl, hb⟩) | fail)
        go_roundw
        case rel => exact ⟨k + 1, by omega, by go_num, hall', k0'.call hb, B0'.trans (hb.mono B0'.size)⟩
        case measure => simp [intOf]; omega
      · have HR3 : Hid (ckSt v s = 3) := Lib.hid (by
          rw [HR2.out, if_pos]
          cases h : inHb v.hs.length s with
          | false => rfl
          | true =>
            have := inHb_iff.1 h x (List.mem_of_getElem? HG.out)
            rw [hV.hl] at this
            omega)
        clear hS
        go_wp2_with (first | (go_at_call 18; refine (isWithin_no _ _ _ _ hin).mono ?_; rintro e w1 ⟨rfl, hb⟩) | fail)
        go_ret
        exact ⟨ret_int HR3.out.symm, B0'.trans (hb.mono B0'.size)⟩
    · have hin : InH v.hs.length s := fun x hx => by
        obtain ⟨j, hj⟩ := List.getElem?_of_mem hx
        have hjl := (List.getElem?_eq_some_iff.1 hj).1
        rw [HL.out] at hjl
        have := hall.out j (by omega) x hj
        rw [hV.hl]; omega
      have hb' := inHb_iff.2 hin
      have hroom := isRoomFor_any v p A sn sc s wr ho ((hV.below B0').more B0'.size) ((hS.below B0').more B0'.size) HL.out (by rw [HLN.out]; exact Nat.le_refl _) (inH_held hin)
      obtain ⟨rm, hrm⟩ : ∃ b, roomOk v.hs (abd v.ls s) = b := ⟨_, rfl⟩
      rw [hrm] at hroom
      have HR4 : Hid (ckSt v s = if rm = false then 13 else 0) := Lib.hid (by rw [HR2.out, if_neg (by rw [hb']; simp), hrm])
      clear hin hb' hrm hS hall
      cases rm
      · go_wp2_with (first | (go_at_call 21; refine hroom.mono ?_; rintro e w1 ⟨rfl, hb⟩) | fail)
        go_ret
        exact ⟨ret_int (by rw [HR4.out]; rfl), B0'.trans (hb.mono B0'.size)⟩
      · go_wp2_with (first | (go_at_call 21; refine hroom.mono ?_; rintro e w1 ⟨rfl, hb⟩) | fail)
        go_ret
        exact ⟨ret_int (by rw [HR4.out]; rfl), B0'.trans (hb.mono B0'.size)⟩
end Go.Proofs.YtdlohfglmagneaaDoor

/-! rows.Write. -/
namespace Go.Proofs.YtdlohfglmagneaaDoor
open Go Go.RowKit
def spB : ByteArray := ⟨#[32]⟩
def numB (n : Int) : ByteArray := spB ++ ⟨(Lib.itoa n).toArray⟩
def rowB (word : ByteArray) (L : List Int) : ByteArray := L.foldl (fun r n => r ++ numB n) word
theorem rowB_snoc (word : ByteArray) (L : List Int) (n : Int) : rowB word (L ++ [n]) = rowB word L ++ numB n := by simp [rowB]
theorem spB_size : spB.size = 1 := rfl
theorem itoaB_size (n : Int) : (⟨(Lib.itoa n).toArray⟩ : ByteArray).size = (Lib.itoa n).length := by simp [ByteArray.size]
theorem numB_size {n : Int} (h0 : -9223372036854775808 ≤ n) (h1 : n ≤ 9223372036854775807) : (numB n).size ≤ 22 := by
  unfold numB
  rw [ByteArray.size_append, spB_size, itoaB_size]
  have := Lib.itoa_length_le n h0 h1
  omega
theorem rowB_size : ∀ {L : List Int} (word : ByteArray) (_ : ∀ x ∈ L, -9223372036854775808 ≤ x ∧ x ≤ 9223372036854775807), (rowB word L).size ≤ word.size + 22 * L.length
  | [], word, _ => by simp [rowB]
  | x :: r, word, h => by
    have e : rowB word (x :: r) = rowB (word ++ numB x) r := rfl
    rw [e]
    have h1 := rowB_size (L := r) (word ++ numB x) (fun y hy => h y (by simp [hy]))
    have h2 := numB_size (h x (by simp)).1 (h x (by simp)).2
    rw [ByteArray.size_append] at h1
    simp only [List.length_cons]
    omega
def Tab (B : Nat) (w : World) : Prop := Lib.TabBelow Tryd.prog B w "internal/strconv.uint64pow10" .u64 Lib.pow10Tab
set_option maxRecDepth 100000 in
set_option maxHeartbeats 2000000 in
theorem write54_any (word : ByteArray) (A : Option Addr) (n c : Nat) (L : List Int) (w : World) (hT : Tab w.heap.size w) (hl : L.length = n) (hn : n ≤ 1000) (hA0 : Sl w w.heap.size 1 A (inr L)) (hw : word.size ≤ 1000000) (hL : ∀ x ∈ L, -9223372036854775808 ≤ x ∧ x ≤ 9223372036854775807) :
    Calls Tryd.prog 54 #[.agg #[.string spB, .string spB], .string word, .slice A n c] w fun e w' => e = .returned (.string (rowB word L ++ ⟨#[10]⟩)) ∧ Below w.heap.size w w' := by
  have k1 := Bx.new w 112 #[.string spB, .string spB]
  have B0 := (Below.refl w.heap.size w).alloc (Nat.le_refl _) (.cells #[.string spB, .string spB] 112)
  obtain ⟨V, hV⟩ : ∃ V, w.alloc (.cells #[.string spB, .string spB] 112) = V := ⟨_, rfl⟩
  have hA := (hA0.below B0).more B0.size
  rw [hV] at k1 B0 hA
  have HV := Lib.hid hV
  have HL := Lib.hid hl
  have HLL := Lib.hid hL
  clear hV hA0 hl hL
  go_enter Tryd.func54, Tryd.ntmps54
  go_upto_region 1 with fail
  rw [HV.out]
  refine AnyG.startC (by kernel_rfl) ?_
  refine AnyG.takeP (i := 0) (v := ?_) rfl (by kernel_rfl) (fun _ _ _ h => h) rfl ?_ ?_
  rotate_left
  · (intro w'; go_simp; try with_reducible rfl)
  try simp only [Act.put, List.getElem_toArray, List.getElem_cons_succ, List.getElem_cons_zero, List.setIfInBounds_toArray, List.set_cons_zero, List.set_cons_succ]
  refine AnyG.takeP (i := 1) (v := ?_) rfl (by kernel_rfl) (fun _ _ _ h => h) rfl ?_ ?_
  rotate_left
  · (intro w'; go_simp; try with_reducible rfl)
  try simp only [Act.put, List.getElem_toArray, List.getElem_cons_succ, List.getElem_cons_zero, List.setIfInBounds_toArray, List.set_cons_zero, List.set_cons_succ]
  refine AnyG.enter (fun w' : World => Below V.heap.size V w') (fun i => i != 4) ?_
  have hS : (fun w' : World => Below V.heap.size V w') (World.drew _) := (Below.refl _ _).drew
  refine AnyG.takeC (i := 2) (v := ?_) rfl (by kernel_rfl) (fun _ _ _ h => h) rfl ?_ hS ?_
  rotate_left
  · (intro w' hSw; (try dsimp only at hSw); obtain ⟨x0, x1, xf, xz⟩ := (k1.call hSw).two; go_simp; try with_reducible rfl)
  try simp only [Act.put, List.getElem_toArray, List.getElem_cons_succ, List.getElem_cons_zero, List.setIfInBounds_toArray, List.set_cons_zero, List.set_cons_succ]
  refine AnyG.one (i := 3) (by kernel_rfl) rfl rfl ?_
  go_simp
  refine Onward.on hS (fun hS2 => ?_)
  clear hS
  have hS := hS2
  clear hS2
  try simp only [Act.put, List.getElem_toArray, List.getElem_cons_succ, List.getElem_cons_zero, List.setIfInBounds_toArray, List.set_cons_zero, List.set_cons_succ]
  refine AnyG.one (i := 4) (by kernel_rfl) rfl rfl ?_
  go_simp
  refine Onward.last rfl ?_
  try simp only [Act.put, List.getElem_toArray, List.getElem_cons_succ, List.getElem_cons_zero, List.setIfInBounds_toArray, List.set_cons_zero, List.set_cons_succ]
  refine AnyG.done (by kernel_rfl) ?_ _
  go_simp
  have hBV := Below.refl V.heap.size V
  go_wp2_with fail
  go_loopw [7, 8, 10, 16] (fun rv mv _ iv wr => ∃ k : Nat, iv = .int .i64 k ∧ k ≤ n ∧ rv = .string (rowB word (L.take k)) ∧ mv = .string spB ∧ Below V.heap.size V wr) (fun _ _ _ iv _ => n - (intOf iv).toNat)
  case atStart => exact ⟨0, rfl, by omega, rfl, rfl, (Below.refl _ _).drew⟩
  case round =>
    obtain ⟨k, rfl, hk, rfl, rfl, hB⟩ := hrel
    have kr := k1.call hB
    obtain ⟨x0, x1, xf, xz⟩ := kr.two
    by_cases hkn : k < n
    · have hkl : k < L.length := by rw [HL.out]; exact hkn
      obtain ⟨ad, rfl, _, p0⟩ := inr_at ((hA.below hB).more hB.size) hkl
      have hb := HLL.out _ (List.getElem_mem hkl)
      have hz0 := Lib.itoa_length_le _ hb.1 hb.2
      have hz9 := rowB_size word (L := L.take k) (fun x hx => HLL.out x (List.mem_of_mem_take hx))
      have hz8 : (L.take k).length ≤ 1000 := by simp; omega
      have HTK := Lib.hid (List.take_succ_eq_append_getElem hkl)
      generalize L[k] = x at *
      have hkw : IntKind.i64.wrap ((k : Int) + 1) = (k : Int) + 1 := IntWalk.i64_in _ (by omega)
      have hTw : Lib.TabIs Tryd.prog wr "internal/strconv.uint64pow10" .u64 Lib.pow10Tab := hT wr (B0.trans (hB.mono B0.size))
      have hz1 : ¬ 9223372036854775807 < spB.size + (Lib.itoa x).length := by rw [spB_size]; omega
      have hz2 : ¬ 9223372036854775807 < (rowB word (List.take k L)).size + (spB.size + (Lib.itoa x).length) := by rw [spB_size]; omega
      clear hkl hz0 hz9 hz8
      go_wp2_with (first
        | (go_at_call 57; refine (itoa_laid x hb.1 hb.2 _ hTw).mono ?_; rintro e w1 ⟨rfl, kk, os, rfl⟩; have hb1 := Lib.below_grow wr.heap.size wr (Nat.le_refl _) kk os; have k2 := kr.call hb1; clear x0 x1 xf xz; obtain ⟨x0, x1, xf, xz⟩ := k2.two)
        | fail)
      exact ⟨⟨k + 1, by go_num, by omega, by rw [HTK.out, rowB_snoc]; rfl, rfl, hB.trans (hb1.mono hB.size)⟩, by simp [intOf]; omega⟩
    · obtain rfl : k = n := by omega
      have hz9 := rowB_size word (L := L) HLL.out
      have hz1 : ¬ 9223372036854775807 < (rowB word L).size + 1 := by rw [HL.out] at hz9; omega
      rw [List.take_of_length_le (by rw [HL.out]; exact Nat.le_refl _)]
      clear hz9
      go_wp2_with fail
      go_ret
      exact ⟨rfl, B0.trans (hB.mono B0.size)⟩
set_option maxRecDepth 100000 in
set_option maxHeartbeats 1000000 in
theorem style53_any (w : World) : Calls Tryd.prog 53 #[.string spB] w fun e w' => e = .returned (.agg #[.string spB, .string spB]) ∧ Below w.heap.size w w' := by
  go_enter Tryd.func53, Tryd.ntmps53
  go_wp2_with fail
  have k := Bx.new w 112 #[.string spB, .string spB]
  obtain ⟨x0, x1, xf, xz⟩ := k.two
  exact bodyPost_ret (v := .agg #[.string spB, .string spB]) (by simp [results, Tryd.results53, go_sem, x0, x1]) rfl ⟨rfl, (Below.refl w.heap.size w).alloc (Nat.le_refl _) _⟩
theorem Tab.call {w w' : World} (h : Tab w.heap.size w) (hb : Below w.heap.size w w') : Tab w'.heap.size w' := fun x hx => h x (hb.trans (hx.mono hb.size))
set_option maxRecDepth 100000 in
set_option maxHeartbeats 1000000 in
theorem write47_any (word : ByteArray) (A : Option Addr) (n c : Nat) (L : List Int) (w : World) (hT : Tab w.heap.size w) (hl : L.length = n) (hn : n ≤ 1000) (hA0 : Sl w w.heap.size 1 A (inr L)) (hw : word.size ≤ 1000000) (hL : ∀ x ∈ L, -9223372036854775808 ≤ x ∧ x ≤ 9223372036854775807) :
    Calls Tryd.prog 47 #[.string spB, .string word, .slice A n c] w fun e w' => e = .returned (.string (rowB word L ++ ⟨#[10]⟩)) ∧ Below w.heap.size w w' := by
  have HL := Lib.hid hl
  have HLL := Lib.hid hL
  clear hl hL
  go_enter Tryd.func47, Tryd.ntmps47
  go_wp2_with (first
    | (go_at_call 53; refine (style53_any _).mono ?_; rintro e w1 ⟨rfl, hb1⟩)
    | (go_at_call 54; refine (write54_any word A n c L _ (hT.call hb1) HL.out hn ((hA0.below hb1).more hb1.size) hw HLL.out).mono ?_; rintro e w2 ⟨rfl, hb2⟩)
    | fail)
  go_ret
  exact ⟨rfl, hb1.trans (hb2.mono hb1.size)⟩
set_option maxRecDepth 100000 in
set_option maxHeartbeats 1000000 in
/-- rows.Write: a word, each number behind a blank, the end of the row. -/
theorem rowsWrite_any (word : ByteArray) (A : Option Addr) (n c : Nat) (L : List Int) (w : World) (hT : Tab w.heap.size w) (hl : L.length = n) (hn : n ≤ 1000) (hA0 : Sl w w.heap.size 1 A (inr L)) (hw : word.size ≤ 1000000) (hL : ∀ x ∈ L, -9223372036854775808 ≤ x ∧ x ≤ 9223372036854775807) :
    Calls Tryd.prog 27 #[.string word, .slice A n c] w fun e w' => e = .returned (.string (rowB word L ++ ⟨#[10]⟩)) ∧ Below w.heap.size w w' := by
  have HL := Lib.hid hl
  have HLL := Lib.hid hL
  clear hl hL
  go_enter Tryd.func27, Tryd.ntmps27
  go_wp2_with (first
    | (go_at_call 47; refine (write47_any word A n c L _ hT HL.out hn hA0 hw HLL.out).mono ?_; rintro e w2 ⟨rfl, hb2⟩)
    | fail)
  go_ret
  exact ⟨rfl, hb2⟩
end Go.Proofs.YtdlohfglmagneaaDoor
