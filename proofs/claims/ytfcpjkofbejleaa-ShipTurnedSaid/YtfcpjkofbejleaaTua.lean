/- Mathematics of layer 7: bow and stern change places. -/
import Derived.Test.YtfcpjkofbejleaaXvM
set_option linter.unusedSimpArgs false
set_option linter.unusedVariables false
namespace Go.Proofs.Ytfcpjkofbejleaa
open Go Go.RowKit
/-! Bow and stern change places. -/
def sw (h : Hd) : Hd := ⟨h.rm, h.st, h.bw⟩
theorem hd_sw (hs : List Hd) (k : Int) : hd (hs.map sw) k = sw (hd hs k) := by
  unfold hd
  rw [List.getElem?_map]
  cases hs[k.toNat]? <;> rfl
theorem tms_neg (a b n : Int) : tms a b (-n) = (-(tms a b n).2, -(tms a b n).1) := by
  unfold tms
  by_cases h : n < 0
  · rw [if_neg (by omega), if_pos h]; simp [Int.mul_neg]
  · by_cases h0 : n = 0
    · subst h0; simp
    · rw [if_pos (by omega), if_neg h]; simp [Int.mul_neg]
theorem sum_neg {α : Type} (f : α → Int) : ∀ L : List α, (L.map fun x => -(f x)).sum = -(L.map f).sum
  | [] => rfl
  | x :: r => by simp only [List.map_cons, List.sum_cons, sum_neg f r]; omega
/-- A voyage whose bow and stern have changed places. -/
def turn (v : Vg) : Vg := ⟨v.li, v.un, v.tr, v.le, v.hs.map sw, v.ss, v.ls⟩
theorem turn_deep (v : Vg) (L : List (Cg × Int)) (g : Bool) : deepB (turn v) L g = deepS v L g ∧ deepS (turn v) L g = deepB v L g := by
  unfold deepB deepS turn
  dsimp only
  constructor
  · congr 2
    exact List.map_congr_left fun p _ => by rw [hd_sw]; rfl
  · congr 2
    exact List.map_congr_left fun p _ => by rw [hd_sw]; rfl
theorem turn_tilt (v : Vg) (L : List (Cg × Int)) : tiltP (turn v).hs L = (-(tiltP v.hs L).2, -(tiltP v.hs L).1) := by
  unfold tiltP turn
  dsimp only
  rw [← sum_neg, ← sum_neg]
  have e : ∀ p : Cg × Int, tms p.1.t0 p.1.t1 ((hd (v.hs.map sw) p.2).bw - (hd (v.hs.map sw) p.2).st) = (-(tms p.1.t0 p.1.t1 ((hd v.hs p.2).bw - (hd v.hs p.2).st)).2, -(tms p.1.t0 p.1.t1 ((hd v.hs p.2).bw - (hd v.hs p.2).st)).1) := fun p => by
    rw [hd_sw, ← tms_neg]
    show tms _ _ ((hd v.hs p.2).st - (hd v.hs p.2).bw) = _
    rw [show (hd v.hs p.2).st - (hd v.hs p.2).bw = -((hd v.hs p.2).bw - (hd v.hs p.2).st) by omega]
  refine Prod.ext ?_ ?_
  · exact congrArg List.sum (List.map_congr_left fun p _ => by rw [e])
  · exact congrArg List.sum (List.map_congr_left fun p _ => by rw [e])
theorem turn_sal (v : Vg) (L : List (Cg × Int)) (g : Bool) : salM (turn v) L g = salM v L g := by
  unfold salM needsM
  rw [(turn_deep v L g).1, (turn_deep v L g).2, Int.max_comm]
  rfl
theorem turn_lvl (v : Vg) (x : Int × Int) : lvlOk (turn v) (-x.2, -x.1) = lvlOk v x := by
  unfold lvlOk turn
  dsimp only
  rw [Int.neg_neg, Int.max_comm]
theorem turn_room (v : Vg) (L : List (Cg × Int)) : roomOk (turn v).hs L = roomOk v.hs L := by
  unfold roomOk turn
  dsimp only
  rw [List.length_map]
  congr 1
  funext k
  rw [hd_sw]
  rfl
theorem turn_okB (v : Vg) : okB (turn v) = okB v := funext fun s => by
  unfold okB
  show (roomOk (turn v).hs (abd v.ls s) && lvlOk (turn v) (tiltP (turn v).hs (abd v.ls s)) && passM (turn v) (abd v.ls s)) = _
  rw [turn_room, turn_tilt, turn_lvl]
  unfold passM
  rw [turn_sal]
  rfl
theorem turn_best (v : Vg) : bestM (turn v) = bestM v := by
  rw [bestM_eq, bestM_eq, turn_okB]
  unfold turn
  dsimp only
  rw [List.length_map]
  rfl
theorem turn_ok {v : Vg} (h : v.Ok) : (turn v).Ok := ⟨h.li, h.un, h.tr, h.le, by unfold turn; dsimp only; rw [List.length_map]; exact h.h1, by unfold turn; dsimp only; rw [List.length_map]; exact h.h3, fun z hz => by
  unfold turn at hz
  obtain ⟨y, hy, rfl⟩ := List.mem_map.1 hz
  have o := h.hs y hy
  exact ⟨o.rm, o.st, o.bw⟩, h.s4, h.ss, h.l6, h.ls⟩
theorem turn_st {v : Vg} {s : List Int} (hc : ckV (turn v) = 0) (h : ckSt v s = 0) : ckSt (turn v) s = 0 := by
  have k := ckSt_ok h
  have e1 : (turn v).ls = v.ls := rfl
  have e2 : (turn v).hs.length = v.hs.length := by unfold turn; simp
  unfold ckSt
  rw [if_neg (by rw [hc]; simp), if_neg (by rw [e1, k.len]; simp), if_neg (by rw [e2, inHb_iff.2 k.inh]; simp), if_neg (by rw [turn_room, e1, k.room]; simp)]
/-- The holds before i are turned. -/
structure Swp (hs hs' : List Hd) (i : Nat) : Prop where
  len : hs'.length = hs.length
  row : ∀ (j : Nat) (z : Hd), hs[j]? = some z → hs'[j]? = some (if j < i then sw z else z)
theorem Swp.start (hs : List Hd) : Swp hs hs 0 := ⟨rfl, fun j z h => by rw [if_neg (by omega)]; exact h⟩
theorem Swp.step {hs hs' : List Hd} {i : Nat} {z y : Hd} (h : Swp hs hs' i) (hz : hs[i]? = some z) : Swp hs ((hs'.set i y).set i (sw z)) (i + 1) := by
  have hi : i < hs'.length := by rw [h.len]; exact (List.getElem?_eq_some_iff.1 hz).1
  refine ⟨by simp [h.len], fun j x hx => ?_⟩
  by_cases e : i = j
  · subst e
    rw [hz, Option.some.injEq] at hx
    subst hx
    rw [List.getElem?_set_self (by simpa using hi), if_pos (by omega)]
  · rw [List.getElem?_set_ne e, List.getElem?_set_ne e, h.row j x hx]
    congr 1
    by_cases hj : j < i
    · rw [if_pos hj, if_pos (by omega)]
    · rw [if_neg hj, if_neg (by omega)]
theorem Swp.done {hs hs' : List Hd} (h : Swp hs hs' hs.length) : hs' = hs.map sw := by
  refine List.ext_getElem? fun j => ?_
  rw [List.getElem?_map]
  by_cases hj : j < hs.length
  · have := h.row j _ (List.getElem?_eq_getElem hj)
    rw [this, List.getElem?_eq_getElem hj, if_pos hj]
    rfl
  · rw [List.getElem?_eq_none (by rw [h.len]; omega), List.getElem?_eq_none (by omega)]
    rfl
end Go.Proofs.Ytfcpjkofbejleaa
