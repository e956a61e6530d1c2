/- Stowages that swarfkit makes are valid: mathematics. -/
import Derived.Test.YtfcpjkofbejleaaYc
set_option linter.unusedSimpArgs false
set_option linter.unusedVariables false
namespace Go.Proofs.Ytfcpjkofbejleaa
open Go Go.RowKit
theorem zip_snoc {α β : Type} : ∀ (a : List α) (l : List β) (x : β) (h : l.length < a.length), a.zip (l ++ [x]) = a.zip l ++ [(a[l.length], x)]
  | [], l, x, h => by simp at h
  | y :: a, [], x, h => by simp
  | y :: a, z :: l, x, h => by
    have := zip_snoc a l x (by simpa using h)
    simp only [List.cons_append, List.zip_cons_cons, this, List.length_cons, List.getElem_cons_succ]
theorem abd_add (ls : List Cg) (l : List Int) (x : Int) (h : l.length < ls.length) : abd ls (l ++ [x]) = abd ls l ++ (if x = -1 then [] else [(ls[l.length], x)]) := by
  unfold abd
  rw [zip_snoc ls l x h, List.filter_append]
  congr 1
  by_cases hx : x = -1
  · subst hx; simp
  · rw [if_neg hx]; simp [hx]
theorem sumH_abd (ls : List Cg) (l : List Int) (x : Int) (h : l.length < ls.length) (k : Int) (hk : x ≠ -1 ∨ 0 ≤ k) : sumH (abd ls (l ++ [x])) k = sumH (abd ls l) k + (if x = k then ls[l.length].t1 else 0) := by
  rw [abd_add ls l x h]
  by_cases hx : x = -1
  · rw [if_pos hx, List.append_nil, if_neg (by omega)]; omega
  · rw [if_neg hx, sumH_snoc]
theorem sumH_nil (ls : List Cg) (k : Int) : sumH (abd ls []) k = 0 := by
  have : abd ls [] = [] := by unfold abd; simp
  rw [this]; rfl
theorem st_ok {v : Vg} {l : List Int} (hv : ckV v = 0) (hl : l.length = v.ls.length) (hi : InH v.hs.length l) (hr : ∀ k : Nat, k < v.hs.length → sumH (abd v.ls l) k ≤ (hd v.hs k).rm) : ckSt v l = 0 := by
  unfold ckSt
  rw [if_neg (by rw [hv]; simp), if_neg (by rw [hl]; simp), if_neg (by rw [inHb_iff.2 hi]; simp), if_neg (by rw [roomOk_iff.2 hr]; simp)]
end Go.Proofs.Ytfcpjkofbejleaa
