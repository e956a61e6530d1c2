/- The tables of bridge.weightsBefore, as plain mathematics. -/
import Derived.Test.YtgbogdckmfencaaTf
set_option linter.unusedSimpArgs false
set_option linter.unusedVariables false
namespace Go.Proofs.Ytgbogdckmfencaa
open Go.RowKit
/-- A row is laid out for the zeros that an event may have. -/
def clearR (e : Nat) (T : Nat → Int × Int) (zs : List Int) : Nat → Int × Int := zs.foldl (fun S z => upd S (ix e z) noth) T
/-- What truths weigh up to one zero is carried on. -/
def onto (e : Nat) (so : Int × Int) (T : Nat → Int × Int) (zs : List Int) : Nat → Int × Int := zs.foldl (fun S z => upd S (ix e z) (cov (S (ix e z)) so)) T
def soFar (wt : Nat → Int → Int × Int) (e : Nat) (T : Nat → Int × Int) (z : Int) : Int × Int := ((T (ix e z)).1 + (wt e z).1, (T (ix e z)).2 + (wt e z).2)
def passOn (wt fol : Nat → Int → Int × Int) (e : Nat) (T : Nat → Int × Int) (zs : List Int) : Nat → Int × Int :=
  zs.foldl (fun S z => onto (e + 1) (soFar wt e S z) S (rngL (fol e z).1 (fol e z).2)) T
def Tbe (wt fol : Nat → Int → Int × Int) (f : Nat → Int × Int) : Nat → (Nat → Int × Int)
  | 0 => fun _ => (0, 0)
  | e + 1 => passOn wt fol e (clearR (e + 1) (Tbe wt fol f e) (rngL (f (e + 1)).1 (f (e + 1)).2)) (rngL (f e).1 (f e).2)
theorem clearR_snoc (e : Nat) (T : Nat → Int × Int) (zs : List Int) (z : Int) : clearR e T (zs ++ [z]) = upd (clearR e T zs) (ix e z) noth := by simp [clearR]
theorem onto_snoc (e : Nat) (so : Int × Int) (T : Nat → Int × Int) (zs : List Int) (z : Int) : onto e so T (zs ++ [z]) = upd (onto e so T zs) (ix e z) (cov (onto e so T zs (ix e z)) so) := by simp [onto]
theorem passOn_snoc (wt fol : Nat → Int → Int × Int) (e : Nat) (T : Nat → Int × Int) (zs : List Int) (z : Int) :
    passOn wt fol e T (zs ++ [z]) = onto (e + 1) (soFar wt e (passOn wt fol e T zs) z) (passOn wt fol e T zs) (rngL (fol e z).1 (fol e z).2) := by simp [passOn]
/-- The entries of a row, or of those up to it, within bounds. -/
def RowBd (b : Int) (T : Nat → Int × Int) : Prop := ∀ i, Bd b (T i)
theorem clearR_bd {b : Int} (hb : 1073741824 ≤ b) (e : Nat) (T : Nat → Int × Int) (h : RowBd b T) : ∀ zs, RowBd b (clearR e T zs) := by
  refine snoc_ind h fun zs z ih i => ?_
  rw [clearR_snoc]
  unfold upd
  split
  · unfold Bd noth; simp; omega
  · exact ih i
theorem onto_bd {b : Int} (e : Nat) (so : Int × Int) (T : Nat → Int × Int) (h : RowBd b T) (hs : Bd b so) : ∀ zs, RowBd b (onto e so T zs) := by
  refine snoc_ind h fun zs z ih i => ?_
  rw [onto_snoc]
  unfold upd
  split
  · have := ih (ix e z)
    unfold Bd cov at *
    (try simp only) <;> omega
  · exact ih i
/-- Entries of the rows up to e within b, of the rows from e + 1 on within c. -/
def TwoBd (e : Nat) (b c : Int) (T : Nat → Int × Int) : Prop := (∀ i, i < (e + 1) * 401 → Bd b (T i)) ∧ RowBd c T
theorem passOn_two {b : Int} (wt fol : Nat → Int → Int × Int) (e : Nat) (hw : ∀ e z, Bd 100000 (wt e z)) (T : Nat → Int × Int) (h : TwoBd e b (b + 100000) T) : ∀ zs, (∀ z ∈ zs, -200 ≤ z ∧ z ≤ 200) → TwoBd e b (b + 100000) (passOn wt fol e T zs) := by
  refine snoc_ind (fun _ => h) fun zs z ih hz => ?_
  rw [passOn_snoc]
  have h0 := ih fun y hy => hz y (by simp [hy])
  have hzz := hz z (by simp)
  have h1 := h0.1 (ix e z) (by unfold ix; omega)
  have h2 := hw e z
  have hs : Bd (b + 100000) (soFar wt e (passOn wt fol e T zs) z) := by
    unfold soFar Bd at *
    (try simp only) <;> omega
  refine ⟨fun i hi => ?_, onto_bd _ _ _ h0.2 hs _⟩
  have hfar : ∀ ys : List Int, onto (e + 1) (soFar wt e (passOn wt fol e T zs) z) (passOn wt fol e T zs) ys i = passOn wt fol e T zs i := by
    refine snoc_ind rfl fun ys y ih => ?_
    rw [onto_snoc]
    unfold upd ix
    rw [if_neg (by omega)]
    exact ih
  rw [hfar]
  exact h0.1 i hi
theorem rngL_mem {lo hi z : Int} (h : z ∈ rngL lo hi) : lo ≤ z ∧ z ≤ hi := by
  unfold rngL at h
  obtain ⟨i, hi', rfl⟩ := List.mem_map.1 h
  have := List.mem_range.1 hi'
  omega
theorem Tbe_bd (wt fol : Nat → Int → Int × Int) (f : Nat → Int × Int) (n : Nat) (hw : ∀ e z, Bd 100000 (wt e z)) (hf : ∀ i, i < n → -200 ≤ (f i).1 ∧ (f i).1 ≤ 200 ∧ -200 ≤ (f i).2 ∧ (f i).2 ≤ 200) : ∀ (e : Nat), e < n → RowBd (1073741824 + (e : Int) * 100000) (Tbe wt fol f e) := by
  intro e
  induction e with
  | zero => intro _ i; unfold Tbe Bd; simp
  | succ e ih =>
    intro he
    have h0 := ih (by omega)
    have h1 := clearR_bd (b := 1073741824 + (e : Int) * 100000) (by omega) (e + 1) _ h0 (rngL (f (e + 1)).1 (f (e + 1)).2)
    have h2 := passOn_two (b := 1073741824 + (e : Int) * 100000) wt fol e hw _ ⟨fun i _ => h1 i, fun i => (h1 i).mono (by omega)⟩ (rngL (f e).1 (f e).2) (fun z hz => by have := rngL_mem hz; have := hf e (by omega); omega)
    have e1 : (1073741824 + (e : Int) * 100000 + 100000) = 1073741824 + ((e + 1 : Nat) : Int) * 100000 := by push_cast; omega
    rw [← e1]
    exact h2.2
theorem part_Bd (wt fol : Nat → Int → Int × Int) (f : Nat → Int × Int) (n : Nat) (hn : n ≤ 14) (hw : ∀ e z, Bd 100000 (wt e z)) (hf : ∀ i, i < n → -200 ≤ (f i).1 ∧ (f i).1 ≤ 200 ∧ -200 ≤ (f i).2 ∧ (f i).2 ≤ 200) (e : Nat) (he : e + 1 < n) (ys zs : List Int) (hz : ∀ z ∈ zs, -200 ≤ z ∧ z ≤ 200) :
    RowBd 1080000000 (passOn wt fol e (clearR (e + 1) (Tbe wt fol f e) ys) zs) := by
  have h0 := Tbe_bd wt fol f n hw hf e (by omega)
  have h1 := clearR_bd (b := 1073741824 + (e : Int) * 100000) (by omega) (e + 1) _ h0 ys
  have h2 := passOn_two (b := 1073741824 + (e : Int) * 100000) wt fol e hw _ ⟨fun i _ => h1 i, fun i => (h1 i).mono (by omega)⟩ zs hz
  exact fun i => (h2.2 i).mono (by omega)
end Go.Proofs.Ytgbogdckmfencaa
