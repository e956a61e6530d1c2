/- The tables of bridge.weightsFrom, as plain mathematics. -/
import Derived.Test.YtgbogdckmfencaaNl
set_option linter.unusedSimpArgs false
set_option linter.unusedVariables false
namespace Go.Proofs.Ytgbogdckmfencaa
open Go.RowKit
theorem snoc_ind {α : Type} {p : List α → Prop} (h0 : p []) (h1 : ∀ l a, p l → p (l ++ [a])) : ∀ l, p l := by
  have : ∀ l : List α, p l.reverse := by
    intro l
    induction l with
    | nil => exact h0
    | cons a l ih => rw [List.reverse_cons]; exact h1 _ _ ih
  intro l
  have := this l.reverse
  rwa [List.reverse_reverse] at this
/-- The place of a zero at an event. -/
def ix (e : Nat) (z : Int) : Nat := e * 401 + (z + 200).toNat
theorem ix_lt {e n : Nat} {z : Int} (he : e < n) (h1 : -200 ≤ z) (h2 : z ≤ 200) : ix e z < n * 401 := by
  unfold ix
  have : (e + 1) * 401 ≤ n * 401 := Nat.mul_le_mul_right _ he
  omega
/-- What truths weigh from the next event on. -/
def restOf (fol : Nat → Int → Int × Int) (last : Bool) (e : Nat) (T : Nat → Int × Int) (z : Int) : Int × Int :=
  if last then (0, 0) else covers (fun nx => T (ix (e + 1) nx)) (rngL (fol e z).1 (fol e z).2)
def valOf (wt fol : Nat → Int → Int × Int) (last : Bool) (e : Nat) (T : Nat → Int × Int) (z : Int) : Int × Int :=
  ((wt e z).1 + (restOf fol last e T z).1, (wt e z).2 + (restOf fol last e T z).2)
/-- A row is filled, zero by zero. -/
def fill (wt fol : Nat → Int → Int × Int) (last : Bool) (e : Nat) (T : Nat → Int × Int) (zs : List Int) : Nat → Int × Int :=
  zs.foldl (fun S z => upd S (ix e z) (valOf wt fol last e T z)) T
theorem fill_snoc (wt fol : Nat → Int → Int × Int) (last : Bool) (e : Nat) (T : Nat → Int × Int) (zs : List Int) (z : Int) :
    fill wt fol last e T (zs ++ [z]) = upd (fill wt fol last e T zs) (ix e z) (valOf wt fol last e T z) := by simp [fill]
theorem fill_far (wt fol : Nat → Int → Int × Int) (last : Bool) (e : Nat) (T : Nat → Int × Int) : ∀ (zs : List Int), (∀ z ∈ zs, -200 ≤ z ∧ z ≤ 200) → ∀ i, (e + 1) * 401 ≤ i → fill wt fol last e T zs i = T i := by
  refine snoc_ind ?_ ?_
  · intro _ i _; rfl
  · intro zs z ih h i hi
    have hz := h z (by simp)
    rw [fill_snoc]
    unfold upd ix
    rw [if_neg (by omega)]
    exact ih (fun y hy => h y (by simp [hy])) i hi
/-- The table behind j events from the end on. -/
def Tab (wt fol : Nat → Int → Int × Int) (f : Nat → Int × Int) (n : Nat) : Nat → (Nat → Int × Int)
  | 0 => fun _ => (0, 0)
  | j + 1 => fill wt fol (decide (j = 0)) (n - 1 - j) (Tab wt fol f n j) (rngL (f (n - 1 - j)).1 (f (n - 1 - j)).2)

def Bd (b : Int) (p : Int × Int) : Prop := -b ≤ p.1 ∧ p.1 ≤ b ∧ -b ≤ p.2 ∧ p.2 ≤ b
theorem covers_bd {b : Int} (hb : 1073741824 ≤ b) (f : Int → Int × Int) (h : ∀ z, Bd b (f z)) : ∀ zs, Bd b (covers f zs) := by
  refine snoc_ind ?_ ?_
  · unfold covers noth Bd; simp; omega
  · intro zs z ih
    rw [covers_snoc]
    have := h z
    unfold Bd cov at *
    simp only
    omega
theorem fill_bd {b : Int} (wt fol : Nat → Int → Int × Int) (last : Bool) (e : Nat) (T : Nat → Int × Int) (hT : ∀ i, Bd b (T i)) (hv : ∀ z, Bd b (valOf wt fol last e T z)) : ∀ zs i, Bd b (fill wt fol last e T zs i) := by
  refine snoc_ind (fun i => hT i) ?_
  · intro zs z ih i
    rw [fill_snoc]
    unfold upd
    split
    · exact hv z
    · exact ih i
theorem rest_bd {b : Int} (hb : 1073741824 ≤ b) (fol : Nat → Int → Int × Int) (last : Bool) (e : Nat) (T : Nat → Int × Int) (hT : ∀ i, Bd b (T i)) (z : Int) : Bd b (restOf fol last e T z) := by
  unfold restOf
  split
  · unfold Bd; simp; omega
  · exact covers_bd hb _ (fun _ => hT _) _
theorem Tab_bd (wt fol : Nat → Int → Int × Int) (f : Nat → Int × Int) (n : Nat) (hw : ∀ e z, Bd 100000 (wt e z)) : ∀ (j i : Nat), Bd (1073741824 + (j : Int) * 100000) (Tab wt fol f n j i) := by
  intro j
  induction j with
  | zero => intro i; unfold Tab Bd; simp
  | succ j ih =>
    intro i
    unfold Tab
    refine fill_bd _ _ _ _ _ (fun i => ?_) (fun z => ?_) _ _
    · have := ih i
      unfold Bd at *
      push_cast
      omega
    · have h1 := rest_bd (b := 1073741824 + (j : Int) * 100000) (by omega) fol (decide (j = 0)) (n - 1 - j) _ ih z
      have h2 := hw (n - 1 - j) z
      unfold valOf Bd at *
      push_cast
      (try simp only) <;> omega
theorem Bd.mono {b c : Int} {p : Int × Int} (h : Bd b p) (hbc : b ≤ c) : Bd c p := by unfold Bd at *; omega
theorem fill_Bd (wt fol : Nat → Int → Int × Int) (f : Nat → Int × Int) (n : Nat) (hw : ∀ e z, Bd 100000 (wt e z)) (j : Nat) (hj : j ≤ 14) (last : Bool) (e : Nat) (zs : List Int) (i : Nat) : Bd 1080000000 (fill wt fol last e (Tab wt fol f n j) zs i) := by
  refine Bd.mono (b := 1073741824 + ((j + 1 : Nat) : Int) * 100000) (fill_bd _ _ _ _ _ (fun i => ?_) (fun z => ?_) _ _) (by push_cast; omega)
  · exact (Tab_bd wt fol f n hw j i).mono (by push_cast; omega)
  · have h1 := rest_bd (b := 1073741824 + (j : Int) * 100000) (by omega) fol last e _ (Tab_bd wt fol f n hw j) z
    have h2 := hw e z
    unfold valOf Bd at *
    push_cast
    (try simp only) <;> omega
theorem covers_congr {f g : Int → Int × Int} (h : ∀ z, f z = g z) (zs : List Int) : covers f zs = covers g zs := by rw [show f = g from funext h]
theorem fill_val (wt fol : Nat → Int → Int × Int) (f : Nat → Int × Int) (n j e : Nat) (last : Bool) (zs : List Int) (hz : ∀ z ∈ zs, -200 ≤ z ∧ z ≤ 200) (x : Int) :
    fill wt fol last e (Tab wt fol f n j) (zs ++ [x]) = upd (fill wt fol last e (Tab wt fol f n j) zs) (ix e x) ((wt e x).1 + (restOf fol last e (fill wt fol last e (Tab wt fol f n j) zs) x).1, (wt e x).2 + (restOf fol last e (fill wt fol last e (Tab wt fol f n j) zs) x).2) := by
  rw [fill_snoc]
  have hr : restOf fol last e (fill wt fol last e (Tab wt fol f n j) zs) x = restOf fol last e (Tab wt fol f n j) x := by
    unfold restOf
    split
    · rfl
    · exact covers_congr (fun nx => fill_far wt fol last e _ zs hz _ (by unfold ix; omega)) _
  rw [hr]
  rfl
end Go.Proofs.Ytgbogdckmfencaa
