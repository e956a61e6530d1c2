/- Plain mathematics of the map of wantedEvents: what it holds, and how many keys it has. -/
import Derived.Test.YtgbogdckmfencaaWant
set_option linter.unusedSimpArgs false
set_option linter.unusedVariables false
namespace Go.Proofs.Ytgbogdckmfencaa
open Go.RowKit Go.Maps
theorem keyLit (x : Int) : WideAt.IsKeyLit (.int .i64 x) := True.intro
theorem key_ne {x y : Int} (h : x ≠ y) : (Lit.int .i64 x) ≠ (Lit.int .i64 y) := fun e => h (by injection e)
theorem putAll_isMap (v : Int) : ∀ (l : List Int) (m : DataW Unit), IsMap m → IsMap (putAll v m l)
  | [], _, h => h
  | _ :: r, _, h => putAll_isMap v r _ (h.put _ _)
theorem putAll_tidy (v : Int) : ∀ (l : List Int) (m : DataW Unit), Tidy m → Tidy (putAll v m l)
  | [], _, h => h
  | _ :: r, _, h => putAll_tidy v r _ (h.put (keyLit _) _)
theorem putAll_has (v x : Int) : ∀ (l : List Int) (m : DataW Unit), IsMap m → has (putAll v m l) (.int .i64 x) = (has m (.int .i64 x) || l.contains x)
  | [], m, _ => by simp [putAll]
  | a :: r, m, h => by
    show has (putAll v (m.put _ _) r) _ = _
    rw [putAll_has v x r _ (h.put _ _)]
    by_cases e : x = a
    · subst e
      rw [has_put_same h (keyLit _)]; simp
    · rw [has_put_other (key_ne e)]
      simp [e]
theorem putAll_at (v x : Int) (z : DataW Unit) : ∀ (l : List Int) (m : DataW Unit), IsMap m → (putAll v m l).atKey (.int .i64 x) z = if l.contains x then .lit (.int .i64 v) else m.atKey (.int .i64 x) z
  | [], m, _ => by simp [putAll]
  | a :: r, m, h => by
    show (putAll v (m.put _ _) r).atKey _ _ = _
    rw [putAll_at v x z r _ (h.put _ _)]
    by_cases e : x = a
    · subst e
      rw [atKey_put_same h (keyLit _)]; simp
    · rw [atKey_put_other (key_ne e)]
      simp [e]
theorem putAll_size (v : Int) : ∀ (l : List Int) (m : DataW Unit), Tidy m → l.Nodup → size (putAll v m l) = size m + (l.filter fun x => !has m (.int .i64 x)).length
  | [], m, _, _ => by simp [putAll]
  | a :: r, m, h, hn => by
    show size (putAll v (m.put _ _) r) = _
    rw [putAll_size v r _ (h.put (keyLit _) _) (List.nodup_cons.1 hn).2, size_put h]
    have hf : (r.filter fun x => !has (m.put (.int .i64 a) (.lit (.int .i64 v))) (.int .i64 x)) = r.filter fun x => !has m (.int .i64 x) := by
      apply List.filter_congr
      intro x hx
      have : x ≠ a := fun e => (List.nodup_cons.1 hn).1 (e ▸ hx)
      rw [has_put_other (key_ne this)]
    rw [hf, List.filter_cons]
    cases has m (.int .i64 a) <;> simp <;> omega
theorem empty_has (x : Int) : has (DataW.map (H := Unit) []) (.int .i64 x) = false := rfl
theorem empty_tidy : Tidy (DataW.map (H := Unit) []) := ⟨[], rfl, List.Pairwise.nil⟩
theorem empty_isMap : IsMap (DataW.map (H := Unit) []) := ⟨[], rfl⟩
theorem wmap_at (F B : List Int) (x : Int) : (wmap F B).atKey (.int .i64 x) (.lit (.int .i64 0)) = .lit (.int .i64 (if B.contains x then -1 else if F.contains x then 1 else 0)) := by
  unfold wmap
  rw [putAll_at _ _ _ _ _ (putAll_isMap _ _ _ empty_isMap), putAll_at _ _ _ _ _ empty_isMap]
  have h0 : (DataW.map (H := Unit) []).atKey (.int .i64 x) (.lit (.int .i64 0)) = .lit (.int .i64 0) := rfl
  rw [h0]
  split
  · rfl
  · split <;> rfl
def overlap (F B : List Int) : Bool := F.any fun x => B.contains x
theorem wmap_size (F B : List Int) (hF : F.Nodup) (hB : B.Nodup) : size (wmap F B) = F.length + (B.filter fun x => !F.contains x).length := by
  unfold wmap
  rw [putAll_size _ _ _ (putAll_tidy _ _ _ empty_tidy) hB, putAll_size _ _ _ empty_tidy hF]
  have e1 : (F.filter fun x => !has (DataW.map (H := Unit) []) (.int .i64 x)) = F := List.filter_eq_self.2 (fun x _ => by rw [empty_has]; rfl)
  have e2 : (B.filter fun x => !has (putAll 1 (.map []) F) (.int .i64 x)) = B.filter fun x => !F.contains x := by
    apply List.filter_congr
    intro x _
    rw [putAll_has _ _ _ _ empty_isMap, empty_has]; simp
  rw [e1, e2]
  have : size (DataW.map (H := Unit) []) = 0 := rfl
  omega
theorem wmap_less (F B : List Int) (hF : F.Nodup) (hB : B.Nodup) : (size (wmap F B) < F.length + B.length) ↔ overlap F B = true := by
  rw [wmap_size F B hF hB]
  have hle := List.length_filter_le (fun x => !F.contains x) B
  constructor
  · intro h
    by_cases ho : overlap F B = true
    · exact ho
    · have : B.filter (fun x => !F.contains x) = B := List.filter_eq_self.2 (fun x hx => by
        simp only [Bool.not_eq_true'] 
        by_cases hc : F.contains x = true
        · exact absurd (List.any_eq_true.2 ⟨x, by simpa using hc, by simpa using hx⟩) ho
        · simpa using hc)
      rw [this] at h; omega
  · intro h
    obtain ⟨x, hx, hb⟩ := List.any_eq_true.1 h
    have hlt : (B.filter fun x => !F.contains x).length < B.length := by
      rcases Nat.lt_or_ge (B.filter fun x => !F.contains x).length B.length with h1 | h1
      · exact h1
      · have e := List.length_filter_eq_length_iff.1 (Nat.le_antisymm hle h1) x (by simpa using hb)
        simp [hx] at e
    omega
/-- Events of a lorry that are in order differ. -/
theorem ckAx_lt {es : List Ev} : ∀ {l : List Int} {b : Int}, ckAx es b l = 0 → (∀ x ∈ l, b < x ∧ 0 ≤ x ∧ x < es.length ∧ kdAt es x = 3) ∧ l.Pairwise (· < ·)
  | [], b, _ => ⟨fun x hx => (nomatch hx), List.Pairwise.nil⟩
  | a :: r, b, h => by
    rw [ckAx] at h
    split at h
    · omega
    · split at h
      · omega
      · split at h
        · omega
        · rename_i h1 h2 h3
          obtain ⟨g1, g2⟩ := ckAx_lt h
          refine ⟨fun x hx => ?_, List.Pairwise.cons (fun x hx => (g1 x hx).1) g2⟩
          rcases List.mem_cons.1 hx with rfl | hx
          · exact ⟨by omega, by omega, by omega, by omega⟩
          · have := g1 x hx
            exact ⟨by omega, by omega, by omega, this.2.2.2⟩
theorem ckA_zero {es : List Ev} {l : List Int} (h : ckA es l = 0) : 1 ≤ l.length ∧ l.length ≤ 4 ∧ (∀ x ∈ l, 0 ≤ x ∧ x < es.length ∧ kdAt es x = 3) ∧ l.Pairwise (· < ·) := by
  unfold ckA at h
  split at h
  · omega
  · split at h
    · omega
    · obtain ⟨g1, g2⟩ := ckAx_lt h
      exact ⟨by omega, by omega, fun x hx => (g1 x hx).2, g2⟩
theorem nodup_of_lt {l : List Int} (h : l.Pairwise (· < ·)) : l.Nodup := h.imp (fun h => by omega)
end Go.Proofs.Ytgbogdckmfencaa
