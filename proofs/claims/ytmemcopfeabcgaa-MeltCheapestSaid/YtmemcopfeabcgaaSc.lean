/- Orders with all weights multiplied: mathematics. What is the cheapest blend is so in one way only. -/
import Derived.Test.YtmemcopfeabcgaaGm
set_option linter.unusedSimpArgs false
set_option linter.unusedVariables false
namespace Go.Proofs.Ytmemcopfeabcgaa
open Go Go.RowKit
def Bn.scale (k : Int) (b : Bn) : Bn := { b with w := b.w * k }
def Od.scale (k : Int) (o : Od) : Od := ⟨o.lm, o.le * k, o.mo * k, o.bs.map (Bn.scale k)⟩
theorem sm_mul (k : Int) (f : Nat → Int) : ∀ n : Nat, sm (fun i => f i * k) n = sm f n * k
  | 0 => by simp [sm]
  | n + 1 => by simp only [sm]; rw [sm_mul k f n, Int.add_mul]
section
variable (o : Od) (k : Int)
theorem scale_len : (o.scale k).bs.length = o.bs.length := by simp [Od.scale]
theorem scale_bn (i : Nat) : (o.scale k).bn i = (o.bn i).scale k := by
  unfold Od.bn Od.scale
  rw [List.getD_eq_getElem?_getD, List.getD_eq_getElem?_getD, List.getElem?_map]
  cases o.bs[i]? with
  | none => simp [bn0, Bn.scale]
  | some b => rfl
theorem scale_li (j : Nat) : (o.scale k).li j = o.li j := rfl
theorem scale_kil (b : Nat → Int) (n : Nat) : kil (o.scale k) b n = kil o b n * k := by
  unfold kil
  rw [← sm_mul]
  exact sm_congr fun i _ => by rw [scale_bn]; simp only [Bn.scale]; rw [Int.mul_assoc]
theorem scale_cst (b : Nat → Int) (n : Nat) : cst (o.scale k) b n = cst o b n := by
  unfold cst
  exact sm_congr fun i _ => by rw [scale_bn]; rfl
theorem scale_exN (b : Nat → Int) (j n : Nat) : exN (o.scale k) b j n = exN o b j n * k := by
  unfold exN
  rw [← sm_mul]
  refine sm_congr fun i _ => ?_
  rw [scale_bn, scale_li]
  show b i * ((o.bn i).w * k) * ((o.bn i).g1 j - o.li j) = b i * (o.bn i).w * ((o.bn i).g1 j - o.li j) * k
  rw [← Int.mul_assoc, Int.mul_right_comm]
theorem scale_exX (b : Nat → Int) (j n : Nat) : exX (o.scale k) b j n = exX o b j n * k := by
  unfold exX
  rw [← sm_mul]
  refine sm_congr fun i _ => ?_
  rw [scale_bn, scale_li]
  show b i * ((o.bn i).w * k) * ((o.bn i).g2 j - o.li j) = b i * (o.bn i).w * ((o.bn i).g2 j - o.li j) * k
  rw [← Int.mul_assoc, Int.mul_right_comm]
theorem pos_mul {a k : Int} (hk : 0 < k) : 0 < a * k ↔ 0 < a := by
  constructor
  · intro h
    rcases Int.lt_or_le 0 a with h1 | h1
    · exact h1
    · have := Int.mul_le_mul_of_nonneg_right h1 (show 0 ≤ k by omega)
      omega
  · intro h; exact Int.mul_pos h hk
theorem scale_kv (hk : 0 < k) (b : Nat → Int) : kv (o.scale k) b = kv o b := by
  have h1 : ∀ n, nk (o.scale k) b n = nk o b n := fun n => by
    unfold nk
    rw [scale_len]
    congr 1
    funext j
    rw [scale_exN]
    exact decide_eq_decide.2 (pos_mul hk)
  have h2 : ∀ n, xk (o.scale k) b n = xk o b n := fun n => by
    unfold xk
    rw [scale_len]
    congr 1
    funext j
    rw [scale_exX]
    exact decide_eq_decide.2 (pos_mul hk)
  unfold kv
  rw [h1, h2]
  rfl
theorem scale_good (hk : 0 < k) (b : Nat → Int) : Good (o.scale k) b ↔ Good o b := by
  unfold Good
  rw [scale_len, scale_kil, scale_kv o k hk]
  have e : ∀ x y : Int, x * k ≤ y * k ↔ x ≤ y := fun x y => ⟨fun h => Int.le_of_mul_le_mul_right h hk, fun h => Int.mul_le_mul_of_nonneg_right h (by omega)⟩
  exact and_congr (e _ _) (and_congr (e _ _) Iff.rfl)
theorem scale_mx : (o.scale k).mx = o.mx := by
  funext i
  unfold Od.mx
  rw [scale_bn]
  rfl
theorem scale_cheap (hk : 0 < k) (r : Option (Nat → Int)) : Cheap (o.scale k) r ↔ Cheap o r := by
  unfold Cheap
  rw [scale_mx]
  cases r with
  | none => exact forall_congr' fun b => forall_congr' fun _ => forall_congr' fun _ => not_congr (scale_good o k hk b)
  | some d =>
    simp only [Sought, scale_len, scale_cst]
    exact and_congr Iff.rfl (and_congr Iff.rfl (and_congr (scale_good o k hk d) (forall_congr' fun b => forall_congr' fun _ => forall_congr' fun _ => imp_congr (scale_good o k hk b) Iff.rfl)))
end
theorem Small.scale {o : Od} {bins metals grabs k : Int} (h : Small o bins metals grabs) (hb : bins ≤ 4) (hm : metals ≤ 3) (hg : grabs ≤ 6) (h1 : 1 ≤ k) (h2 : k ≤ 100) : (o.scale k).Ok := by
  have ho := h.ok hb hm hg
  have h3 := h.le0
  have h4 := h.lem
  have h5 := h.mo
  have e1 := mul_bd h3 (show o.le ≤ 1000 by omega) (show (0 : Int) ≤ k by omega) h2
  have e2 := mul_bd (show 0 ≤ o.mo by omega) h5 (show (0 : Int) ≤ k by omega) h2
  have e3 := Int.mul_le_mul_of_nonneg_right h4 (show 0 ≤ k by omega)
  refine ⟨ho.lm, ho.lv, e1.1, e3, by show o.mo * k ≤ 240000; omega, by rw [scale_len]; exact ho.b1, by rw [scale_len]; exact ho.b2, fun b hb' => ?_⟩
  obtain ⟨c, hc, rfl⟩ := List.mem_map.1 hb'
  obtain ⟨p1, p2, p3, p4, p5, p6, p7, p8⟩ := h.bn c hc
  have hc2 := ho.bs c hc
  have e4 := mul_bd (show 0 ≤ c.w by omega) p4 (show (0 : Int) ≤ k by omega) h2
  have e5 := mul_bd (show (0 : Int) ≤ 1 by omega) (show (1 : Int) ≤ 1 by omega) (show (0 : Int) ≤ 0 by omega) (show (0 : Int) ≤ 0 by omega)
  have e6 : 1 ≤ c.w * k := by have := Int.mul_le_mul p3 h1 (by omega) (by omega : (0 : Int) ≤ c.w); omega
  exact ⟨hc2.len, hc2.gr, e6, by show c.w * k ≤ 10000; omega, hc2.c1, hc2.c2, hc2.g1, hc2.g2⟩
/-- The cheapest blend is one. -/
theorem cheap_one {o : Od} (ho : o.Ok) {r r' : Option (Nat → Int)} (h : Cheap o r) (h' : Cheap o r') : (r = none ∧ r' = none) ∨ ∃ d d', r = some d ∧ r' = some d' ∧ (∀ i, i < 4 → d i = d' i) ∧ cst o d o.bs.length = cst o d' o.bs.length := by
  unfold Cheap at h h'
  have lt : ∀ b, InB zer o.mx b → rk zer o.mx b < tot zer o.mx := fun b hb => rk_lt hb
  cases r with
  | none =>
    cases r' with
    | none => exact .inl ⟨rfl, rfl⟩
    | some d' => exact absurd h'.2.2.1 (h d' h'.1 h'.2.1)
  | some d =>
    cases r' with
    | none => exact absurd h.2.2.1 (h' d h.1 h.2.1)
    | some d' =>
      refine .inr ⟨d, d', rfl, rfl, ?_⟩
      have e1 := h.2.2.2 d' h'.1 h'.2.1 h'.2.2.1
      have e2 := h'.2.2.2 d h.1 h.2.1 h.2.2.1
      have ec : cst o d o.bs.length = cst o d' o.bs.length := by omega
      exact ⟨rk_inj h.1 h'.1 (Int.le_antisymm (e1.2 ec.symm) (e2.2 ec)), ec⟩
theorem ivs_inr (n : Nat) (d : Nat → Int) : ivs n d = (inr (rowOf d n)).flatten := by
  simp only [ivs, inr, rowOf, List.map_map]
  induction n with
  | zero => rfl
  | succ n ih => simp only [List.range_succ, List.map_append, List.flatten_append, ← ih]; rfl
end Go.Proofs.Ytmemcopfeabcgaa
