/- Logs of which more is shown at events of loads: they are made as well, their zeros are the same where no load binds, and the net loads are so much greater. Nothing of the program. -/
import Derived.Test.YtgbogdckmfencaaMa
set_option linter.unusedSimpArgs false
set_option linter.unusedVariables false
namespace Go.Proofs.Ytgbogdckmfencaa
/-- An event at which so many steps more are shown. -/
def bumpE (st : Int) (k : Nat → Int) (i : Nat) (e : Ev) : Ev := if e.kd = 3 then { e with sh := e.sh + k i * st } else e
def bumpT (st : Int) (k : Nat → Int) (i : Nat) (p : Ev × Int × Int) : Ev × Int × Int := if p.1.kd = 3 then ({ p.1 with sh := p.1.sh + k i * st }, p.2.1, p.2.2 + k i * st) else p
theorem bump_evs (st : Int) (k : Nat → Int) (ts : List (Ev × Int × Int)) : evsOf (ts.mapIdx (bumpT st k)) = (evsOf ts).mapIdx (bumpE st k) := by
  apply List.ext_getElem?
  intro i
  unfold evsOf
  rw [List.getElem?_map, List.getElem?_mapIdx, List.getElem?_mapIdx, List.getElem?_map]
  cases ts[i]? with
  | none => rfl
  | some p =>
    simp only [Option.map_some]
    unfold bumpT bumpE
    split <;> rfl
theorem shows_more (st n z k : Int) : shows st (n + k * st) z = shows st n z + k * st := by
  unfold shows
  rw [show n + k * st + z + st / 2 = n + z + st / 2 + k * st by omega, Int.add_mul_emod_self_right]
  omega
theorem Made.bump {st z0 z1 ld D : Int} (k : Nat → Int) (hk : ∀ i, 0 ≤ k i * st ∧ k i * st ≤ D) (hD : 0 ≤ D) {ts : List (Ev × Int × Int)} {z : Int} (h : Made st z0 z1 ld ts z) : Made st z0 z1 (ld + D) (ts.mapIdx (bumpT st k)) z := by
  induction h with
  | nil z a b => exact .nil z a b
  | snoc ts z e z' n h he a b ih =>
    rw [List.mapIdx_concat]
    obtain ⟨kd, c0, c1, c2, n0, n1, k1, hld, sh⟩ := he
    have hb := hk ts.length
    by_cases h3 : e.kd = 3
    · have : bumpT st k ts.length (e, z', n) = ({ e with sh := e.sh + k ts.length * st }, z', n + k ts.length * st) := by unfold bumpT; rw [if_pos h3]
      rw [this]
      refine .snoc _ z _ z' _ ih ⟨kd, c0, c1, c2, by omega, by omega, fun h => by dsimp only at h; omega, ?_, ?_⟩ a b
      · dsimp only
        rw [if_neg (by omega)] at hld ⊢
        exact hld
      · dsimp only
        rw [shows_more, sh]
    · have : bumpT st k ts.length (e, z', n) = (e, z', n) := by unfold bumpT; rw [if_neg h3]
      rw [this]
      exact .snoc _ z _ z' _ ih ⟨kd, c0, c1, c2, n0, by omega, k1, hld, sh⟩ a b
/-- An event at which no load binds. -/
def Loose (st : Int) (e : Ev) : Prop := e.kd = 3 → e.ld = 0 ∧ 220 + st ≤ e.sh ∧ e.sh ≤ 59000
theorem loose_step {st : Int} (h1 : 1 ≤ st) (h2 : st ≤ 100) {e : Ev} (hl : Loose st e) {k : Int} (hk0 : 0 ≤ k) (hk : k ≤ 1) (b : Int × Int) : stepR st b (if e.kd = 3 then { e with sh := e.sh + k * st } else e) = stepR st b e := by
  split
  · rename_i h3
    obtain ⟨l0, l1, l2⟩ := hl h3
    have hc : k = 0 ∨ k = 1 := by omega
    unfold stepR sLo sHi ldLo ldHi
    dsimp only
    rw [h3, l0]
    rcases hc with rfl | rfl <;> simp <;> omega
  · rfl
section
variable {st z0 z1 : Int} {es : List Ev} (k : Nat → Int) (h1 : 1 ≤ st) (h2 : st ≤ 100) (hk : ∀ i, 0 ≤ k i ∧ k i ≤ 1) (hl : ∀ e ∈ es, Loose st e)
include h1 h2 hk hl
theorem bef_bump (i : Nat) : bef st z0 z1 (es.mapIdx (bumpE st k)) i = bef st z0 z1 es i := by
  induction i with
  | zero => rfl
  | succ i ih =>
    rw [bef, bef, ih, List.getElem?_mapIdx]
    cases hv : es[i]? with
    | none => rfl
    | some e =>
      simp only [Option.map_some]
      exact loose_step h1 h2 (hl e (List.mem_of_getElem? hv)) (hk i).1 (hk i).2 _
theorem finR_bump (d : Nat) : finR st z0 z1 (es.mapIdx (bumpE st k)) d = finR st z0 z1 es d := by
  induction d with
  | zero => rw [finR, finR, bef_bump k h1 h2 hk hl, List.length_mapIdx]
  | succ d ih =>
    rw [finR, finR, ih, List.length_mapIdx, List.getElem?_mapIdx, bef_bump k h1 h2 hk hl]
    cases hv : es[es.length - 1 - d]? with
    | none => rfl
    | some e =>
      simp only [Option.map_some]
      unfold bumpE
      split <;> rfl
theorem zst_bump : zst st z0 z1 (es.mapIdx (bumpE st k)) 0 = zst st z0 z1 es 0 := by
  funext i
  unfold zst
  rw [List.length_mapIdx, finR_bump k h1 h2 hk hl, bef_bump k h1 h2 hk hl]
omit h1 h2 hk hl in
theorem folc_bump (f : Nat → Int × Int) : folc (es.mapIdx (bumpE st k)) f = folc es f := by
  funext e z
  unfold folc
  rw [List.getElem?_mapIdx]
  cases hv : es[e + 1]? with
  | none => rfl
  | some v =>
    simp only [Option.map_some]
    unfold bumpE
    by_cases h3 : v.kd = 3
    · rw [if_pos h3]
    · rw [if_neg h3]
omit hk in
/-- If at each full axle a step more is shown, what an event adds is a step more. -/
theorem wtc_bump {F B : List Int} (hap : ∀ x ∈ F, x ∉ B) (hF : ∀ x ∈ F, kdAt es x = 3) (hkF : ∀ i : Nat, k i = if (i : Int) ∈ F then 1 else 0) (e : Nat) (z : Int) (he : e < es.length) (hz1 : -200 ≤ z) (hz2 : z ≤ 200) :
    (wtc st (es.mapIdx (bumpE st k)) F B e z).1 = (wtc st es F B e z).1 + (if (e : Int) ∈ F then st else 0) ∧ (wtc st (es.mapIdx (bumpE st k)) F B e z).2 = (wtc st es F B e z).2 + (if (e : Int) ∈ F then st else 0) := by
  have hv := List.getElem?_eq_getElem he
  have hx := hap (e : Int)
  have hlo := hl _ (List.getElem_mem he)
  unfold wtc
  rw [List.getElem?_mapIdx, hv]
  simp only [Option.map_some]
  rw [if_pos (by omega), if_pos (by omega)]
  by_cases hf : (e : Int) ∈ F
  · have hnb := hx hf
    have h3 := hF _ hf
    unfold kdAt at h3
    rw [Int.toNat_natCast, hv] at h3
    dsimp only at h3
    obtain ⟨l0, l1, l2⟩ := hlo h3
    unfold wgt
    simp only [List.contains_eq_mem, decide_eq_true_eq]
    rw [if_neg hnb, if_pos hf, if_neg hnb, if_pos hf, if_pos hf]
    unfold bumpE
    rw [if_pos h3, hkF, if_pos hf]
    unfold ldRng ldLo ldHi
    dsimp only
    rw [h3]
    simp
    omega
  · rw [if_neg hf, Int.add_zero, Int.add_zero]
    have : bumpE st k e es[e] = es[e] := by
      unfold bumpE
      rw [hkF, if_neg hf]
      split
      · rw [Int.zero_mul, Int.add_zero]
      · rfl
    rw [this]
    exact ⟨rfl, rfl⟩
end
/-- Net loads if at each full axle a step more is shown. -/
theorem net_bump {st z0 z1 : Int} {es : List Ev} (k : Nat → Int) (hl : ∀ e ∈ es, Loose st e) (h : LogOk st z0 z1 es) (h' : LogOk st z0 z1 (es.mapIdx (bumpE st k))) (hfi : Fits st z0 z1 es es.length) (hn : 1 ≤ es.length) {F B : List Int} (hFp : F.Pairwise (· < ·)) (hFm : ∀ x ∈ F, 0 ≤ x ∧ x < (es.length : Int)) (hap : ∀ x ∈ F, x ∉ B) (hF : ∀ x ∈ F, kdAt es x = 3) (hkF : ∀ i : Nat, k i = if (i : Int) ∈ F then 1 else 0) :
    netOf st (es.mapIdx (bumpE st k)) F B (zst st z0 z1 (es.mapIdx (bumpE st k)) 0) es.length = ((netOf st es F B (zst st z0 z1 es 0) es.length).1 + (F.length : Int) * st, (netOf st es F B (zst st z0 z1 es 0) es.length).2 + (F.length : Int) * st) := by
  have hk : ∀ i, 0 ≤ k i ∧ k i ≤ 1 := fun i => by rw [hkF]; split <;> omega
  have h1 := h.s1
  have h2 := h.s2
  have hfi' : Fits st z0 z1 (es.mapIdx (bumpE st k)) (es.mapIdx (bumpE st k)).length := by
    rw [List.length_mapIdx]
    exact ⟨by rw [List.length_mapIdx]; omega, fun j hj => by rw [bef_bump k h1 h2 hk hl]; exact hfi.yes j hj, fun hlt => by rw [List.length_mapIdx] at hlt; omega⟩
  have hv := netOf_Vd h hfi F B hn
  have hv' := netOf_Vd h' hfi' F B (by rw [List.length_mapIdx]; exact hn)
  rw [List.length_mapIdx, folc_bump, zst_bump k h1 h2 hk hl] at hv'
  rw [zst_bump k h1 h2 hk hl, hv', hv]
  have hc := chain_ok h hfi
  have hg := zst_good h hfi 0 (by omega)
  have hz := fun i hi => zst_good h hfi i hi
  have h14 := h.n
  have key := fun x (hx : x ∈ rngL (zst st z0 z1 es 0 0).1 (zst st z0 z1 es 0 0).2) => by
    have hx' := rngL_mem hx
    exact Vd_more hc (fun e => if (e : Int) ∈ F then st else 0) (wtc_bd h F B) (wtc_bd h' F B) (fun e z he a b => by
      have := hz e he
      exact wtc_bump k h1 h2 hl hap hF hkF e z he (by omega) (by omega)) (es.length - 1) (by omega) 0 x (by omega) hx'.1 hx'.2
  have hsum : ((List.range (es.length - 1 + 1)).map fun i => (fun e : Nat => if (e : Int) ∈ F then st else 0) (0 + i)).sum = (F.length : Int) * st := by
    rw [show es.length - 1 + 1 = es.length by omega]
    simp only [Nat.zero_add]
    rw [sum_in (fun _ => st) _ F hFp hFm]
    have : ∀ l : List Int, (l.map fun _ => st).sum = (l.length : Int) * st := by
      intro l
      induction l with
      | nil => simp
      | cons a r ih => rw [List.map_cons, List.sum_cons, ih, List.length_cons]; push_cast; rw [Int.add_mul]; omega
    exact this F
  rw [hsum] at key
  generalize (F.length : Int) * st = S at *
  have hbd : ∀ (es' : List Ev), LogOk st z0 z1 es' → ∀ x ∈ rngL (zst st z0 z1 es 0 0).1 (zst st z0 z1 es 0 0).2, (Vd (wtc st es' F B) (folc es (zst st z0 z1 es 0)) (es.length - 1) 0 x).1 ≤ 1073741824 ∧ -1073741824 ≤ (Vd (wtc st es' F B) (folc es (zst st z0 z1 es 0)) (es.length - 1) 0 x).2 := fun es' hlog x hx => by
    have hx' := rngL_mem hx
    have := Vd_bd hc (wtc_bd hlog F B) (es.length - 1) (by omega) 0 x (by omega) hx'.1 hx'.2
    unfold Bd at this; omega
  obtain ⟨⟨a, ha, ha2⟩, ⟨b, hb1, hb2⟩⟩ := covers_at (Vd (wtc st es F B) (folc es (zst st z0 z1 es 0)) (es.length - 1) 0) _ (rngL_ne hg.2.1) (hbd es h)
  obtain ⟨⟨p, hp, hp2⟩, ⟨q, hq1, hq2⟩⟩ := covers_at (Vd (wtc st (es.mapIdx (bumpE st k)) F B) (folc es (zst st z0 z1 es 0)) (es.length - 1) 0) _ (rngL_ne hg.2.1) (hbd _ h')
  have ka := key a ha; have kb := key b hb1; have kp := key p hp; have kq := key q hq1
  have l1 := covers_le (Vd (wtc st (es.mapIdx (bumpE st k)) F B) (folc es (zst st z0 z1 es 0)) (es.length - 1) 0) _ a ha
  have l2 := covers_le (Vd (wtc st (es.mapIdx (bumpE st k)) F B) (folc es (zst st z0 z1 es 0)) (es.length - 1) 0) _ b hb1
  have l3 := covers_le (Vd (wtc st es F B) (folc es (zst st z0 z1 es 0)) (es.length - 1) 0) _ p hp
  have l4 := covers_le (Vd (wtc st es F B) (folc es (zst st z0 z1 es 0)) (es.length - 1) 0) _ q hq1
  apply Prod.ext <;> (dsimp only; omega)
/-! One event after the other is shown with more. -/
theorem bump_kd (st : Int) (k : Nat → Int) (i : Nat) (e : Ev) : (bumpE st k i e).kd = e.kd := by unfold bumpE; split <;> rfl
theorem bump_none {st : Int} {k : Nat → Int} (h : ∀ i, k i = 0) (es : List Ev) : es.mapIdx (bumpE st k) = es := by
  apply List.ext_getElem?
  intro i
  rw [List.getElem?_mapIdx]
  cases es[i]? with
  | none => rfl
  | some e =>
    simp only [Option.map_some]
    unfold bumpE
    rw [h, Int.zero_mul, Int.add_zero]
    split <;> rfl
theorem bump_set {st : Int} {es : List Ev} {i : Nat} {e : Ev} (he : es[i]? = some e) {k k' : Nat → Int} (hne : ∀ j, j ≠ i → k' j = k j) : es.mapIdx (bumpE st k') = (es.mapIdx (bumpE st k)).set i (bumpE st k' i e) := by
  apply List.ext_getElem?
  intro j
  rw [List.getElem?_mapIdx, List.getElem?_set, List.length_mapIdx]
  by_cases hij : i = j
  · subst hij
    rw [if_pos rfl, if_pos (List.getElem?_eq_some_iff.1 he).1, he]
    rfl
  · rw [if_neg hij, List.getElem?_mapIdx]
    cases es[j]? with
    | none => rfl
    | some x =>
      simp only [Option.map_some]
      unfold bumpE
      rw [hne j (Ne.symm hij)]
theorem bump_next {st : Int} {es : List Ev} {i : Nat} {e : Ev} (he : es[i]? = some e) (h3 : e.kd = 3) {k k' : Nat → Int} (hne : ∀ j, j ≠ i → k' j = k j) {d : Int} (hd : k' i = k i + d) : es.mapIdx (bumpE st k') = (es.mapIdx (bumpE st k)).set i { bumpE st k i e with sh := (bumpE st k i e).sh + d * st } := by
  rw [bump_set he hne]
  congr 1
  unfold bumpE
  rw [if_pos h3, if_pos h3, hd, Int.add_mul]
  dsimp only
  rw [Int.add_assoc]
theorem bump_same {st : Int} {es : List Ev} {i : Nat} {e : Ev} (he : es[i]? = some e) (h3 : e.kd ≠ 3) {k k' : Nat → Int} (hne : ∀ j, j ≠ i → k' j = k j) : es.mapIdx (bumpE st k') = es.mapIdx (bumpE st k) := by
  have hv : (es.mapIdx (bumpE st k))[i]? = some (bumpE st k' i e) := by
    rw [List.getElem?_mapIdx, he]
    simp only [Option.map_some]
    unfold bumpE
    rw [if_neg h3, if_neg h3]
  rw [bump_set he hne]
  apply List.ext_getElem?
  intro j
  rw [List.getElem?_set]
  by_cases hij : i = j
  · subst hij
    rw [if_pos rfl, if_pos (List.getElem?_eq_some_iff.1 hv).1, hv]
  · rw [if_neg hij]
theorem bump_congr {st : Int} {es : List Ev} {k k' : Nat → Int} (h : ∀ i, i < es.length → k i = k' i) : es.mapIdx (bumpE st k) = es.mapIdx (bumpE st k') := by
  apply List.ext_getElem?
  intro j
  rw [List.getElem?_mapIdx, List.getElem?_mapIdx]
  cases hv : es[j]? with
  | none => rfl
  | some x =>
    simp only [Option.map_some]
    unfold bumpE
    rw [h j (List.getElem?_eq_some_iff.1 hv).1]
/-- The log of BridgeSteps: its loads don't bind. -/
theorem steps_loose {st z0 z1 : Int} {ts : List (Ev × Int × Int)} {z : Int} (h : Made st z0 z1 4000 ts z) (hs1 : 1 ≤ st) (hs2 : st ≤ 20) (h0 : -9 ≤ z0) (h1 : z1 ≤ 9) (hn : ts.length ≤ 14) : ∀ e ∈ (evsOf ts).mapIdx (bumpE st fun _ => 500), Loose st e ∧ -400 ≤ e.sh ∧ e.sh ≤ 15000 := by
  intro e he
  obtain ⟨i, hi, rfl⟩ := List.mem_iff_getElem.1 he
  rw [List.length_mapIdx, evsOf_len] at hi
  rw [List.getElem_mapIdx]
  have hp := List.getElem?_eq_getElem hi
  have hee := evsOf_get hp
  have hq : (evsOf ts)[i]'(by rw [evsOf_len]; exact hi) = ts[i].1 := by
    have := List.getElem?_eq_getElem (show i < (evsOf ts).length by rw [evsOf_len]; exact hi)
    rw [this] at hee; exact Option.some.inj hee
  rw [hq]
  obtain ⟨⟨kd, c0, c1, c2, n0, n1, k1, hld, sh⟩, q1, q2⟩ := h.all h0 h1 hn _ (List.mem_of_getElem? hp)
  have hsb := shows_bd (n := ts[i].2.2) (z := ts[i].2.1) hs1
  rw [← sh] at hsb
  unfold Loose bumpE
  by_cases h3 : ts[i].1.kd = 3
  · rw [if_pos h3]
    dsimp only
    rw [if_neg (by omega)] at hld
    refine ⟨fun _ => ⟨hld, by omega, by omega⟩, by omega, by omega⟩
  · rw [if_neg h3]
    exact ⟨fun h => absurd h h3, by omega, by omega⟩
theorem steps_made {st z0 z1 : Int} {ts : List (Ev × Int × Int)} {z : Int} (h : Made st z0 z1 4000 ts z) (hs1 : 1 ≤ st) (hs2 : st ≤ 20) (h0 : -9 ≤ z0) (h01 : z0 ≤ z1) (h1 : z1 ≤ 9) (hn : ts.length ≤ 14) (k : Nat → Int) (hk : ∀ i, 0 ≤ k i ∧ k i ≤ 1) :
    ckL st z0 z1 ((evsOf ts).mapIdx (bumpE st fun _ => 500)) = 0 ∧ Fits st z0 z1 ((evsOf ts).mapIdx (bumpE st fun _ => 500)) ts.length ∧ ckL st z0 z1 (((evsOf ts).mapIdx (bumpE st fun _ => 500)).mapIdx (bumpE st k)) = 0 ∧ Fits st z0 z1 (((evsOf ts).mapIdx (bumpE st fun _ => 500)).mapIdx (bumpE st k)) ts.length := by
  have m1 := h.bump (D := 10000) (fun _ => 500) (fun _ => by omega) (by omega)
  have m2 := m1.bump (D := 20) k (fun i => by
    have := hk i
    have hc : k i = 0 ∨ k i = 1 := by omega
    rcases hc with h | h <;> rw [h] <;> omega) (by omega)
  have l1 : (ts.mapIdx (bumpT st fun _ => 500)).length = ts.length := by simp
  have l2 : ((ts.mapIdx (bumpT st fun _ => 500)).mapIdx (bumpT st k)).length = ts.length := by simp
  have c1 := m1.ck hs1 (by omega) h0 h01 h1 (by omega) (by omega)
  have f1 := m1.fit hs1 h0 h1 (by omega) (by omega)
  have c2 := m2.ck hs1 (by omega) h0 h01 h1 (by omega) (by omega)
  have f2 := m2.fit hs1 h0 h1 (by omega) (by omega)
  rw [bump_evs] at c1 f1
  rw [bump_evs, bump_evs] at c2 f2
  rw [l1] at f1
  rw [l2] at f2
  exact ⟨c1, f1, c2, f2⟩
end Go.Proofs.Ytgbogdckmfencaa
