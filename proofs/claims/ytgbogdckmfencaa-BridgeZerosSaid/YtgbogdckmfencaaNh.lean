/- What the checks of a log and a slip give. -/
import Derived.Test.YtgbogdckmfencaaNe
set_option linter.unusedSimpArgs false
set_option linter.unusedVariables false
namespace Go.Proofs.Ytgbogdckmfencaa
open Go.RowKit Go.Shelf
theorem ckAx_zero {es : List Ev} : ∀ (axs : List Int) (b : Int), ckAx es b axs = 0 → ∀ x ∈ axs, 0 ≤ x ∧ x < (es.length : Int) ∧ kdAt es x = 3
  | [], _, _, x, hx => by cases hx
  | a :: r, b, h, x, hx => by
    rw [ckAx] at h
    split at h
    · cases h
    · rename_i h1
      split at h
      · cases h
      · rename_i h2
        split at h
        · cases h
        · rcases List.mem_cons.1 hx with rfl | hx
          · exact ⟨by omega, by omega, by simpa using h2⟩
          · exact ckAx_zero r a h x hx
theorem ckA_rows {es : List Ev} {axs : List Int} (h : ckA es axs = 0) : 1 ≤ axs.length ∧ axs.length ≤ 4 ∧ ∀ x ∈ axs, 0 ≤ x ∧ x < (es.length : Int) ∧ kdAt es x = 3 := by
  unfold ckA at h
  split at h
  · cases h
  · split at h
    · cases h
    · exact ⟨by omega, by omega, ckAx_zero axs (-1) h⟩
theorem ckS_zero {st z0 z1 : Int} {es : List Ev} {F B : List Int} {fs bs d0 d1 : Int} (h : ckS st z0 z1 es F B fs bs d0 d1 = 0) :
    ckL st z0 z1 es = 0 ∧ ckA es F = 0 ∧ ckA es B = 0 ∧ overlap F B = false ∧ (0 ≤ fs ∧ fs ≤ 2) ∧ (0 ≤ bs ∧ bs ≤ 2) ∧ 0 ≤ d0 ∧ d0 ≤ d1 ∧ d1 ≤ 200 := by
  unfold ckS at h
  split at h
  · rename_i h0; exact absurd h h0
  · rename_i h0
    split at h
    · rename_i h1; exact absurd h h1
    · rename_i h1
      split at h
      · rename_i h2; exact absurd h h2
      · rename_i h2
        split at h
        · cases h
        · rename_i h3
          split at h
          · cases h
          · rename_i h4
            have hr := ckR_zero h
            refine ⟨Classical.not_not.1 h0, Classical.not_not.1 h1, Classical.not_not.1 h2, by simpa using h3, ?_, ?_, hr.1, hr.2.1, hr.2.2⟩
            · have : seatB fs = true := by
                cases hs : seatB fs with
                | true => rfl
                | false => exact absurd (.inl hs) h4
              unfold seatB at this
              exact of_decide_eq_true this
            · have : seatB bs = true := by
                cases hs : seatB bs with
                | true => rfl
                | false => exact absurd (.inr hs) h4
              unfold seatB at this
              exact of_decide_eq_true this
theorem ds_bd {fs bs d0 d1 : Int} (h1 : 0 ≤ d0) (h2 : d0 ≤ 200) (h3 : 0 ≤ d1) (h4 : d1 ≤ 200) : Bd 100000000000 (dsLo fs bs d0 d1, dsHi fs bs d0 d1) := by
  have b1 : ∀ s, 0 ≤ drLo s ∧ drLo s ≤ 1 := fun s => by unfold drLo; split <;> omega
  have b2 : ∀ s, 0 ≤ drHi s ∧ drHi s ≤ 1 := fun s => by unfold drHi; split <;> omega
  have key : ∀ a d : Int, -1 ≤ a → a ≤ 1 → 0 ≤ d → d ≤ 200 → -200 ≤ a * d ∧ a * d ≤ 200 := by
    intro a d ha hb hc hd
    have : a = -1 ∨ a = 0 ∨ a = 1 := by omega
    rcases this with rfl | rfl | rfl <;> omega
  have p1 := b1 bs; have p2 := b2 fs; have p3 := b2 bs; have p4 := b1 fs
  have q1 := key (drLo bs - drHi fs) d0 (by omega) (by omega) h1 h2
  have q2 := key (drLo bs - drHi fs) d1 (by omega) (by omega) h3 h4
  have q3 := key (drHi bs - drLo fs) d0 (by omega) (by omega) h1 h2
  have q4 := key (drHi bs - drLo fs) d1 (by omega) (by omega) h3 h4
  unfold Bd dsLo dsHi
  dsimp only
  omega
theorem net_bd {st z0 z1 : Int} {es : List Ev} (h : LogOk st z0 z1 es) (F B : List Int) (f : Nat → Int × Int) (n : Nat) (hn : n ≤ 14) : Bd 100000000000 (netOf st es F B f n) := by
  unfold netOf
  refine covers_bd (by omega) _ (fun z => ?_) _
  exact (Tab_bd (wtc st es F B) (folc es f) f n (wtc_bd h F B) n _).mono (by omega)
theorem finR_good {st z0 z1 : Int} {es : List Ev} (h : LogOk st z0 z1 es) (hf : Fits st z0 z1 es es.length) : ∀ d, d < es.length →
    (bef st z0 z1 es (es.length - 1 - d + 1)).1 ≤ (finR st z0 z1 es d).1 ∧ (finR st z0 z1 es d).2 ≤ (bef st z0 z1 es (es.length - 1 - d + 1)).2 ∧ (finR st z0 z1 es d).1 ≤ (finR st z0 z1 es d).2 := by
  intro d
  induction d with
  | zero =>
    intro h0
    have hy := hf.yes (es.length - 1) (by omega)
    rw [show es.length - 1 + 1 = es.length by omega] at hy
    rw [show es.length - 1 - 0 + 1 = es.length by omega, finR]
    exact ⟨Int.le_refl _, Int.le_refl _, hy⟩
  | succ d ih =>
    intro hd
    obtain ⟨i1, i2, i3⟩ := ih (by omega)
    have hi : es.length - 1 - (d + 1) + 1 < es.length := by omega
    have hs := finR_succ (st := st) (z0 := z0) (z1 := z1) hi
    rw [show es.length - 1 - (es.length - 1 - (d + 1)) = d + 1 by omega, show es.length - 1 - (es.length - 1 - (d + 1) + 1) = d by omega] at hs
    have hb := bef_succ (st := st) (z0 := z0) (z1 := z1) hi
    rw [show es.length - 1 - d + 1 = es.length - 1 - (d + 1) + 1 + 1 by omega, hb] at i1 i2
    have hy := hf.yes (es.length - 1 - (d + 1)) (by omega)
    obtain ⟨_, _, _, _, _, _, _, hc, _⟩ := h.ev _ (List.getElem_mem hi)
    rw [hs]
    unfold stepR at i1 i2
    simp only [sLo, sHi] at i1 i2
    dsimp only at *
    omega
theorem zst_good {st z0 z1 : Int} {es : List Ev} (h : LogOk st z0 z1 es) (hf : Fits st z0 z1 es es.length) (i : Nat) (hi : i < es.length) :
    -200 ≤ (zst st z0 z1 es 0 i).1 ∧ (zst st z0 z1 es 0 i).1 ≤ (zst st z0 z1 es 0 i).2 ∧ (zst st z0 z1 es 0 i).2 ≤ 200 := by
  unfold zst
  rw [if_pos hi, if_pos (Nat.zero_le i)]
  obtain ⟨a, b, c⟩ := finR_good h hf (es.length - 1 - i) (by omega)
  have := bef_lo h (es.length - 1 - (es.length - 1 - i) + 1)
  omega
/-- Net, for a good slip of a log with zeros. -/
theorem net_ok (st z0 z1 : Int) (A : Option Addr) (n c : Nat) (es : List Ev) (FA : Option Addr) (fn fc : Nat) (BA : Option Addr) (bn bc : Nat) (fs bs d0 d1 : Int) (F B : List Int) (w : World) (hn : n ≤ 9223372036854775807) (hl : es.length = n) (hA : EvsAt w w.heap.size A es) (hfn : fn ≤ 9223372036854775807) (hbn : bn ≤ 9223372036854775807) (hf : F.length = fn) (hb : B.length = bn) (hF : Sl w w.heap.size 1 FA (ints F)) (hBs : Sl w w.heap.size 1 BA (ints B)) (hck : ckS st z0 z1 es F B fs bs d0 d1 = 0) (hfit : Fits st z0 z1 es n) :
    Calls Try.prog 29 #[.agg #[.int .i64 st, .int .i64 z0, .int .i64 z1, .slice A n c], .agg #[.slice FA fn fc, .slice BA bn bc, .int .i64 fs, .int .i64 bs, .int .i64 d0, .int .i64 d1]] w fun e w' => e = .returned (.tuple #[.agg #[.int .i64 ((netOf st es F B (zst st z0 z1 es 0) n).1 + dsLo fs bs d0 d1), .int .i64 ((netOf st es F B (zst st z0 z1 es 0) n).2 + dsHi fs bs d0 d1)], .int .i64 0]) ∧ Below w.heap.size w w' := by
  obtain ⟨hckl, hcf, hcb, _, hs1, hs2, e1, e2, e3⟩ := ckS_zero hck
  have hlog := ckL_zero hckl
  obtain ⟨p1, p2, p3⟩ := ckA_rows hcf
  obtain ⟨q1, q2, q3⟩ := ckA_rows hcb
  have hn14 : n ≤ 14 := by rw [← hl]; exact hlog.n
  have hn1 : 1 ≤ n := by
    have := p3 (F[0]'(by omega)) (List.getElem_mem _)
    omega
  have hfit' : Fits st z0 z1 es es.length := by rw [hl]; exact hfit
  refine net_good st z0 z1 A n c es FA fn fc BA bn bc fs bs d0 d1 F B w hn hl hA hfn hbn hf hb hF hBs (zst st z0 z1 es 0) hck hlog hckl hfit hn1 rfl (fun i hi => ?_) (by omega) (by omega) (fun x hx => ?_) (fun x hx => ?_) hs1.1 hs1.2 hs2.1 hs2.2 e1 (by omega) (by omega) e3 (net_bd hlog F B _ n hn14) (ds_bd e1 (by omega) (by omega) e3)
  · have := zst_good hlog hfit' i (by omega)
    omega
  · have := p3 x hx
    omega
  · have := q3 x hx
    omega
end Go.Proofs.Ytgbogdckmfencaa
