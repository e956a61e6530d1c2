/- copy into an array; melt.blendOf, Keeps, Weigh. -/
import Derived.Test.YtmemcopfeabcgaaKe
import Derived.Laws.CopyRow
set_option linter.unusedSimpArgs false
set_option linter.unusedVariables false
namespace Go.Proofs.Ytmemcopfeabcgaa
open Go Go.RowKit
section
variable {P : Program}
theorem wpList_copy_row {w : World} {ops : Array Oper} {rest : List Oper} {o : Oper} {a : Act} {Q : Exit → Act → World → Prop} (hgd : o.guard = none) (d x : Operand) (dT sT : TypeId)
    (ho : o.op = .call { callee := .builtin .copy, args := #[d, x], argTypes := #[dT, sT] }) (elem : TypeId) (g dLen dCap : Nat) (ad : Addr) (sLen sCap : Nat) (cur : Array Value) (t : TypeId) (cs : List Value)
    (hd : a.eval d = .slice (some ⟨g, 0, none⟩) dLen dCap) (hx : a.eval x = .slice (some ad) sLen sCap)
    (hu : P.underlying dT = some (.slice elem)) (hsz : (P.info? elem).map (·.size) = some 1) (hg : Bx w g t cur) (hcs : cs.length = Nat.min sLen dLen) (hfit : cs.length ≤ cur.size)
    (hsrc : ∀ j v, cs[j]? = some v → w.cell? (ad.add j) = some v) (h1 : ∀ v ∈ cs, v.oneCell' = true)
    (h : wpList P ops Q rest (a.put o.dst (goInt cs.length)) (w.setRow g (cs ++ cur.toList.drop cs.length).toArray)) : wpList P ops Q (o :: rest) a w := by
  refine wpList_plain hgd fun K hK => ?_
  have hrun := run_copy_row P w dT sT o.type elem g 0 dLen dCap ad sLen sCap cur t cs hu hsz hg hcs hsrc (by omega) h1
  simp only [List.take_zero, List.nil_append, Nat.zero_add] at hrun
  unfold Oper.wp
  simp [execOp, ho, resolve, invoke, builtin, hd, hx, hrun, Result.andThen]
  exact hK _ _ h
end
/-- A list as a function. -/
def lf (L : List Int) : Nat → Int := fun i => L.getD i 0
theorem lf_bl (L : List Int) (hL : L.length ≤ 4) : (L.map (fun x => Value.int .i64 x) ++ (barr fun _ => 0).toList.drop L.length).toArray = barr (lf L) := by
  rw [barr_def, barr_def]
  match L, hL with
  | [], _ => rfl
  | [a], _ => rfl
  | [a, b], _ => rfl
  | [a, b, c], _ => rfl
  | [a, b, c, d], _ => rfl
theorem inr_cells {w : World} {B : Nat} {ad : Addr} {L : List Int} (h : Sl w B 1 (some ad) (inr L)) : ∀ j v, (L.map (fun x => Value.int .i64 x))[j]? = some v → w.cell? (ad.add j) = some v := by
  intro j v hv
  have hj : j < L.length := by simpa using (List.getElem?_eq_some_iff.1 hv).1
  obtain ⟨ad', e, _, h1⟩ := inr_at h hj
  simp only [Option.some.injEq] at e
  subst e
  rw [h1]
  simpa [hj] using hv
set_option maxRecDepth 100000 in
set_option maxHeartbeats 1000000 in
theorem blendOf_any (A : Option Addr) (n c : Nat) (L : List Int) (w : World) (hl : L.length = n) (h1 : 1 ≤ n) (h4 : n ≤ 4) (hA : Sl w w.heap.size 1 A (inr L)) :
    Calls Try.prog 50 #[.slice A n c] w fun e w' => e = .returned (.agg (barr (lf L))) ∧ Below w.heap.size w w' := by
  have K1 := (Bx.new w 81 (barr fun _ => 0)).alloc (.cells (barr fun _ => 0) 81)
  have K2 := Bx.at (w.alloc (.cells (barr fun _ => 0) 81)) 81 (barr fun _ => 0) (n := w.heap.size + 1) (by simp)
  have B0 := ((Below.refl w.heap.size w).alloc (Nat.le_refl _) (.cells (barr fun _ => 0) 81)).alloc (by simp) (.cells (barr fun _ => 0) 81)
  obtain ⟨ad, rfl⟩ : ∃ ad, A = some ad := by
    obtain ⟨ad, e, _⟩ := inr_at hA (k := 0) (by omega)
    exact ⟨ad, e⟩
  have hcs := inr_cells ((hA.below B0).more B0.size)
  have hf := lf_bl L (by omega)
  have e0 := barr_def (fun _ => 0)
  obtain ⟨W1, hW1⟩ : ∃ W1, (w.alloc (.cells (barr fun _ => 0) 81)).alloc (.cells (barr fun _ => 0) 81) = W1 := ⟨_, rfl⟩
  rw [hW1] at K1 K2 B0 hcs
  rw [e0] at hW1
  have HW := Lib.hid hW1
  have HFF := Lib.hid hf
  clear hW1 e0 hf
  have HL := Lib.hid hl
  clear hl
  have h1c : ∀ v ∈ L.map (fun x => Value.int .i64 x), v.oneCell' = true := by
    intro v hv
    obtain ⟨x, _, rfl⟩ := List.mem_map.1 hv
    rfl
  have hcl : (L.map (fun x => Value.int .i64 x)).length = n := by rw [List.length_map]; exact HL.out
  have hff : Hid ((L.map (fun x => Value.int .i64 x) ++ (barr fun _ => 0).toList.drop n).toArray = barr (lf L)) := by unfold Hid; rw [← HFF.out, HL.out]
  generalize L.map (fun x => Value.int .i64 x) = cs at *
  have HCL := Lib.hid hcl
  clear hcl HFF
  have HR : Below w.heap.size w (W1.setRow (w.heap.size + 1) (barr (lf L))) := B0.setRow (by omega) _
  have M1 := K1.rowfar (g' := w.heap.size + 1) (cs' := barr (lf L)) (by omega)
  have M2 := K2.row (cs' := barr (lf L))
  obtain ⟨W2, hW2⟩ : ∃ W2, W1.setRow (w.heap.size + 1) (barr (lf L)) = W2 := ⟨_, rfl⟩
  rw [hW2] at HR M1 M2
  have HW2 := Lib.hid hW2
  clear hW2
  obtain ⟨p0, p1, p2, p3, pf, pz⟩ := M1.barr
  obtain ⟨q0, q1, q2, q3, qf, qz⟩ := M2.barr
  go_enter Try.func50, Try.ntmps50
  go_wp2_with ((with_reducible (show wpList _ _ _ (⟨some 6, _, _, _, _, _⟩ :: _) _ _)); rw [HW.out]; refine wpList_copy_row rfl (.tmp 4) (.tmp 5) _ 22 rfl 3 (w.heap.size + 1) 4 4 ad n c (barr fun _ => 0) 81 cs rfl rfl Try.underlying22 (by kernel_rfl) K2 (by rw [HCL.out]; exact (Nat.min_eq_left h4).symm) (by rw [HCL.out, barr_size]; exact h4) hcs h1c ?_; rw [HCL.out, hff.out, HW2.out])
  rw [barr_def]
  refine bodyPost_ret (v := .agg #[.int .i64 (lf L 0), .int .i64 (lf L 1), .int .i64 (lf L 2), .int .i64 (lf L 3)]) (by simp [results, Try.results50, go_sem, p0, p1, p2, p3, pf]) rfl ⟨rfl, ?_⟩
  exact (((HR.setCell (by simp) _).setCell (by simp) _).setCell (by simp) _).setCell (by simp) _
theorem ckV_ok : ∀ {bs : List Bn} {L : List Int}, L.length = bs.length → ckV (bs.zip L) = 0 → ∀ (i : Nat) (x : Int), L[i]? = some x → ∃ b : Bn, bs[i]? = some b ∧ 0 ≤ x ∧ x ≤ b.g
  | [], [], _, _, i, x, h => by simp at h
  | b :: bs, y :: L, hl, h, i, x, hx => by
    simp only [List.zip_cons_cons, ckV] at h
    split at h
    · cases h
    · cases i with
      | zero =>
        simp only [List.getElem?_cons_zero, Option.some.injEq] at hx
        subst hx
        exact ⟨b, rfl, by omega, by omega⟩
      | succ i => exact ckV_ok (by simpa using hl) h i x (by simpa using hx)
/-- A good list of numbers is a blend. -/
structure BlOk (o : Od) (L : List Int) : Prop where
  ok : o.Ok
  len : L.length = o.bs.length
  in_ : ∀ i, lf L i = 0 ∨ (i < o.bs.length ∧ 0 ≤ lf L i ∧ lf L i ≤ (o.bn i).g)
theorem ckBl_zero {o : Od} {L : List Int} (h : ckBl o L = 0) : BlOk o L := by
  unfold ckBl at h
  split at h
  · rename_i h1; exact absurd h h1
  · rename_i h1
    split at h
    · cases h
    · rename_i h2
      have h2 : L.length = o.bs.length := Decidable.not_not.1 h2
      refine ⟨ckO_zero.1 (Decidable.not_not.1 h1), h2, fun i => ?_⟩
      unfold lf
      rw [List.getD_eq_getElem?_getD]
      cases e : L[i]? with
      | none => exact .inl rfl
      | some x =>
        obtain ⟨b, hb, h3, h4⟩ := ckV_ok h2 h i x e
        refine .inr ⟨by have := (List.getElem?_eq_some_iff.1 e).1; omega, h3, ?_⟩
        unfold Od.bn
        rw [List.getD_eq_getElem?_getD, hb]
        exact h4
theorem BlOk.six {o : Od} {L : List Int} (h : BlOk o L) : Six (lf L) := fun i => by
  rcases h.in_ i with h1 | ⟨h1, h2, h3⟩
  · rw [h1]; omega
  · have := (h.ok.bn h1).g2; omega
theorem BlOk.inb {o : Od} {L : List Int} (h : BlOk o L) : InB zer o.mx (lf L) := fun i hi => by
  rcases h.in_ i with h1 | ⟨h1, h2, h3⟩
  · rw [h1]; have := h.ok.mx.six2 i; simp only [zer]; omega
  · exact ⟨by simp only [zer]; exact h2, h3⟩
set_option maxRecDepth 100000 in
set_option maxHeartbeats 1000000 in
theorem keeps_bad (LA : Option Addr) (ln lc : Nat) (BA : Option Addr) (bn bc : Nat) (o : Od) (A : Option Addr) (n c : Nat) (L : List Int) (w : World) (hln : ln ≤ 9223372036854775807) (hbn : bn ≤ 9223372036854775807) (hl : o.lm.length = ln) (hb' : o.bs.length = bn) (hA : OrdAt w w.heap.size LA BA o) (hG : ∀ b ∈ o.bs, b.gr.length ≤ 9223372036854775807) (hn : n ≤ 9223372036854775807) (hL : L.length = n) (hS0 : Sl w w.heap.size 1 A (inr L)) (hz : ckBl o L ≠ 0) :
    Calls Try.prog 16 #[.agg #[.slice LA ln lc, .int .i64 o.le, .int .i64 o.mo, .slice BA bn bc], .slice A n c] w fun e w' => e = .returned (.tuple #[.int .i64 0, .int .i64 (ckBl o L)]) ∧ Below w.heap.size w w' := by
  have K0 := Bx.new w 27 #[.slice LA ln lc, .int .i64 o.le, .int .i64 o.mo, .slice BA bn bc]
  have B0 := (Below.refl w.heap.size w).alloc (Nat.le_refl _) (.cells #[.slice LA ln lc, .int .i64 o.le, .int .i64 o.mo, .slice BA bn bc] 27)
  have hC := checkBlend_any LA ln lc o.le o.mo BA bn bc o A n c L (w.alloc (.cells #[.slice LA ln lc, .int .i64 o.le, .int .i64 o.mo, .slice BA bn bc] 27)) hln hbn hl hb' rfl rfl ((hA.below B0).more B0.size) hG hn hL ((hS0.below B0).more B0.size)
  have hz1 : (ckBl o L != 0) = true := by simpa using hz
  clear hb' hl hL hG hz hS0 hA
  generalize ckBl o L = E at *
  go_enter Try.func16, Try.ntmps16
  go_wp2_with (go_at_call 48; refine hC.mono ?_; rintro e w1 ⟨rfl, hb⟩; replace B0 := B0.trans (hb.mono B0.size))
  refine bodyPost_ret (v := .tuple #[.int .i64 0, .int .i64 (E)]) (by simp [results, Try.results16, go_sem]) rfl ⟨rfl, B0⟩
set_option maxRecDepth 100000 in
set_option maxHeartbeats 1000000 in
theorem weigh_bad (LA : Option Addr) (ln lc : Nat) (BA : Option Addr) (bn bc : Nat) (o : Od) (A : Option Addr) (n c : Nat) (L : List Int) (w : World) (hln : ln ≤ 9223372036854775807) (hbn : bn ≤ 9223372036854775807) (hl : o.lm.length = ln) (hb' : o.bs.length = bn) (hA : OrdAt w w.heap.size LA BA o) (hG : ∀ b ∈ o.bs, b.gr.length ≤ 9223372036854775807) (hn : n ≤ 9223372036854775807) (hL : L.length = n) (hS0 : Sl w w.heap.size 1 A (inr L)) (hz : ckBl o L ≠ 0) :
    Calls Try.prog 22 #[.agg #[.slice LA ln lc, .int .i64 o.le, .int .i64 o.mo, .slice BA bn bc], .slice A n c] w fun e w' => e = .returned (.tuple #[.int .i64 0, .int .i64 0, .int .i64 (ckBl o L)]) ∧ Below w.heap.size w w' := by
  have K0 := Bx.new w 27 #[.slice LA ln lc, .int .i64 o.le, .int .i64 o.mo, .slice BA bn bc]
  have B0 := (Below.refl w.heap.size w).alloc (Nat.le_refl _) (.cells #[.slice LA ln lc, .int .i64 o.le, .int .i64 o.mo, .slice BA bn bc] 27)
  have hC := checkBlend_any LA ln lc o.le o.mo BA bn bc o A n c L (w.alloc (.cells #[.slice LA ln lc, .int .i64 o.le, .int .i64 o.mo, .slice BA bn bc] 27)) hln hbn hl hb' rfl rfl ((hA.below B0).more B0.size) hG hn hL ((hS0.below B0).more B0.size)
  have hz1 : (ckBl o L != 0) = true := by simpa using hz
  clear hb' hl hL hG hz hS0 hA
  generalize ckBl o L = E at *
  go_enter Try.func22, Try.ntmps22
  go_wp2_with (go_at_call 48; refine hC.mono ?_; rintro e w1 ⟨rfl, hb⟩; replace B0 := B0.trans (hb.mono B0.size))
  refine bodyPost_ret (v := .tuple #[.int .i64 0, .int .i64 0, .int .i64 (E)]) (by simp [results, Try.results22, go_sem]) rfl ⟨rfl, B0⟩
end Go.Proofs.Ytmemcopfeabcgaa
