/- A voyage, a stowage and numbers as arguments. -/
import Derived.Test.YtfcpjkofbejleaaChM
import Derived.Test.YtfcpjkofbejleaaVkM
import Derived.ProofKit
import Derived.SizedLaws
import Derived.Deep.Slices
import Derived.Carry
set_option linter.unusedSimpArgs false
set_option linter.unusedVariables false
namespace Go.Proofs.Ytfcpjkofbejleaa.opened
open Go Go.ChangeShapes Go.WideShapes Go.ChangeAt Go.RowKit
theorem own : ownKnob Try.prog.godebug = none := by kernel_rfl
theorem laidOut : laidOutB Try.prog = true := by kernel_rfl
theorem cells3 : Try.prog.cellsOf 3 = 1 := by kernel_rfl
theorem cells22 : Try.prog.cellsOf 22 = 1 := by kernel_rfl
theorem cells23 : Try.prog.cellsOf 23 = 1 := by kernel_rfl
theorem cells24 : Try.prog.cellsOf 24 = 1 := by kernel_rfl
theorem cells26 : Try.prog.cellsOf 26 = 7 := by kernel_rfl
theorem cells41 : Try.prog.cellsOf 41 = 2 := by kernel_rfl
theorem cells70 : Try.prog.cellsOf 70 = 3 := by kernel_rfl
theorem cells71 : Try.prog.cellsOf 71 = 1 := by kernel_rfl
theorem cells73 : Try.prog.cellsOf 73 = 3 := by kernel_rfl
theorem cells75 : Try.prog.cellsOf 75 = 3 := by kernel_rfl
theorem cells85 : Try.prog.cellsOf 85 = 3 := by kernel_rfl
theorem bytes3 : Try.prog.bytesOf 3 = 8 := by kernel_rfl
theorem len2 {l : List Value} (h : l.length = 2) : ∃ a b, l = [a, b] := by
  match l, h with
  | [a, b], _ => exact ⟨a, b, rfl⟩
theorem len3 {l : List Value} (h : l.length = 3) : ∃ a b c, l = [a, b, c] := by
  match l, h with
  | [a, b, c], _ => exact ⟨a, b, c, rfl⟩
theorem len7 {l : List Value} (h : l.length = 7) : ∃ a b c d e f g, l = [a, b, c, d, e, f, g] := by
  match l, h with
  | [a, b, c, d, e, f, g], _ => exact ⟨a, b, c, d, e, f, g, rfl⟩
theorem list_of {α : Type} {P : Nat → α → Prop} : ∀ n : Nat, (∀ i, i < n → ∃ e, P i e) → ∃ es : List α, es.length = n ∧ ∀ i e, es[i]? = some e → P i e := by
  intro n
  induction n with
  | zero => intro _; exact ⟨[], rfl, fun i e h => by simp at h⟩
  | succ n ih =>
    intro h
    obtain ⟨es, hl, he⟩ := ih fun i hi => h i (by omega)
    obtain ⟨e, hp⟩ := h n (by omega)
    refine ⟨es ++ [e], by simp [hl], fun i x hx => ?_⟩
    by_cases hi : i < n
    · rw [List.getElem?_append_left (by omega)] at hx
      exact he i x hx
    · rw [List.getElem?_append_right (by omega)] at hx
      have h0 : i - es.length = 0 := by
        rcases Nat.eq_zero_or_pos (i - es.length) with h | h
        · exact h
        · rw [List.getElem?_eq_none (by simp; omega)] at hx; cases hx
      rw [h0] at hx
      simp only [List.getElem?_cons_zero, Option.some.injEq] at hx
      subst hx
      rw [show i = n by omega]
      exact hp
/-- Cells that a slice's places hold are its rows. -/
theorem sl_of {w : World} {base s : Nat} {a : Addr} {rs : List (List Value)} (hs : 0 < s) (h : ∀ i r, rs[i]? = some r → w.cells? base (a.add (i * s)) s = some r) : Sl w w.heap.size s (some a) rs := by
  intro k r hr
  obtain ⟨_, hcl, hat⟩ := World.cells?_some (h k r hr)
  have h0 := hat 0 (by omega)
  refine ⟨a, rfl, ?_, fun j u hu => ?_⟩
  · have hh := World.block_lt_of_cell? w _ (h0.trans (List.getElem?_eq_getElem (by omega)))
    rwa [add_block, add_block] at hh
  · have hj : j < s := by
      have := (List.getElem?_eq_some_iff.1 hu).1
      omega
    rw [hat j hj]
    exact hu
theorem row_sl {w : World} {a : Addr} {len : Nat} {zs : List Int} (hlz : len ≤ zs.length) (hcell : ∀ i, i < zs.length → w.cell? (a.add i) = some (.int .i64 (zs.getD i 0))) : (zs.take len).length = len ∧ Sl w w.heap.size 1 (some a) (inr (zs.take len)) := by
  have hlen : (zs.take len).length = len := by simp; omega
  refine ⟨hlen, ?_⟩
  intro k r hr
  have hk : k < (zs.take len).length := by
    have := (List.getElem?_eq_some_iff.1 hr).1
    simpa [inr] using this
  have hkl : k < len := by rw [hlen] at hk; exact hk
  have hrr : r = [.int .i64 (zs.take len)[k]] := by
    have h1 : (inr (zs.take len))[k]? = some [.int .i64 (zs.take len)[k]] := by
      show ((zs.take len).map fun a => [Value.int .i64 a])[k]? = _
      rw [List.getElem?_map, List.getElem?_eq_getElem hk]
      rfl
    rw [h1] at hr
    exact (Option.some.inj hr).symm
  subst hrr
  have hc := hcell k (by omega)
  refine ⟨a, rfl, by have h := World.block_lt_of_cell? w _ hc; rwa [add_block] at h, fun j u hu => ?_⟩
  match j, hu with
  | 0, hu =>
    obtain rfl : Value.int .i64 (zs.take len)[k] = u := by simpa using hu
    rw [Nat.mul_one, add_add, Nat.add_zero, hc]
    simp [List.getD, List.getElem?_eq_getElem (show k < zs.length by omega)]
  | j + 1, hu => simp at hu
section
variable {H : Type} {enc : TypeId × Value → H} {w : World} {base : Nat} {spare : Nat → Bool} {held : Bool}
theorem open_row {fuel : Nat} {v : Value} {x : DataW H × List MemPlace} (h : DataW.trod enc Try.prog w base spare held fuel 27 [v] = some x) : ∃ (A : Option Addr) (len cap : Nat) (l : List Int), v = .slice A len cap ∧ l.length = len ∧ len ≤ 9223372036854775807 ∧ Sl w w.heap.size 1 A (inr l) := by
  rcases open_ints Try.underlying27 Try.underlying3 cells3 h with ⟨hcs, _⟩ | ⟨a, len, cap, zs, hcs, _, hl, hm, hz, _, hcell, _⟩
  · simp at hcs
    exact ⟨none, 0, 0, [], hcs, rfl, by omega, Sl.nil _ _ _ _⟩
  · simp at hcs
    have hlz : len ≤ zs.length := by rw [hz]; split <;> omega
    obtain ⟨h1, h2⟩ := row_sl hlz hcell
    exact ⟨some a, len, cap, zs.take len, hcs, h1, by unfold maxLen at hm; omega, h2⟩
set_option maxRecDepth 100000 in
theorem open_pair {fuel : Nat} {cs : List Value} {x : DataW H × List MemPlace} (h : DataW.trod enc Try.prog w base spare held fuel 41 cs = some x) : ∃ a b : Int, cs = [.int .i64 a, .int .i64 b] := by
  obtain ⟨xs, n, _, _, hl, hlen, hf⟩ := DataW.trod_struct Try.underlying41 h
  rw [cells41] at hl
  obtain ⟨c0, c1, rfl⟩ := len2 hl
  · have e0 := hf 0 _ rfl
    have e1 := hf 1 _ rfl
    simp only [List.getElem_toArray, List.getElem_cons_zero, List.getElem_cons_succ] at e0 e1
    rw [cells3, List.getElem?_eq_getElem (by rw [hlen]; decide)] at e0 e1
    obtain ⟨a, ha, _⟩ := DataW.trod_int Try.underlying3 e0
    obtain ⟨b, hb, _⟩ := DataW.trod_int Try.underlying3 e1
    simp at ha hb
    exact ⟨a, b, by rw [ha, hb]⟩
set_option maxRecDepth 100000 in
theorem open_hold {fuel : Nat} {cs : List Value} {x : DataW H × List MemPlace} (h : DataW.trod enc Try.prog w base spare held fuel 85 cs = some x) : ∃ r : Hd, cs = hdr r := by
  obtain ⟨xs, n, _, _, hl, hlen, hf⟩ := DataW.trod_struct Try.underlying85 h
  rw [cells85] at hl
  obtain ⟨c0, c1, c2, rfl⟩ := len3 hl
  have e0 := hf 0 _ rfl
  have e1 := hf 1 _ rfl
  have e2 := hf 2 _ rfl
  simp only [List.getElem_toArray, List.getElem_cons_zero, List.getElem_cons_succ] at e0 e1 e2
  rw [cells3, List.getElem?_eq_getElem (by rw [hlen]; decide)] at e0 e1 e2
  obtain ⟨a, ha, _⟩ := DataW.trod_int Try.underlying3 e0
  obtain ⟨b, hb, _⟩ := DataW.trod_int Try.underlying3 e1
  obtain ⟨c, hc, _⟩ := DataW.trod_int Try.underlying3 e2
  simp at ha hb hc
  exact ⟨⟨a, b, c⟩, by rw [ha, hb, hc]; rfl⟩
set_option maxRecDepth 100000 in
theorem open_cargo {fuel : Nat} {cs : List Value} {x : DataW H × List MemPlace} (h : DataW.trod enc Try.prog w base spare held fuel 70 cs = some x) : ∃ r : Cg, cs = cgr r := by
  obtain ⟨xs, n, _, _, hl, hlen, hf⟩ := DataW.trod_struct Try.underlying70 h
  rw [cells70] at hl
  obtain ⟨c0, c1, c2, rfl⟩ := len3 hl
  have e0 := hf 0 _ rfl
  have e1 := hf 1 _ rfl
  simp only [List.getElem_toArray, List.getElem_cons_zero, List.getElem_cons_succ] at e0 e1
  rw [cells41, List.getElem?_eq_getElem (by rw [hlen]; decide)] at e0
  rw [cells3, List.getElem?_eq_getElem (by rw [hlen]; decide)] at e1
  obtain ⟨a, b, hab⟩ := open_pair e0
  obtain ⟨c, hc, _⟩ := DataW.trod_int Try.underlying3 e1
  simp at hab hc
  exact ⟨⟨a, b, c⟩, by rw [hab.1, hab.2, hc]; rfl⟩
set_option maxRecDepth 100000 in
theorem open_level {fuel : Nat} {cs : List Value} {x : DataW H × List MemPlace} (h : DataW.trod enc Try.prog w base spare held fuel 75 cs = some x) : ∃ r : Lv, cs = lvr r := by
  obtain ⟨xs, n, _, _, hl, hlen, hf⟩ := DataW.trod_struct Try.underlying75 h
  rw [cells75] at hl
  obtain ⟨c0, c1, c2, rfl⟩ := len3 hl
  have e0 := hf 0 _ rfl
  have e1 := hf 1 _ rfl
  simp only [List.getElem_toArray, List.getElem_cons_zero, List.getElem_cons_succ] at e0 e1
  rw [cells3, List.getElem?_eq_getElem (by rw [hlen]; decide)] at e0
  rw [cells41, List.getElem?_eq_getElem (by rw [hlen]; decide)] at e1
  obtain ⟨c, hc, _⟩ := DataW.trod_int Try.underlying3 e0
  obtain ⟨a, b, hab⟩ := open_pair e1
  simp at hab hc
  exact ⟨⟨c, a, b⟩, by rw [hab.1, hab.2, hc]; rfl⟩
theorem open_holds {fuel : Nat} {v : Value} {x : DataW H × List MemPlace} (h : DataW.trod enc Try.prog w base spare held fuel 22 [v] = some x) : ∃ (A : Option Addr) (len cap : Nat) (L : List Hd), v = .slice A len cap ∧ L.length = len ∧ len ≤ 9223372036854775807 ∧ len ≤ cap ∧ Sl w w.heap.size 3 A (L.map hdr) := by
  rcases Go.Deep.open_slice Try.underlying22 h with ⟨hcs, _⟩ | ⟨a, len, cap, m, n, D, Pl, hcs, hb, hl, hm, hmm, hx, hi⟩
  · simp at hcs
    exact ⟨none, 0, 0, [], hcs, rfl, by omega, by omega, Sl.nil _ _ _ _⟩
  · simp at hcs
    have hlm : len ≤ m := by rw [hmm]; split <;> omega
    obtain ⟨es, h1, h2⟩ := list_of (P := fun i (e : Hd) => w.cells? base (a.add (i * 3)) 3 = some (hdr e)) len fun i him => by
      obtain ⟨cs', hc, ht⟩ := hi i (by omega)
      rw [cells85] at hc
      obtain ⟨r, rfl⟩ := open_hold ht
      exact ⟨r, hc⟩
    refine ⟨some a, len, cap, es, hcs, h1, by unfold maxLen at hm; omega, by omega, sl_of (base := base) (by omega) fun k r hr => ?_⟩
    rw [List.getElem?_map] at hr
    cases he : es[k]? with
    | none => rw [he] at hr; cases hr
    | some e =>
      rw [he] at hr
      simp only [Option.map_some, Option.some.injEq] at hr
      subst hr
      exact h2 k e he
theorem open_cargos {fuel : Nat} {v : Value} {x : DataW H × List MemPlace} (h : DataW.trod enc Try.prog w base spare held fuel 24 [v] = some x) : ∃ (A : Option Addr) (len cap : Nat) (L : List Cg), v = .slice A len cap ∧ L.length = len ∧ len ≤ 9223372036854775807 ∧ len ≤ cap ∧ Sl w w.heap.size 3 A (L.map cgr) := by
  rcases Go.Deep.open_slice Try.underlying24 h with ⟨hcs, _⟩ | ⟨a, len, cap, m, n, D, Pl, hcs, hb, hl, hm, hmm, hx, hi⟩
  · simp at hcs
    exact ⟨none, 0, 0, [], hcs, rfl, by omega, by omega, Sl.nil _ _ _ _⟩
  · simp at hcs
    have hlm : len ≤ m := by rw [hmm]; split <;> omega
    obtain ⟨es, h1, h2⟩ := list_of (P := fun i (e : Cg) => w.cells? base (a.add (i * 3)) 3 = some (cgr e)) len fun i him => by
      obtain ⟨cs', hc, ht⟩ := hi i (by omega)
      rw [cells70] at hc
      obtain ⟨r, rfl⟩ := open_cargo ht
      exact ⟨r, hc⟩
    refine ⟨some a, len, cap, es, hcs, h1, by unfold maxLen at hm; omega, by omega, sl_of (base := base) (by omega) fun k r hr => ?_⟩
    rw [List.getElem?_map] at hr
    cases he : es[k]? with
    | none => rw [he] at hr; cases hr
    | some e =>
      rw [he] at hr
      simp only [Option.map_some, Option.some.injEq] at hr
      subst hr
      exact h2 k e he
theorem open_levels {fuel : Nat} {v : Value} {x : DataW H × List MemPlace} (h : DataW.trod enc Try.prog w base spare held fuel 71 [v] = some x) : ∃ (A : Option Addr) (len cap : Nat) (L : List Lv), v = .slice A len cap ∧ L.length = len ∧ len ≤ 9223372036854775807 ∧ len ≤ cap ∧ Sl w w.heap.size 3 A (L.map lvr) := by
  rcases Go.Deep.open_slice Try.underlying71 h with ⟨hcs, _⟩ | ⟨a, len, cap, m, n, D, Pl, hcs, hb, hl, hm, hmm, hx, hi⟩
  · simp at hcs
    exact ⟨none, 0, 0, [], hcs, rfl, by omega, by omega, Sl.nil _ _ _ _⟩
  · simp at hcs
    have hlm : len ≤ m := by rw [hmm]; split <;> omega
    obtain ⟨es, h1, h2⟩ := list_of (P := fun i (e : Lv) => w.cells? base (a.add (i * 3)) 3 = some (lvr e)) len fun i him => by
      obtain ⟨cs', hc, ht⟩ := hi i (by omega)
      rw [cells75] at hc
      obtain ⟨r, rfl⟩ := open_level ht
      exact ⟨r, hc⟩
    refine ⟨some a, len, cap, es, hcs, h1, by unfold maxLen at hm; omega, by omega, sl_of (base := base) (by omega) fun k r hr => ?_⟩
    rw [List.getElem?_map] at hr
    cases he : es[k]? with
    | none => rw [he] at hr; cases hr
    | some e =>
      rw [he] at hr
      simp only [Option.map_some, Option.some.injEq] at hr
      subst hr
      exact h2 k e he
set_option maxRecDepth 100000 in
theorem open_sill {fuel : Nat} {cs : List Value} {x : DataW H × List MemPlace} (h : DataW.trod enc Try.prog w base spare held fuel 73 cs = some x) : ∃ b : Si, SiRow w w.heap.size cs b ∧ b.lv.length ≤ 9223372036854775807 := by
  obtain ⟨xs, n, _, _, hl, hlen, hf⟩ := DataW.trod_struct Try.underlying73 h
  rw [cells73] at hl
  obtain ⟨c0, c1, c2, rfl⟩ := len3 hl
  have e0 := hf 0 _ rfl
  have e1 := hf 1 _ rfl
  simp only [List.getElem_toArray, List.getElem_cons_zero, List.getElem_cons_succ] at e0 e1
  rw [cells41, List.getElem?_eq_getElem (by rw [hlen]; decide)] at e0
  rw [cells71, List.getElem?_eq_getElem (by rw [hlen]; decide)] at e1
  obtain ⟨a, b, hab⟩ := open_pair e0
  obtain ⟨A, len, cap, L, hA, hL, hm, hc, hS⟩ := open_levels (v := c2) (by simpa using e1)
  simp at hab
  subst hL
  exact ⟨⟨a, b, L⟩, ⟨A, cap, by rw [hab.1, hab.2, hA], hc, hS⟩, hm⟩
theorem open_sills {fuel : Nat} {v : Value} {x : DataW H × List MemPlace} (h : DataW.trod enc Try.prog w base spare held fuel 23 [v] = some x) : ∃ (A : Option Addr) (len cap : Nat) (bs : List Si), v = .slice A len cap ∧ bs.length = len ∧ len ≤ 9223372036854775807 ∧ SisAt w w.heap.size A bs ∧ ∀ b ∈ bs, b.lv.length ≤ 9223372036854775807 := by
  rcases Go.Deep.open_slice Try.underlying23 h with ⟨hcs, _⟩ | ⟨a, len, cap, m, n, D, Pl, hcs, hb, hl, hm, hmm, hx, hi⟩
  · simp at hcs
    exact ⟨none, 0, 0, [], hcs, rfl, by omega, ⟨[], Sl.nil _ _ _ _, rfl, fun j r b hr _ => by simp at hr⟩, fun b hb => by simp at hb⟩
  · simp at hcs
    have hlm : len ≤ m := by rw [hmm]; split <;> omega
    obtain ⟨es, h1, h2⟩ := list_of (P := fun i (e : List Value × Si) => w.cells? base (a.add (i * 3)) 3 = some e.1 ∧ SiRow w w.heap.size e.1 e.2 ∧ e.2.lv.length ≤ 9223372036854775807) len fun i him => by
      obtain ⟨cs', hc, ht⟩ := hi i (by omega)
      rw [cells73] at hc
      obtain ⟨b, hb⟩ := open_sill ht
      exact ⟨(cs', b), hc, hb⟩
    refine ⟨some a, len, cap, es.map (·.2), hcs, by simp [h1], by unfold maxLen at hm; omega, ⟨es.map (·.1), sl_of (base := base) (by omega) fun k r hr => ?_, by simp, fun j r b hr hb => ?_⟩, fun b hb => ?_⟩
    · rw [List.getElem?_map] at hr
      cases he : es[k]? with
      | none => rw [he] at hr; cases hr
      | some e =>
        rw [he] at hr
        simp only [Option.map_some, Option.some.injEq] at hr
        subst hr
        exact (h2 k e he).1
    · rw [List.getElem?_map] at hr hb
      cases he : es[j]? with
      | none => rw [he] at hr; cases hr
      | some e =>
        rw [he] at hr hb
        simp only [Option.map_some, Option.some.injEq] at hr hb
        subst hr hb
        exact (h2 j e he).2.1
    · obtain ⟨e, he, rfl⟩ := List.mem_map.1 hb
      obtain ⟨j, hj⟩ := List.getElem?_of_mem he
      exact (h2 j e hj).2.2
set_option maxRecDepth 100000 in
theorem open_voyage {r : Reach} {b0 : Nat} {v : Value} {d : DataW H} {p : List MemPlace} (hv : Value.okWide Try.prog w r b0 26 v) (h : DataW.Trod enc Try.prog w base spare held 26 v d p) : ∃ (o : Vg) (q : Vp), v = .agg (vcs o q) ∧ q.Fit ∧ LvFit o ∧ VoyAt w w.heap.size o q := by
  obtain ⟨cs, rfl, hsz⟩ := okWide_struct Try.underlying26 hv
  obtain ⟨l⟩ := cs
  rw [cells26] at hsz
  obtain ⟨fuel, hf⟩ := h
  obtain ⟨c0, c1, c2, c3, c4, c5, c6, rfl⟩ := len7 (l := l) hsz
  obtain ⟨xs, n, _, _, hl, hlen, hg⟩ := DataW.trod_struct Try.underlying26 hf
  have e0 := hg 0 _ rfl
  have e1 := hg 1 _ rfl
  have e2 := hg 2 _ rfl
  have e3 := hg 3 _ rfl
  have e4 := hg 4 _ rfl
  have e5 := hg 5 _ rfl
  have e6 := hg 6 _ rfl
  simp only [List.getElem_toArray, List.getElem_cons_zero, List.getElem_cons_succ] at e0 e1 e2 e3 e4 e5 e6
  rw [cells3, List.getElem?_eq_getElem (by rw [hlen]; decide)] at e0 e1 e2 e4
  rw [cells22, List.getElem?_eq_getElem (by rw [hlen]; decide)] at e3
  rw [cells23, List.getElem?_eq_getElem (by rw [hlen]; decide)] at e5
  rw [cells24, List.getElem?_eq_getElem (by rw [hlen]; decide)] at e6
  simp only [Value.cells] at e0 e1 e2 e3 e4 e5 e6
  obtain ⟨li, hli, _⟩ := DataW.trod_int Try.underlying3 e0
  obtain ⟨un, hun, _⟩ := DataW.trod_int Try.underlying3 e1
  obtain ⟨tr, htr, _⟩ := DataW.trod_int Try.underlying3 e2
  obtain ⟨HA, hn, hc, hs, hH, f1, f2, _, f3⟩ := open_holds (v := c3) (by simpa using e3)
  obtain ⟨le, hle, _⟩ := DataW.trod_int Try.underlying3 e4
  obtain ⟨SA, sn, sc, ss, hS, g1, g2, g3, g4⟩ := open_sills (v := c5) (by simpa using e5)
  obtain ⟨LA, ln, lc, ls, hL, k1, k2, _, k3⟩ := open_cargos (v := c6) (by simpa using e6)
  simp at hli hun htr hle
  exact ⟨⟨li, un, tr, le, hs, ss, ls⟩, ⟨HA, hn, hc, SA, sn, sc, LA, ln, lc⟩, by rw [hli, hun, htr, hle, hH, hS, hL]; rfl, ⟨f2, g2, k2⟩, g4, ⟨f1, g1, k1, f3, g3, k3⟩⟩
set_option maxRecDepth 100000 in
theorem open_ints1 {r : Reach} {b0 : Nat} {v : Value} {d : DataW H} {p : List MemPlace} (hv : Value.okWide Try.prog w r b0 27 v) (h : DataW.Trod enc Try.prog w base spare held 27 v d p) : ∃ (A : Option Addr) (len cap : Nat) (l : List Int), v = .slice A len cap ∧ l.length = len ∧ len ≤ 9223372036854775807 ∧ Sl w w.heap.size 1 A (inr l) := by
  obtain ⟨A, len, cap, rfl⟩ := okWide_slice Try.underlying27 hv
  obtain ⟨fuel, hf⟩ := h
  obtain ⟨A', len', cap', l, e, h1⟩ := open_row (v := .slice A len cap) hf
  exact ⟨A', len', cap', l, e, h1⟩
theorem int_bd {n : Int} (h : (Lit.int .i64 n).wf = true) : -9223372036854775808 ≤ n ∧ n ≤ 9223372036854775807 := by
  simp [Lit.wf, IntKind.min, IntKind.max, IntKind.signed, IntKind.bits] at h
  omega
set_option maxRecDepth 100000 in
theorem open_num {r : Reach} {b0 : Nat} {v : Value} {d : DataW H} {p : List MemPlace} (hv : Value.okWide Try.prog w r b0 3 v) (h : DataW.Trod enc Try.prog w base spare held 3 v d p) : ∃ n : Int, v = .int .i64 n ∧ -9223372036854775808 ≤ n ∧ n ≤ 9223372036854775807 := by
  obtain ⟨n, rfl⟩ := okWide_int Try.underlying3 hv
  obtain ⟨fuel, hf⟩ := h
  obtain ⟨k, hk, _, hw⟩ := DataW.trod_int Try.underlying3 hf
  simp [Value.cells] at hk
  subst hk
  exact ⟨n, rfl, int_bd hw⟩
theorem three_open {a b c : TypeId} {args : Array Value} {ds : List (DataW H)} {ps : List MemPlace} (h : DataW.TrodAll enc Try.prog w base spare held [a, b, c] args.toList ds ps) :
    ∃ v0 v1 v2 d0 d1 d2 p0 p1 p2, args = #[v0, v1, v2] ∧ ds = [d0, d1, d2] ∧ ps = p0 ++ (p1 ++ p2) ∧ DataW.Trod enc Try.prog w base spare held a v0 d0 p0 ∧ DataW.Trod enc Try.prog w base spare held b v1 d1 p1 ∧ DataW.Trod enc Try.prog w base spare held c v2 d2 p2 := by
  obtain ⟨v0, w0, d0, e0, p0, q0, hargs, rfl, rfl, g0, h0⟩ := trodAll_cons h
  obtain ⟨v1, w1, d1, e1, p1, q1, rfl, rfl, rfl, g1, h1⟩ := trodAll_cons h0
  obtain ⟨v2, w2, d2, e2, p2, q2, rfl, rfl, rfl, g2, h2⟩ := trodAll_cons h1
  obtain ⟨rfl, rfl, rfl⟩ := trodAll_nil h2
  exact ⟨v0, v1, v2, d0, d1, d2, p0, p1, p2, by cases args; simp_all, rfl, by simp, g0, g1, g2⟩
theorem five_open {a b c d e : TypeId} {args : Array Value} {ds : List (DataW H)} {ps : List MemPlace} (h : DataW.TrodAll enc Try.prog w base spare held [a, b, c, d, e] args.toList ds ps) :
    ∃ v0 v1 v2 v3 v4 d0 d1 d2 d3 d4 p0 p1 p2 p3 p4, args = #[v0, v1, v2, v3, v4] ∧ ds = [d0, d1, d2, d3, d4] ∧ ps = p0 ++ (p1 ++ (p2 ++ (p3 ++ p4))) ∧ DataW.Trod enc Try.prog w base spare held a v0 d0 p0 ∧ DataW.Trod enc Try.prog w base spare held b v1 d1 p1 ∧ DataW.Trod enc Try.prog w base spare held c v2 d2 p2 ∧ DataW.Trod enc Try.prog w base spare held d v3 d3 p3 ∧ DataW.Trod enc Try.prog w base spare held e v4 d4 p4 := by
  obtain ⟨v0, w0, d0, e0, p0, q0, hargs, rfl, rfl, g0, h0⟩ := trodAll_cons h
  obtain ⟨v1, w1, d1, e1, p1, q1, rfl, rfl, rfl, g1, h1⟩ := trodAll_cons h0
  obtain ⟨v2, w2, d2, e2, p2, q2, rfl, rfl, rfl, g2, h2⟩ := trodAll_cons h1
  obtain ⟨v3, w3, d3, e3, p3, q3, rfl, rfl, rfl, g3, h3⟩ := trodAll_cons h2
  obtain ⟨v4, w4, d4, e4, p4, q4, rfl, rfl, rfl, g4, h4⟩ := trodAll_cons h3
  obtain ⟨rfl, rfl, rfl⟩ := trodAll_nil h4
  exact ⟨v0, v1, v2, v3, v4, d0, d1, d2, d3, d4, p0, p1, p2, p3, p4, by cases args; simp_all, rfl, by simp, g0, g1, g2, g3, g4⟩
end
end Go.Proofs.Ytfcpjkofbejleaa.opened
