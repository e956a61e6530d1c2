/- Regions that draw their order: what is held need not be shown behind what waits for all that is read. -/
import Derived.Test.YtdlohfglmagneaaDoorR2
import Derived.Test.YtdlohfglmagneaaDoorR3M
import Derived.Deep.CutBlock
import Derived.Test.YtdlohfglmagneaaDoorItM
import Derived.RangeFuncNested
import Derived.RangeFuncBound
import Derived.RangeFuncCalls
import Derived.RangeFuncLeaves
import Derived.Shelf.Abstract
import Derived.Shelf.RegionOpen
import Derived.OwnWalkIn
import Derived.TacticsInMore
import Derived.LoopNIn
import Derived.LoopIn
import Derived.Laws.CopyRow
import Derived.ArgAppend
import Derived.OwnWalk
set_option linter.unusedSimpArgs false
set_option linter.unusedVariables false
namespace Go.Proofs.YtdlohfglmagneaaDoor
open Go Go.RowKit
section
section
variable {P : Program} {ops : Array Oper} {Q : Exit → Act → World → Prop} {md : Region.Mode} {S : World → Prop} {G : Nat → Bool}
/-- j waits for i, perhaps by others. -/
inductive Desc (md : Region.Mode) (ops : Array Oper) (i : Nat) : Nat → Prop
  | base {j : Nat} {o : Oper} (ho : ops[j]? = some o) (h : ∃ e ∈ o.after, Region.binds md e = true ∧ e.on = i) : Desc md ops i j
  | step {j k : Nat} {o : Oper} (ho : ops[j]? = some o) (h : ∃ e ∈ o.after, Region.binds md e = true ∧ e.on = k) (hk : Desc md ops i k) : Desc md ops i j
def descs (md : Region.Mode) (ops : Array Oper) (i : Nat) : List Nat :=
  (List.range ops.size).foldl (fun D j => if ((ops[j]?).map (·.after.any fun e => Region.binds md e && D.contains e.on)).getD false then j :: D else D) [i]
theorem descs_ok {i : Nat} : ∀ k ∈ descs md ops i, k = i ∨ Desc md ops i k := by
  unfold descs
  have key : ∀ (l D : List Nat), (∀ k ∈ D, k = i ∨ Desc md ops i k) → ∀ k ∈ l.foldl (fun D j => if ((ops[j]?).map (·.after.any fun e => Region.binds md e && D.contains e.on)).getD false then j :: D else D) D, k = i ∨ Desc md ops i k := by
    intro l
    induction l with
    | nil => intro D h k hk; exact h k hk
    | cons j l ih =>
      intro D h
      rw [List.foldl_cons]
      refine ih _ fun k hk => ?_
      split at hk
      · rename_i hc
        rcases List.mem_cons.1 hk with rfl | hk
        · cases ho : ops[k]? with
          | none => rw [ho] at hc; simp at hc
          | some o =>
            rw [ho] at hc
            simp only [Option.map_some, Option.getD_some] at hc
            obtain ⟨e, he, hb⟩ := Array.any_eq_true'.1 hc
            simp only [Bool.and_eq_true, List.contains_eq_mem, decide_eq_true_eq] at hb
            rcases h _ hb.2 with h0 | h0
            · exact .inr (.base ho ⟨e, he, hb.1, h0⟩)
            · exact .inr (.step ho ⟨e, he, hb.1, rfl⟩ h0)
        · exact h k hk
      · exact h k hk
  exact key _ _ (by simp)
/-- Whatever has come up, what it waits for has. -/
def Closed (md : Region.Mode) (ops : Array Oper) (listed : Array Bool) : Prop :=
  ∀ k, listed.getD k false = true → ∀ o, ops[k]? = some o → ∀ e ∈ o.after, Region.binds md e = true → listed.getD e.on false = true
def closedB (md : Region.Mode) (ops : Array Oper) (listed : Array Bool) : Bool :=
  (List.range ops.size).all fun k => !listed.getD k false || ((ops[k]?).map (·.after.all fun e => !Region.binds md e || listed.getD e.on false)).getD true
theorem closedB_ok {listed : Array Bool} (h : closedB md ops listed = true) : Closed md ops listed := by
  intro k hk o ho e he hb
  have hlt : k < ops.size := (Array.getElem?_eq_some_iff.1 ho).1
  have h1 := List.all_eq_true.1 h k (List.mem_range.2 hlt)
  rw [hk, ho] at h1
  simp only [Bool.not_true, Bool.false_or, Option.map_some, Option.getD_some] at h1
  have h2 := Array.all_eq_true'.1 h1 e he
  rw [hb] at h2
  simpa using h2
theorem Desc.no {listed : Array Bool} {i j : Nat} (hc : Closed md ops listed) (hi : listed.getD i false = false) (h : Desc md ops i j) : ∀ o, ops[j]? = some o → ¬ ∀ e ∈ o.after, Region.binds md e = true → listed.getD e.on false = true := by
  induction h with
  | base ho h =>
    intro o ho' hall
    rw [ho] at ho'
    cases ho'
    obtain ⟨e, he, hb, rfl⟩ := h
    rw [hall e he hb] at hi
    cases hi
  | step ho h hk ih =>
    intro o ho' hall
    rw [ho] at ho'
    cases ho'
    obtain ⟨e, he, hb, rfl⟩ := h
    have hl := hall e he hb
    cases hk with
    | base ho2 _ => exact ih _ ho2 fun e' he' hb' => hc _ hl _ ho2 e' he' hb'
    | step ho2 _ _ => exact ih _ ho2 fun e' he' hb' => hc _ hl _ ho2 e' he' hb'
theorem getD_set_mono {listed : Array Bool} {j k : Nat} (h : listed.getD k false = true) : (listed.setIfInBounds j true).getD k false = true := by
  by_cases hjk : j = k
  · subst hjk
    rcases Nat.lt_or_ge j listed.size with h' | h'
    · simp [Array.getD_eq_getD_getElem?, h']
    · simp [Array.getD_eq_getD_getElem?, Array.getElem?_eq_none h'] at h
  · rw [getD_set_ne false hjk]; exact h
theorem Closed.step {listed : Array Bool} (hc : Closed md ops listed) {j : Nat} (hj : j ∈ Region.ready md ops listed) : Closed md ops (listed.setIfInBounds j true) := by
  obtain ⟨_, oj, hoj, hall⟩ := mem_ready.1 hj
  intro k hk o ho e he hb
  by_cases hjk : j = k
  · subst hjk
    rw [hoj] at ho
    cases ho
    exact getD_set_mono (hall e he hb)
  · rw [getD_set_ne false hjk] at hk
    exact getD_set_mono (hc k hk o ho e he hb)
/-- Every operation that is still to come and that G doesn't name waits for number i. -/
def waitsC (md : Region.Mode) (ops : Array Oper) (G : Nat → Bool) (listed : Array Bool) (i : Nat) : Bool :=
  (List.range ops.size).all fun j => listed.getD j true || G j || j == i || (descs md ops i).contains j
theorem waitsC_ok {i : Nat} {listed : Array Bool} (h : waitsC md ops G listed i = true) : ∀ j, j < ops.size → listed.getD j true = false → j ≠ i → G j = true ∨ Desc md ops i j := by
  intro j hlt hun hne
  have h1 := List.all_eq_true.1 h j (List.mem_range.2 hlt)
  rw [hun] at h1
  simp only [Bool.false_or, Bool.or_eq_true, beq_iff_eq, hne, or_false, List.contains_eq_mem, decide_eq_true_eq] at h1
  rcases h1 with h1 | h1
  · exact .inl h1
  · rcases descs_ok _ h1 with h2 | h2
    · exact absurd h2 hne
    · exact .inr h2
theorem AnyG.firstC {i : Nat} {oi : Oper} {v : Value} (hi : ops[i]? = some oi) (hsel : Region.noSelect ops = true) 
    (hQ : ∀ c a w, Q (.panic c) (a.put oi.dst v) w → Q (.panic c) a w) :
    ∀ (fuel : Nat) (listed : Array Bool) (a : Act) (w : World), Closed md ops listed → (∀ j, j < ops.size → listed.getD j true = false → j ≠ i → G j = true ∨ Desc md ops i j) →
      (∀ j oj, ops[j]? = some oj → j ≠ i → listed.getD j true = false → (∀ e ∈ oj.after, Region.binds md e = true → e.on ≠ i) → oi.apart ops oj = true) →
      i ∈ Region.ready md ops listed → YieldsIf P ops S oi v a → S w →
      AnyG P md ops Q S G fuel (listed.setIfInBounds i true) (a.put oi.dst v) w → AnyG P md ops Q S G (fuel + 1) listed a w := by
  intro fuel
  induction fuel with
  | zero =>
    intro listed a w _ _ _ hr hy hS H
    refine ⟨fun h => (by rw [h] at hr; cases hr), fun j hj => ?_⟩
    rcases Nat.decEq j i with hji | hji
    · have hl := ready_mono hj hji
      rw [H.1] at hl
      cases hl
    · subst hji
      exact hy.wpOp hi hS ⟨fun _ => hS, H⟩
  | succ fuel ih =>
    intro listed a w hc hw hfree hr hy hS H
    refine ⟨fun h => (by rw [h] at hr; cases hr), fun j hj => ?_⟩
    rcases Nat.decEq j i with hji | hji
    · obtain ⟨hjun, oj, hoj, hall⟩ := mem_ready.1 hj
      have hiun : listed.getD i false = false := by
        have h0 := (mem_ready.1 hr).1
        rcases Nat.lt_or_ge i listed.size with h' | h'
        · simp [h'] at h0 ⊢; exact h0
        · simp [Array.getElem?_eq_none h']
      have hjun' : listed.getD j true = false := hjun
      have hG : G j = true := (hw j (Array.getElem?_eq_some_iff.1 hoj).1 hjun' hji).resolve_right fun hd => hd.no hc hiun _ hoj hall
      have hnot : ∀ e ∈ oj.after, Region.binds md e = true → e.on ≠ i := fun e he hb heq => by
        have h2 := hall e he hb
        rw [heq, hiun] at h2
        cases h2
      have h2 := wpOp_putIf hoj (hfree j oj hoj hji hjun hnot) (fun cs b => Region.noSelect_spec hsel i oi cs b hi) (fun cs b => Region.noSelect_spec hsel j oj cs b hoj) hQ hy (H.2 j (ready_mono hj hji))
      refine wpOp_mono (fun a' w' h3 => ⟨h3.2.1, ih (listed.setIfInBounds j true) a' w' (hc.step hj) ?_ ?_ (ready_mono hr (Ne.symm hji)) h3.1 (h3.2.1 hG) ?_⟩) h2
      · intro k hk hun hki
        refine hw k hk ?_ hki
        rcases Nat.decEq j k with hjk | hjk
        · rw [getD_set_ne true hjk] at hun; exact hun
        · subst hjk; exact hjun
      · intro k ok hk hki hun hno
        refine hfree k ok hk hki ?_ hno
        rcases Nat.decEq j k with hjk | hjk
        · rw [getD_set_ne true hjk] at hun; exact hun
        · subst hjk; exact hjun
      · rw [Array.setIfInBounds_comm _ _ hji]
        exact h3.2.2
    · subst hji
      exact hy.wpOp hi hS ⟨fun _ => hS, H⟩
/-- Number i is taken first. -/
theorem AnyG.takeC {i : Nat} {oi : Oper} {v : Value} {fuel : Nat} {listed : Array Bool} {a : Act} {w : World} (hi : ops[i]? = some oi)
    (hs : (Region.noSelect ops && waitsC md ops G listed i && closedB md ops listed && Region.free md ops listed i && (Region.ready md ops listed).contains i) = true)
    (hQ : ∀ c a w, Q (.panic c) (a.put oi.dst v) w → Q (.panic c) a w) (hg : oi.guard = none) (hy : ∀ w, S w → (execOp a.eval oi).run P w = .ok (.value v) w) (hS : S w)
    (h : AnyG P md ops Q S G fuel (listed.setIfInBounds i true) (a.put oi.dst v) w) : AnyG P md ops Q S G (fuel + 1) listed a w := by
  simp only [Bool.and_eq_true] at hs
  obtain ⟨⟨⟨⟨h1, h2⟩, h5⟩, h3⟩, h4⟩ := hs
  exact AnyG.firstC hi h1 hQ fuel listed a w (closedB_ok h5) (waitsC_ok h2) (Region.free_spec hi h3) (by simpa using h4) (.inl ⟨by simp [Region.wanted, hg], hy⟩) hS h
theorem AnyG.takeGC {i : Nat} {oi : Oper} {v : Value} {fuel : Nat} {listed : Array Bool} {a : Act} {w : World} (hi : ops[i]? = some oi)
    (hs : (Region.noSelect ops && waitsC md ops G listed i && closedB md ops listed && Region.free md ops listed i && (Region.ready md ops listed).contains i) = true)
    (hQ : ∀ c a w, Q (.panic c) (a.put oi.dst v) w → Q (.panic c) a w) (hg : Region.wanted oi (yielded ops a.tmps) = true) (hy : ∀ w, S w → (execOp a.eval oi).run P w = .ok (.value v) w) (hS : S w)
    (h : AnyG P md ops Q S G fuel (listed.setIfInBounds i true) (a.put oi.dst v) w) : AnyG P md ops Q S G (fuel + 1) listed a w := by
  simp only [Bool.and_eq_true] at hs
  obtain ⟨⟨⟨⟨h1, h2⟩, h5⟩, h3⟩, h4⟩ := hs
  exact AnyG.firstC hi h1 hQ fuel listed a w (closedB_ok h5) (waitsC_ok h2) (Region.free_spec hi h3) (by simpa using h4) (.inl ⟨hg, hy⟩) hS h
theorem AnyG.takeNC {i : Nat} {oi : Oper} {fuel : Nat} {listed : Array Bool} {a : Act} {w : World} (hi : ops[i]? = some oi)
    (hs : (Region.noSelect ops && waitsC md ops G listed i && closedB md ops listed && Region.free md ops listed i && (Region.ready md ops listed).contains i) = true)
    (hQ : ∀ c a w, Q (.panic c) (a.put oi.dst undef) w → Q (.panic c) a w) (hg : Region.wanted oi (yielded ops a.tmps) = false) (hS : S w)
    (h : AnyG P md ops Q S G fuel (listed.setIfInBounds i true) (a.put oi.dst undef) w) : AnyG P md ops Q S G (fuel + 1) listed a w := by
  simp only [Bool.and_eq_true] at hs
  obtain ⟨⟨⟨⟨h1, h2⟩, h5⟩, h3⟩, h4⟩ := hs
  exact AnyG.firstC hi h1 hQ fuel listed a w (closedB_ok h5) (waitsC_ok h2) (Region.free_spec hi h3) (by simpa using h4) (.inr ⟨hg, rfl⟩) hS h
/-- The beginning: what needs no world may be taken before. -/
theorem AnyG.startC {id : Nat} {a : Act} {w : World} (hm : P.follows .mixedOrders = true) (h : wpAny P .any ops Q ops.size (Array.replicate ops.size false) a w.drew) : (Code.region id ops true).wp P Q a w := wp_region_any hm h
theorem AnyG.takeP {i : Nat} {oi : Oper} {v : Value} {fuel : Nat} {listed : Array Bool} {a : Act} {w : World} (hi : ops[i]? = some oi)
    (hs : (Region.noSelect ops && Region.free md ops listed i && (Region.ready md ops listed).contains i) = true)
    (hQ : ∀ c a w, Q (.panic c) (a.put oi.dst v) w → Q (.panic c) a w) (hg : oi.guard = none) (hy : ∀ w, (execOp a.eval oi).run P w = .ok (.value v) w)
    (h : wpAny P md ops Q fuel (listed.setIfInBounds i true) (a.put oi.dst v) w) : wpAny P md ops Q (fuel + 1) listed a w := by
  simp only [Bool.and_eq_true] at hs
  obtain ⟨⟨h1, h3⟩, h4⟩ := hs
  exact wpAny_first hi (Region.noSelect_spec h1) hQ fuel listed a w (Region.free_spec hi h3) (by simpa using h4) (.inl ⟨by simp [Region.wanted, hg], hy⟩) h
theorem AnyG.enter {fuel : Nat} {listed : Array Bool} {a : Act} {w : World} (S : World → Prop) (G : Nat → Bool) (h : AnyG P md ops Q S G fuel listed a w) : wpAny P md ops Q fuel listed a w := AnyG.any _ _ _ _ h
/-- The one operation that may come up is carried out (its guard lets it). -/
theorem AnyG.oneC {i : Nat} {o : Oper} {fuel : Nat} {listed : Array Bool} {a : Act} {w : World} (hr : Region.ready md ops listed = [i]) (ho : ops[i]? = some o) (hg : Region.wanted o (yielded ops a.tmps) = true)
    (h : o.wp P a w (Onward P md ops Q S G fuel i listed) Q) : AnyG P md ops Q S G (fuel + 1) listed a w := by
  refine ⟨fun h0 => absurd (hr.symm.trans h0) (by simp), fun j hj => ?_⟩
  rw [hr] at hj
  obtain rfl : j = i := by simpa using hj
  unfold wpOp
  rw [ho]
  show if Region.wanted o (yielded ops a.tmps) = true then _ else _
  rw [if_pos hg]
  exact .inl h
end
end
end Go.Proofs.YtdlohfglmagneaaDoor

/-! Orders in memory. -/
namespace Go.Proofs.YtdlohfglmagneaaDoor
open Go.RowKit
/-- Rows of one number, of two. -/
def inr (L : List Int) : List (List Value) := L.map fun x => [.int .i64 x]
def gnr (L : List (Int × Int)) : List (List Value) := L.map fun p => [.int .i64 p.1, .int .i64 p.2]
theorem inr_at {w : World} {B k : Nat} {A : Option Addr} {L : List Int} (h : Sl w B 1 A (inr L)) (hk : k < L.length) : ∃ ad, A = some ad ∧ ad.block < B ∧ w.cell? (ad.add k) = some (.int .i64 L[k]) := by
  obtain ⟨ad, h1, h2, h3⟩ := h.at_ (k := k) (by simpa [inr] using hk)
  refine ⟨ad, h1, h2, ?_⟩
  simp only [inr, List.getElem_map, Nat.mul_one] at h3
  exact h3.head rfl
theorem gnr_at {w : World} {B k : Nat} {A : Option Addr} {L : List (Int × Int)} (h : Sl w B 2 A (gnr L)) (hk : k < L.length) : ∃ ad, A = some ad ∧ ad.block < B ∧ w.cell? (ad.add (k * 2)) = some (.int .i64 L[k].1) ∧ w.cell? ⟨(ad.add (k * 2)).block, (ad.add (k * 2)).off + 1, none⟩ = some (.int .i64 L[k].2) := by
  obtain ⟨ad, h1, h2, h3⟩ := h.at_ (k := k) (by simpa [gnr] using hk)
  refine ⟨ad, h1, h2, ?_⟩
  simp only [gnr, List.getElem_map] at h3
  exact ⟨h3.head rfl, h3.next 0 rfl⟩
/-- The four cells of a bin. -/
def BinRow (w : World) (B : Nat) (r : List Value) (b : Bn) : Prop :=
  ∃ (A : Option Addr) (c : Nat), r = [.slice A b.gr.length c, .int .i64 b.w, .int .i64 b.c, .int .i64 b.g] ∧ Sl w B 2 A (gnr b.gr)
/-- The row of bins at A. -/
structure BinsAt (w : World) (B : Nat) (A : Option Addr) (bs : List Bn) : Prop where
  rows : ∃ rs : List (List Value), Sl w B 4 A rs ∧ rs.length = bs.length ∧ ∀ (j : Nat) (r : List Value) (b : Bn), rs[j]? = some r → bs[j]? = some b → BinRow w B r b
section
variable {w w' : World} {B B' : Nat} {A : Option Addr} {bs : List Bn}
theorem BinsAt.below (h : BinsAt w B A bs) (hb : Below B w w') : BinsAt w' B A bs := by
  obtain ⟨rs, h1, h2, h3⟩ := h.rows
  refine ⟨rs, h1.below hb, h2, fun j r b hr hb' => ?_⟩
  obtain ⟨A', c, e, h4⟩ := h3 j r b hr hb'
  exact ⟨A', c, e, h4.below hb⟩
theorem BinsAt.more (h : BinsAt w B A bs) (hB : B ≤ B') : BinsAt w B' A bs := by
  obtain ⟨rs, h1, h2, h3⟩ := h.rows
  refine ⟨rs, h1.more hB, h2, fun j r b hr hb' => ?_⟩
  obtain ⟨A', c, e, h4⟩ := h3 j r b hr hb'
  exact ⟨A', c, e, h4.more hB⟩
theorem BinsAt.at_ (h : BinsAt w B A bs) {k : Nat} (hk : k < bs.length) : ∃ (ad : Addr) (G : Option Addr) (c : Nat), A = some ad ∧ ad.block < B ∧
    w.cell? (ad.add (k * 4)) = some (.slice G bs[k].gr.length c) ∧ w.cell? ⟨(ad.add (k * 4)).block, (ad.add (k * 4)).off + 1, none⟩ = some (.int .i64 bs[k].w) ∧
    w.cell? ⟨(ad.add (k * 4)).block, (ad.add (k * 4)).off + 2, none⟩ = some (.int .i64 bs[k].c) ∧ w.cell? ⟨(ad.add (k * 4)).block, (ad.add (k * 4)).off + 3, none⟩ = some (.int .i64 bs[k].g) ∧ Sl w B 2 G (gnr bs[k].gr) := by
  obtain ⟨rs, h1, h2, h3⟩ := h.rows
  have hk' : k < rs.length := by omega
  obtain ⟨ad, e1, e2, e3⟩ := h1.at_ hk'
  obtain ⟨G, c, e4, e5⟩ := h3 k rs[k] bs[k] (List.getElem?_eq_getElem hk') (List.getElem?_eq_getElem hk)
  rw [e4] at e3
  exact ⟨ad, G, c, e1, e2, e3.head rfl, e3.next 0 rfl, e3.next 1 rfl, e3.next 2 rfl, e5⟩
end
/-- An order in memory: its limits at LA, its bins at BA. -/
structure OrdAt (w : World) (B : Nat) (LA BA : Option Addr) (o : Od) : Prop where
  lm : Sl w B 1 LA (inr o.lm)
  bs : BinsAt w B BA o.bs
theorem OrdAt.below {w w' : World} {B : Nat} {LA BA : Option Addr} {o : Od} (h : OrdAt w B LA BA o) (hb : Below B w w') : OrdAt w' B LA BA o := ⟨h.lm.below hb, h.bs.below hb⟩
theorem OrdAt.more {w : World} {B B' : Nat} {LA BA : Option Addr} {o : Od} (h : OrdAt w B LA BA o) (hb : B ≤ B') : OrdAt w B' LA BA o := ⟨h.lm.more hb, h.bs.more hb⟩
theorem OrdAt.call {w w' : World} {LA BA : Option Addr} {o : Od} (h : OrdAt w w.heap.size LA BA o) (hb : Below w.heap.size w w') : OrdAt w' w'.heap.size LA BA o := (h.below hb).more hb.size
theorem Sl.call {w w' : World} {s : Nat} {A : Option Addr} {xs : List (List Value)} (h : Sl w w.heap.size s A xs) (hb : Below w.heap.size w w') : Sl w' w'.heap.size s A xs := (h.below hb).more hb.size
end Go.Proofs.YtdlohfglmagneaaDoor

/-! The errors of orders and blends: span.IsWithin, Count, Check; melt.checkLimits, checkBin, checkBins, Check, checkBlend. -/
namespace Go.Proofs.YtdlohfglmagneaaDoor
open Go.RowKit
theorem cellA {w : World} {o : Obj} {a : Addr} {v : Value} (h : w.cell? a = some v) : (w.alloc o).cell? a = some v := (World.cell?_alloc_lt _ _ _ (World.block_lt_of_cell? w _ h)).trans h
theorem cellC {W w1 : World} (hb : Below W.heap.size W w1) {a : Addr} {v : Value} (h : W.cell? a = some v) : w1.cell? a = some v := (hb.cell (World.block_lt_of_cell? W _ h)).trans h
theorem isWithin_any (n lo hi : Int) (w : World) : Calls Tryd.prog 18 #[.int .i64 n, .int .i64 lo, .int .i64 hi] w fun e w' => e = .returned (.bool (decide (lo ≤ n ∧ n ≤ hi))) ∧ Below w.heap.size w w' := by
  go_enter Tryd.func18, Tryd.ntmps18
  by_cases h1 : lo ≤ n
  · go_wp2
    all_goals
      go_ret
      refine ⟨ret_bool ?_, Below.refl _ _⟩
      simp; try omega
  · go_wp2
    all_goals
      go_ret
      refine ⟨ret_bool ?_, Below.refl _ _⟩
      simp; try omega
theorem isWithin_yes (n lo hi : Int) (w : World) (h : lo ≤ n ∧ n ≤ hi) : Calls Tryd.prog 18 #[.int .i64 n, .int .i64 lo, .int .i64 hi] w fun e w' => e = .returned (.bool true) ∧ Below w.heap.size w w' :=
  (isWithin_any n lo hi w).mono (by rintro e w' ⟨rfl, hb⟩; rw [decide_eq_true h]; exact ⟨rfl, hb⟩)
theorem isWithin_no (n lo hi : Int) (w : World) (h : ¬ (lo ≤ n ∧ n ≤ hi)) : Calls Tryd.prog 18 #[.int .i64 n, .int .i64 lo, .int .i64 hi] w fun e w' => e = .returned (.bool false) ∧ Below w.heap.size w w' :=
  (isWithin_any n lo hi w).mono (by rintro e w' ⟨rfl, hb⟩; rw [decide_eq_false h]; exact ⟨rfl, hb⟩)
theorem count_any (n lo hi : Int) (w : World) : Calls Tryd.prog 36 #[.int .i64 n, .int .i64 lo, .int .i64 hi] w fun e w' => e = .returned (.int .i64 (if n < lo then 7 else if hi < n then 6 else 0)) ∧ Below w.heap.size w w' := by
  go_enter Tryd.func36, Tryd.ntmps36
  go_wp2
  all_goals
    go_ret
    refine ⟨ret_int ?_, Below.refl _ _⟩
    repeat (first | rfl | rw [if_pos (by omega)] | rw [if_neg (by omega)])
theorem spanCheck_any (a b lo hi : Int) (w : World) :
    Calls Tryd.prog 37 #[.agg #[.int .i64 a, .int .i64 b], .int .i64 lo, .int .i64 hi] w fun e w' => e = .returned (.int .i64 (ckR a b lo hi)) ∧ Below w.heap.size w w' := by
  have K0 := Bx.new w 29 #[.int .i64 a, .int .i64 b]
  have B0 := (Below.refl w.heap.size w).alloc (Nat.le_refl _) (.cells #[.int .i64 a, .int .i64 b] 29)
  by_cases h1 : lo ≤ a ∧ a ≤ hi
  · by_cases h2 : lo ≤ b ∧ b ≤ hi
    · go_enter Tryd.func37, Tryd.ntmps37
      go_wp2_with (go_at_call 18; first | (have _t := hb1; clear _t; refine (isWithin_yes _ _ _ _ h2).mono ?_; rintro e w2 ⟨rfl, hb2⟩; have k2 := k1.call hb2; have B2 := B1.trans (hb2.mono B1.size); obtain ⟨d0, d1, df, dz⟩ := k2.two) | (refine (isWithin_yes _ _ _ _ h1).mono ?_; rintro e w1 ⟨rfl, hb1⟩; have k1 := K0.call hb1; have B1 := B0.trans (hb1.mono B0.size); obtain ⟨c0, c1, cf, cz⟩ := k1.two))
      all_goals
        go_ret
        refine ⟨ret_int ?_, B2⟩
        unfold ckR
        repeat (first | rfl | rw [if_pos (by omega)] | rw [if_neg (by omega)])
    · go_enter Tryd.func37, Tryd.ntmps37
      go_wp2_with (go_at_call 18; first | (have _t := hb1; clear _t; refine (isWithin_no _ _ _ _ h2).mono ?_; rintro e w2 ⟨rfl, hb2⟩; have k2 := k1.call hb2; have B2 := B1.trans (hb2.mono B1.size); obtain ⟨d0, d1, df, dz⟩ := k2.two) | (refine (isWithin_yes _ _ _ _ h1).mono ?_; rintro e w1 ⟨rfl, hb1⟩; have k1 := K0.call hb1; have B1 := B0.trans (hb1.mono B0.size); obtain ⟨c0, c1, cf, cz⟩ := k1.two))
      all_goals
        go_ret
        refine ⟨ret_int ?_, B2⟩
        unfold ckR
        repeat (first | rfl | rw [if_pos (by omega)] | rw [if_neg (by omega)])
  · go_enter Tryd.func37, Tryd.ntmps37
    go_wp2_with (go_at_call 18; refine (isWithin_no _ _ _ _ h1).mono ?_; rintro e w1 ⟨rfl, hb1⟩; have k1 := K0.call hb1; have B1 := B0.trans (hb1.mono B0.size); obtain ⟨c0, c1, cf, cz⟩ := k1.two)
    all_goals
      go_ret
      refine ⟨ret_int ?_, B1⟩
      unfold ckR
      repeat (first | rfl | rw [if_pos (by omega)] | rw [if_neg (by omega)])
end Go.Proofs.YtdlohfglmagneaaDoor

/-! Ranges over a function whose iterator keeps state of its own in a box: its contract (SeqBx), the law for a loop whose body goes on always (range_bx). -/
namespace Go.Proofs.YtdlohfglmagneaaDoor
open Go Go.RowKit
/-- The blocks from lo to b lie as they lay, and none is gone. -/
structure KeepMid (lo b : Nat) (W W' : World) : Prop where
  size : W.heap.size ≤ W'.heap.size
  same : ∀ k, lo ≤ k → k < b → W'.heap[k]? = W.heap[k]?
theorem KeepMid.refl (lo b : Nat) (W : World) : KeepMid lo b W W := ⟨Nat.le_refl _, fun _ _ _ => rfl⟩
theorem KeepMid.trans {lo b : Nat} {A B C : World} (h : KeepMid lo b A B) (k : KeepMid lo b B C) : KeepMid lo b A C :=
  ⟨Nat.le_trans h.size k.size, fun i h1 h2 => (k.same i h1 h2).trans (h.same i h1 h2)⟩
theorem KeepMid.below {lo b : Nat} {A B : World} (h : Below A.heap.size A B) (hb : b ≤ A.heap.size) : KeepMid lo b A B :=
  ⟨h.size, fun i _ i2 => h.block i (by omega)⟩
section
variable {F : Fence} {n : Nat} {P : Program} {w : World}
end
end Go.Proofs.YtdlohfglmagneaaDoor

/-! Whether a blend keeps its limits, fits, is good: melt.keeps, fits, isGood. -/
namespace Go.Proofs.YtdlohfglmagneaaDoor
open Go Go.RowKit
theorem barr_def (f : Nat → Int) : barr f = #[.int .i64 (f 0), .int .i64 (f 1), .int .i64 (f 2), .int .i64 (f 3)] := by unfold barr; rfl
theorem Bx.barr {w : World} {g : Nat} {t : TypeId} {f : Nat → Int} (h : Bx w g t (Go.Proofs.YtdlohfglmagneaaDoor.barr f)) : w.cell? ⟨g, 0, none⟩ = some (.int .i64 (f 0)) ∧ w.cell? ⟨g, 1, none⟩ = some (.int .i64 (f 1)) ∧ w.cell? ⟨g, 2, none⟩ = some (.int .i64 (f 2)) ∧ w.cell? ⟨g, 3, none⟩ = some (.int .i64 (f 3)) ∧ (∀ o, w.frozen? ⟨g, o, none⟩ = false) ∧ g < w.heap.size := by
  rw [barr_def] at h
  exact h.four
end Go.Proofs.YtdlohfglmagneaaDoor

/-! copy into an array; melt.blendOf, Keeps, Weigh. -/
namespace Go.Proofs.YtdlohfglmagneaaDoor
open Go Go.RowKit
section
variable {P : Program}
end
/-- A list as a function. -/
def lf (L : List Int) : Nat → Int := fun i => L.getD i 0
/-- A good list of numbers is a blend. -/
structure BlOk (o : Od) (L : List Int) : Prop where
  ok : o.Ok
  len : L.length = o.bs.length
  in_ : ∀ i, lf L i = 0 ∨ (i < o.bs.length ∧ 0 ≤ lf L i ∧ lf L i ≤ (o.bn i).g)
theorem BlOk.six {o : Od} {L : List Int} (h : BlOk o L) : Six (lf L) := fun i => by
  rcases h.in_ i with h1 | ⟨h1, h2, h3⟩
  · rw [h1]; omega
  · have := (h.ok.bn h1).g2; omega
theorem BlOk.inb {o : Od} {L : List Int} (h : BlOk o L) : InB zer o.mx (lf L) := fun i hi => by
  rcases h.in_ i with h1 | ⟨h1, h2, h3⟩
  · rw [h1]; have := h.ok.mx.six2 i; simp only [zer]; omega
  · exact ⟨by simp only [zer]; exact h2, h3⟩
end Go.Proofs.YtdlohfglmagneaaDoor

/-! Boxes of blends: melt.box.least, greatest, only, isOne, cut, middle, after; wholeBox. -/
namespace Go.Proofs.YtdlohfglmagneaaDoor
open Go Go.RowKit
theorem xarr_def (lo hi : Nat → Int) : xarr lo hi = #[.int .i64 (lo 0), .int .i64 (hi 0), .int .i64 (lo 1), .int .i64 (hi 1), .int .i64 (lo 2), .int .i64 (hi 2), .int .i64 (lo 3), .int .i64 (hi 3)] := by unfold xarr; rfl
theorem Bx.xarr {w : World} {g : Nat} {t : TypeId} {lo hi : Nat → Int} (h : Bx w g t (Go.Proofs.YtdlohfglmagneaaDoor.xarr lo hi)) : w.cell? ⟨g, 0, none⟩ = some (.int .i64 (lo 0)) ∧ w.cell? ⟨g, 1, none⟩ = some (.int .i64 (hi 0)) ∧ w.cell? ⟨g, 2, none⟩ = some (.int .i64 (lo 1)) ∧ w.cell? ⟨g, 3, none⟩ = some (.int .i64 (hi 1)) ∧ w.cell? ⟨g, 4, none⟩ = some (.int .i64 (lo 2)) ∧ w.cell? ⟨g, 5, none⟩ = some (.int .i64 (hi 2)) ∧ w.cell? ⟨g, 6, none⟩ = some (.int .i64 (lo 3)) ∧ w.cell? ⟨g, 7, none⟩ = some (.int .i64 (hi 3)) ∧ (∀ o, w.frozen? ⟨g, o, none⟩ = false) ∧ g < w.heap.size := by
  rw [xarr_def] at h
  exact ⟨h.cell 0, h.cell 1, h.cell 2, h.cell 3, h.cell 4, h.cell 5, h.cell 6, h.cell 7, h.free, h.lt⟩
end Go.Proofs.YtdlohfglmagneaaDoor

/-! The iterator of melt.box.blends, as a contract. -/
namespace Go.Proofs.YtdlohfglmagneaaDoor
open Go Go.RowKit Go.Shelf
attribute [local go_sem] Oper.semAt_some
theorem grown_below {w w' : World} {row : Option Nat} (h : Below w.heap.size w w') : w.grownBy w' row := ⟨h.os, h.tape, h.output, h.size, fun k hk _ => h.block k hk⟩
theorem grown_set (w : World) (g i : Nat) (v : Value) : w.grownBy (w.setCell ⟨g, i, none⟩ v) (some g) :=
  ⟨rfl, rfl, rfl, by simp [World.setCell], fun k hk hne => Below.heap_setCell w ⟨g, i, none⟩ v k (fun e => hne (by rw [e]))⟩
end Go.Proofs.YtdlohfglmagneaaDoor

/-! slices.Clone of a row of numbers. -/
namespace Go.Proofs.YtdlohfglmagneaaDoor
open Go Go.RowKit
theorem own_shape {w : World} {b : Nat} {e : TypeId} {s : Nat} {v : Value} {n : Nat} {xs : List Value} (h : w.ownsRow b e s v n xs) : ∃ A c, v = .slice A n c := by
  rcases h.2 with ⟨rfl, rfl⟩ | ⟨g, cap, cur, rfl, _⟩
  · exact ⟨none, 0, rfl⟩
  · exact ⟨_, _, rfl⟩
theorem nil_no (a : Addr) (n c : Nat) (w : World) : (binOp .eql 39 (.slice (some a) n c) (.slice none 0 0)).run Tryd.prog w = .ok (.bool false) w := by kernel_rfl
theorem info3' : (Tryd.prog.info? 3).map (fun i => (i.zero, i.size, i.bytes)) = some (some (.int .i64 0), 1, 8) := by kernel_rfl
set_option maxRecDepth 100000 in
set_option maxHeartbeats 1000000 in
theorem clone_any (a : Addr) (n c : Nat) (xs : List Value) (w : World) (hn : n ≤ 1000) (hlen : xs.length = n * 1) (h1c : ∀ u ∈ xs, u.oneCell' = true) (hcs0 : ∀ j u, xs[j]? = some u → w.cell? (a.add j) = some u) :
    Calls Tryd.prog 56 #[.slice (some a) n c] w fun e w' => (∃ A' c', e = .returned (.slice A' n c') ∧ w'.ownsRow w.heap.size 3 1 (.slice A' n c') n xs) ∧ Below w.heap.size w w' := by
  obtain ⟨i3, hi3, hz3, hs3, iy3⟩ := info_parts info3'
  have hb0 : Below w.heap.size w (w.alloc (.cells #[] 3)) := (Below.refl _ _).alloc (Nat.le_refl _) _
  have how := World.ownsRow_made (w := w) (base := w.heap.size) (e := 3) (size := 1) #[] 0 (Nat.le_refl _) (by unfold maxLen; omega) (by simp)
  have hcs : ∀ j u, xs[j]? = some u → (w.alloc (.cells #[] 3)).cell? (a.add j) = some u := fun j u hu => cellA (hcs0 j u hu)
  have hnil := nil_no a n c
  go_enter Tryd.func56, Tryd.ntmps56
  go_wp2_with (first
    | (at_builtin; refine wpList_append_own _ rfl (.tmp 5) (.tmp 6) 39 rfl w.heap.size 3 i3 _ 1 8 Tryd.underlying39 hi3 hz3 hs3 iy3 rfl (by decide) (.slice (some ⟨w.heap.size, 0, none⟩) 0 0) 0 [] rfl how a n c xs rfl hlen hcs h1c (by unfold maxLen; omega) (by omega) (by simp <;> omega) ?_; intro v' w' o1 o2 o3; obtain ⟨A', C', rfl⟩ := own_shape o1)
    | fail)
  have hB : Below w.heap.size w w' := hb0.grown o2 hb0.size (fun k e => by simp [Value.ownBlock] at e <;> omega)
  go_ret
  exact ⟨⟨_, _, rfl, by simpa using o1⟩, hB⟩
end Go.Proofs.YtdlohfglmagneaaDoor

/-! In a round of a range over a function: a region that draws its order, by the laws of Reg and Rl. -/
namespace Go.Proofs.YtdlohfglmagneaaDoor
open Go Go.RowKit Go.Shelf
section
variable {P : Program} {ops : Array Oper} {Q : Exit → Act → World → Prop} {S : World → Prop} {G : Nat → Bool} {l n : Nat}
def noDefer (ops : Array Oper) : Bool := ops.all fun o => match o.op with | .defer _ => false | _ => true
theorem wpOpIn_of (hQ : ¬ LetsOut Q) (hd : noDefer ops = true) (hrow : ∀ row args w R, Rows P row args w R → RowsIn (Fence.wide.inRound l) (n - 1) P row args w R) {i : Nat} {K : Act → World → Prop} {a : Act} {w : World}
    (h : wpOp P ops Q i K a w) : wpOpIn (Fence.wide.inRound l) n P ops Q i K a w := by
  unfold wpOp at h
  unfold wpOpIn
  cases ho : ops[i]? with
  | none => rw [ho] at h; exact h
  | some o =>
    rw [ho] at h
    simp only at h ⊢
    by_cases hw : Region.wanted o (yielded ops a.tmps) = true
    · rw [if_pos hw] at h ⊢
      rcases h with h | h
      · have hnd : ∀ c, o.op ≠ .defer c := fun c hc => by
          have hm : o ∈ ops := Array.mem_of_getElem? ho
          have := Array.all_eq_true'.1 hd o hm
          rw [hc] at this; cases this
        refine ⟨fun _ _ => trivial, ?_⟩
        rw [show (Fence.wide.inRound l).round = some l from rfl, Oper.semAt_some l a.eval o hnd]
        unfold Oper.wp at h
        generalize (execOp a.eval o).run P w = r at h ⊢
        cases r with
        | ok x w' =>
          cases x <;> simp only [Oper.upon, Oper.uponIn] at h ⊢
          case enter f args => exact ⟨fun hh => by simp [Fence.wide] at hh, CallsIn.inRound l (callsIn_wide.2 h)⟩
          case row row args => exact ⟨fun hh => by simp [Fence.wide] at hh, hrow _ _ _ _ h⟩
          all_goals exact h
        | halt x w' => cases x <;> simp only [Oper.upon, Oper.uponIn] at h ⊢ <;> exact h
      · exact absurd h.2 hQ
    · rw [if_neg hw] at h ⊢
      exact ⟨fun _ _ => trivial, h⟩
theorem wpAnyIn_of (hQ : ¬ LetsOut Q) (hd : noDefer ops = true) (hrow : ∀ row args w R, Rows P row args w R → RowsIn (Fence.wide.inRound l) (n - 1) P row args w R) : ∀ (fuel : Nat) (listed : Array Bool) (a : Act) (w : World),
    wpAny P .any ops Q fuel listed a w → wpAnyIn (Fence.wide.inRound l) n P .any ops Q fuel listed a w
  | 0, _, _, _, h => h
  | fuel + 1, _, _, _, h => ⟨h.1, fun i hi => wpOpIn_of hQ hd hrow (wpOp_mono (fun a' w' h' => wpAnyIn_of hQ hd hrow fuel _ a' w' h') (h.2 i hi))⟩
/-- The marks that ranges over functions have left among the deferred calls: each a block of its own, with no call in it. -/
def Marks (B : Nat) (W : World) (ds : List Deferred) : Prop := ∃ Ds : List Nat, ds = Ds.map (fun D => { target := .collected D, args := #[] }) ∧ Ds.Nodup ∧ ∀ D ∈ Ds, B ≤ D ∧ W.heap[D]? = some (.deferred (some []))
theorem Marks.nil (B : Nat) (W : World) : Marks B W [] := ⟨[], rfl, List.nodup_nil, fun _ h => by cases h⟩
theorem Marks.kept {B : Nat} {W W' : World} {ds : List Deferred} (h : Marks B W ds) (hk : ∀ (k : Nat) (o : Obj), B ≤ k → W.heap[k]? = some o → o.isCells = false → W'.heap[k]? = some o) : Marks B W' ds := by
  obtain ⟨Ds, h1, h2, h3⟩ := h
  exact ⟨Ds, h1, h2, fun D hD => ⟨(h3 D hD).1, hk D _ (h3 D hD).1 (h3 D hD).2 rfl⟩⟩
theorem Marks.call {B : Nat} {W W' : World} {ds : List Deferred} (h : Marks B W ds) (hb : Below W.heap.size W W') : Marks B W' ds :=
  h.kept fun k _ _ ho _ => (hb.block k (Array.getElem?_eq_some_iff.1 ho).1).trans ho
theorem Marks.more {B D : Nat} {W : World} {ds : List Deferred} (h : Marks B W ds) (hB : B ≤ D) (hD : W.heap[D]? = some (.deferred (some []))) (hn : ∀ d ∈ ds, ∀ D', d.target = .collected D' → D' ≠ D) : Marks B W ({ target := .collected D, args := #[] } :: ds) := by
  obtain ⟨Ds, rfl, h2, h3⟩ := h
  refine ⟨D :: Ds, rfl, List.nodup_cons.2 ⟨fun hm => hn _ (List.mem_map_of_mem hm) D rfl rfl, h2⟩, fun D' hD' => ?_⟩
  rcases List.mem_cons.1 hD' with rfl | h
  · exact ⟨hB, hD⟩
  · exact h3 D' h
theorem Marks.lt {B : Nat} {W : World} {ds : List Deferred} (h : Marks B W ds) : ∀ d ∈ ds, ∀ D', d.target = .collected D' → D' < W.heap.size := by
  obtain ⟨Ds, rfl, h2, h3⟩ := h
  intro d hd D' e
  obtain ⟨D, hD, rfl⟩ := List.mem_map.1 hd
  injection e with e
  exact e ▸ (Array.getElem?_eq_some_iff.1 (h3 D hD).2).1
/-- A function leaves through its marks. -/
theorem leavesM_marks {fn : Func} {tmps : Array Value} {R : Ending → World → Prop} {F : Fence} {B : Nat} : ∀ (ds : List Deferred) (W : World), Marks B W ds →
    (∀ W', Below B W W' → (∀ k, (∀ d ∈ ds, d.target ≠ .collected k) → W'.heap[k]? = W.heap[k]?) → W'.heap.size = W.heap.size → ∃ v, (results fn tmps).run P W' = .ok v W' ∧ R (.returned v) W') → LeavesInM F n P fn tmps R ds .returning W := by
  intro ds
  induction ds with
  | nil => intro W _ h; exact h W (Below.refl _ _) (fun _ _ => rfl) rfl
  | cons d ds ih =>
    intro W hM h
    obtain ⟨Ds, e, h2, h3⟩ := hM
    cases Ds with
    | nil => cases e
    | cons D Ds =>
      simp only [List.map_cons, List.cons.injEq] at e
      obtain ⟨rfl, rfl⟩ := e
      rw [List.nodup_cons] at h2
      have hD := h3 D (by simp)
      have hlt := (Array.getElem?_eq_some_iff.1 hD.2).1
      refine ⟨by simp, .inl ⟨D, _, rfl, run_takeDeferred hD.2, ih _ ⟨Ds, rfl, h2.2, fun D' hD' => ⟨(h3 D' (List.mem_cons_of_mem _ hD')).1, ?_⟩⟩ fun W' hb hk hs => ?_⟩⟩
      · rw [World.putObj_heap_other (fun e : D' = D => h2.1 (by rw [← e]; exact hD'))]; exact (h3 D' (List.mem_cons_of_mem _ hD')).2
      · refine h W' (((Below.refl B W).grown (grownBy_putObj' W D (.deferred none)) (by omega) (fun k e => by cases e; exact hD.1)).trans hb) (fun k hk' => ?_) (hs.trans (by simp [World.putObj]))
        rw [hk k (fun d hd => hk' d (List.mem_cons_of_mem _ hd)), World.putObj_heap_other (fun e => hk' _ (List.mem_cons_self ..) (by rw [e]))]
theorem rows_wide {n : Nat} (row : String) (args : Array Value) (w : World) (R : Value → World → Prop) (h : Rows P row args w R) : RowsIn (Fence.wide.inRound l) n P row args w R :=
  fun c cs _ => let ⟨v, w', r, s⟩ := h c cs; ⟨v, w', r, stepsIn_wide.2 s⟩
end
end Go.Proofs.YtdlohfglmagneaaDoor

/-! melt.Cheapest. -/
namespace Go.Proofs.YtdlohfglmagneaaDoor
open Go Go.RowKit Go.Shelf
attribute [local go_sem] Oper.semAt_some
def ivs (n : Nat) (d : Nat → Int) : List Value := (List.range n).map fun i => .int .i64 (d i)
/-- What Cheapest gives for what it has found. -/
def CheapV (o : Od) (bn b : Nat) (V : World) (x c : Value) : Option (Nat → Int) → Prop
  | none => x = .slice none 0 0 ∧ c = .int .i64 0
  | some d => c = .int .i64 (cst o d bn) ∧ ∃ q C, x = .slice (some ⟨q, 0, none⟩) bn C ∧ V.ownsRow b 3 1 (.slice (some ⟨q, 0, none⟩) bn C) bn (ivs bn d)
theorem CheapV.grown {o : Od} {bn b : Nat} {V V' : World} {x c : Value} {r : Option (Nat → Int)} {row : Option Nat} (h : CheapV o bn b V x c r) (hg : V.grownBy V' row) (hr : ∀ k, row = some k → k < b) : CheapV o bn b V' x c r := by
  cases r with
  | none => exact h
  | some d =>
    obtain ⟨h1, q, C, h2, h3⟩ := h
    refine ⟨h1, q, C, h2, h3.kept hg ?_⟩
    cases row with
    | none => right; simp [Value.ownBlock]
    | some k =>
      right
      have := (h3.lt q rfl).1
      have := hr k rfl
      simp [Value.ownBlock]
      omega
theorem own_some {w : World} {b n c : Nat} {t : TypeId} {s : Nat} {A : Option Addr} {xs : List Value} (h : w.ownsRow b t s (.slice A n c) n xs) (hn : 0 < n) : ∃ q, A = some ⟨q, 0, none⟩ := by
  rcases h.2 with ⟨h, h0⟩ | ⟨q, cap, cur, h, _⟩
  · omega
  · simp only [Value.slice.injEq] at h
    exact ⟨q, h.1⟩
theorem ownsRow_up {w : World} {b b' : Nat} {e : TypeId} {size : Nat} {v : Value} {n : Nat} {xs : List Value} (h : w.ownsRow b e size v n xs) (hb : ∀ k, v.ownBlock = some k → b' ≤ k) : w.ownsRow b' e size v n xs := by
  refine ⟨h.1, ?_⟩
  rcases h.2 with h2 | ⟨g, cap, cur, rfl, _, r⟩
  · exact .inl h2
  · exact .inr ⟨g, cap, cur, rfl, hb g (by simp [Value.ownBlock]), r⟩
theorem KeepMid.set_ {lo b : Nat} {W : World} (p : Addr) (hp : p.block < lo) (v : Value) : KeepMid lo b W (W.setCell p v) :=
  ⟨by simp [World.setCell], fun k h1 _ => Below.heap_setCell W p v k (by omega)⟩
end Go.Proofs.YtdlohfglmagneaaDoor

/-! append to a slice of one's own: where the new slice lies. -/
namespace Go.Proofs.YtdlohfglmagneaaDoor
open Go Go.RowKit
section
variable {P : Program}
end
theorem own_bx {w : World} {b : Nat} {e : TypeId} {s : Nat} {v : Value} {n : Nat} {xs : List Value} {q t : Nat} {cs : Array Value} (h : w.ownsRow b e s v n xs) (k : Bx w q t cs) (hne : t ≠ e) : some q ≠ v.ownBlock := by
  intro he
  rcases h.2 with ⟨rfl, _⟩ | ⟨g, cap, cur, rfl, _, hg, _⟩
  · simp [Value.ownBlock] at he
  · simp only [Value.ownBlock, Option.some.injEq] at he
    subst he
    unfold Bx at k
    rw [k] at hg
    injection hg with h1
    injection h1 with _ h2
    exact hne h2
theorem own_bel {w x : World} {b n : Nat} {t : TypeId} {s : Nat} {v : Value} {xs : List Value} (h : w.ownsRow b t s v n xs) (hb : Below w.heap.size w x) : x.ownsRow b t s v n xs :=
  h.kept (grown_below (row := none) hb) (by cases h : v.ownBlock <;> simp)
end Go.Proofs.YtdlohfglmagneaaDoor

/-! melt.claim.prove: the plain proof, where there is one. -/
namespace Go.Proofs.YtdlohfglmagneaaDoor
open Go Go.RowKit
theorem grown_trans {a b c : World} {r s : Option Nat} (h : a.grownBy b r) (k : b.grownBy c s) (hs : s = r ∨ ∀ i, s = some i → a.heap.size ≤ i) : a.grownBy c r :=
  ⟨k.os.trans h.os, k.tape.trans h.tape, k.output.trans h.output, Nat.le_trans h.size k.size, fun i hi hne => (k.block i (by have := h.size; omega) (fun e => by
    rcases hs with rfl | hs
    · exact hne e
    · have := hs i e.symm; omega)).trans (h.block i hi hne)⟩
end Go.Proofs.YtdlohfglmagneaaDoor
