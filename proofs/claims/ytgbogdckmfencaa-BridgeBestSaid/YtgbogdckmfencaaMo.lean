/- Regions that draw their order (what is held need not be shown behind what waits for all that is read); rows of one's own; the copy of a log; what is known better; Feed.Tighter; Ints. -/
import Derived.Test.YtgbogdckmfencaaKp
import Derived.Test.YtgbogdckmfencaaLo
import Derived.Test.YtgbogdckmfencaaAk
import Derived.Test.YtgbogdckmfencaaMa
import Derived.Test.YtgbogdckmfencaaFi
import Derived.Deep.CutBlock
set_option linter.unusedSimpArgs false
set_option linter.unusedVariables false
namespace Go.Proofs.Ytgbogdckmfencaa
open Go Go.RowKit
section
section
variable {P : Program} {ops : Array Oper} {Q : Exit → Act → World → Prop} {md : Region.Mode} {S : World → Prop} {G : Nat → Bool}
/-- j waits for i, perhaps by others. -/
inductive Desc (md : Region.Mode) (ops : Array Oper) (i : Nat) : Nat → Prop
  | base {j : Nat} {o : Oper} (ho : ops[j]? = some o) (h : ∃ e ∈ o.after, Region.binds md e = true ∧ e.on = i) : Desc md ops i j
  | step {j k : Nat} {o : Oper} (ho : ops[j]? = some o) (h : ∃ e ∈ o.after, Region.binds md e = true ∧ e.on = k) (hk : Desc md ops i k) : Desc md ops i j
def descs (md : Region.Mode) (ops : Array Oper) (i : Nat) : List Nat :=
  (List.range ops.size).foldl (fun D j => if ((ops[j]?).map (·.after.any fun e => Region.binds md e && D.contains e.on)).getD false then j :: D else D) [i]
theorem descs_ok {i : Nat} : ∀ k ∈ descs md ops i, k = i ∨ Desc md ops i k := by
  unfold descs
  have key : ∀ (l D : List Nat), (∀ k ∈ D, k = i ∨ Desc md ops i k) → ∀ k ∈ l.foldl (fun D j => if ((ops[j]?).map (·.after.any fun e => Region.binds md e && D.contains e.on)).getD false then j :: D else D) D, k = i ∨ Desc md ops i k := by
    intro l
    induction l with
    | nil => intro D h k hk; exact h k hk
    | cons j l ih =>
      intro D h
      rw [List.foldl_cons]
      refine ih _ fun k hk => ?_
      split at hk
      · rename_i hc
        rcases List.mem_cons.1 hk with rfl | hk
        · cases ho : ops[k]? with
          | none => rw [ho] at hc; simp at hc
          | some o =>
            rw [ho] at hc
            simp only [Option.map_some, Option.getD_some] at hc
            obtain ⟨e, he, hb⟩ := Array.any_eq_true'.1 hc
            simp only [Bool.and_eq_true, List.contains_eq_mem, decide_eq_true_eq] at hb
            rcases h _ hb.2 with h0 | h0
            · exact .inr (.base ho ⟨e, he, hb.1, h0⟩)
            · exact .inr (.step ho ⟨e, he, hb.1, rfl⟩ h0)
        · exact h k hk
      · exact h k hk
  exact key _ _ (by simp)
/-- Whatever has come up, what it waits for has. -/
def Closed (md : Region.Mode) (ops : Array Oper) (listed : Array Bool) : Prop :=
  ∀ k, listed.getD k false = true → ∀ o, ops[k]? = some o → ∀ e ∈ o.after, Region.binds md e = true → listed.getD e.on false = true
def closedB (md : Region.Mode) (ops : Array Oper) (listed : Array Bool) : Bool :=
  (List.range ops.size).all fun k => !listed.getD k false || ((ops[k]?).map (·.after.all fun e => !Region.binds md e || listed.getD e.on false)).getD true
theorem closedB_ok {listed : Array Bool} (h : closedB md ops listed = true) : Closed md ops listed := by
  intro k hk o ho e he hb
  have hlt : k < ops.size := (Array.getElem?_eq_some_iff.1 ho).1
  have h1 := List.all_eq_true.1 h k (List.mem_range.2 hlt)
  rw [hk, ho] at h1
  simp only [Bool.not_true, Bool.false_or, Option.map_some, Option.getD_some] at h1
  have h2 := Array.all_eq_true'.1 h1 e he
  rw [hb] at h2
  simpa using h2
theorem Desc.no {listed : Array Bool} {i j : Nat} (hc : Closed md ops listed) (hi : listed.getD i false = false) (h : Desc md ops i j) : ∀ o, ops[j]? = some o → ¬ ∀ e ∈ o.after, Region.binds md e = true → listed.getD e.on false = true := by
  induction h with
  | base ho h =>
    intro o ho' hall
    rw [ho] at ho'
    cases ho'
    obtain ⟨e, he, hb, rfl⟩ := h
    rw [hall e he hb] at hi
    cases hi
  | step ho h hk ih =>
    intro o ho' hall
    rw [ho] at ho'
    cases ho'
    obtain ⟨e, he, hb, rfl⟩ := h
    have hl := hall e he hb
    cases hk with
    | base ho2 _ => exact ih _ ho2 fun e' he' hb' => hc _ hl _ ho2 e' he' hb'
    | step ho2 _ _ => exact ih _ ho2 fun e' he' hb' => hc _ hl _ ho2 e' he' hb'
theorem getD_set_mono {listed : Array Bool} {j k : Nat} (h : listed.getD k false = true) : (listed.setIfInBounds j true).getD k false = true := by
  by_cases hjk : j = k
  · subst hjk
    rcases Nat.lt_or_ge j listed.size with h' | h'
    · simp [Array.getD_eq_getD_getElem?, h']
    · simp [Array.getD_eq_getD_getElem?, Array.getElem?_eq_none h'] at h
  · rw [getD_set_ne false hjk]; exact h
theorem Closed.step {listed : Array Bool} (hc : Closed md ops listed) {j : Nat} (hj : j ∈ Region.ready md ops listed) : Closed md ops (listed.setIfInBounds j true) := by
  obtain ⟨_, oj, hoj, hall⟩ := mem_ready.1 hj
  intro k hk o ho e he hb
  by_cases hjk : j = k
  · subst hjk
    rw [hoj] at ho
    cases ho
    exact getD_set_mono (hall e he hb)
  · rw [getD_set_ne false hjk] at hk
    exact getD_set_mono (hc k hk o ho e he hb)
/-- Every operation that is still to come and that G doesn't name waits for number i. -/
def waitsC (md : Region.Mode) (ops : Array Oper) (G : Nat → Bool) (listed : Array Bool) (i : Nat) : Bool :=
  (List.range ops.size).all fun j => listed.getD j true || G j || j == i || (descs md ops i).contains j
theorem waitsC_ok {i : Nat} {listed : Array Bool} (h : waitsC md ops G listed i = true) : ∀ j, j < ops.size → listed.getD j true = false → j ≠ i → G j = true ∨ Desc md ops i j := by
  intro j hlt hun hne
  have h1 := List.all_eq_true.1 h j (List.mem_range.2 hlt)
  rw [hun] at h1
  simp only [Bool.false_or, Bool.or_eq_true, beq_iff_eq, hne, or_false, List.contains_eq_mem, decide_eq_true_eq] at h1
  rcases h1 with h1 | h1
  · exact .inl h1
  · rcases descs_ok _ h1 with h2 | h2
    · exact absurd h2 hne
    · exact .inr h2
theorem AnyG.firstC {i : Nat} {oi : Oper} {v : Value} (hi : ops[i]? = some oi) (hsel : Region.noSelect ops = true) 
    (hQ : ∀ c a w, Q (.panic c) (a.put oi.dst v) w → Q (.panic c) a w) :
    ∀ (fuel : Nat) (listed : Array Bool) (a : Act) (w : World), Closed md ops listed → (∀ j, j < ops.size → listed.getD j true = false → j ≠ i → G j = true ∨ Desc md ops i j) →
      (∀ j oj, ops[j]? = some oj → j ≠ i → listed.getD j true = false → (∀ e ∈ oj.after, Region.binds md e = true → e.on ≠ i) → oi.apart ops oj = true) →
      i ∈ Region.ready md ops listed → YieldsIf P ops S oi v a → S w →
      AnyG P md ops Q S G fuel (listed.setIfInBounds i true) (a.put oi.dst v) w → AnyG P md ops Q S G (fuel + 1) listed a w := by
  intro fuel
  induction fuel with
  | zero =>
    intro listed a w _ _ _ hr hy hS H
    refine ⟨fun h => (by rw [h] at hr; cases hr), fun j hj => ?_⟩
    rcases Nat.decEq j i with hji | hji
    · have hl := ready_mono hj hji
      rw [H.1] at hl
      cases hl
    · subst hji
      exact hy.wpOp hi hS ⟨fun _ => hS, H⟩
  | succ fuel ih =>
    intro listed a w hc hw hfree hr hy hS H
    refine ⟨fun h => (by rw [h] at hr; cases hr), fun j hj => ?_⟩
    rcases Nat.decEq j i with hji | hji
    · obtain ⟨hjun, oj, hoj, hall⟩ := mem_ready.1 hj
      have hiun : listed.getD i false = false := by
        have h0 := (mem_ready.1 hr).1
        rcases Nat.lt_or_ge i listed.size with h' | h'
        · simp [h'] at h0 ⊢; exact h0
        · simp [Array.getElem?_eq_none h']
      have hjun' : listed.getD j true = false := hjun
      have hG : G j = true := (hw j (Array.getElem?_eq_some_iff.1 hoj).1 hjun' hji).resolve_right fun hd => hd.no hc hiun _ hoj hall
      have hnot : ∀ e ∈ oj.after, Region.binds md e = true → e.on ≠ i := fun e he hb heq => by
        have h2 := hall e he hb
        rw [heq, hiun] at h2
        cases h2
      have h2 := wpOp_putIf hoj (hfree j oj hoj hji hjun hnot) (fun cs b => Region.noSelect_spec hsel i oi cs b hi) (fun cs b => Region.noSelect_spec hsel j oj cs b hoj) hQ hy (H.2 j (ready_mono hj hji))
      refine wpOp_mono (fun a' w' h3 => ⟨h3.2.1, ih (listed.setIfInBounds j true) a' w' (hc.step hj) ?_ ?_ (ready_mono hr (Ne.symm hji)) h3.1 (h3.2.1 hG) ?_⟩) h2
      · intro k hk hun hki
        refine hw k hk ?_ hki
        rcases Nat.decEq j k with hjk | hjk
        · rw [getD_set_ne true hjk] at hun; exact hun
        · subst hjk; exact hjun
      · intro k ok hk hki hun hno
        refine hfree k ok hk hki ?_ hno
        rcases Nat.decEq j k with hjk | hjk
        · rw [getD_set_ne true hjk] at hun; exact hun
        · subst hjk; exact hjun
      · rw [Array.setIfInBounds_comm _ _ hji]
        exact h3.2.2
    · subst hji
      exact hy.wpOp hi hS ⟨fun _ => hS, H⟩
/-- Number i is taken first. -/
theorem AnyG.takeC {i : Nat} {oi : Oper} {v : Value} {fuel : Nat} {listed : Array Bool} {a : Act} {w : World} (hi : ops[i]? = some oi)
    (hs : (Region.noSelect ops && waitsC md ops G listed i && closedB md ops listed && Region.free md ops listed i && (Region.ready md ops listed).contains i) = true)
    (hQ : ∀ c a w, Q (.panic c) (a.put oi.dst v) w → Q (.panic c) a w) (hg : oi.guard = none) (hy : ∀ w, S w → (execOp a.eval oi).run P w = .ok (.value v) w) (hS : S w)
    (h : AnyG P md ops Q S G fuel (listed.setIfInBounds i true) (a.put oi.dst v) w) : AnyG P md ops Q S G (fuel + 1) listed a w := by
  simp only [Bool.and_eq_true] at hs
  obtain ⟨⟨⟨⟨h1, h2⟩, h5⟩, h3⟩, h4⟩ := hs
  exact AnyG.firstC hi h1 hQ fuel listed a w (closedB_ok h5) (waitsC_ok h2) (Region.free_spec hi h3) (by simpa using h4) (.inl ⟨by simp [Region.wanted, hg], hy⟩) hS h
theorem AnyG.takeGC {i : Nat} {oi : Oper} {v : Value} {fuel : Nat} {listed : Array Bool} {a : Act} {w : World} (hi : ops[i]? = some oi)
    (hs : (Region.noSelect ops && waitsC md ops G listed i && closedB md ops listed && Region.free md ops listed i && (Region.ready md ops listed).contains i) = true)
    (hQ : ∀ c a w, Q (.panic c) (a.put oi.dst v) w → Q (.panic c) a w) (hg : Region.wanted oi (yielded ops a.tmps) = true) (hy : ∀ w, S w → (execOp a.eval oi).run P w = .ok (.value v) w) (hS : S w)
    (h : AnyG P md ops Q S G fuel (listed.setIfInBounds i true) (a.put oi.dst v) w) : AnyG P md ops Q S G (fuel + 1) listed a w := by
  simp only [Bool.and_eq_true] at hs
  obtain ⟨⟨⟨⟨h1, h2⟩, h5⟩, h3⟩, h4⟩ := hs
  exact AnyG.firstC hi h1 hQ fuel listed a w (closedB_ok h5) (waitsC_ok h2) (Region.free_spec hi h3) (by simpa using h4) (.inl ⟨hg, hy⟩) hS h
theorem AnyG.takeNC {i : Nat} {oi : Oper} {fuel : Nat} {listed : Array Bool} {a : Act} {w : World} (hi : ops[i]? = some oi)
    (hs : (Region.noSelect ops && waitsC md ops G listed i && closedB md ops listed && Region.free md ops listed i && (Region.ready md ops listed).contains i) = true)
    (hQ : ∀ c a w, Q (.panic c) (a.put oi.dst undef) w → Q (.panic c) a w) (hg : Region.wanted oi (yielded ops a.tmps) = false) (hS : S w)
    (h : AnyG P md ops Q S G fuel (listed.setIfInBounds i true) (a.put oi.dst undef) w) : AnyG P md ops Q S G (fuel + 1) listed a w := by
  simp only [Bool.and_eq_true] at hs
  obtain ⟨⟨⟨⟨h1, h2⟩, h5⟩, h3⟩, h4⟩ := hs
  exact AnyG.firstC hi h1 hQ fuel listed a w (closedB_ok h5) (waitsC_ok h2) (Region.free_spec hi h3) (by simpa using h4) (.inr ⟨hg, rfl⟩) hS h
/-- The beginning: what needs no world may be taken before. -/
theorem AnyG.startC {id : Nat} {a : Act} {w : World} (hm : P.follows .mixedOrders = true) (h : wpAny P .any ops Q ops.size (Array.replicate ops.size false) a w.drew) : (Code.region id ops true).wp P Q a w := wp_region_any hm h
theorem AnyG.takeP {i : Nat} {oi : Oper} {v : Value} {fuel : Nat} {listed : Array Bool} {a : Act} {w : World} (hi : ops[i]? = some oi)
    (hs : (Region.noSelect ops && Region.free md ops listed i && (Region.ready md ops listed).contains i) = true)
    (hQ : ∀ c a w, Q (.panic c) (a.put oi.dst v) w → Q (.panic c) a w) (hg : oi.guard = none) (hy : ∀ w, (execOp a.eval oi).run P w = .ok (.value v) w)
    (h : wpAny P md ops Q fuel (listed.setIfInBounds i true) (a.put oi.dst v) w) : wpAny P md ops Q (fuel + 1) listed a w := by
  simp only [Bool.and_eq_true] at hs
  obtain ⟨⟨h1, h3⟩, h4⟩ := hs
  exact wpAny_first hi (Region.noSelect_spec h1) hQ fuel listed a w (Region.free_spec hi h3) (by simpa using h4) (.inl ⟨by simp [Region.wanted, hg], hy⟩) h
theorem AnyG.enter {fuel : Nat} {listed : Array Bool} {a : Act} {w : World} (S : World → Prop) (G : Nat → Bool) (h : AnyG P md ops Q S G fuel listed a w) : wpAny P md ops Q fuel listed a w := AnyG.any _ _ _ _ h
/-- The one operation that may come up is carried out (its guard lets it). -/
theorem AnyG.oneC {i : Nat} {o : Oper} {fuel : Nat} {listed : Array Bool} {a : Act} {w : World} (hr : Region.ready md ops listed = [i]) (ho : ops[i]? = some o) (hg : Region.wanted o (yielded ops a.tmps) = true)
    (h : o.wp P a w (Onward P md ops Q S G fuel i listed) Q) : AnyG P md ops Q S G (fuel + 1) listed a w := by
  refine ⟨fun h0 => absurd (hr.symm.trans h0) (by simp), fun j hj => ?_⟩
  rw [hr] at hj
  obtain rfl : j = i := by simpa using hj
  unfold wpOp
  rw [ho]
  show if Region.wanted o (yielded ops a.tmps) = true then _ else _
  rw [if_pos hg]
  exact .inl h
end
end
/-- The events of a row of one's own, cell by cell. -/
theorem own_at {w : World} {b q n c : Nat} {es : List Ev} (h : w.ownsRow b 28 5 (.slice (some ⟨q, 0, none⟩) n c) n (es.map Ev.cells).flatten) (hl : es.length = n) {r : Nat} {e : Ev} (he : es[r]? = some e) :
    w.cell? ⟨q, r * 5, none⟩ = some (.int .i64 e.kd) ∧ w.cell? ⟨q, r * 5 + 1, none⟩ = some (.int .i64 e.sh) ∧ w.cell? ⟨q, r * 5 + 2, none⟩ = some (.int .i64 e.ld) ∧ w.cell? ⟨q, r * 5 + 3, none⟩ = some (.int .i64 e.c0) ∧ w.cell? ⟨q, r * 5 + 4, none⟩ = some (.int .i64 e.c1) := by
  have hr : r < es.length := (List.getElem?_eq_some_iff.1 he).1
  obtain ⟨ad, h1, _, p0, p1, p2, p3, p4⟩ := (own_evs2 h hl).at_ hr
  simp only [Option.some.injEq] at h1
  subst h1
  have hq : (⟨q, 0, none⟩ : Addr).add (r * 5) = ⟨q, r * 5, none⟩ := addr_q q _
  rw [hq] at p0 p1 p2 p3 p4
  rw [List.getElem?_eq_getElem hr] at he
  rw [Option.some.inj he] at p0 p1 p2 p3 p4
  exact ⟨p0, p1, p2, p3, p4⟩
theorem own_free {w : World} {b q n c : Nat} {t : TypeId} {s : Nat} {xs : List Value} (h : w.ownsRow b t s (.slice (some ⟨q, 0, none⟩) n c) n xs) : ∀ o, w.frozen? ⟨q, o, none⟩ = false := by
  rcases h.2 with ⟨h, _⟩ | ⟨q', cap, cur, h, _, hg, _⟩
  · simp at h
  · simp only [Value.slice.injEq, Option.some.injEq, Addr.mk.injEq, and_true, true_and] at h
    obtain ⟨rfl, rfl⟩ := h
    exact Bx.free (show Bx w q t cur from hg)
theorem own_some {w : World} {b n c : Nat} {t : TypeId} {s : Nat} {A : Option Addr} {xs : List Value} (h : w.ownsRow b t s (.slice A n c) n xs) (hn : 0 < n) : ∃ q, A = some ⟨q, 0, none⟩ := by
  rcases h.2 with ⟨h, h0⟩ | ⟨q, cap, cur, h, _⟩
  · omega
  · simp only [Value.slice.injEq] at h
    exact ⟨q, h.1⟩
theorem own_bel {w x : World} {b n : Nat} {t : TypeId} {s : Nat} {v : Value} {xs : List Value} (h : w.ownsRow b t s v n xs) (hb : Below w.heap.size w x) : x.ownsRow b t s v n xs :=
  h.kept (grown_below (row := none) hb) (by cases h : v.ownBlock <;> simp)
/-- A log of one's own in a box, beside a feed. -/
structure RI (g : Nat) (w : World) (st z0 z1 : Int) (bL : Nat) (A : Option Addr) (C k : Nat) (es : List Ev) (wr : World) : Prop where
  len : es.length = k
  kL : Bx wr bL 26 #[.int .i64 st, .int .i64 z0, .int .i64 z1, .slice A k C]
  own : wr.ownsRow w.heap.size 28 5 (.slice A k C) k (es.map Ev.cells).flatten
  fd : Fd g wr
  hb : Below w.heap.size w wr
section
variable {g : Nat} {w : World} {st z0 z1 : Int} {bL : Nat} {A : Option Addr} {C k : Nat} {es : List Ev} {wr x : World}
theorem RI.bel (I : RI g w st z0 z1 bL A C k es wr) (h : Below wr.heap.size wr x) : RI g w st z0 z1 bL A C k es x :=
  ⟨I.len, I.kL.call h, own_bel I.own h, by obtain ⟨y, h1, h2, h3⟩ := I.fd; exact ⟨y, h1, h2, h3.call h⟩, I.hb.trans (h.mono I.hb.size)⟩
theorem RI.evs (I : RI g w st z0 z1 bL A C k es wr) : EvsAt wr wr.heap.size A es := own_evs2 I.own I.len
/-- What is shown at an event is stored anew. -/
theorem RI.put {q : Nat} (I : RI g w st z0 z1 bL (some ⟨q, 0, none⟩) C k es wr) {r : Nat} {e : Ev} (he : es[r]? = some e) (s : Int) : RI g w st z0 z1 bL (some ⟨q, 0, none⟩) C k (es.set r { e with sh := s }) (wr.setCell ⟨q, r * 5 + 1, none⟩ (.int .i64 s)) := by
  have hr : r < es.length := (List.getElem?_eq_some_iff.1 he).1
  have hr' : r < k := by rw [← I.len]; exact hr
  refine ⟨by rw [List.length_set]; exact I.len, I.kL.far (by simp; exact fun h => own_bx I.own I.kL (by decide) (by rw [h]; rfl)) _, ?_, ?_, I.hb.setCell (I.own.lt q rfl).1 _⟩
  · rw [← evs_set_sh _ _ _ he]
    exact own_store I.own (r * 5 + 1) _ (by omega)
  · obtain ⟨y, y1, y2, y3⟩ := I.fd
    exact ⟨y, y1, y2, y3.far (by simp; exact fun h => own_bx I.own y3 (by decide) (by rw [h]; rfl)) _⟩
theorem RI.drew (I : RI g w st z0 z1 bL A C k es wr) : RI g w st z0 z1 bL A C k es wr.drew := I.bel (Below.refl _ _).drew
end
theorem flat_ev {s : Nat} : ∀ (xs : List (List Value)), (∀ r ∈ xs, r.length = s) → ∀ (j : Nat) (u : Value), xs.flatten[j]? = some u → ∃ (k r : Nat) (row : List Value), xs[k]? = some row ∧ row[r]? = some u ∧ j = k * s + r := by
  intro xs
  induction xs with
  | nil => intro _ j u h; simp at h
  | cons x xs ih =>
    intro hs j u h
    have hx := hs x (by simp)
    rw [List.flatten_cons] at h
    by_cases hj : j < x.length
    · rw [List.getElem?_append_left hj] at h
      exact ⟨0, j, x, rfl, h, by omega⟩
    · rw [List.getElem?_append_right (by omega)] at h
      obtain ⟨k, r, row, h1, h2, h3⟩ := ih (fun r hr => hs r (by simp [hr])) _ _ h
      refine ⟨k + 1, r, row, by simpa using h1, h2, ?_⟩
      rw [Nat.succ_mul]
      omega
theorem evs_cells {w : World} {B : Nat} {ad : Addr} {es : List Ev} (h : EvsAt w B (some ad) es) : ∀ j u, ((es.map Ev.cells).flatten)[j]? = some u → w.cell? (ad.add j) = some u := by
  intro j u hu
  obtain ⟨k, r, row, h1, h2, rfl⟩ := flat_ev _ (evs_len es) _ _ hu
  obtain ⟨ad', e1, _, h3⟩ := h k row h1
  simp only [Option.some.injEq] at e1
  subst e1
  have := h3 r u h2
  rwa [add_add] at this
set_option maxRecDepth 100000 in
set_option maxHeartbeats 4000000 in
theorem copyLog_any (st z0 z1 : Int) (A : Option Addr) (n c : Nat) (es : List Ev) (w : World) (hn : n ≤ 14) (hl : es.length = n) (hA : EvsAt w w.heap.size A es) :
    Calls Try.prog 17 #[.agg #[.int .i64 st, .int .i64 z0, .int .i64 z1, .slice A n c]] w fun e w' => (∃ A' c', e = .returned (.agg #[.int .i64 st, .int .i64 z0, .int .i64 z1, .slice A' n c']) ∧ w'.ownsRow w.heap.size 28 5 (.slice A' n c') n (es.map Ev.cells).flatten) ∧ Below w.heap.size w w' := by
  have HL := Lib.hid hl
  clear hl
  obtain ⟨i3, hi3, hz3, hs3, iy3⟩ := info_parts info28
  have hb0 : Below w.heap.size w (((w.alloc (.cells #[.int .i64 st, .int .i64 z0, .int .i64 z1, .slice A n c] 26)).alloc (.cells #[.int .i64 0, .int .i64 0, .int .i64 0, .slice none 0 0] 26)).alloc (.cells #[] 28)) := (((Below.refl _ _).alloc (Nat.le_refl _) _).alloc (by simp) _).alloc (by simp; omega) _
  have k1 := ((Bx.new w 26 #[.int .i64 st, .int .i64 z0, .int .i64 z1, .slice A n c]).alloc (.cells #[.int .i64 0, .int .i64 0, .int .i64 0, .slice none 0 0] 26)).alloc (.cells #[] 28)
  have k2 := (Bx.at (w.alloc (.cells #[.int .i64 st, .int .i64 z0, .int .i64 z1, .slice A n c] 26)) 26 #[.int .i64 0, .int .i64 0, .int .i64 0, .slice none 0 0] (n := w.heap.size + 1) (by simp)).alloc (.cells #[] 28)
  have how0 := World.ownsRow_made (w := (w.alloc (.cells #[.int .i64 st, .int .i64 z0, .int .i64 z1, .slice A n c] 26)).alloc (.cells #[.int .i64 0, .int .i64 0, .int .i64 0, .slice none 0 0] 26)) (base := w.heap.size) (e := 28) (size := 5) #[] 0 (by simp; omega) (by unfold maxLen; omega) (by simp)
  have hsz2 : ((w.alloc (.cells #[.int .i64 st, .int .i64 z0, .int .i64 z1, .slice A n c] 26)).alloc (.cells #[.int .i64 0, .int .i64 0, .int .i64 0, .slice none 0 0] 26)).heap.size = w.heap.size + 1 + 1 := by simp
  have how : (((w.alloc (.cells #[.int .i64 st, .int .i64 z0, .int .i64 z1, .slice A n c] 26)).alloc (.cells #[.int .i64 0, .int .i64 0, .int .i64 0, .slice none 0 0] 26)).alloc (.cells #[] 28)).ownsRow w.heap.size 28 5 (.slice (some ⟨w.heap.size + 1 + 1, 0, none⟩) 0 0) 0 [] := hsz2 ▸ how0
  clear how0 hsz2
  have hE := hA.below hb0
  cases A with
  | none =>
    have hn0 : n = 0 := by
      rcases Nat.eq_zero_or_pos n with h | h
      · exact h
      · obtain ⟨ad, h1, _⟩ := hA.at_ (k := 0) (by rw [HL.out]; exact h)
        cases h1
    subst hn0
    go_enter Try.func17, Try.ntmps17
    go_wp2_with fail
    obtain rfl : es = [] := List.eq_nil_of_length_eq_zero HL.out
    refine bodyPost_ret (v := .agg #[.int .i64 st, .int .i64 z0, .int .i64 z1, .slice (some ⟨w.heap.size + 1 + 1, 0, none⟩) 0 0]) (by simp [results, Try.results17, go_sem]) rfl ⟨⟨_, _, rfl, by simp, .inr ⟨w.heap.size + 1 + 1, 0, #[], rfl, by omega, Bx.at _ 28 #[] (by simp), by omega, by unfold maxLen; omega, by simp, by simp⟩⟩, ?_⟩
    exact (((Below.refl _ _).alloc (Nat.le_refl _) _).alloc (by simp) _).alloc (by simp; omega) _
  | some a =>
    have hcs := evs_cells hE
    have h1c : ∀ u ∈ (es.map Ev.cells).flatten, u.oneCell' = true := by
      intro u hu
      obtain ⟨r, hr, hur⟩ := List.mem_flatten.1 hu
      obtain ⟨e, _, rfl⟩ := List.mem_map.1 hr
      simp [Ev.cells] at hur
      rcases hur with rfl | rfl | rfl | rfl | rfl <;> simp [Value.oneCell']
    have hlen : (es.map Ev.cells).flatten.length = n * 5 := by rw [evs_flat, HL.out]
    obtain ⟨xs, hxs⟩ : ∃ xs, (es.map Ev.cells).flatten = xs := ⟨_, rfl⟩
    rw [hxs] at hcs h1c hlen ⊢
    go_enter Try.func17, Try.ntmps17
    go_wp2_with (first
      | (at_builtin; refine wpList_append_own _ rfl (.tmp 3) (.tmp 5) 24 rfl w.heap.size 28 i3 _ 5 40 Try.underlying24 hi3 hz3 hs3 iy3 rfl (by decide) (.slice (some ⟨w.heap.size + 1 + 1, 0, none⟩) 0 0) 0 [] rfl how a n c xs rfl hlen hcs h1c (by unfold maxLen; omega) (by omega) (by simp <;> omega) ?_; intro v' w' o1 o2 o3; obtain ⟨A', C', rfl⟩ := own_shape o1; have k1b := k1.grown o2 (by simp [Value.ownBlock] <;> omega); have k2b := k2.grown o2 (by simp [Value.ownBlock] <;> omega); obtain ⟨a0, a1, a2, a3, af, az⟩ := k1b.four; obtain ⟨r0, r1, r2, r3, rf, rz⟩ := k2b.four)
      | fail)
    have o1' : w'.ownsRow w.heap.size 28 5 (.slice A' n C') n xs := by simpa using o1
    have q1 := own_bx o1' k1b (by decide)
    have q2 := own_bx o1' k2b (by decide)
    have hB : Below w.heap.size w w' := hb0.grown o2 hb0.size (fun k e => by simp [Value.ownBlock] at e <;> omega)
    refine bodyPost_ret (v := .agg #[.int .i64 st, .int .i64 z0, .int .i64 z1, .slice A' n C']) (by simp [results, Try.results17, go_sem, r0, r1, r2, r3, World.cell?_setCell_same', World.cell?_setCell_other]) rfl ⟨⟨_, _, rfl, ?_⟩, ?_⟩
    · exact ((((o1'.kept (grown_set _ _ _ _) (.inr (Ne.symm q1))).kept (grown_set _ _ _ _) (.inr (Ne.symm q2))).kept (grown_set _ _ _ _) (.inr (Ne.symm q2))).kept (grown_set _ _ _ _) (.inr (Ne.symm q2))).kept (grown_set _ _ _ _) (.inr (Ne.symm q2))
    · repeat (first | exact hB | refine Below.setCell ?_ (by simp) _)
theorem zrows_at {w : World} {B : Nat} {A : Option Addr} {f : Nat → Int × Int} {n i : Nat} (h : Sl w B 2 A (zrows f n)) (hi : i < n) : ∃ ad, A = some ad ∧ ad.block < B ∧ w.cell? (ad.add (i * 2)) = some (.int .i64 (f i).1) ∧ w.cell? ⟨(ad.add (i * 2)).block, (ad.add (i * 2)).off + 1, none⟩ = some (.int .i64 (f i).2) := by
  obtain ⟨ad, h1, h2, h3⟩ := h.at_ (k := i) (by simp [zrows]; exact hi)
  simp only [zrows, List.getElem_map, List.getElem_range] at h3
  exact ⟨ad, h1, h2, h3.head rfl, h3.next 0 rfl⟩
theorem own_fd {g : Nat} {V w' : World} {b n : Nat} {t : TypeId} {s : Nat} {v : Value} {xs : List Value} (o : V.ownsRow b t s v n xs) (hf : Fd g V) (hgr : V.grownBy w' (some g)) (hne : (88 : Nat) ≠ t) : w'.ownsRow b t s v n xs :=
  o.kept hgr (.inr fun hk => by obtain ⟨y, _, _, hy⟩ := hf; exact own_bx o hy hne hk.symm)
theorem Fd.below {g : Nat} {w w' : World} (h : Fd g w) (hb : Below w.heap.size w w') : Fd g w' := by obtain ⟨y, h1, h2, h3⟩ := h; exact ⟨y, h1, h2, h3.call hb⟩
/-- The same events, with narrower changes. -/
structure Thin (es es' : List Ev) : Prop where
  len : es'.length = es.length
  ev : ∀ (i : Nat) (e : Ev), es[i]? = some e → ∃ e' : Ev, es'[i]? = some e' ∧ e'.kd = e.kd ∧ e'.sh = e.sh ∧ e'.ld = e.ld ∧ e.c0 ≤ e'.c0 ∧ e'.c0 ≤ e'.c1 ∧ e'.c1 ≤ e.c1
theorem Thin.refl {es : List Ev} (h : ∀ e ∈ es, e.c0 ≤ e.c1) : Thin es es := ⟨rfl, fun i e he => ⟨e, he, rfl, rfl, rfl, Int.le_refl _, h e (List.mem_of_getElem? he), Int.le_refl _⟩⟩
theorem Thin.set {es es' : List Ev} (h : Thin es es') {i : Nat} {e e' : Ev} (he : es[i]? = some e) (he' : es'[i]? = some e') {a b : Int} (h1 : e.c0 ≤ a) (h2 : a ≤ b) (h3 : b ≤ e.c1) : Thin es (es'.set i { e' with c0 := a, c1 := b }) := by
  refine ⟨by rw [List.length_set]; exact h.len, fun j f hf => ?_⟩
  have hlt : i < es'.length := (List.getElem?_eq_some_iff.1 he').1
  by_cases hij : i = j
  · subst hij
    rw [he] at hf
    cases hf
    obtain ⟨x, hx, k1, k2, k3, _, _, _⟩ := h.ev i e he
    rw [he'] at hx
    cases hx
    exact ⟨{ e' with c0 := a, c1 := b }, by rw [List.getElem?_set_self hlt], k1, k2, k3, h1, h2, h3⟩
  · obtain ⟨x, hx, k⟩ := h.ev j f hf
    exact ⟨x, by rw [List.getElem?_set_ne hij]; exact hx, k⟩
theorem Thin.narrow {es es' : List Ev} (h : Thin es es') : Narrow es es' := ⟨by rw [h.len]; exact Nat.le_refl _, fun i e he => by
  obtain ⟨x, hx, k1, k2, k3, k4, _, k6⟩ := h.ev i e he
  exact ⟨x, hx, k1, k2, k3, k4, k6⟩⟩
theorem ckE_thin {st : Int} {e e' : Ev} (h : ckE st e = 0) (h1 : e'.kd = e.kd) (h2 : e'.sh = e.sh) (h3 : e'.ld = e.ld) (h4 : e.c0 ≤ e'.c0) (h5 : e'.c0 ≤ e'.c1) (h6 : e'.c1 ≤ e.c1) : ckE st e' = 0 := by
  have ho := ckE_zero h
  have g1 := ho.c1
  have g2 := ho.c3
  unfold ckE at h ⊢
  rw [h1, h2, h3]
  split at h
  · cases h
  · rename_i q1
    rw [if_neg q1]
    split at h
    · cases h
    · rename_i q2
      rw [if_neg q2]
      split at h
      · cases h
      · rename_i q3
        rw [if_neg q3]
        split at h
        · cases h
        · rename_i q4
          rw [if_neg q4]
          split at h
          · cases h
          · rename_i q5
            rw [if_neg q5]
            exact ckR_ok (by omega) h5 (by omega)
theorem Thin.ck {st z0 z1 y0 y1 : Int} {es es' : List Ev} (h : Thin es es') (hck : ckL st z0 z1 es = 0) (h0 : z0 ≤ y0) (h01 : y0 ≤ y1) (h1 : y1 ≤ z1) : ckL st y0 y1 es' = 0 := by
  rw [ckL_iff] at hck ⊢
  obtain ⟨a, b, c, d, e⟩ := hck
  obtain ⟨c1, c2, c3⟩ := ckR_zero c
  refine ⟨a, b, ckR_ok (by omega) h01 (by omega), by rw [h.len]; exact d, fun x hx => ?_⟩
  obtain ⟨i, hi⟩ := List.mem_iff_getElem?.1 hx
  have hlt : i < es.length := by rw [← h.len]; exact (List.getElem?_eq_some_iff.1 hi).1
  obtain ⟨y, hy, k1, k2, k3, k4, k5, k6⟩ := h.ev i _ (List.getElem?_eq_getElem hlt)
  rw [hi] at hy
  cases hy
  exact ckE_thin (e _ (List.getElem_mem hlt)) k1 k2 k3 k4 k5 k6
theorem narrow_snoc (es : List Ev) (e : Ev) : Narrow es (es ++ [e]) := ⟨by simp, fun i x hx => ⟨x, by rw [List.getElem?_append_left (List.getElem?_eq_some_iff.1 hx).1]; exact hx, rfl, rfl, rfl, Int.le_refl _, Int.le_refl _⟩⟩
theorem ck_snoc {st z0 z1 : Int} {es : List Ev} (hck : ckL st z0 z1 es = 0) (hs : st ≤ 100) (hn : es.length ≤ 13) {q c0 c1 : Int} (h1 : -2 ≤ q) (h2 : q ≤ 2) (h3 : -3 ≤ c0) (h4 : c0 ≤ c1) (h5 : c1 ≤ 3) : ckL st z0 z1 (es ++ [⟨1, q * st, 0, c0, c1⟩]) = 0 := by
  have hl := ckL_zero hck
  have s1 := hl.s1
  rw [ckL_iff] at hck ⊢
  obtain ⟨a, b, c, d, e⟩ := hck
  refine ⟨a, b, c, by simp; omega, fun x hx => ?_⟩
  rcases List.mem_append.1 hx with hx | hx
  · exact e x hx
  · rw [List.mem_singleton] at hx
    subst hx
    have q1 : -200 ≤ q * st ∧ q * st ≤ 200 := by
      have : q = -2 ∨ q = -1 ∨ q = 0 ∨ q = 1 ∨ q = 2 := by omega
      rcases this with r | r | r | r | r <;> rw [r] <;> omega
    unfold ckE
    dsimp only
    rw [if_neg (by omega), if_neg (by omega), if_neg (by rw [Int.mul_tmod_left]; simp), if_neg (by omega), if_neg (by simp)]
    exact ckR_ok (by omega) h4 (by omega)
/-- A log that is a log of another one of which more is known. -/
structure Known (st z0 z1 : Int) (es : List Ev) (y0 y1 : Int) (es' : List Ev) : Prop where
  nar : Narrow es es'
  lo : z0 ≤ y0
  hi : y1 ≤ z1
  ck : ckL st y0 y1 es' = 0
  len : es'.length = es.length ∨ es'.length = es.length + 1
theorem more_nets (st z0 z1 y0 y1 : Int) (EA : Option Addr) (k EC : Nat) (MA : Option Addr) (m MC : Nat) (es es' : List Ev) (FA : Option Addr) (fn fc : Nat) (BA : Option Addr) (bn bc : Nat) (fs bs d0 d1 : Int) (F B l : List Int) (jj : Nat) (Y : World) (hkn : Known st z0 z1 es y0 y1 es') (hel : es.length = k) (hi : k ≤ 14) (hml : es'.length = m) (hck : ckL st z0 z1 es = 0) (hfit : Fits st z0 z1 es k) (hfit2 : Fits st y0 y1 es' m)
    (hat : AtOk es es.length l) (hsp : SpOk l 3 jj F B) (hfn : F.length = fn) (hbn : B.length = bn) (h1 : 0 < fn) (h2 : 0 < bn) (hfs : 0 ≤ fs ∧ fs ≤ 2) (hbs : 0 ≤ bs ∧ bs ≤ 2) (h3 : 0 ≤ d0) (h4 : d0 ≤ d1) (h5 : d1 ≤ 200) (hE : EvsAt Y Y.heap.size EA es) (hM : EvsAt Y Y.heap.size MA es') (hF : Sl Y Y.heap.size 1 FA (ints F)) (hB : Sl Y Y.heap.size 1 BA (ints B)) :
    ∃ N1 N2 M1 M2 : Int, (∀ (W : World), Below Y.heap.size Y W → Calls Try.prog 29 #[.agg #[.int .i64 st, .int .i64 z0, .int .i64 z1, .slice EA k EC], .agg #[.slice FA fn fc, .slice BA bn bc, .int .i64 fs, .int .i64 bs, .int .i64 d0, .int .i64 d1]] W fun e w' => e = .returned (.tuple #[.agg #[.int .i64 N1, .int .i64 N2], .int .i64 0]) ∧ Below W.heap.size W w') ∧
      (∀ (W : World), Below Y.heap.size Y W → Calls Try.prog 29 #[.agg #[.int .i64 st, .int .i64 y0, .int .i64 y1, .slice MA m MC], .agg #[.slice FA fn fc, .slice BA bn bc, .int .i64 fs, .int .i64 bs, .int .i64 d0, .int .i64 d1]] W fun e w' => e = .returned (.tuple #[.agg #[.int .i64 M1, .int .i64 M2], .int .i64 0]) ∧ Below W.heap.size W w') ∧ N1 ≤ M1 ∧ M2 ≤ N2 := by
  have hfl := hsp.fl
  have hbl := hsp.bl
  have hll := hkn.nar.len
  have hFm : ∀ x ∈ F, ldAt es x := fun x hx => (hat.mem _ (List.mem_of_mem_take (hsp.fm x hx))).1
  have hBm : ∀ x ∈ B, ldAt es x := fun x hx => (hat.mem _ (List.mem_of_mem_take (hsp.bm x hx))).1
  have hkd2 : ∀ x, 0 ≤ x ∧ x < (es.length : Int) → kdAt es' x = kdAt es x := fun x hx => by
    have hlt : x.toNat < es.length := by omega
    obtain ⟨e', he, k1, _⟩ := hkn.nar.ev _ _ (List.getElem?_eq_getElem hlt)
    unfold kdAt
    rw [he, List.getElem?_eq_getElem hlt]
    exact k1
  have hat2 : AtOk es' es'.length l := ⟨hat.asc, fun x hx => by
    obtain ⟨⟨a, b, c⟩, d⟩ := hat.mem x hx
    exact ⟨⟨a, by omega, by rw [hkd2 x ⟨a, b⟩]; exact c⟩, by omega⟩⟩
  have hs0 : ckS st z0 z1 es F B fs bs d0 d1 = 0 := ckS_made hck hat hsp (by omega) (by omega) (by omega) hfs.1 hfs.2 hbs.1 hbs.2 h3 h4 h5
  have hs02 : ckS st y0 y1 es' F B fs bs d0 d1 = 0 := ckS_made hkn.ck hat2 hsp (by omega) (by omega) (by omega) hfs.1 hfs.2 hbs.1 hbs.2 h3 h4 h5
  have hlog := ckL_zero hck
  have hlog2 := ckL_zero hkn.ck
  have hm14 := hlog2.n
  have hfit' : Fits st z0 z1 es es.length := by rw [hel]; exact hfit
  have hfit2' : Fits st y0 y1 es' es'.length := by rw [hml]; exact hfit2
  have he1 : 1 ≤ es.length := by
    obtain ⟨a, b, _⟩ := hFm (F[0]'(by omega)) (List.getElem_mem _)
    omega
  have hp := net_part hlog hlog2 hfit' hfit2' hkn.nar hkn.lo hkn.hi he1 (F := F) (B := B) hkn.len (fun x hx => ⟨(hFm x hx).1, (hFm x hx).2.1⟩) (fun x hx => ⟨(hBm x hx).1, (hBm x hx).2.1⟩)
  rw [hel, hml] at hp
  refine ⟨_, _, _, _, fun W hW => net_ok st z0 z1 EA k EC es FA fn fc BA bn bc fs bs d0 d1 F B W (by omega) hel ((Sl.below hE hW).more hW.size) (by omega) (by omega) hfn hbn ((hF.below hW).more hW.size) ((hB.below hW).more hW.size) hs0 hfit, fun W hW => net_ok st y0 y1 MA m MC es' FA fn fc BA bn bc fs bs d0 d1 F B W (by omega) hml ((Sl.below hM hW).more hW.size) (by omega) (by omega) hfn hbn ((hF.below hW).more hW.size) ((hB.below hW).more hW.size) hs02 hfit2, ?_, ?_⟩
  · have := hp.1; omega
  · have := hp.2; omega
theorem evs_set_c (es : List Ev) (i : Nat) (e : Ev) (h : es[i]? = some e) (a b : Int) : ((es.map Ev.cells).flatten.set (i * 5 + 3) (.int .i64 a)).set (i * 5 + 4) (.int .i64 b) = ((es.set i { e with c0 := a, c1 := b }).map Ev.cells).flatten := by
  have hlt : i < es.length := (List.getElem?_eq_some_iff.1 h).1
  rw [flatten_set (es.map Ev.cells) (evs_len es) i 3 e.cells _ (by simp [h]) (by omega)]
  have hm : (es.map Ev.cells).set i (e.cells.set 3 (.int .i64 a)) = (es.set i { e with c0 := a }).map Ev.cells := by rw [List.map_set]; rfl
  rw [hm, flatten_set ((es.set i { e with c0 := a }).map Ev.cells) (evs_len _) i 4 (Ev.cells { e with c0 := a }) _ (by rw [List.getElem?_map, List.getElem?_set_self hlt]; rfl) (by omega)]
  have hm2 : ((es.set i { e with c0 := a }).map Ev.cells).set i ((Ev.cells { e with c0 := a }).set 4 (.int .i64 b)) = ((es.set i { e with c0 := a }).set i { e with c0 := a, c1 := b }).map Ev.cells := by rw [List.map_set (l := es.set i { e with c0 := a })]; rfl
  rw [hm2, List.set_set]
theorem FT.bel {g : Nat} {V x y : World} (h : FT g V x) (hb : Below x.heap.size x y) : FT g V y := ⟨grown_trans h.1 (grown_below hb), Fd.below h.2 hb⟩
theorem FT.self {g : Nat} {V : World} (h : Fd g V) : FT g V V := ⟨grown_refl _ _, h⟩
theorem FT.sl {g s : Nat} {V x : World} {A : Option Addr} {xs : List (List Value)} (h : FT g V x) (hf : Fd g V) (hs : Sl V V.heap.size s A xs) (hx : ∀ r ∈ xs, ∀ u ∈ r, ∀ x, u ≠ .int .u64 x) : Sl x x.heap.size s A xs := (Sl.ft hs hf h.1 hx).more h.1.size
theorem FT.be {g : Nat} {w V x : World} (h : FT g V x) (hB : Below w.heap.size w V) (hg : w.heap.size ≤ g) : Below w.heap.size w x := hB.grown h.1 hB.size (fun k e => by cases e; exact hg)
theorem FT.own {g : Nat} {V x y : World} (h : FT g V x) {b n : Nat} {t : TypeId} {s : Nat} {v : Value} {xs : List Value} (ho : x.ownsRow b t s v n xs) (hg : x.grownBy y v.ownBlock) (hb : V.heap.size ≤ b) (ht : (88 : Nat) ≠ t) : FT g V y := by
  refine ⟨gr_own h.1 hg (fun k hk => Nat.le_trans hb (ho.lt k hk).1), ?_⟩
  obtain ⟨z, h1, h2, h3⟩ := h.2
  exact ⟨z, h1, h2, h3.grown hg (own_bx ho h3 ht)⟩
set_option maxRecDepth 100000 in
set_option maxHeartbeats 4000000 in
theorem tighter_any (g : Nat) (lo hi : Int) (w : World) (h : Fd g w) (h1 : -1000000 ≤ lo) (h2 : lo ≤ hi) (h3 : hi ≤ 1000000) : Calls Try.prog 48 #[.pointer (some ⟨g, 0, none⟩), .agg #[.int .i64 lo, .int .i64 hi]] w fun e w' => (∃ a b : Int, e = .returned (.agg #[.int .i64 a, .int .i64 b]) ∧ lo ≤ a ∧ a ≤ b ∧ b ≤ hi) ∧ Fd g w' ∧ w.grownBy w' (some g) := by
  have hgl := h.lt
  have HG0 := Lib.hid ((h.alloc (.cells #[.int .i64 lo, .int .i64 hi] 23)).alloc (.cells #[.int .i64 0, .int .i64 0] 23))
  have GR0 := Lib.hid (grown_alloc (grown_alloc (grown_refl w (some g)) (.cells #[.int .i64 lo, .int .i64 hi] 23)) (.cells #[.int .i64 0, .int .i64 0] 23))
  have KX := Lib.hid ((Bx.new w 23 #[.int .i64 lo, .int .i64 hi]).alloc (.cells #[.int .i64 0, .int .i64 0] 23))
  have KR := Lib.hid (Bx.at (w.alloc (.cells #[.int .i64 lo, .int .i64 hi] 23)) 23 #[.int .i64 0, .int .i64 0] (n := w.heap.size + 1) (by simp))
  go_enter Try.func48, Try.ntmps48
  go_upto_region 2 with (first | (go_at_call 42; refine (in_any g lo hi _ HG0.out (by omega) (by omega) (by omega)).mono ?_; rintro e V ⟨⟨a, rfl, ha1, ha2⟩, hfV, hgV⟩) | fail)
  have grV := grown_trans GR0.out hgV
  have kx := KX.out.grown hgV (by simp; omega)
  have kr := KR.out.grown hgV (by simp; omega)
  obtain ⟨b, hb⟩ : ∃ b, w.heap.size = b := ⟨_, rfl⟩
  have hgb : g < b := by omega
  rw [hb] at kx kr ⊢
  clear HG0 GR0 KX KR hgV hgl
  refine AnyG.startC (by kernel_rfl) ?_
  refine AnyG.takeP (i := 0) (v := ?_) rfl (by kernel_rfl) (fun _ _ _ h => h) rfl ?_ ?_
  rotate_left
  · (intro w'; go_simp; try with_reducible rfl)
  try simp only [Act.put, List.getElem_toArray, List.getElem_cons_succ, List.getElem_cons_zero, List.setIfInBounds_toArray, List.set_cons_zero, List.set_cons_succ]
  refine AnyG.takeP (i := 1) (v := ?_) rfl (by kernel_rfl) (fun _ _ _ h => h) rfl ?_ ?_
  rotate_left
  · (intro w'; go_simp; try with_reducible rfl)
  try simp only [Act.put, List.getElem_toArray, List.getElem_cons_succ, List.getElem_cons_zero, List.setIfInBounds_toArray, List.set_cons_zero, List.set_cons_succ]
  refine AnyG.takeP (i := 3) (v := ?_) rfl (by kernel_rfl) (fun _ _ _ h => h) rfl ?_ ?_
  rotate_left
  · (intro w'; go_simp; try with_reducible rfl)
  try simp only [Act.put, List.getElem_toArray, List.getElem_cons_succ, List.getElem_cons_zero, List.setIfInBounds_toArray, List.set_cons_zero, List.set_cons_succ]
  refine AnyG.takeP (i := 6) (v := ?_) rfl (by kernel_rfl) (fun _ _ _ h => h) rfl ?_ ?_
  rotate_left
  · (intro w'; go_simp; try with_reducible rfl)
  try simp only [Act.put, List.getElem_toArray, List.getElem_cons_succ, List.getElem_cons_zero, List.setIfInBounds_toArray, List.set_cons_zero, List.set_cons_succ]
  refine AnyG.takeP (i := 7) (v := ?_) rfl (by kernel_rfl) (fun _ _ _ h => h) rfl ?_ ?_
  rotate_left
  · (intro w'; go_simp; try with_reducible rfl)
  try simp only [Act.put, List.getElem_toArray, List.getElem_cons_succ, List.getElem_cons_zero, List.setIfInBounds_toArray, List.set_cons_zero, List.set_cons_succ]
  refine AnyG.takeP (i := 9) (v := ?_) rfl (by kernel_rfl) (fun _ _ _ h => h) rfl ?_ ?_
  rotate_left
  · (intro w'; go_simp; try with_reducible rfl)
  try simp only [Act.put, List.getElem_toArray, List.getElem_cons_succ, List.getElem_cons_zero, List.setIfInBounds_toArray, List.set_cons_zero, List.set_cons_succ]
  refine AnyG.takeP (i := 10) (v := ?_) rfl (by kernel_rfl) (fun _ _ _ h => h) rfl ?_ ?_
  rotate_left
  · (intro w'; go_simp; try with_reducible rfl)
  try simp only [Act.put, List.getElem_toArray, List.getElem_cons_succ, List.getElem_cons_zero, List.setIfInBounds_toArray, List.set_cons_zero, List.set_cons_succ]
  refine AnyG.takeP (i := 11) (v := ?_) rfl (by kernel_rfl) (fun _ _ _ h => h) rfl ?_ ?_
  rotate_left
  · (intro w'; go_simp; try with_reducible rfl)
  try simp only [Act.put, List.getElem_toArray, List.getElem_cons_succ, List.getElem_cons_zero, List.setIfInBounds_toArray, List.set_cons_zero, List.set_cons_succ]
  refine AnyG.enter (fun w' : World => w.grownBy w' (some g) ∧ Fd g w' ∧ Bx w' b 23 #[.int .i64 lo, .int .i64 hi] ∧ Bx w' (b + 1) 23 #[.int .i64 0, .int .i64 0]) (fun i => i != 17) ?_
  have hS : (fun w' : World => w.grownBy w' (some g) ∧ Fd g w' ∧ Bx w' b 23 #[.int .i64 lo, .int .i64 hi] ∧ Bx w' (b + 1) 23 #[.int .i64 0, .int .i64 0]) (World.drew _) := ⟨grown_trans grV (grown_drew _ _), hfV.drew, kx.drew, kr.drew⟩
  refine AnyG.takeC (i := 2) (v := ?_) rfl (by kernel_rfl) (fun _ _ _ h => h) rfl ?_ hS ?_
  rotate_left
  · (intro w' hSw; (try dsimp only at hSw); obtain ⟨c0, c1, cf, cz⟩ := hSw.2.2.1.two; go_simp; try with_reducible rfl)
  try simp only [Act.put, List.getElem_toArray, List.getElem_cons_succ, List.getElem_cons_zero, List.setIfInBounds_toArray, List.set_cons_zero, List.set_cons_succ]
  refine AnyG.takeC (i := 8) (v := ?_) rfl (by kernel_rfl) (fun _ _ _ h => h) rfl ?_ hS ?_
  rotate_left
  · (intro w' hSw; (try dsimp only at hSw); obtain ⟨c0, c1, cf, cz⟩ := hSw.2.2.1.two; go_simp; try with_reducible rfl)
  try simp only [Act.put, List.getElem_toArray, List.getElem_cons_succ, List.getElem_cons_zero, List.setIfInBounds_toArray, List.set_cons_zero, List.set_cons_succ]
  refine AnyG.takeC (i := 12) (v := ?_) rfl (by kernel_rfl) (fun _ _ _ h => h) rfl ?_ hS ?_
  rotate_left
  · (intro w' hSw; (try dsimp only at hSw); obtain ⟨c0, c1, cf, cz⟩ := hSw.2.2.1.two; go_simp; try with_reducible rfl)
  try simp only [Act.put, List.getElem_toArray, List.getElem_cons_succ, List.getElem_cons_zero, List.setIfInBounds_toArray, List.set_cons_zero, List.set_cons_succ]
  refine AnyG.one (i := 4) (by kernel_rfl) rfl rfl ?_
  have hl4 := hS.2.1.lt
  go_simp
  refine Onward.on ⟨grown_alloc hS.1 _, hS.2.1.alloc _, hS.2.2.1.alloc _, hS.2.2.2.alloc _⟩ (fun hS2 => ?_)
  clear hS
  have hS := hS2
  clear hS2
  try simp only [Act.put, List.getElem_toArray, List.getElem_cons_succ, List.getElem_cons_zero, List.setIfInBounds_toArray, List.set_cons_zero, List.set_cons_succ]
  refine AnyG.one (i := 5) (by kernel_rfl) rfl rfl ?_
  go_simp
  refine (either_any g _ 2 _ (fun r => lo ≤ r ∧ r ≤ a) _ hS.2.1 (Bx.new _ _ _) (Nat.ne_of_gt hl4) (by omega) (by omega) (bx2 _ ⟨by omega, by omega⟩ ⟨by omega, by omega⟩)).mono ?_
  rintro e y5 ⟨⟨p5, rfl, hp5a, hp5b⟩, hf5, hg5⟩
  refine Onward.on ⟨grown_trans hS.1 hg5, hf5, hS.2.2.1.grown hg5 (by simp; omega), hS.2.2.2.grown hg5 (by simp; omega)⟩ (fun hS2 => ?_)
  clear hS
  have hS := hS2
  clear hS2
  try simp only [Act.put, List.getElem_toArray, List.getElem_cons_succ, List.getElem_cons_zero, List.setIfInBounds_toArray, List.set_cons_zero, List.set_cons_succ]
  refine AnyG.one (i := 13) (by kernel_rfl) rfl rfl ?_
  go_simp
  refine (between_any g a hi _ hS.2.1 (by omega) (by omega) (by omega) (by omega)).mono ?_
  rintro e y13 ⟨⟨p13, rfl, hp13a, hp13b⟩, hf13, hg13⟩
  refine Onward.on ⟨grown_trans hS.1 hg13, hf13, hS.2.2.1.grown hg13 (by simp; omega), hS.2.2.2.grown hg13 (by simp; omega)⟩ (fun hS2 => ?_)
  clear hS
  have hS := hS2
  clear hS2
  try simp only [Act.put, List.getElem_toArray, List.getElem_cons_succ, List.getElem_cons_zero, List.setIfInBounds_toArray, List.set_cons_zero, List.set_cons_succ]
  refine AnyG.one (i := 14) (by kernel_rfl) rfl rfl ?_
  have hl14 := hS.2.1.lt
  go_simp
  refine Onward.on ⟨grown_alloc hS.1 _, hS.2.1.alloc _, hS.2.2.1.alloc _, hS.2.2.2.alloc _⟩ (fun hS2 => ?_)
  clear hS
  have hS := hS2
  clear hS2
  try simp only [Act.put, List.getElem_toArray, List.getElem_cons_succ, List.getElem_cons_zero, List.setIfInBounds_toArray, List.set_cons_zero, List.set_cons_succ]
  refine AnyG.one (i := 15) (by kernel_rfl) rfl rfl ?_
  go_simp
  refine (either_any g _ 2 _ (fun r => a ≤ r ∧ r ≤ hi) _ hS.2.1 (Bx.new _ _ _) (Nat.ne_of_gt hl14) (by omega) (by omega) (bx2 _ ⟨by omega, by omega⟩ ⟨by omega, by omega⟩)).mono ?_
  rintro e y15 ⟨⟨p15, rfl, hp15a, hp15b⟩, hf15, hg15⟩
  refine Onward.on ⟨grown_trans hS.1 hg15, hf15, hS.2.2.1.grown hg15 (by simp; omega), hS.2.2.2.grown hg15 (by simp; omega)⟩ (fun hS2 => ?_)
  clear hS
  have hS := hS2
  clear hS2
  try simp only [Act.put, List.getElem_toArray, List.getElem_cons_succ, List.getElem_cons_zero, List.setIfInBounds_toArray, List.set_cons_zero, List.set_cons_succ]
  refine AnyG.takeC (i := 16) (v := ?_) rfl (by kernel_rfl) (fun _ _ _ h => h) rfl ?_ hS ?_
  rotate_left
  · (intro w' hSw; (try dsimp only at hSw); go_simp; try with_reducible rfl)
  try simp only [Act.put, List.getElem_toArray, List.getElem_cons_succ, List.getElem_cons_zero, List.setIfInBounds_toArray, List.set_cons_zero, List.set_cons_succ]
  refine AnyG.one (i := 17) (by kernel_rfl) rfl rfl ?_
  obtain ⟨r0, r1, rf, rz⟩ := hS.2.2.2.two
  go_simp
  refine Onward.last rfl ?_
  try simp only [Act.put, List.getElem_toArray, List.getElem_cons_succ, List.getElem_cons_zero, List.setIfInBounds_toArray, List.set_cons_zero, List.set_cons_succ]
  refine AnyG.done (by kernel_rfl) ?_ _
  go_simp
  go_wp2_with fail
  refine bodyPost_ret (v := .agg #[.int .i64 p5, .int .i64 p15]) (by simp [results, Try.results48, go_sem, r0, r1, World.cell?_setCell_same', World.cell?_setCell_other]) rfl ⟨⟨p5, p15, rfl, by omega, by omega, by omega⟩, (hS.2.1.far (by simp; omega) _).far (by simp; omega) _, grown_new (grown_new hS.1 (by omega) _) (by omega) _⟩
theorem ints_any (A : Option Addr) (n c : Nat) (L : List Int) (w : World) (hn : n ≤ 1000) (hl : L.length = n) (hA : Sl w w.heap.size 1 A (ints L)) :
    Calls Try.prog 67 #[.slice A n c] w fun e w' => (∃ A' c', e = .returned (.slice A' n c') ∧ w'.ownsRow w.heap.size 3 1 (.slice A' n c') n (ints L).flatten) ∧ Below w.heap.size w w' := by
  have HL := Lib.hid hl
  clear hl
  obtain ⟨i3, hi3, hz3, hs3, iy3⟩ := info_parts info3'
  have hb0 : Below w.heap.size w (w.alloc (.cells #[] 3)) := (Below.refl _ _).alloc (Nat.le_refl _) _
  have how := World.ownsRow_made (w := w) (base := w.heap.size) (e := 3) (size := 1) #[] 0 (Nat.le_refl _) (by unfold maxLen; omega) (by simp)
  have hE := Sl.below hA hb0
  cases A with
  | none =>
    have hn0 : n = 0 := by
      rcases Nat.eq_zero_or_pos n with h | h
      · exact h
      · obtain ⟨ad, h1, _⟩ := hA.at_ (k := 0) (by simp [ints]; rw [HL.out]; exact h)
        cases h1
    subst hn0
    go_enter Try.func67, Try.ntmps67
    go_wp2_with fail
    obtain rfl : L = [] := List.eq_nil_of_length_eq_zero HL.out
    go_ret
    exact ⟨⟨_, _, rfl, by simpa [ints] using how⟩, hb0⟩
  | some a =>
    have hcs : ∀ j u, (ints L).flatten[j]? = some u → (w.alloc (.cells #[] 3)).cell? (a.add j) = some u := by
      intro j u hu
      rw [ints_flat, List.getElem?_map] at hu
      cases hj : L[j]? with
      | none => rw [hj] at hu; cases hu
      | some x =>
        rw [hj] at hu
        simp only [Option.map_some, Option.some.injEq] at hu
        have hlt := (List.getElem?_eq_some_iff.1 hj).1
        obtain ⟨ad, h1, _, h2⟩ := ints_at hE hlt
        simp only [Option.some.injEq] at h1
        subst h1
        rw [h2, ← hu, (List.getElem?_eq_some_iff.1 hj).2]
    have h1c : ∀ u ∈ (ints L).flatten, u.oneCell' = true := by
      intro u hu
      rw [ints_flat] at hu
      obtain ⟨x, _, rfl⟩ := List.mem_map.1 hu
      rfl
    have hlen : (ints L).flatten.length = n * 1 := by rw [ints_flat, List.length_map, HL.out, Nat.mul_one]
    obtain ⟨xs, hxs⟩ : ∃ xs, (ints L).flatten = xs := ⟨_, rfl⟩
    rw [hxs] at hcs h1c hlen ⊢
    go_enter Try.func67, Try.ntmps67
    go_wp2_with (first
      | (at_builtin; refine wpList_append_own _ rfl (.tmp 3) (.tmp 4) 29 rfl w.heap.size 3 i3 _ 1 8 Try.underlying29 hi3 hz3 hs3 iy3 rfl (by decide) (.slice (some ⟨w.heap.size, 0, none⟩) 0 0) 0 [] rfl how a n c xs rfl hlen hcs h1c (by unfold maxLen; omega) (by omega) (by simp <;> omega) ?_; intro v' w' o1 o2 o3; obtain ⟨A', C', rfl⟩ := own_shape o1)
      | fail)
    have o1' : w'.ownsRow w.heap.size 3 1 (.slice A' n C') n xs := by simpa using o1
    go_ret
    exact ⟨⟨_, _, by simp, o1'⟩, hb0.grown o2 hb0.size (fun k e => by simp [Value.ownBlock] at e <;> omega)⟩
end Go.Proofs.Ytgbogdckmfencaa
