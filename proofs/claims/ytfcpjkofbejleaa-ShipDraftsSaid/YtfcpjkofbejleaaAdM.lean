/- Easier orders: mathematics; orders made easier in memory. -/
import Derived.Test.YtfcpjkofbejleaaMsM
import Derived.Test.YtfcpjkofbejleaaVkM
import Derived.Test.YtfcpjkofbejleaaEoM
set_option linter.unusedSimpArgs false
set_option linter.unusedVariables false
namespace Go.Proofs.Ytfcpjkofbejleaa
open Go Go.RowKit
/-- An order that is easier than another one. -/
structure Easier (o x : Od) : Prop where
  lm : x.lm.length = o.lm.length
  li : ∀ j, o.li j ≤ x.li j
  le : x.le ≤ o.le
  mo : o.mo ≤ x.mo
  bs : x.bs.length = o.bs.length
  w : ∀ i, (x.bn i).w = (o.bn i).w
  c : ∀ i, (x.bn i).c ≤ (o.bn i).c
  g : ∀ i, (o.bn i).g ≤ (x.bn i).g
  g2 : ∀ i j, (x.bn i).g2 j ≤ (o.bn i).g2 j
theorem Easier.kil {o x : Od} (h : Easier o x) (b : Nat → Int) (n : Nat) : kil x b n = kil o b n := sm_congr fun i _ => by rw [h.w]
theorem Easier.cst {o x : Od} (h : Easier o x) {b : Nat → Int} (hb : Six b) (n : Nat) : cst x b n ≤ cst o b n := sm_mono fun i _ => Int.mul_le_mul_of_nonneg_left (h.c i) (hb i).1
theorem Easier.exX {o x : Od} (h : Easier o x) (ho : o.Ok) {b : Nat → Int} (hb : Six b) (j : Nat) {n : Nat} (hn : n ≤ o.bs.length) : exX x b j n ≤ exX o b j n := by
  refine sm_mono fun i hi => ?_
  rw [h.w]
  refine Int.mul_le_mul_of_nonneg_left ?_ (w_bd ho hb (by omega)).1
  have := h.g2 i j
  have := h.li j
  omega
/-- No two bins share their grams. -/
def Apt (rs : List (List Value)) : Prop := ∀ (i j : Nat) (r s : List Value) (u v : Value), i < j → rs[i]? = some r → rs[j]? = some s → r[0]? = some u → s[0]? = some v → u.ownBlock = none ∨ u.ownBlock ≠ v.ownBlock
theorem Apt.nil : Apt [] := fun i j r s u v _ h => by simp at h
theorem Apt.snoc {w w' : World} {B : Nat} {rs : List (List Value)} {bs : List Bn} {A : Option Addr} {n c : Nat} {xs : List Value} (h : Apt rs) (hb : BinsOwn w B rs bs) (o : w'.ownsRow w.heap.size 41 2 (.slice A n c) n xs) (x y z : Value) : Apt (rs ++ [[.slice A n c, x, y, z]]) := by
  intro i j r s u v hij hi hj hu hv
  by_cases hjl : j < rs.length
  · rw [List.getElem?_append_left (by omega)] at hi
    rw [List.getElem?_append_left hjl] at hj
    exact h i j r s u v hij hi hj hu hv
  · have hj2 : j < (rs ++ [[.slice A n c, x, y, z]]).length := (List.getElem?_eq_some_iff.1 hj).1
    obtain rfl : j = rs.length := by simp at hj2; omega
    rw [List.getElem?_append_left hij] at hi
    rw [List.getElem?_concat_length, Option.some.injEq] at hj
    subst hj
    simp only [List.getElem?_cons_zero, Option.some.injEq] at hv
    subst hv
    have hib : i < bs.length := by rw [← hb.len]; exact hij
    obtain ⟨A2, C2, rfl, o2⟩ := hb.row i r _ hi (List.getElem?_eq_getElem hib)
    simp only [List.getElem?_cons_zero, Option.some.injEq] at hu
    subst hu
    cases e : (Value.slice A2 bs[i].gr.length C2).ownBlock with
    | none => exact .inl rfl
    | some k =>
      refine .inr fun e2 => ?_
      have h1 := (o2.lt k e).2
      have h2 := (o.lt k e2.symm).1
      omega
/-- The address of the grams of bin i. -/
def HeadIs (rs : List (List Value)) (i : Nat) (v : Value) : Prop := ∃ r, rs[i]? = some r ∧ r[0]? = some v
section
variable {g : Nat} {V wr x : World} {lm : List Int} {bs : List Bn} {le mo : Int} {lv bv : Value} {rs : List (List Value)} {q : Nat}
theorem store_far {B e s yq n c i : Nat} {xs : List Value} {u : Value} (h : wr.ownsRow B e s (.slice (some ⟨yq, 0, none⟩) n c) n xs) {e' s' n' : Nat} {v' : Value} {xs' : List Value} (ho : wr.ownsRow B e' s' v' n' xs') (he : e ≠ e') : (wr.setCell ⟨yq, i, none⟩ u).ownsRow B e' s' v' n' xs' := own_set ho (fun e => by
    rcases own_ne h ho he with e2 | e2
    · simp [Value.ownBlock] at e2
    · exact e2 e) _
theorem Apt.set_ (ha : Apt rs) {i : Nat} {r r' : List Value} (hr : rs[i]? = some r) (h0 : r'[0]? = r[0]?) : Apt (rs.set i r') := by
  have hi : i < rs.length := (List.getElem?_eq_some_iff.1 hr).1
  have key : ∀ (j : Nat) (s : List Value), (rs.set i r')[j]? = some s → ∃ s', rs[j]? = some s' ∧ s[0]? = s'[0]? := fun j s hs => by
    by_cases hj : i = j
    · subst hj
      rw [List.getElem?_set_self hi, Option.some.injEq] at hs
      subst hs
      exact ⟨r, hr, h0⟩
    · rw [List.getElem?_set_ne hj] at hs
      exact ⟨s, hs, rfl⟩
  intro a b s t u v hab h1 h2 hu hv
  obtain ⟨s', e1, e2⟩ := key a s h1
  obtain ⟨t', e3, e4⟩ := key b t h2
  exact ha a b s' t' u v hab e1 e3 (e2 ▸ hu) (e4 ▸ hv)
theorem HeadIs.set_ {i j : Nat} {r r' : List Value} {v : Value} (h : HeadIs rs j v) (hr : rs[i]? = some r) (h0 : r'[0]? = r[0]?) : HeadIs (rs.set i r') j v := by
  have hi : i < rs.length := (List.getElem?_eq_some_iff.1 hr).1
  obtain ⟨s, e1, e2⟩ := h
  by_cases hj : i = j
  · subst hj
    rw [hr, Option.some.injEq] at e1
    subst e1
    exact ⟨r', List.getElem?_set_self hi, h0.trans e2⟩
  · exact ⟨s, by rw [List.getElem?_set_ne hj]; exact e1, e2⟩
end
/-- A bin that is easier than another one. -/
structure EzB (b b' : Bn) : Prop where
  w : b'.w = b.w
  c0 : 0 ≤ b'.c
  c : b'.c ≤ b.c
  g : b.g ≤ b'.g
  g5 : b'.g ≤ 5
  len : b'.gr.length = b.gr.length
  gr : ∀ (j : Nat) (p p' : Int × Int), b.gr[j]? = some p → b'.gr[j]? = some p' → 0 ≤ p'.1 ∧ p'.1 ≤ p'.2 ∧ p'.2 ≤ p.2
/-- Bins that are easier, those from i on with as many grabs as before. -/
structure EzBs (bs bs' : List Bn) (i : Nat) : Prop where
  len : bs'.length = bs.length
  row : ∀ (j : Nat) (b b' : Bn), bs[j]? = some b → bs'[j]? = some b' → EzB b b' ∧ (i ≤ j → b'.g = b.g)
theorem EzBs.set_ {bs bs' : List Bn} {i i' k : Nat} {b b' : Bn} (h : EzBs bs bs' i) (hb : bs[k]? = some b) (he : EzB b b') (hi : i ≤ i') (hg : i' ≤ k → b'.g = b.g) : EzBs bs (bs'.set k b') i' := by
  have hk : k < bs'.length := by rw [h.len]; exact (List.getElem?_eq_some_iff.1 hb).1
  refine ⟨by rw [List.length_set]; exact h.len, fun j a a' h1 h2 => ?_⟩
  by_cases hj : k = j
  · subst hj
    rw [List.getElem?_set_self hk, Option.some.injEq] at h2
    subst h2
    rw [hb, Option.some.injEq] at h1
    subst h1
    exact ⟨he, hg⟩
  · rw [List.getElem?_set_ne hj] at h2
    obtain ⟨k1, k2⟩ := h.row j a a' h1 h2
    exact ⟨k1, fun h => k2 (by omega)⟩
/-- Limits that are higher, those from i on as before. -/
structure EzL (lm lm' : List Int) (i : Nat) : Prop where
  len : lm'.length = lm.length
  row : ∀ (j : Nat) (a b : Int), lm[j]? = some a → lm'[j]? = some b → a ≤ b ∧ b ≤ a + 49 ∧ (i ≤ j → b = a)
theorem EzL.start (lm : List Int) : EzL lm lm 0 := ⟨rfl, fun j a b h1 h2 => by rw [h1, Option.some.injEq] at h2; subst h2; exact ⟨by omega, by omega, fun _ => rfl⟩⟩
theorem EzL.step {lm lm' : List Int} {i : Nat} (h : EzL lm lm' i) {a : Int} (ha : lm[i]? = some a) {z : Int} (hz : 0 ≤ z) (hz2 : z ≤ 49) : EzL lm (lm'.set i (a + z)) (i + 1) := by
  have hk : i < lm'.length := by rw [h.len]; exact (List.getElem?_eq_some_iff.1 ha).1
  refine ⟨by rw [List.length_set]; exact h.len, fun j b c h1 h2 => ?_⟩
  by_cases hj : i = j
  · subst hj
    rw [List.getElem?_set_self hk, Option.some.injEq] at h2
    subst h2
    rw [ha, Option.some.injEq] at h1
    subst h1
    exact ⟨by omega, by omega, fun h => by omega⟩
  · rw [List.getElem?_set_ne hj] at h2
    obtain ⟨k1, k2, k3⟩ := h.row j b c h1 h2
    exact ⟨k1, k2, fun h => k3 (by omega)⟩
theorem EzBs.start {o : Od} (h : Small o 3 2 4) : EzBs o.bs o.bs 0 := ⟨rfl, fun j b b' h1 h2 => by
  rw [h1, Option.some.injEq] at h2
  subst h2
  obtain ⟨p1, p2, p3, p4, p5, p6, p7, p8⟩ := h.bn b (List.mem_of_getElem? h1)
  refine ⟨⟨rfl, p5, Int.le_refl _, Int.le_refl _, by omega, rfl, fun j p p' e1 e2 => ?_⟩, fun _ => rfl⟩
  rw [e1, Option.some.injEq] at e2
  subst e2
  have := p2 p (List.mem_of_getElem? e1)
  omega⟩
end Go.Proofs.Ytfcpjkofbejleaa

/-! Loops over the lots aboard. -/
namespace Go.Proofs.Ytfcpjkofbejleaa
open Go Go.RowKit Go.Shelf
theorem aboard1_stops (F : Fence) (n : Nat) (h103 : F.fn 103) (hro : F.round = none) (hn : 1 ≤ n) (b5 gs gv B : Nat) (v : Vg) (p : Vp) (A : Option Addr) (sn sc : Nat) (s : List Int) (hgs : gs ≠ b5) (hgv : gv ≠ b5) (hB : B ≤ b5) (hsn : sn ≤ 1000) (hln : sn ≤ p.ln) (hl : s.length = sn) (w : World)
    (kS : Bx w gs 27 #[.slice A sn sc]) (kV : Bx w gv 26 (vcs v p)) (hV : VoyAt w B v p) (hS : Sl w B 1 A (inr s)) (hBw : B ≤ w.heap.size) :
    SeqStopsK F n Try.prog 103 #[.pointer (some ⟨gs, 0, none⟩), .pointer (some ⟨gv, 0, none⟩)] (fun x : AbT v.ls s => #[cgv x.1.1, .int .i64 x.1.2]) (KeepC b5) (fun xs => xs.map (·.1) = abd v.ls s) (fun pre => pre.map (·.1) <+: abd v.ls s) (abd v.ls s).length w :=
  fun l J Jx W hW _ _ hY h0 => aboard1_in F n h103 hro hn b5 gs gv B v p A sn sc s hgs hgv hB hsn hln hl l J Jx hY W (kS.call hW) (kV.call hW) (hV.below (hW.mono hBw)) (hS.below (hW.mono hBw)) h0
theorem bx_own (B t : Nat) {α : Type} (g : α → Array Value) : Own (fun (s : α) W => Bx W B t (g s)) := fun s A C row hs hg hr => by
  refine Bx.grown hs hg fun e => ?_
  obtain ⟨o, ho, hc⟩ := hr B e.symm
  rw [show A.heap[B]? = _ from hs] at ho
  cases ho
  cases hc
theorem keepsFrom_below' {B : Nat} {W W' : World} (hb : Below W.heap.size W W') : KeepsFrom B W W' := ⟨hb.size, fun k _ _ ho _ => (hb.block k (Array.getElem?_eq_some_iff.1 ho).1).trans ho⟩
theorem own_grown {β : Type} {B : Nat} {w : World} (hB : w.heap.size ≤ B) (b : Nat) : OwnFrom B (fun (_ : β) W => w.grownBy W (some b)) := fun _ X Y row hs hg hr =>
  grown_trans hs hg (.inr fun k hk => Nat.le_trans hB (hr k hk).1)
/-- How a round may end: it goes on, or returns. -/
def abPost (b5 t5 : Nat) (cs : Array Value) (Ix : World → Prop) (W : World) : Exit → Act → World → Prop
  | .normal, _, W' => W.grownBy W' (some b5) ∧ Bx W' b5 t5 cs
  | .ret, _, W' => W.grownBy W' (some b5) ∧ Ix W'
  | _, _, _ => False
def cgc (c : Cg) : Array Value := #[.int .i64 c.t0, .int .i64 c.t1, .int .i64 c.wo]
theorem AnyG.startCIn {P : Program} {ops : Array Oper} {Q : Exit → Act → World → Prop} {l n : Nat} {id : Nat} {a : Act} {w : World} (hm : P.follows .mixedOrders = true) (hd : noDefer ops = true) (hQ : ∀ a w, ¬ Q .outgrown a w)
    (h : wpAny P .any ops Q ops.size (Array.replicate ops.size false) a w.drew) : (Code.region id ops true).wpIn (Fence.wide.inRound l) n P Q a w :=
  wpIn_region_any hm (wpAnyIn_of (fun ⟨a, w, h⟩ => hQ a w h) hd (fun row args w R h => rows_wide row args w R h) _ _ _ _ h)
/-- A loop over the lots aboard that turns one box, and goes on or returns. -/
theorem range_ab {n : Nat} (hn : 3 ≤ n) {ps : Array Tmp} {assign body : Code} {Q : Exit → Act → World → Prop} {a : Act} {w : World} {g : Operand} (b5 t5 gs gv B : Nat) (v : Vg) (p : Vp) (A : Option Addr) (sn sc : Nat) (s : List Int)
    (hg : a.eval g = .func (.func 103) #[] #[.pointer (some ⟨gs, 0, none⟩), .pointer (some ⟨gv, 0, none⟩)])
    (kS : Bx w gs 27 #[.slice A sn sc]) (kV : Bx w gv 26 (vcs v p)) (hV : VoyAt w B v p) (hS : Sl w B 1 A (inr s)) (hgs : gs ≠ b5) (hgv : gv ≠ b5) (hB : B ≤ b5) (hsn : sn ≤ 1000) (hln : sn ≤ p.ln) (hl : s.length = sn)
    (enc : List (Cg × Int) → Array Value) (k5 : Bx w b5 t5 (enc [])) (hps : ps.size = 2)
    (Ix : List (AbT v.ls s) → World → Prop) (hIx : OwnFrom w.heap.size Ix)
    (Fr : AbT v.ls s → Nat → Act)
    (hassign : ∀ (l : Nat) (x : AbT v.ls s) (W : World) (K : Act → World → Prop), (∀ (b8 : Nat) (W' : World), W.heap.size = b8 → Below W.heap.size W W' → Bx W' b8 70 (cgc x.1.1) → K (Fr x b8) W') →
      assign.wpIn (Fence.wide.inRound l) (n - 1 - 1) Try.prog (Exit.then K (fun _ _ _ => False)) { tmps := (ps.zip #[cgv x.1.1, .int .i64 x.1.2]).foldl (fun t (p, v) => t.setIfInBounds p v) a.tmps, defers := [] } W)
    (hbody : ∀ (l : Nat) (pre : List (AbT v.ls s)) (x : AbT v.ls s) (b8 : Nat) (W : World), w.heap.size ≤ l → (∃ r, W.heap[l]? = some (.loop r)) → w.grownBy W (some b5) → Bx W b5 t5 (enc (pre.map (·.1))) → w.heap.size ≤ b8 → Bx W b8 70 (cgc x.1.1) → pre.length < (abd v.ls s).length →
      body.wpIn (Fence.wide.inRound l) (n - 1 - 1) Try.prog (abPost b5 t5 (enc ((pre ++ [x]).map (·.1))) (Ix (pre ++ [x])) W) (Fr x b8) W)
    (hdone : ∀ (D : Nat) (W : World), w.heap.size ≤ D → w.grownBy W (some b5) → Bx W b5 t5 (enc (abd v.ls s)) → W.heap[D]? = some (.deferred (some [])) → Q .normal { a with defers := { target := .collected D, args := #[] } :: a.defers } W)
    (hstop : ∀ (D : Nat) (pre : List (AbT v.ls s)) (W : World), w.heap.size ≤ D → pre.map (·.1) <+: abd v.ls s → Ix pre W → W.heap[D]? = some (.deferred (some [])) → Code.ret.wpIn Fence.wide n Try.prog Q { a with defers := { target := .collected D, args := #[] } :: a.defers } W) :
    (Code.rangeFunc g ps assign body).wpIn Fence.wide n Try.prog Q a w := by
  have hb5 := k5.lt
  have kf : ∀ {X Y : World}, X.grownBy Y (some b5) → (∃ cs, Bx X b5 t5 cs) → KeepsFrom w.heap.size X Y := fun {X Y} hg hx => ⟨hg.size, fun k o hk h0 ho => by
    refine (hg.block k (Array.getElem?_eq_some_iff.1 h0).1 fun e => ?_).trans h0
    obtain ⟨cs, hx⟩ := hx
    obtain rfl : k = b5 := by simpa using e
    rw [show X.heap[k]? = _ from hx] at h0
    cases h0
    cases ho⟩
  refine wpIn_rangeFunc_ownH (F := Fence.wide) rfl (by omega) (gf := 103) (lb := #[.pointer (some ⟨gs, 0, none⟩), .pointer (some ⟨gv, 0, none⟩)]) hg trivial (enters_of Try.func103 (by kernel_rfl) rfl)
    (aboard1_stops Fence.wide (n - 1) trivial rfl (by omega) b5 gs gv B v p A sn sc s hgs hgv hB hsn hln hl w kS kV hV hS (by omega)) (fun h k => h.trans k) (fun W l o o' _ h ho _ => KeepC.put W l o o' h ho) (Below.refl _ _) (fun _ => hps.symm)
    (fun pre W => w.grownBy W (some b5) ∧ Bx W b5 t5 (enc (pre.map (·.1))))
    (fun c pre W => c = .ret ∧ Ix pre W)
    (OwnFrom.and (own_grown (Nat.le_refl _) b5) (Own.from (bx_own _ _ _) _))
    (fun c => OwnFrom.and (ownFrom_pure _ _) hIx)
    ⟨grown_refl _ _, k5⟩ (fun x a' W => ∃ b8, a' = Fr x b8 ∧ w.heap.size ≤ b8 ∧ Bx W b8 70 (cgc x.1.1))
    (fun x a' _ X Y row hs hg hr => by obtain ⟨b8, e, h8, h9⟩ := hs; exact ⟨b8, e, h8, (Own.from (bx_own b8 70 (fun (_ : Unit) => cgc x.1.1)) w.heap.size) () X Y row h9 hg hr⟩) ?assign ?body ?done ?stop
  case assign =>
    rintro l pre x W K ⟨i1, i2⟩ hK
    refine hassign l x W K fun b8 W' hb8 hb hx => hK _ W' (keepsFrom_below' hb) (KeepC.grown (grown_below hb)) ⟨grownF_trans i1 (grown_below hb), i2.call hb⟩ ⟨b8, rfl, ?_, hx⟩
    rw [← hb8]; exact i1.size
  case body =>
    rintro l pre x a' W hl hr ⟨i1, i2⟩ ⟨b8, rfl, h8, hx⟩ hlen
    refine wpIn_mono (hbody l pre x b8 W hl hr i1 i2 h8 hx hlen) ?_
    rintro e a3 W' h
    cases e with
    | normal => exact ⟨kf h.1 ⟨_, i2⟩, KeepC.grown h.1, grownF_trans i1 h.1, h.2⟩
    | ret => exact ⟨kf h.1 ⟨_, i2⟩, rfl, h.2⟩
    | exit _ => exact h.elim
    | goto _ => exact h.elim
    | panic _ => exact h.elim
    | outgrown => exact h.elim
  case done =>
    rintro D xs W hD hS ⟨i1, i2⟩ hk
    rw [hS] at i2
    exact hdone D W hD i1 i2 hk
  case stop =>
    rintro D c pre W hD hS ⟨rfl, hi⟩ hk
    exact hstop D pre W hD hS hi hk
def abPostP (B b5 t5 : Nat) (cs : Array Value) (Pu : Prop) (Ix : World → Prop) (W : World) : Exit → Act → World → Prop
  | .normal, _, W' => W.grownBy W' (some b5) ∧ Bx W' b5 t5 cs ∧ Pu
  | .ret, _, W' => KeepsFrom B W W' ∧ Ix W'
  | _, _, _ => False
/-- The same, with something that is so of the lots gone through; a round that returns may turn other boxes. -/
theorem range_abP {n : Nat} (hn : 3 ≤ n) {ps : Array Tmp} {assign body : Code} {Q : Exit → Act → World → Prop} {a : Act} {w : World} {g : Operand} (b5 t5 gs gv B : Nat) (v : Vg) (p : Vp) (A : Option Addr) (sn sc : Nat) (s : List Int)
    (hg : a.eval g = .func (.func 103) #[] #[.pointer (some ⟨gs, 0, none⟩), .pointer (some ⟨gv, 0, none⟩)])
    (kS : Bx w gs 27 #[.slice A sn sc]) (kV : Bx w gv 26 (vcs v p)) (hV : VoyAt w B v p) (hS : Sl w B 1 A (inr s)) (hgs : gs ≠ b5) (hgv : gv ≠ b5) (hB : B ≤ b5) (hsn : sn ≤ 1000) (hln : sn ≤ p.ln) (hl : s.length = sn)
    (enc : List (Cg × Int) → Array Value) (Pu : List (Cg × Int) → Prop) (k5 : Bx w b5 t5 (enc [])) (hPu : Pu []) (hps : ps.size = 2)
    (Ix : List (AbT v.ls s) → World → Prop) (hIx : OwnFrom w.heap.size Ix)
    (Fr : AbT v.ls s → Nat → Act)
    (hassign : ∀ (l : Nat) (x : AbT v.ls s) (W : World) (K : Act → World → Prop), (∀ (b8 : Nat) (W' : World), W.heap.size = b8 → Below W.heap.size W W' → Bx W' b8 70 (cgc x.1.1) → K (Fr x b8) W') →
      assign.wpIn (Fence.wide.inRound l) (n - 1 - 1) Try.prog (Exit.then K (fun _ _ _ => False)) { tmps := (ps.zip #[cgv x.1.1, .int .i64 x.1.2]).foldl (fun t (p, v) => t.setIfInBounds p v) a.tmps, defers := [] } W)
    (hbody : ∀ (l : Nat) (pre : List (AbT v.ls s)) (x : AbT v.ls s) (b8 : Nat) (W : World), w.heap.size ≤ l → (∃ r, W.heap[l]? = some (.loop r)) → w.grownBy W (some b5) → Bx W b5 t5 (enc (pre.map (·.1))) → Pu (pre.map (·.1)) → w.heap.size ≤ b8 → Bx W b8 70 (cgc x.1.1) → pre.length < (abd v.ls s).length →
      body.wpIn (Fence.wide.inRound l) (n - 1 - 1) Try.prog (abPostP w.heap.size b5 t5 (enc ((pre ++ [x]).map (·.1))) (Pu ((pre ++ [x]).map (·.1))) (Ix (pre ++ [x])) W) (Fr x b8) W)
    (hdone : ∀ (D : Nat) (W : World), w.heap.size ≤ D → w.grownBy W (some b5) → Bx W b5 t5 (enc (abd v.ls s)) → Pu (abd v.ls s) → W.heap[D]? = some (.deferred (some [])) → Q .normal { a with defers := { target := .collected D, args := #[] } :: a.defers } W)
    (hstop : ∀ (D : Nat) (pre : List (AbT v.ls s)) (W : World), w.heap.size ≤ D → pre.map (·.1) <+: abd v.ls s → Ix pre W → W.heap[D]? = some (.deferred (some [])) → Code.ret.wpIn Fence.wide n Try.prog Q { a with defers := { target := .collected D, args := #[] } :: a.defers } W) :
    (Code.rangeFunc g ps assign body).wpIn Fence.wide n Try.prog Q a w := by
  have hb5 := k5.lt
  have kf : ∀ {X Y : World}, X.grownBy Y (some b5) → (∃ cs, Bx X b5 t5 cs) → KeepsFrom w.heap.size X Y := fun {X Y} hg hx => ⟨hg.size, fun k o hk h0 ho => by
    refine (hg.block k (Array.getElem?_eq_some_iff.1 h0).1 fun e => ?_).trans h0
    obtain ⟨cs, hx⟩ := hx
    obtain rfl : k = b5 := by simpa using e
    rw [show X.heap[k]? = _ from hx] at h0
    cases h0
    cases ho⟩
  refine wpIn_rangeFunc_ownH (F := Fence.wide) rfl (by omega) (gf := 103) (lb := #[.pointer (some ⟨gs, 0, none⟩), .pointer (some ⟨gv, 0, none⟩)]) hg trivial (enters_of Try.func103 (by kernel_rfl) rfl)
    (aboard1_stops Fence.wide (n - 1) trivial rfl (by omega) b5 gs gv B v p A sn sc s hgs hgv hB hsn hln hl w kS kV hV hS (by omega)) (fun h k => h.trans k) (fun W l o o' _ h ho _ => KeepC.put W l o o' h ho) (Below.refl _ _) (fun _ => hps.symm)
    (fun pre W => (w.grownBy W (some b5) ∧ Bx W b5 t5 (enc (pre.map (·.1)))) ∧ Pu (pre.map (·.1)))
    (fun c pre W => c = .ret ∧ Ix pre W)
    (OwnFrom.and (OwnFrom.and (own_grown (Nat.le_refl _) b5) (Own.from (bx_own _ _ _) _)) (ownFrom_pure _ _))
    (fun c => OwnFrom.and (ownFrom_pure _ _) hIx)
    ⟨⟨grown_refl _ _, k5⟩, hPu⟩ (fun x a' W => ∃ b8, a' = Fr x b8 ∧ w.heap.size ≤ b8 ∧ Bx W b8 70 (cgc x.1.1))
    (fun x a' _ X Y row hs hg hr => by obtain ⟨b8, e, h8, h9⟩ := hs; exact ⟨b8, e, h8, (Own.from (bx_own b8 70 (fun (_ : Unit) => cgc x.1.1)) w.heap.size) () X Y row h9 hg hr⟩) ?assign ?body ?done ?stop
  case assign =>
    rintro l pre x W K ⟨⟨i1, i2⟩, i3⟩ hK
    refine hassign l x W K fun b8 W' hb8 hb hx => hK _ W' (keepsFrom_below' hb) (KeepC.grown (grown_below hb)) ⟨⟨grownF_trans i1 (grown_below hb), i2.call hb⟩, i3⟩ ⟨b8, rfl, ?_, hx⟩
    rw [← hb8]; exact i1.size
  case body =>
    rintro l pre x a' W hl hr ⟨⟨i1, i2⟩, i3⟩ ⟨b8, rfl, h8, hx⟩ hlen
    refine wpIn_mono (hbody l pre x b8 W hl hr i1 i2 i3 h8 hx hlen) ?_
    rintro e a3 W' h
    cases e with
    | normal => exact ⟨kf h.1 ⟨_, i2⟩, KeepC.grown h.1, ⟨grownF_trans i1 h.1, h.2.1⟩, h.2.2⟩
    | ret => exact ⟨h.1, rfl, h.2⟩
    | exit _ => exact h.elim
    | goto _ => exact h.elim
    | panic _ => exact h.elim
    | outgrown => exact h.elim
  case done =>
    rintro D xs W hD hS ⟨⟨i1, i2⟩, i3⟩ hk
    rw [hS] at i2 i3
    exact hdone D W hD i1 i2 i3 hk
  case stop =>
    rintro D c pre W hD hS ⟨rfl, hi⟩ hk
    exact hstop D pre W hD hS hi hk
end Go.Proofs.Ytfcpjkofbejleaa

/-! hinders, helps, times, Plus, greatest, isLevel, aboard, verdictOf. -/
namespace Go.Proofs.Ytfcpjkofbejleaa
open Go Go.RowKit
theorem hinders_any (b : Bool) (x y : Int) (w : World) : Calls Try.prog 86 #[.bool b, .agg #[.int .i64 x, .int .i64 y]] w fun e w' => e = .returned (.int .i64 (if b then x else y)) ∧ Below w.heap.size w w' := by
  cases b
  · go_enter Try.func86, Try.ntmps86
    go_wp2
    go_ret
    exact ⟨rfl, by repeat (first | exact Below.refl _ _ | refine Below.alloc ?_ (by simp) _)⟩
  · go_enter Try.func86, Try.ntmps86
    go_wp2
    go_ret
    exact ⟨rfl, by repeat (first | exact Below.refl _ _ | refine Below.alloc ?_ (by simp) _)⟩
theorem helps_any (b : Bool) (x y : Int) (w : World) : Calls Try.prog 104 #[.bool b, .agg #[.int .i64 x, .int .i64 y]] w fun e w' => e = .returned (.int .i64 (if b then y else x)) ∧ Below w.heap.size w w' := by
  cases b
  · go_enter Try.func104, Try.ntmps104
    go_wp2
    go_ret
    exact ⟨rfl, by repeat (first | exact Below.refl _ _ | refine Below.alloc ?_ (by simp) _)⟩
  · go_enter Try.func104, Try.ntmps104
    go_wp2
    go_ret
    exact ⟨rfl, by repeat (first | exact Below.refl _ _ | refine Below.alloc ?_ (by simp) _)⟩
theorem plus_any (a b c d : Int) (w : World) (h1 : -1000000000000 ≤ a) (h2 : a ≤ 1000000000000) (h3 : -1000000000000 ≤ b) (h4 : b ≤ 1000000000000) (h5 : -1000000000000 ≤ c) (h6 : c ≤ 1000000000000) (h7 : -1000000000000 ≤ d) (h8 : d ≤ 1000000000000) :
    Calls Try.prog 90 #[.agg #[.int .i64 a, .int .i64 b], .agg #[.int .i64 c, .int .i64 d]] w fun e w' => e = .returned (.agg #[.int .i64 (a + c), .int .i64 (b + d)]) ∧ Below w.heap.size w w' := by
  go_enter Try.func90, Try.ntmps90
  go_wp2
  refine bodyPost_ret (v := .agg #[.int .i64 (a + c), .int .i64 (b + d)]) (by simp [results, Try.results90, go_sem]) rfl ⟨rfl, ?_⟩
  repeat (first | exact Below.refl _ _ | refine Below.alloc ?_ (by simp; try omega) _ | refine Below.setCell ?_ (by simp) _ )
theorem tms_bd {x y n : Int} (h1 : 0 ≤ x) (h2 : x ≤ y) (h3 : y ≤ 5000) (h4 : -10000 ≤ n) (h5 : n ≤ 10000) : -50000000 ≤ x * n ∧ x * n ≤ 50000000 ∧ -50000000 ≤ y * n ∧ y * n ≤ 50000000 := by
  have key : ∀ z : Int, 0 ≤ z → z ≤ 5000 → -50000000 ≤ z * n ∧ z * n ≤ 50000000 := by
    intro z hz1 hz2
    have a := Int.mul_le_mul_of_nonneg_left h5 hz1
    have b := Int.mul_le_mul_of_nonneg_left h4 hz1
    omega
  exact ⟨(key x h1 (by omega)).1, (key x h1 (by omega)).2, (key y (by omega) h3).1, (key y (by omega) h3).2⟩
theorem times_any (x y n : Int) (w : World) (h1 : 0 ≤ x) (h2 : x ≤ y) (h3 : y ≤ 5000) (h4 : -10000 ≤ n) (h5 : n ≤ 10000) :
    Calls Try.prog 91 #[.agg #[.int .i64 x, .int .i64 y], .int .i64 n] w fun e w' => e = .returned (.agg #[.int .i64 (tms x y n).1, .int .i64 (tms x y n).2]) ∧ Below w.heap.size w w' := by
  obtain ⟨b1, b2, b3, b4⟩ := tms_bd h1 h2 h3 h4 h5
  have wx : IntKind.i64.wrap (x * n) = x * n := IntWalk.i64_in _ (by omega)
  have wy : IntKind.i64.wrap (y * n) = y * n := IntWalk.i64_in _ (by omega)
  by_cases hn : n < 0
  · have HT : Hid (tms x y n = (y * n, x * n)) := Lib.hid (by unfold tms; rw [if_pos hn])
    rw [HT.out]
    have hd : decide (n < 0) = true := by simpa using hn
    clear hn
    go_enter Try.func91, Try.ntmps91
    go_wp2
    refine bodyPost_ret (v := .agg #[.int .i64 (y * n), .int .i64 (x * n)]) (by simp [results, Try.results91, go_sem]) rfl ⟨rfl, ?_⟩
    repeat (first | exact Below.refl _ _ | refine Below.alloc ?_ (by simp; try omega) _ | refine Below.setCell ?_ (by simp) _ )
  · have HT : Hid (tms x y n = (x * n, y * n)) := Lib.hid (by unfold tms; rw [if_neg hn])
    rw [HT.out]
    have hd : decide (n < 0) = false := by simpa using hn
    clear hn
    go_enter Try.func91, Try.ntmps91
    go_wp2
    refine bodyPost_ret (v := .agg #[.int .i64 (x * n), .int .i64 (y * n)]) (by simp [results, Try.results91, go_sem]) rfl ⟨rfl, ?_⟩
    repeat (first | exact Below.refl _ _ | refine Below.alloc ?_ (by simp; try omega) _ | refine Below.setCell ?_ (by simp) _ )
theorem greatest_any (x y : Int) (b c : Nat) (t : TypeId) (w : World) (h : Bx w b t #[.int .i64 y]) : Calls Try.prog 92 #[.int .i64 x, .slice (some ⟨b, 0, none⟩) 1 c] w fun e w' => e = .returned (.int .i64 (max x y)) ∧ Below w.heap.size w w' := by
  obtain ⟨c0, cf, cz⟩ := h.one
  go_enter Try.func92, Try.ntmps92
  go_wp2_with fail
  go_loopw [0, 9] (fun f i wr => ∃ k : Nat, i = .int .i64 k ∧ k ≤ 1 ∧ f = .int .i64 (if k = 0 then x else max x y) ∧ wr = w) (fun _ i _ => 1 - (intOf i).toNat)
  case atStart => exact ⟨0, rfl, by omega, rfl, by simp⟩
  case round =>
    obtain ⟨k, rfl, hk, rfl, rfl⟩ := hrel
    by_cases hk0 : k = 0
    · subst hk0
      go_wp2_with fail
      go_roundw
      case rel => exact ⟨1, by go_num, by omega, by first | rfl | (simp; done) | (simp; omega), by first | trivial | rfl⟩
      case measure => simp [intOf]
    · obtain rfl : k = 1 := by omega
      go_wp2_with fail
      go_ret
      exact ⟨by simp, Below.refl _ _⟩
theorem verdictOf_any (n a b : Nat) (w : World) : Calls Try.prog 73 #[.int .i64 n, .int .i64 a, .int .i64 b] w fun e w' => e = .returned (.int .i64 (verdM n a b)) ∧ Below w.heap.size w w' := by
  unfold verdM
  by_cases h1 : b = n
  · have e1 : ((b : Int) == (n : Int)) = true := by simp; omega
    rw [if_pos h1]
    clear h1
    go_enter Try.func73, Try.ntmps73
    go_wp2
    go_ret
    exact ⟨rfl, Below.refl _ _⟩
  · have e1 : ((b : Int) == (n : Int)) = false := by simp; omega
    rw [if_neg h1]
    clear h1
    by_cases h2 : a < n
    · have e2 : decide ((a : Int) < (n : Int)) = true := by simp; omega
      rw [if_pos h2]
      go_enter Try.func73, Try.ntmps73
      go_wp2
      go_ret
      exact ⟨rfl, Below.refl _ _⟩
    · have e2 : decide ((a : Int) < (n : Int)) = false := by simp; omega
      rw [if_neg h2]
      go_enter Try.func73, Try.ntmps73
      go_wp2
      go_ret
      exact ⟨rfl, Below.refl _ _⟩
theorem aboard_any (v : Vg) (p : Vp) (A : Option Addr) (sn sc : Nat) (w : World) : Calls Try.prog 85 #[.agg (vcs v p), .slice A sn sc] w fun e w' => (∃ gs gv : Nat, e = .returned (.func (.func 103) #[] #[.pointer (some ⟨gs, 0, none⟩), .pointer (some ⟨gv, 0, none⟩)]) ∧ Bx w' gs 27 #[.slice A sn sc] ∧ Bx w' gv 26 (vcs v p) ∧ w.heap.size ≤ gs ∧ w.heap.size ≤ gv) ∧ Below w.heap.size w w' := by
  have k1 := (Bx.new w 26 (vcs v p)).alloc (.cells #[.slice A sn sc] 27)
  have k2 := Bx.at (w.alloc (.cells (vcs v p) 26)) 27 #[.slice A sn sc] (n := w.heap.size + 1) (by simp)
  have B0 := ((Below.refl w.heap.size w).alloc (Nat.le_refl _) (.cells (vcs v p) 26)).alloc (by simp) (.cells #[.slice A sn sc] 27)
  rw [vcs_def] at k1 k2 B0 ⊢
  go_enter Try.func85, Try.ntmps85
  go_wp2
  go_ret
  exact ⟨⟨w.heap.size + 1, w.heap.size, by simp, k2, k1, by omega, by omega⟩, B0⟩
set_option maxRecDepth 100000 in
set_option maxHeartbeats 1000000 in
theorem isLevel_any (v : Vg) (p : Vp) (a : Int × Int) (w : World) (h1 : -1000000000 ≤ a.1) (h2 : a.1 ≤ 1000000000) (ht : 0 ≤ v.tr ∧ v.tr ≤ 5000) : Calls Try.prog 58 #[.agg (vcs v p), .agg #[.int .i64 a.1, .int .i64 a.2]] w fun e w' => e = .returned (.bool (lvlOk v a)) ∧ Below w.heap.size w w' := by
  have k1 := (Bx.new w 26 (vcs v p)).alloc (.cells #[.int .i64 a.1, .int .i64 a.2] 41)
  have k2 := Bx.at (w.alloc (.cells (vcs v p) 26)) 41 #[.int .i64 a.1, .int .i64 a.2] (n := w.heap.size + 1) (by simp)
  have B0 := ((Below.refl w.heap.size w).alloc (Nat.le_refl _) (.cells (vcs v p) 26)).alloc (by simp) (.cells #[.int .i64 a.1, .int .i64 a.2] 41)
  have wa : IntKind.i64.wrap (-a.1) = -a.1 := IntWalk.i64_in _ (by omega)
  have wt : IntKind.i64.wrap (1000 * v.tr) = 1000 * v.tr := IntWalk.i64_in _ (by omega)
  rw [vcs_def] at k1 k2 B0 ⊢
  obtain ⟨V, hV⟩ : ∃ V, (w.alloc (.cells #[.int .i64 v.li, .int .i64 v.un, .int .i64 v.tr, .slice p.HA p.hn p.hc, .int .i64 v.le, .slice p.SA p.sn p.sc, .slice p.LA p.ln p.lc] 26)).alloc (.cells #[.int .i64 a.1, .int .i64 a.2] 41) = V := ⟨_, rfl⟩
  rw [hV] at k1 k2 B0
  have HV := Lib.hid hV
  clear hV
  obtain ⟨hq, hhq⟩ : ∃ q, lvlOk v a = q := ⟨_, rfl⟩
  have HQ := Lib.hid hhq
  rw [hhq]
  clear hhq
  go_enter Try.func58, Try.ntmps58
  go_wp2_with fail
  rw [HV.out]
  refine AnyG.startC (by kernel_rfl) ?_
  refine AnyG.takeP (i := 0) (v := ?_) rfl (by kernel_rfl) (fun _ _ _ h => h) rfl ?_ ?_
  rotate_left
  · (intro w'; go_simp; try with_reducible rfl)
  try simp only [Act.put, List.getElem_toArray, List.getElem_cons_succ, List.getElem_cons_zero, List.setIfInBounds_toArray, List.set_cons_zero, List.set_cons_succ]
  refine AnyG.takeP (i := 2) (v := ?_) rfl (by kernel_rfl) (fun _ _ _ h => h) rfl ?_ ?_
  rotate_left
  · (intro w'; go_simp; try with_reducible rfl)
  try simp only [Act.put, List.getElem_toArray, List.getElem_cons_succ, List.getElem_cons_zero, List.setIfInBounds_toArray, List.set_cons_zero, List.set_cons_succ]
  refine AnyG.takeP (i := 7) (v := ?_) rfl (by kernel_rfl) (fun _ _ _ h => h) rfl ?_ ?_
  rotate_left
  · (intro w'; go_simp; try with_reducible rfl)
  try simp only [Act.put, List.getElem_toArray, List.getElem_cons_succ, List.getElem_cons_zero, List.setIfInBounds_toArray, List.set_cons_zero, List.set_cons_succ]
  refine AnyG.enter (fun w' : World => Bx w' w.heap.size 26 #[.int .i64 v.li, .int .i64 v.un, .int .i64 v.tr, .slice p.HA p.hn p.hc, .int .i64 v.le, .slice p.SA p.sn p.sc, .slice p.LA p.ln p.lc] ∧ Bx w' (w.heap.size + 1) 41 #[.int .i64 a.1, .int .i64 a.2] ∧ Below w.heap.size w w') (fun i => true) ?_
  have hS : (fun w' : World => Bx w' w.heap.size 26 #[.int .i64 v.li, .int .i64 v.un, .int .i64 v.tr, .slice p.HA p.hn p.hc, .int .i64 v.le, .slice p.SA p.sn p.sc, .slice p.LA p.ln p.lc] ∧ Bx w' (w.heap.size + 1) 41 #[.int .i64 a.1, .int .i64 a.2] ∧ Below w.heap.size w w') (World.drew _) := ⟨k1.drew, k2.drew, B0.drew⟩
  refine AnyG.takeC (i := 1) (v := ?_) rfl (by kernel_rfl) (fun _ _ _ h => h) rfl ?_ hS ?_
  rotate_left
  · (intro w' hSw; (try dsimp only at hSw); obtain ⟨z0, z1, zf, zz⟩ := hSw.2.1.two; go_simp; try with_reducible rfl)
  try simp only [Act.put, List.getElem_toArray, List.getElem_cons_succ, List.getElem_cons_zero, List.setIfInBounds_toArray, List.set_cons_zero, List.set_cons_succ]
  refine AnyG.takeC (i := 3) (v := ?_) rfl (by kernel_rfl) (fun _ _ _ h => h) rfl ?_ hS ?_
  rotate_left
  · (intro w' hSw; (try dsimp only at hSw); obtain ⟨z0, z1, zf, zz⟩ := hSw.2.1.two; go_simp; try with_reducible rfl)
  try simp only [Act.put, List.getElem_toArray, List.getElem_cons_succ, List.getElem_cons_zero, List.setIfInBounds_toArray, List.set_cons_zero, List.set_cons_succ]
  refine AnyG.takeC (i := 4) (v := ?_) rfl (by kernel_rfl) (fun _ _ _ h => h) rfl ?_ hS ?_
  rotate_left
  · (intro w' hSw; (try dsimp only at hSw); go_simp; try with_reducible rfl)
  try simp only [Act.put, List.getElem_toArray, List.getElem_cons_succ, List.getElem_cons_zero, List.setIfInBounds_toArray, List.set_cons_zero, List.set_cons_succ]
  refine AnyG.takeC (i := 8) (v := ?_) rfl (by kernel_rfl) (fun _ _ _ h => h) rfl ?_ hS ?_
  rotate_left
  · (intro w' hSw; (try dsimp only at hSw); obtain ⟨x0, x1, x2, x3, x4, x5, x6, xf, xz⟩ := hSw.1.seven; go_simp; try with_reducible rfl)
  try simp only [Act.put, List.getElem_toArray, List.getElem_cons_succ, List.getElem_cons_zero, List.setIfInBounds_toArray, List.set_cons_zero, List.set_cons_succ]
  refine AnyG.takeC (i := 9) (v := ?_) rfl (by kernel_rfl) (fun _ _ _ h => h) rfl ?_ hS ?_
  rotate_left
  · (intro w' hSw; (try dsimp only at hSw); go_simp; try with_reducible rfl)
  try simp only [Act.put, List.getElem_toArray, List.getElem_cons_succ, List.getElem_cons_zero, List.setIfInBounds_toArray, List.set_cons_zero, List.set_cons_succ]
  refine AnyG.one (i := 5) (by kernel_rfl) rfl rfl ?_
  have kb := Bx.new V.drew 3 #[.int .i64 (-a.1)]
  go_simp
  refine Onward.on ⟨hS.1.alloc _, hS.2.1.alloc _, hS.2.2.alloc hS.2.2.size _⟩ (fun hS2 => ?_)
  clear hS
  have hS := hS2
  clear hS2
  try simp only [Act.put, List.getElem_toArray, List.getElem_cons_succ, List.getElem_cons_zero, List.setIfInBounds_toArray, List.set_cons_zero, List.set_cons_succ]
  refine AnyG.one (i := 6) (by kernel_rfl) rfl rfl ?_
  go_simp
  refine (greatest_any a.2 (-a.1) _ _ _ _ kb).mono ?_
  rintro e6 y6 ⟨rfl, hb6⟩
  refine Onward.on ⟨hS.1.call hb6, hS.2.1.call hb6, hS.2.2.trans (hb6.mono hS.2.2.size)⟩ (fun hS2 => ?_)
  clear hS
  have hS := hS2
  clear hS2
  try simp only [Act.put, List.getElem_toArray, List.getElem_cons_succ, List.getElem_cons_zero, List.setIfInBounds_toArray, List.set_cons_zero, List.set_cons_succ]
  refine AnyG.takeC (i := 10) (v := ?_) rfl (by kernel_rfl) (fun _ _ _ h => h) rfl ?_ hS ?_
  rotate_left
  · (intro w' hSw; (try dsimp only at hSw); go_simp; try with_reducible rfl)
  try simp only [Act.put, List.getElem_toArray, List.getElem_cons_succ, List.getElem_cons_zero, List.setIfInBounds_toArray, List.set_cons_zero, List.set_cons_succ]
  refine AnyG.takeC (i := 11) (v := ?_) rfl (by kernel_rfl) (fun _ _ _ h => h) rfl ?_ hS ?_
  rotate_left
  · (intro w' hSw; (try dsimp only at hSw); go_simp; try with_reducible rfl)
  try simp only [Act.put, List.getElem_toArray, List.getElem_cons_succ, List.getElem_cons_zero, List.setIfInBounds_toArray, List.set_cons_zero, List.set_cons_succ]
  refine AnyG.done (by kernel_rfl) ?_ _
  go_simp
  go_wp2_with fail
  go_ret
  exact ⟨ret_bool (by rw [← HQ.out]; rfl), hS.2.2⟩
end Go.Proofs.Ytfcpjkofbejleaa
