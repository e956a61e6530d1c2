/- Ranges over an iterator that hands out slices of its own making: what is read at what is handed out is told to the loop. -/
import Derived.Test.YtfcpjkofbejleaaLi2M
set_option linter.unusedSimpArgs false
set_option linter.unusedVariables false
namespace Go.Proofs.Ytfcpjkofbejleaa
open Go Go.RowKit Go.Shelf
/-- All blocks of cells but two lie as they lay. -/
structure Keep2 (b c : Nat) (A B : World) : Prop where
  size : A.heap.size ≤ B.heap.size
  same : ∀ (k : Nat) (cs : Array Value) (t : TypeId) (f : Nat × Nat), k ≠ b → k ≠ c → A.heap[k]? = some (.cells cs t f) → B.heap[k]? = some (.cells cs t f)
section
variable {b c : Nat} {A B C : World}
theorem Keep2.refl (b c : Nat) (A : World) : Keep2 b c A A := ⟨Nat.le_refl _, fun _ _ _ _ _ _ h => h⟩
theorem Keep2.trans (h : Keep2 b c A B) (k : Keep2 b c B C) : Keep2 b c A C := ⟨Nat.le_trans h.size k.size, fun i cs t f h1 h2 e => k.same i cs t f h1 h2 (h.same i cs t f h1 h2 e)⟩
theorem Keep2.below (h : Below A.heap.size A B) : Keep2 b c A B := ⟨h.size, fun k cs t f _ _ e => (h.block k (Array.getElem?_eq_some_iff.1 e).1).trans e⟩
theorem Keep2.put (W : World) (l : Nat) (o o' : Obj) (h : W.heap[l]? = some o) (ho : o.isCells = false) : Keep2 b c W (W.putObj l o') :=
  ⟨by simp [World.putObj], fun k cs t f _ _ e => by
    by_cases hk : k = l
    · subst hk; rw [h] at e; cases e; cases ho
    · exact (World.putObj_heap_other hk).trans e⟩
theorem Keep2.set1 (W : World) (i : Nat) (v : Value) : Keep2 b c W (W.setCell ⟨b, i, none⟩ v) :=
  ⟨by simp [World.setCell], fun k cs t f h1 _ e => (Below.heap_setCell W ⟨b, i, none⟩ v k h1).trans e⟩
theorem Keep2.set2 (W : World) (i : Nat) (v : Value) : Keep2 b c W (W.setCell ⟨c, i, none⟩ v) :=
  ⟨by simp [World.setCell], fun k cs t f _ h2 e => (Below.heap_setCell W ⟨c, i, none⟩ v k h2).trans e⟩
theorem Keep2.drew (h : Keep2 b c A B) : Keep2 b c A B.drew := ⟨h.size, h.same⟩
theorem Keep2.bx (h : Keep2 b c A B) {g t : Nat} {cs : Array Value} (k : Bx A g t cs) (h1 : g ≠ b) (h2 : g ≠ c) : Bx B g t cs := h.same g cs t (0, 0) h1 h2 k
theorem Keep2.cell (h : Keep2 b c A B) {p : Addr} {v : Value} (h1 : p.block ≠ b) (h2 : p.block ≠ c) (k : A.cell? p = some v) : B.cell? p = some v := by
  unfold World.cell? at k ⊢
  split at k
  · rename_i cs t f e
    rw [h.same _ _ _ _ h1 h2 e]
    exact k
  · cases k
theorem Keep2.sl (h : Keep2 b c A B) {X s : Nat} {P : Option Addr} {xs : List (List Value)} (k : Sl A X s P xs) (h1 : X ≤ b) (h2 : X ≤ c) : Sl B X s P xs := fun i r hr => by
  obtain ⟨ad, e1, e2, e3⟩ := k i r hr
  exact ⟨ad, e1, e2, fun j u hu => h.cell (by rw [add_block, add_block]; omega) (by rw [add_block, add_block]; omega) (e3 j u hu)⟩
theorem Keep2.sis (h : Keep2 b c A B) {X : Nat} {P : Option Addr} {ss : List Si} (k : SisAt A X P ss) (h1 : X ≤ b) (h2 : X ≤ c) : SisAt B X P ss := by
  obtain ⟨rs, e1, e2, e3⟩ := k.rows
  refine ⟨rs, h.sl e1 h1 h2, e2, fun j r s hr hs => ?_⟩
  obtain ⟨A', c', e, h5, h4⟩ := e3 j r s hr hs
  exact ⟨A', c', e, h5, h.sl h4 h1 h2⟩
theorem Keep2.voy (h : Keep2 b c A B) {X : Nat} {v : Vg} {p : Vp} (k : VoyAt A X v p) (h1 : X ≤ b) (h2 : X ≤ c) : VoyAt B X v p := ⟨k.hl, k.sl, k.ll, h.sl k.hs h1 h2, h.sis k.ss h1 h2, h.sl k.ls h1 h2⟩
theorem Keep2.own (h : Keep2 b c A B) {base : Nat} {e : TypeId} {s n : Nat} {v : Value} {xs : List Value} (k : A.ownsRow base e s v n xs) (h1 : b < base) (h2 : c < base) : B.ownsRow base e s v n xs := by
  refine ⟨k.1, ?_⟩
  rcases k.2 with e1 | ⟨g, cap, cur, e1, e2, e3, e4⟩
  · exact .inl e1
  · exact .inr ⟨g, cap, cur, e1, e2, h.same g cur e (0, 0) (by omega) (by omega) e3, e4⟩
end
/-- What new blocks do not disturb. -/
def Abb {β : Type} (J : β → World → Prop) : Prop := ∀ s A C, J s A → Below A.heap.size A C → J s C
/-- The contract of an iterator that hands out what it has made: Rd is what is read there. -/
def SeqRd {α : Type} (F : Fence) (n : Nat) (P : Program) (gf : Nat) (lb : Array Value) (encs : α → Array Value) (Kp : World → World → Prop) (Rd : α → World → Prop) (S : List α → Prop) (N : Nat) (w : World) : Prop :=
  ∀ (l : Nat) (J : List α → World → Prop) (W : World), Below w.heap.size w W → Abb J →
    (∀ pre x W1, J pre W1 → Rd x W1 → pre.length < N → YieldAt F (n - 1) P l (encs x) W1 fun e W' => e = .returned (.bool true) ∧ J (pre ++ [x]) W' ∧ Kp W1 W') →
    J [] W →
    CallsIn F n P gf (#[.func (.yield l) #[] #[]] ++ lb) W fun e W' => (∃ v, e = .returned v) ∧ ∃ xs, S xs ∧ J xs W'
section
variable {F : Fence} {n : Nat} {P : Program} {w : World}
theorem range_rd {α : Type} {g : Operand} {ps : Array Tmp} {assign body : Code} {Q : Exit → Act → World → Prop} {a : Act}
    (hro : F.round = none) (h1 : 1 ≤ n) {gf : Nat} {lb : Array Value} (hg : a.eval g = .func (.func gf) #[] lb) (hFg : F.fn gf) (eg : ∀ args w, (callFunc gf args).run P w = .ok (.enter gf args) w)
    {encs : α → Array Value} {Kp : World → World → Prop} {Rd : α → World → Prop} {S : List α → Prop} {N : Nat} {w0 : World} (hseq : SeqRd F (n - 1) P gf lb encs Kp Rd S N w0)
    (hKt : ∀ {A B C : World}, Kp A B → Kp B C → Kp A C) (hKb : ∀ (W : World) (l : Nat) (o o' : Obj), w.heap.size ≤ l → W.heap[l]? = some o → o.isCells = false → Kp W (W.putObj l o')) (hb0 : Below w0.heap.size w0 w) (hps : ∀ x, (encs x).size = ps.size)
    (hRd : ∀ (x : α) (W : World) (l : Nat) (o o' : Obj), W.heap[l]? = some o → o.isCells = false → Rd x W → Rd x (W.putObj l o'))
    (I : List α → World → Prop) (hI : Abb I) (hIp : ∀ (s : List α) (W : World) (l : Nat) (o o' : Obj), w.heap.size ≤ l → W.heap[l]? = some o → o.isCells = false → I s W → I s (W.putObj l o')) (h0 : I [] w)
    (Fr : α → Act)
    (hassign : ∀ (l : Nat) (x : α) (W : World) (K : Act → World → Prop), K (Fr x) W →
      assign.wpIn (F.inRound l) (n - 1 - 1) P (Exit.then K (fun _ _ _ => False)) { tmps := (ps.zip (encs x)).foldl (fun t (p, v) => t.setIfInBounds p v) a.tmps, defers := [] } W)
    (hbody : ∀ (l : Nat) (pre : List α) (x : α) (W : World), w.heap.size ≤ l → (∃ r, W.heap[l]? = some (.loop r)) → I pre W → Rd x W → pre.length < N →
      body.wpIn (F.inRound l) (n - 1 - 1) P (fun e _ W' => e = .normal ∧ KeepsFrom w.heap.size W W' ∧ Kp W W' ∧ I (pre ++ [x]) W') (Fr x) W)
    (hdone : ∀ (D : Nat) (xs : List α) (W : World), w.heap.size ≤ D → S xs → I xs W → W.heap[D]? = some (.deferred (some [])) → Q .normal { a with defers := { target := .collected D, args := #[] } :: a.defers } W) :
    (Code.rangeFunc g ps assign body).wpIn F n P Q a w := by
  refine wpIn_rangeFunc ?_
  intro fn hfn
  rw [hro]
  generalize hR : (fun st : LoopState => ({ state := st, pending := none, fn, tmps := a.tmps, params := ps, assign, body, defers := w.heap.size } : Loop)) = R
  obtain ⟨l, hl⟩ : ∃ l, w.heap.size + 1 = l := ⟨_, rfl⟩
  obtain ⟨W1, hW1⟩ : ∃ W1, (w.alloc (.deferred (some []))).alloc (.loop (R .ready)) = W1 := ⟨_, rfl⟩
  have hL1 : W1.heap[l]? = some (.loop (R .ready)) := by
    have := World.alloc_heap_new (w.alloc (.deferred (some []))) (.loop (R .ready))
    rw [World.size_alloc, hl, hW1] at this
    exact this
  have hB1 : Below w.heap.size w W1 := by rw [← hW1]; exact ((Below.refl _ w).alloc (Nat.le_refl _) _).alloc (by simp) _
  have hD1 : W1.heap[w.heap.size]? = some (.deferred (some [])) := by
    rw [← hW1]; exact (Below.heap_alloc _ _ _ (by simp)).trans (World.alloc_heap_new w _)
  refine ⟨l, [{ target := .collected w.heap.size, args := #[] }], W1, { target := .fn (.func gf) lb, args := #[.func (.yield l) #[] #[]] }, W1, gf, #[.func (.yield l) #[] #[]] ++ lb, W1, ?_, ?_, ?_, ?_, fun _ => h1, ?_⟩
  · have := run_enterLoop_outer (P := P) (w := w) fn a.tmps ps assign body
    rw [← hW1, ← hR, ← hl]
    exact this
  · simp only [resolve, hg]
    simp [go_sem]
  · intro f' hf'
    simp [Target.leads] at hf'
    subst hf'
    exact hFg
  · simp [invoke, go_sem, eg]
  · refine (hseq l (fun pre W => I pre W ∧ W.heap[l]? = some (.loop (R .ready)) ∧ W.heap[w.heap.size]? = some (.deferred (some []))) W1 (hb0.trans (hB1.mono hb0.size)) ?_ ?_ ?_).mono ?_
    · rintro s A C ⟨i1, i2, i3⟩ hb
      exact ⟨hI s A C i1 hb, (hb.block l (Array.getElem?_eq_some_iff.1 i2).1).trans i2, (hb.block _ (Array.getElem?_eq_some_iff.1 i3).1).trans i3⟩
    · rintro pre x W ⟨i1, i2, i3⟩ hrd hlen
      have hy := run_yield (P := P) (args := encs x) i2 (by rw [← hR]; exact hps x)
      rw [← hR] at hy
      refine ⟨fn, _, assign, body, hy, roundIn_of_wpIn hfn (hassign l x W _ ?_)⟩
      have hlt : l < W.heap.size := (Array.getElem?_eq_some_iff.1 i2).1
      have hbegin := run_beginRound (P := P) i2 (by rw [← hR])
      refine ⟨_, hbegin, ?_⟩
      have hLb : (W.putObj l (.loop { R .ready with state := .busy })).heap[l]? = some (.loop { R .ready with state := .busy }) := World.putObj_heap_same hlt
      have hDb : (W.putObj l (.loop { R .ready with state := .busy })).heap[w.heap.size]? = some (.deferred (some [])) := (World.putObj_heap_other (by omega)).trans i3
      have iB := hIp pre W l _ (.loop { R .ready with state := .busy }) (by omega) i2 rfl i1
      refine wpIn_mono (hbody l pre x _ (by omega) ⟨_, hLb⟩ iB (hRd x W l _ _ i2 rfl hrd) hlen) ?_
      rintro e a3 W3 ⟨rfl, k3, kp3, i3'⟩
      have hLc : W3.heap[l]? = some (.loop { R .ready with state := .busy }) := k3.same l _ (by omega) hLb rfl
      have hDc : W3.heap[w.heap.size]? = some (.deferred (some [])) := k3.same _ _ (Nat.le_refl _) hDb rfl
      have hend := run_endRound (P := P) none hLc
      refine ⟨_, _, hend, rfl, ⟨hIp _ W3 l _ _ (by omega) hLc rfl i3', ?_, (World.putObj_heap_other (by omega)).trans hDc⟩, hKt (hKb W l _ _ (by omega) i2 rfl) (hKt kp3 (hKb W3 l _ _ (by omega) hLc rfl))⟩
      rw [World.putObj_heap_same (Array.getElem?_eq_some_iff.1 hLc).1, ← hR]
      rfl
    · exact ⟨hI [] w W1 h0 hB1, hL1, hD1⟩
    · rintro e W2 ⟨⟨v, rfl⟩, xs, hS, ⟨i1, i2, i3⟩⟩
      have hend := run_endLoop (P := P) i2 (by rw [← hR]; simp)
      have hpn : (R .ready).pending = none := by rw [← hR]
      rw [hpn] at hend
      exact ⟨none, _, hend, hdone w.heap.size xs _ (Nat.le_refl _) hS (hIp xs W2 l _ _ (by omega) i2 rfl i1) ((World.putObj_heap_other (by omega)).trans i3)⟩
end
end Go.Proofs.Ytfcpjkofbejleaa

/-! The stowage that comes next. -/
namespace Go.Proofs.Ytfcpjkofbejleaa
open Go Go.RowKit
theorem aft_none {last : Int} : ∀ {s : List Int}, (∀ x ∈ s, last ≤ x) → aft last s = none
  | [], _ => rfl
  | x :: r, h => by
    unfold aft
    rw [aft_none (s := r) fun y hy => h y (by simp [hy])]
    have := h x (by simp)
    exact if_neg (by omega)
theorem aft_at {last : Int} : ∀ {s : List Int} {k : Nat} {x : Int}, s[k]? = some x → x < last → (∀ (j : Nat) (y : Int), k < j → s[j]? = some y → last ≤ y) → aft last s = some (s.take k ++ (x + 1) :: List.replicate (s.length - k - 1) (-1))
  | [], k, x, h, _, _ => by simp at h
  | y :: r, 0, x, h, hx, hall => by
    simp at h
    subst h
    have hn : aft last r = none := aft_none fun z hz => by
      obtain ⟨j, hj⟩ := List.getElem?_of_mem hz
      exact hall (j + 1) z (by omega) (by simpa using hj)
    unfold aft
    rw [hn]
    show (if y < last then _ else _) = _
    rw [if_pos hx]
    simp
  | y :: r, k + 1, x, h, hx, hall => by
    have ih := aft_at (s := r) (k := k) (x := x) (by simpa using h) hx fun j z hj hz => hall (j + 1) z (by omega) (by simpa using hz)
    unfold aft
    rw [ih]
    simp only [List.take_succ_cons, List.cons_append, List.length_cons]
    rw [show r.length + 1 - (k + 1) - 1 = r.length - k - 1 by omega]
/-- A list whose last numbers are set back. -/
def back (s : List Int) (k : Nat) : List Int := s.take k ++ List.replicate (s.length - k) (-1)
theorem back_len (s : List Int) (k : Nat) : (back s k).length = s.length := by
  unfold back
  simp; omega
theorem back_all (s : List Int) : back s s.length = s := by unfold back; simp
theorem back_get {s : List Int} {k j : Nat} (hj : j < k) (hk : k ≤ s.length) : (back s k)[j]? = s[j]? := by
  unfold back
  rw [List.getElem?_append_left (by simp; omega), List.getElem?_take_of_lt hj]
theorem back_set {s : List Int} {k : Nat} (hk : k < s.length) : (back s (k + 1)).set k (-1) = back s k := by
  unfold back
  rw [List.take_succ_eq_append_getElem hk, List.append_assoc, List.set_append_right _ _ (by simp; omega), List.length_take_of_le (by omega), Nat.sub_self]
  rw [show s.length - k = s.length - (k + 1) + 1 by omega, List.replicate_succ]
  rfl
theorem back_inc {s : List Int} {k : Nat} {x : Int} (hk : k < s.length) : (back s (k + 1)).set k (x + 1) = s.take k ++ (x + 1) :: List.replicate (s.length - k - 1) (-1) := by
  unfold back
  rw [List.take_succ_eq_append_getElem hk, List.append_assoc, List.set_append_right _ _ (by simp; omega), List.length_take_of_le (by omega), Nat.sub_self]
  rw [show s.length - (k + 1) = s.length - k - 1 by omega]
  rfl
theorem inr_flat (L : List Int) : (inr L).flatten = L.map fun x => Value.int .i64 x := by
  unfold inr
  induction L with
  | nil => rfl
  | cons x L ih => simp [ih]
theorem inr_set (L : List Int) (k : Nat) (x : Int) : (inr L).flatten.set k (.int .i64 x) = (inr (L.set k x)).flatten := by
  rw [inr_flat, inr_flat, List.map_set]
def aftPost (w : World) (n : Nat) (r : Option (List Int)) (e : Ending) (w' : World) : Prop := match r with
  | none => e = .returned (.tuple #[.slice none 0 0, .bool false])
  | some t => ∃ B c', e = .returned (.tuple #[.slice (some B) n c', .bool true]) ∧ w'.ownsRow w.heap.size 3 1 (.slice (some B) n c') n (inr t).flatten
set_option maxRecDepth 100000 in
set_option maxHeartbeats 2000000 in
theorem after_any (last : Int) (A : Addr) (n c : Nat) (s : List Int) (w : World) (hn : n ≤ 1000) (hl : s.length = n) (h1 : -1 ≤ last) (h2 : last ≤ 1000) (hge : ∀ (j : Nat) (y : Int), s[j]? = some y → -1 ≤ y) (hA : Sl w w.heap.size 1 (some A) (inr s)) :
    Calls Try.prog 102 #[.slice (some A) n c, .int .i64 last] w fun e w' => aftPost w n (aft last s) e w' ∧ Below w.heap.size w w' := by
  have hcl := clone_any A n c (inr s).flatten w hn (by rw [inr_flat]; simp [hl]) (by rw [inr_flat]; intro u hu; obtain ⟨x, _, rfl⟩ := List.mem_map.1 hu; rfl) (by
    intro j u hj
    rw [inr_flat, List.getElem?_map] at hj
    cases hx : s[j]? with
    | none => rw [hx] at hj; cases hj
    | some x =>
      rw [hx] at hj
      simp only [Option.map_some, Option.some.injEq] at hj
      subst hj
      obtain ⟨hjl, e⟩ := List.getElem?_eq_some_iff.1 hx
      obtain ⟨ad, e1, _, e3⟩ := inr_at hA hjl
      cases e1
      rw [e] at e3
      exact e3)
  have HL := Lib.hid hl
  have hxge := Lib.hid hge
  have hnw : IntKind.i64.wrap ((n : Int) - 1) = (n : Int) - 1 := IntWalk.i64_in _ (by omega)
  clear hl hA hge
  go_enter Try.func102, Try.ntmps102
  go_wp2_with (first | (go_at_call 108; refine hcl.mono ?_; rintro e w1 ⟨⟨B, c1, rfl, ho⟩, hb⟩) | fail)
  go_loopw [7] (fun lv wr => ∃ (k : Nat) (z : Int), lv = .int .i64 z ∧ k ≤ n ∧ z = (k : Int) - 1 ∧ Hid (∀ (j : Nat) (y : Int), k ≤ j → s[j]? = some y → last ≤ y) ∧ wr.ownsRow w.heap.size 3 1 (.slice B n c1) n (inr (back s k)).flatten ∧ Below w.heap.size w wr) (fun lv _ => (intOf lv + 1).toNat)
  case atStart => exact ⟨n, (n : Int) - 1, rfl, Nat.le_refl _, rfl, Lib.hid (fun j y hj hy => by have := (List.getElem?_eq_some_iff.1 hy).1; rw [HL.out] at this; omega), by rw [← HL.out, back_all, HL.out]; exact ho, hb⟩
  case round =>
    clear ho hb hcl
    obtain ⟨k, z, rfl, hk, hz, hall, ho, hB⟩ := hrel
    by_cases hk0 : k = 0
    · have hzd : decide (0 ≤ z) = false := by simp; omega
      have HA : Hid (aft last s = none) := Lib.hid (aft_none fun x hx => by
        obtain ⟨j, hj⟩ := List.getElem?_of_mem hx
        exact hall.out j x (by omega) hj)
      clear hz hk0
      go_wp2_with fail
      exact bodyPost_ret (v := .tuple #[.slice none 0 0, .bool false]) (by simp [results, Try.results102, go_sem]) rfl ⟨by rw [HA.out]; rfl, hB⟩
    · obtain ⟨j, rfl⟩ : ∃ j, k = j + 1 := ⟨k - 1, by omega⟩
      obtain rfl : z = (j : Int) := by omega
      obtain ⟨q, rfl⟩ := own_some ho (by omega)
      have hjl : j < s.length := by rw [HL.out]; omega
      obtain ⟨x, hx⟩ : ∃ x, s[j]? = some x := ⟨_, List.getElem?_eq_getElem hjl⟩
      have hbl := back_len s (j + 1)
      have hbj : j < (back s (j + 1)).length := by rw [hbl]; exact hjl
      have q0 := own_num ho (by rw [hbl, HL.out]) hbj
      have hbx : (back s (j + 1))[j] = x := by
        have := back_get (s := s) (k := j + 1) (j := j) (by omega) (by omega)
        rw [hx, List.getElem?_eq_getElem hbj] at this
        simpa using this
      rw [hbx] at q0
      have qf := own_free ho
      have qz := (ho.lt q rfl).2
      have hqb := (ho.lt q rfl).1
      have hjn : j < n := by omega
      have hzd : decide (0 ≤ (j : Int)) = true := by simp
      have hjw : IntKind.i64.wrap ((j : Int) - 1) = (j : Int) - 1 := IntWalk.i64_in _ (by omega)
      have HX := Lib.hid hx
      have HN := Lib.hid hjl
      clear hz hk0 hbx hx
      by_cases hxl : x < last
      · have hxd : decide (x < last) = true := by simpa using hxl
        have hxb : -1 ≤ x ∨ x < -1 := by omega
        have HA : Hid (aft last s = some (s.take j ++ (x + 1) :: List.replicate (s.length - j - 1) (-1))) := Lib.hid (aft_at HX.out hxl fun i y hi hy => hall.out i y (by omega) hy)
        have hst := own_store ho j (.int .i64 (x + 1)) (by omega)
        rw [inr_set, back_inc HN.out] at hst
        have hxw : IntKind.i64.wrap (x + 1) = x + 1 := IntWalk.i64_in _ (by have := hxge.out _ _ HX.out; omega)
        go_wp2_with fail
        exact bodyPost_ret (v := .tuple #[.slice (some ⟨q, 0, none⟩) n c1, .bool true]) (by simp [results, Try.results102, go_sem]) rfl ⟨by rw [HA.out]; exact ⟨_, _, rfl, hst⟩, hB.setCell (p := ⟨q, j, none⟩) hqb _⟩
      · have hxd : decide (x < last) = false := by simpa using hxl
        have hall' : Hid (∀ (i : Nat) (y : Int), j ≤ i → s[i]? = some y → last ≤ y) := Lib.hid (fun i y hi hy => by
          by_cases e : i = j
          · subst e; rw [HX.out] at hy; cases hy; omega
          · exact hall.out i y (by omega) hy)
        have hst := own_store ho j (.int .i64 (-1)) (by omega)
        rw [inr_set, back_set HN.out] at hst
        go_wp2_with fail
        go_roundw
        case rel => exact ⟨j, (j : Int) - 1, rfl, by omega, rfl, hall', hst, hB.setCell (p := ⟨q, j, none⟩) hqb _⟩
        case measure => simp [intOf]
end Go.Proofs.Ytfcpjkofbejleaa

/-! Mathematics of truths, continued; Inside 40, fits 41, Part 46, depth 84. -/
namespace Go.Proofs.Ytfcpjkofbejleaa
open Go Go.RowKit
theorem trS_bd {f : Int → Hd → Int} {hs : List Hd} {M : Int} (hM : 0 ≤ M) : ∀ {Z : List (Int × Int)}, (∀ p ∈ Z, 0 ≤ p.2 → 0 ≤ f p.1 (hd hs p.2) ∧ f p.1 (hd hs p.2) ≤ M) → 0 ≤ trS f hs Z ∧ trS f hs Z ≤ M * Z.length
  | [], _ => by simp [trS]
  | p :: r, h => by
    have ih := trS_bd hM (Z := r) fun q hq => h q (by simp [hq])
    unfold trS at ih ⊢
    simp only [List.map_cons, List.sum_cons, List.length_cons]
    have e : M * ((r.length + 1 : Nat) : Int) = M * r.length + M := by rw [Int.natCast_succ, Int.mul_add, Int.mul_one]
    rw [e]
    split
    · have := h p (by simp) (by assumption)
      omega
    · omega
theorem mul_bd5 {a b : Int} (h1 : 0 ≤ a ∧ a ≤ 5000) (h2 : 0 ≤ b ∧ b ≤ 10000) : 0 ≤ a * b ∧ a * b ≤ 50000000 := by
  refine ⟨Int.mul_nonneg h1.1 h2.1, ?_⟩
  have a1 := Int.mul_le_mul_of_nonneg_right h1.2 h2.1
  omega
theorem tru_t {v : Vg} {x : Tru} (ho : v.Ok) (hx : TruOk v x) {n : Int} (hn : n ∈ x.ts) : 0 ≤ n ∧ n ≤ 5000 := by
  obtain ⟨i, hi, e⟩ := List.getElem_of_mem hn
  have hi2 : i < v.ls.length := by rw [← hx.tl]; exact hi
  have := hx.t i v.ls[i] n (List.getElem?_eq_getElem hi2) (by rw [List.getElem?_eq_getElem hi, e])
  have o := ho.ls _ (List.getElem_mem hi2)
  have := o.t0; have := o.t1
  omega
theorem tru_part {v : Vg} {x : Tru} {s : List Int} (h : StOk v s) (hx : TruOk v x) {k : Nat} (hk : k ≤ 6) : (0 ≤ trS (fun n h => n * h.bw) v.hs ((x.ts.zip s).take k) ∧ trS (fun n h => n * h.bw) v.hs ((x.ts.zip s).take k) ≤ 300000000) ∧ 0 ≤ trS (fun n h => n * h.st) v.hs ((x.ts.zip s).take k) ∧ trS (fun n h => n * h.st) v.hs ((x.ts.zip s).take k) ≤ 300000000 := by
  have hmem : ∀ p ∈ (x.ts.zip s).take k, p.1 ∈ x.ts ∧ p.2 ∈ s := fun p hp => List.of_mem_zip (List.mem_of_mem_take hp)
  have hl : ((x.ts.zip s).take k).length ≤ 6 := by simp; omega
  have a := trS_bd (f := fun n h => n * h.bw) (hs := v.hs) (M := 50000000) (by decide) (Z := (x.ts.zip s).take k) fun p hp h0 => mul_bd5 (tru_t h.ok hx (hmem p hp).1) (st_hd h (hmem p hp).2 h0).bw
  have b := trS_bd (f := fun n h => n * h.st) (hs := v.hs) (M := 50000000) (by decide) (Z := (x.ts.zip s).take k) fun p hp h0 => mul_bd5 (tru_t h.ok hx (hmem p hp).1) (st_hd h (hmem p hp).2 h0).st
  omega
theorem tru_w {v : Vg} {x : Tru} (ho : v.Ok) (hx : TruOk v x) {i : Nat} (hi : i < x.ws.length) : 0 ≤ x.ws[i] ∧ x.ws[i] ≤ 2880 := by
  have hi2 : i < v.ss.length := by rw [← hx.wl]; exact hi
  have := hx.w i v.ss[i] x.ws[i] (List.getElem?_eq_getElem hi2) (List.getElem?_eq_getElem hi)
  have o := ho.ss _ (List.getElem_mem hi2)
  have := o.t0; have := o.t1
  omega
/-- The levels of sill i with the depths that are. -/
def truL (v : Vg) (x : Tru) (i : Nat) : List (Int × Int) := ((v.ss[i]?.map fun s => s.lv.map Lv.fr).getD []).zip (x.ds[i]?.getD [])
theorem truS_at {v : Vg} {x : Tru} (hx : TruOk v x) {i : Nat} (hi : i < x.ws.length) : (truS v x)[i]? = some (x.ws[i], truL v x i) := by
  have h1 : i < v.ss.length := by rw [← hx.wl]; exact hi
  have h2 : i < x.ds.length := by rw [hx.dl]; exact h1
  have h3 : i < (x.ws.zip (v.ss.zip x.ds)).length := by simp; omega
  unfold truS truL
  rw [List.getElem?_map, List.getElem?_eq_getElem h3, List.getElem?_eq_getElem h1, List.getElem?_eq_getElem h2]
  simp
theorem salT_drop {v : Vg} {x : Tru} (hx : TruOk v x) {nd a : Int} {i : Nat} (hi : i < x.ws.length) : sal (slT nd ((truS v x).drop i)) a = match ovr (fun m => decide (nd ≤ 1000 * dpt (truL v x i) m)) (a + x.ws[i]) with
    | none => []
    | some m => m :: sal (slT nd ((truS v x).drop (i + 1))) m := by
  obtain ⟨h1, h2⟩ := List.getElem?_eq_some_iff.1 (truS_at hx hi)
  rw [List.drop_eq_getElem_cons h1, h2]
  rfl
theorem dpt_bd2 {L : List (Int × Int)} (h : ∀ p ∈ L, 0 ≤ p.2 ∧ p.2 ≤ 10000) (m : Int) : 0 ≤ dpt L m ∧ dpt L m ≤ 10000 := by
  unfold dpt
  suffices ∀ d : Int, 0 ≤ d ∧ d ≤ 10000 → 0 ≤ L.foldl (fun (d : Int) (x : Int × Int) => if x.1 ≤ m then x.2 else d) d ∧ L.foldl (fun (d : Int) (x : Int × Int) => if x.1 ≤ m then x.2 else d) d ≤ 10000 from this 0 (by omega)
  induction L with
  | nil => intro d hd; exact hd
  | cons l L ih =>
    intro d hd
    simp only [List.foldl_cons]
    refine ih (fun y hy => h y (by simp [hy])) _ ?_
    have o := h l (by simp)
    split
    · exact o
    · exact hd
theorem truL_bd {v : Vg} {x : Tru} (ho : v.Ok) (hx : TruOk v x) (i : Nat) : ∀ p ∈ truL v x i, 0 ≤ p.2 ∧ p.2 ≤ 10000 := by
  intro p hp
  unfold truL at hp
  have h2 := (List.of_mem_zip hp).2
  by_cases hi : i < v.ss.length
  · have hd : i < x.ds.length := by rw [hx.dl]; exact hi
    rw [List.getElem?_eq_getElem hd] at h2
    simp only [Option.getD_some] at h2
    obtain ⟨k, hk, e⟩ := List.getElem_of_mem h2
    have hr := hx.d i v.ss[i] x.ds[i] (List.getElem?_eq_getElem hi) (List.getElem?_eq_getElem hd)
    have hk2 : k < v.ss[i].lv.length := by rw [← hr.1]; exact hk
    have := hr.2 k v.ss[i].lv[k] p.2 (List.getElem?_eq_getElem hk2) (by rw [List.getElem?_eq_getElem hk, e])
    have o := (ho.ss _ (List.getElem_mem hi)).lv _ (List.getElem_mem hk2)
    have := o.d0; have := o.d1
    omega
  · rw [List.getElem?_eq_none (by rw [hx.dl]; omega)] at h2
    simp at h2
theorem dptT_take {lv : List Lv} {r : List Int} {m : Int} {k : Nat} (hk : k < lv.length) (hr : k < r.length) : dpt (((lv.map Lv.fr).zip r).take (k + 1)) m = if lv[k].fr ≤ m then r[k] else dpt (((lv.map Lv.fr).zip r).take k) m := by
  unfold dpt
  rw [List.take_succ_eq_append_getElem (by simp; omega), List.foldl_append]
  simp
/-- No minute from c on is passed before m, but m is. -/
theorem ovr_here {ok : Int → Bool} {c m : Int} (h1 : c ≤ m) (h2 : m ≤ 2880) (h3 : ok m = true) (h4 : ∀ k, c ≤ k → k < m → ok k = false) : ovr ok c = some m := ovr_some.2 ⟨h1, h2, h3, h4⟩
/-- A truth in memory. -/
structure FacAt (w : World) (B : Nat) (x : Tru) (TA WA DA : Option Addr) : Prop where
  ts : Sl w B 1 TA (inr x.ts)
  ws : Sl w B 1 WA (inr x.ws)
  ds : LsAt w B DA x.ds
theorem FacAt.call {w w' : World} {x : Tru} {TA WA DA : Option Addr} (h : FacAt w w.heap.size x TA WA DA) (hb : Below w.heap.size w w') : FacAt w' w'.heap.size x TA WA DA := ⟨h.ts.call hb, h.ws.call hb, h.ds.call hb⟩
theorem Bx.three2 {w : World} {g : Nat} {t : TypeId} {a b c : Value} (k : Bx w g t #[a, b, c]) : w.cell? ⟨g, 0, none⟩ = some a ∧ w.cell? ⟨g, 1, none⟩ = some b ∧ w.cell? ⟨g, 2, none⟩ = some c ∧ (∀ o, w.frozen? ⟨g, o, none⟩ = false) ∧ g < w.heap.size := k.three'
set_option maxRecDepth 100000 in
set_option maxHeartbeats 4000000 in
theorem tdepth_any (v : Vg) (p : Vp) (x : Tru) (TA : Option Addr) (tn tc : Nat) (WA : Option Addr) (wn wc : Nat) (DA : Option Addr) (dn dc : Nat) (i : Nat) (m : Int) (w : World) (ho : v.Ok) (hx : TruOk v x) (hi : i < p.sn) (hd : x.ds.length = dn) (hV : VoyAt w w.heap.size v p) (hF : FacAt w w.heap.size x TA WA DA) :
    Calls Try.prog 84 #[.agg #[.slice TA tn tc, .slice WA wn wc, .slice DA dn dc], .agg (vcs v p), .int .i64 i, .int .i64 m] w fun e w' => e = .returned (.int .i64 (dpt (truL v x i) m)) ∧ Below w.heap.size w w' := by
  have hi2 : i < v.ss.length := by rw [hV.sl]; exact hi
  have hi3 : i < x.ds.length := by rw [hx.dl]; exact hi2
  have hidn : i < dn := by rw [← hd]; exact hi3
  have hsn4 : p.sn ≤ 4 := by rw [← hV.sl]; exact ho.s4
  have hso := ho.ss _ (List.getElem_mem hi2)
  have hrl := (hx.d i v.ss[i] x.ds[i] (List.getElem?_eq_getElem hi2) (List.getElem?_eq_getElem hi3)).1
  have hE : dpt (truL v x i) m = dpt ((v.ss[i].lv.map Lv.fr).zip x.ds[i]) m := by
    unfold truL
    rw [List.getElem?_eq_getElem hi2, List.getElem?_eq_getElem hi3]
    rfl
  rw [hE]
  have B0 := ((Below.refl w.heap.size w).alloc (Nat.le_refl _) (.cells #[.slice TA tn tc, .slice WA wn wc, .slice DA dn dc] 62)).alloc (by simp) (.cells (vcs v p) 26)
  have k1 := (Bx.new w 62 #[.slice TA tn tc, .slice WA wn wc, .slice DA dn dc]).alloc (.cells (vcs v p) 26)
  have k2 := Bx.at (w.alloc (.cells #[.slice TA tn tc, .slice WA wn wc, .slice DA dn dc] 62)) 26 (vcs v p) (n := w.heap.size + 1) (by simp)
  obtain ⟨aV, G, gc, hSA, hab, z0, z1, z2, hgc, hG⟩ := (hV.call B0).ss.at_ hi2
  obtain ⟨aD, R, rc, hDA, hdb, y0, hR⟩ := (hF.call B0).ds i x.ds[i] (List.getElem?_eq_getElem hi3)
  rw [vcs_def] at k1 k2 B0 z0 z1 z2 hG hR y0 hab hdb ⊢
  obtain ⟨V, hVV⟩ : ∃ V, (w.alloc (.cells #[.slice TA tn tc, .slice WA wn wc, .slice DA dn dc] 62)).alloc (.cells #[.int .i64 v.li, .int .i64 v.un, .int .i64 v.tr, .slice p.HA p.hn p.hc, .int .i64 v.le, .slice p.SA p.sn p.sc, .slice p.LA p.ln p.lc] 26) = V := ⟨_, rfl⟩
  rw [hVV] at k1 k2 B0 z0 z1 z2 hG hR y0 hab hdb
  generalize v.ss[i] = b at *
  generalize x.ds[i] = r at *
  obtain ⟨gn, hgn⟩ : ∃ gn, b.lv.length = gn := ⟨_, rfl⟩
  rw [hgn] at z2 hgc hrl
  have hg6 : gn ≤ 6 := by rw [← hgn]; exact hso.l6
  have HGN := Lib.hid hgn
  rw [hrl] at y0
  have HRL := Lib.hid hrl
  subst hDA
  rw [hSA] at k2 hVV
  rw [hSA]
  have HVV := Lib.hid hVV
  have hzl : ((b.lv.map Lv.fr).zip r).length = gn := by simp; omega
  have HZL := Lib.hid hzl
  obtain ⟨l0, l1, l2, l3, l4, l5, l6, lf', lz⟩ := k2.seven
  obtain ⟨q0, q1, q2, qf, qz⟩ := k1.three2
  have K1 := k1
  have K2 := k2
  clear hVV hgn hrl hE hSA hzl hV hF k1 k2 hso
  go_enter Try.func84, Try.ntmps84
  go_wp2_with fail
  rw [HVV.out]
  go_loopw [9, 10] (fun nv kv wr => ∃ (k : Nat), kv = .int .i64 k ∧ k ≤ gn ∧ nv = .int .i64 (dpt (((b.lv.map Lv.fr).zip r).take k) m) ∧ Below V.heap.size V wr) (fun _ kv _ => gn - (intOf kv).toNat)
  case atStart => exact ⟨0, rfl, by omega, rfl, Below.refl _ _⟩
  case round =>
    clear l0 l1 l2 l3 l4 l5 l6 lf' lz q0 q1 q2 qf qz
    obtain ⟨k, rfl, hk, rfl, hB⟩ := hrel
    have k1r := K1.call hB
    have k2r := K2.call hB
    obtain ⟨l0, l1, l2, l3, l4, l5, l6, lf', lz⟩ := k2r.seven
    obtain ⟨q0, q1, q2, qf, qz⟩ := k1r.three2
    have w0 := (hB.cell (by rw [add_block]; exact hab)).trans z0
    have w1 := (hB.cell (by rw [add_block]; exact hab)).trans z1
    have w2 := (hB.cell (by rw [add_block]; exact hab)).trans z2
    have w3 := (hB.cell (by rw [add_block]; exact hdb)).trans y0
    have hGr := hG.call hB
    have hRr := hR.call hB
    by_cases hkn : k < gn
    · have hkb : k < b.lv.length := by rw [HGN.out]; exact hkn
      have hkr : k < r.length := by rw [HRL.out]; exact hkn
      obtain ⟨e1, rfl, f1, t0, t1, t2⟩ := lv_at hGr hkb
      obtain ⟨e2, rfl, f2, u0⟩ := inr_at hRr hkr
      have HT := Lib.hid (dptT_take (lv := b.lv) (r := r) (m := m) hkb hkr)
      generalize b.lv[k] = l at *
      generalize r[k] = rk at *
      have hkw : IntKind.i64.wrap ((k : Int) + 1) = (k : Int) + 1 := IntWalk.i64_in _ (by omega)
      clear hGr hRr K1 K2 k1r k2r hkb hkr
      by_cases hfm : l.fr ≤ m
      · go_wp2_with fail
        go_roundw
        case rel => exact ⟨k + 1, by go_num, by omega, by rw [HT.out, if_pos hfm], hB⟩
        case measure => simp [intOf]; omega
      · go_wp2_with fail
        go_roundw
        case rel => exact ⟨k + 1, by go_num, by omega, by rw [HT.out, if_neg hfm], hB⟩
        case measure => simp [intOf]; omega
    · obtain rfl : k = gn := by omega
      have hD : dpt (((b.lv.map Lv.fr).zip r).take k) m = dpt ((b.lv.map Lv.fr).zip r) m := by rw [List.take_of_length_le (by rw [HZL.out]; exact Nat.le_refl _)]
      rw [hD]
      have HD := Lib.hid hD
      clear hD K1 K2 k1r k2r hGr hRr
      go_wp2_with fail
      go_ret
      exact ⟨rfl, B0.trans (hB.mono B0.size)⟩
end Go.Proofs.Ytfcpjkofbejleaa

/-! Parts of rows of numbers. -/
namespace Go.Proofs.Ytfcpjkofbejleaa
open Go Go.RowKit
theorem sl_tail {w : World} {B : Nat} {G : Option Addr} {l : List Int} {k c : Nat} (h : Sl w B 1 G (inr l)) (hlc : l.length ≤ c) : Sl w B 1 (if c = k then G else Option.map (fun x => x.add k) G) (inr (l.drop k)) := by
  intro j r hr
  unfold inr at hr
  rw [List.getElem?_map, List.getElem?_drop] at hr
  cases hl : l[k + j]? with
  | none => rw [hl] at hr; cases hr
  | some x =>
    have hlt := (List.getElem?_eq_some_iff.1 hl).1
    obtain ⟨ad, e1, e2, e3⟩ := h (k + j) r (by unfold inr; rw [List.getElem?_map]; exact hr)
    rw [if_neg (by omega)]
    refine ⟨ad.add k, by rw [e1]; rfl, by rw [add_block]; exact e2, ?_⟩
    rw [add_add, Nat.mul_one]
    rw [Nat.mul_one] at e3
    exact e3
theorem sl_pre {w : World} {B : Nat} {G : Option Addr} {l : List Int} (h : Sl w B 1 G (inr l)) (m : Nat) : Sl w B 1 G (inr (l.take m)) := by
  intro j r hr
  unfold inr at hr
  rw [List.map_take] at hr
  by_cases hj : j < m
  · rw [List.getElem?_take_of_lt hj] at hr
    exact h j r hr
  · rw [List.getElem?_eq_none (by rw [List.length_take]; omega)] at hr
    cases hr
end Go.Proofs.Ytfcpjkofbejleaa
