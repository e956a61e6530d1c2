/- What a feed leaves; orders that are being made. -/
import Derived.Test.YtfcpjkofbejleaaFd
set_option linter.unusedSimpArgs false
set_option linter.unusedVariables false
namespace Go.Proofs.Ytfcpjkofbejleaa
open Go Go.RowKit
theorem own_ne {w : World} {b b' : Nat} {e e' : TypeId} {s s' : Nat} {v v' : Value} {n n' : Nat} {xs xs' : List Value} (h : w.ownsRow b e s v n xs) (h' : w.ownsRow b' e' s' v' n' xs') (hne : e ≠ e') : v.ownBlock = none ∨ v.ownBlock ≠ v'.ownBlock := by
  rcases h.2 with ⟨rfl, _⟩ | ⟨g, cap, cur, rfl, _, hg, _⟩
  · exact .inl rfl
  · refine .inr fun he => ?_
    rcases h'.2 with ⟨rfl, _⟩ | ⟨g', cap', cur', rfl, _, hg', _⟩
    · simp [Value.ownBlock] at he
    · simp only [Value.ownBlock, Option.some.injEq] at he
      subst he
      rw [hg] at hg'
      injection hg' with h1
      injection h1 with _ h2
      exact hne h2
theorem own_set {w : World} {b : Nat} {e : TypeId} {s : Nat} {v : Value} {n : Nat} {xs : List Value} (h : w.ownsRow b e s v n xs) {q o : Nat} (hq : some q ≠ v.ownBlock) (u : Value) : (w.setCell ⟨q, o, none⟩ u).ownsRow b e s v n xs :=
  h.kept (grown_set w q o u) (.inr fun he => hq he.symm)
theorem bx_news {w : World} {q t : Nat} {cs : Array Value} (h : Bx w q t cs) : ∀ j u, cs.toList[j]? = some u → w.cell? ((⟨q, 0, none⟩ : Addr).add j) = some u := by
  intro j u hu
  have e : (⟨q, 0, none⟩ : Addr).add j = ⟨q, j, none⟩ := by unfold Addr.add; split <;> simp_all
  rw [e, h.cell]
  simpa using hu
theorem fd_cell {g : Nat} {w : World} (h : Fd g w) {a : Addr} {v : Value} (hc : w.cell? a = some v) (hv : ∀ x, v ≠ .int .u64 x) : a.block ≠ g := by
  intro e
  obtain ⟨x, _, _, hx⟩ := h
  unfold Bx at hx
  unfold World.cell? at hc
  rw [e, hx] at hc
  dsimp only at hc
  split at hc
  · cases hc
  · match hq : a.off with
    | 0 => rw [hq] at hc; exact hv x (by simpa using hc.symm)
    | k + 1 => rw [hq] at hc; simp at hc
theorem Sl.ft {g s : Nat} {V w' : World} {B : Nat} {A : Option Addr} {xs : List (List Value)} (h : Sl V B s A xs) (hf : Fd g V) (k : V.grownBy w' (some g)) (hx : ∀ r ∈ xs, ∀ u ∈ r, ∀ x, u ≠ .int .u64 x) : Sl w' B s A xs := fun i r hr => by
  obtain ⟨ad, h1, h2, h3⟩ := h i r hr
  exact ⟨ad, h1, h2, fun j u hu => k.cell (h3 j u hu) (by simpa using fd_cell hf (h3 j u hu) (hx r (List.mem_of_getElem? hr) u (List.mem_of_getElem? hu)))⟩
theorem inr_no (l : List Int) : ∀ r ∈ inr l, ∀ u ∈ r, ∀ x, u ≠ .int .u64 x := by
  intro r hr u hu x h
  unfold inr at hr
  obtain ⟨a, _, rfl⟩ := List.mem_map.1 hr
  obtain rfl : u = .int .i64 a := by simpa using hu
  simp at h
theorem gnr_no (l : List (Int × Int)) : ∀ r ∈ gnr l, ∀ u ∈ r, ∀ x, u ≠ .int .u64 x := by
  intro r hr u hu x h
  unfold gnr at hr
  obtain ⟨a, _, rfl⟩ := List.mem_map.1 hr
  subst h
  simp at hu
theorem own_free {w : World} {b q n c : Nat} {t : TypeId} {s : Nat} {xs : List Value} (h : w.ownsRow b t s (.slice (some ⟨q, 0, none⟩) n c) n xs) : ∀ o, w.frozen? ⟨q, o, none⟩ = false := by
  rcases h.2 with ⟨h, _⟩ | ⟨q', cap, cur, h, _, hg, _⟩
  · simp at h
  · simp only [Value.slice.injEq, Option.some.injEq, Addr.mk.injEq, and_true, true_and] at h
    obtain ⟨rfl, rfl⟩ := h
    exact Bx.free (show Bx w q t cur from hg)
theorem own_fd {g : Nat} {V w' : World} {b n : Nat} {t : TypeId} {s : Nat} {v : Value} {xs : List Value} (o : V.ownsRow b t s v n xs) (hf : Fd g V) (hgr : V.grownBy w' (some g)) (hne : (90 : Nat) ≠ t) : w'.ownsRow b t s v n xs :=
  o.kept hgr (.inr fun hk => by obtain ⟨y, _, _, hy⟩ := hf; exact own_bx o hy hne hk.symm)
theorem Fd.below {g : Nat} {w w' : World} (h : Fd g w) (hb : Below w.heap.size w w') : Fd g w' := by obtain ⟨y, h1, h2, h3⟩ := h; exact ⟨y, h1, h2, h3.call hb⟩
theorem gr_own {w x y : World} {row own : Option Nat} (g : w.grownBy x row) (h : x.grownBy y own) (ho : ∀ k, own = some k → w.heap.size ≤ k) : w.grownBy y row :=
  grown_trans g h (.inr ho)
theorem FT.alloc {g : Nat} {V x : World} (h : FT g V x) (o : Obj) : FT g V (x.alloc o) := h.step (FK.alloc g _ _)
theorem FT.call {g : Nat} {V x y : World} (h : FT g V x) (hg : x.grownBy y (some g)) (hf : Fd g y) : FT g V y := ⟨grownF_trans h.1 hg, hf⟩
theorem FT.set_ {g b : Nat} {V x : World} (h : FT g V x) (hb : V.heap.size ≤ b) (hg : g ≠ b) (o : Nat) (u : Value) : FT g V (x.setCell ⟨b, o, none⟩ u) := ⟨grown_new h.1 hb u, h.2.far hg u⟩
theorem FT.size {g : Nat} {V x : World} (h : FT g V x) : V.heap.size ≤ x.heap.size := h.1.size
theorem FT.bel {g : Nat} {V x y : World} (h : FT g V x) (hb : Below x.heap.size x y) : FT g V y := ⟨grownF_trans h.1 (grown_below hb), Fd.below h.2 hb⟩
theorem FT.self {g : Nat} {V : World} (h : Fd g V) : FT g V V := ⟨grown_refl _ _, h⟩
theorem FT.drew {g : Nat} {V x : World} (h : FT g V x) : FT g V x.drew := ⟨grownF_trans h.1 (grown_drew _ _), h.2.drew⟩
theorem FT.sl {g s : Nat} {V x : World} {A : Option Addr} {xs : List (List Value)} (h : FT g V x) (hf : Fd g V) (hs : Sl V V.heap.size s A xs) (hx : ∀ r ∈ xs, ∀ u ∈ r, ∀ x, u ≠ .int .u64 x) : Sl x x.heap.size s A xs := (Sl.ft hs hf h.1 hx).more h.1.size
theorem FT.be {g : Nat} {w V x : World} (h : FT g V x) (hB : Below w.heap.size w V) (hg : w.heap.size ≤ g) : Below w.heap.size w x := hB.grown h.1 hB.size (fun k e => by cases e; exact hg)
theorem FT.own {g : Nat} {V x y : World} (h : FT g V x) {b n : Nat} {t : TypeId} {s : Nat} {v : Value} {xs : List Value} (ho : x.ownsRow b t s v n xs) (hg : x.grownBy y v.ownBlock) (hb : V.heap.size ≤ b) (ht : (90 : Nat) ≠ t) : FT g V y := by
  refine ⟨gr_own h.1 hg (fun k hk => Nat.le_trans hb (ho.lt k hk).1), ?_⟩
  obtain ⟨z, h1, h2, h3⟩ := h.2
  exact ⟨z, h1, h2, h3.grown hg (own_bx ho h3 ht)⟩
/-- A row of one's own that lies behind V survives what FT turns. -/
theorem FT.row {g : Nat} {V x : World} (h : FT g V x) (hf : Fd g V) {b n : Nat} {t : TypeId} {s : Nat} {v : Value} {xs : List Value} (o : V.ownsRow b t s v n xs) (hne : (90 : Nat) ≠ t) : x.ownsRow b t s v n xs := own_fd o hf h.1 hne
/-- An order in memory after the feed has turned. -/
theorem BinsAt.ft {g : Nat} {V x : World} {B : Nat} {A : Option Addr} {bs : List Bn} (h : BinsAt V B A bs) (hf : Fd g V) (k : V.grownBy x (some g)) : BinsAt x B A bs := by
  obtain ⟨rs, h1, h2, h3⟩ := h.rows
  refine ⟨rs, h1.ft hf k fun r hr u hu y e => ?_, h2, fun j r b hr hb => ?_⟩
  · obtain ⟨j, hj⟩ := List.getElem?_of_mem hr
    have hlt : j < bs.length := by have := (List.getElem?_eq_some_iff.1 hj).1; omega
    obtain ⟨A', c, e1, _⟩ := h3 j r bs[j] hj (List.getElem?_eq_getElem hlt)
    subst e1 e
    simp at hu
  · obtain ⟨A', c, e1, h4⟩ := h3 j r b hr hb
    exact ⟨A', c, e1, h4.ft hf k (gnr_no _)⟩
theorem OrdAt.ft {g : Nat} {V x : World} {B : Nat} {LA BA : Option Addr} {o : Od} (h : OrdAt V B LA BA o) (hf : Fd g V) (k : V.grownBy x (some g)) : OrdAt x B LA BA o := ⟨h.lm.ft hf k (inr_no _), h.bs.ft hf k⟩
theorem bx2 {x y : Int} (P : Int → Prop) (h1 : P x) (h2 : P y) : ∀ i, i < 2 → ∃ q, (#[Value.int .i64 x, .int .i64 y] : Array Value)[i]? = some (.int .i64 q) ∧ P q := by
  intro i hi
  match i, hi with
  | 0, _ => exact ⟨x, rfl, h1⟩
  | 1, _ => exact ⟨y, rfl, h2⟩
theorem inr_snoc (l : List Int) (x : Int) : (inr (l ++ [x])).flatten = (inr l).flatten ++ [.int .i64 x] := by simp [inr]
theorem gnr_snoc (l : List (Int × Int)) (a b : Int) : (gnr (l ++ [(a, b)])).flatten = (gnr l).flatten ++ [.int .i64 a, .int .i64 b] := by simp [gnr]
theorem rows_snoc (l : List (List Value)) (r : List Value) : (l ++ [r]).flatten = l.flatten ++ r := by simp
/-- A bin whose grams are a row of one's own. -/
def GrRow (w : World) (base : Nat) (r : List Value) (b : Bn) : Prop :=
  ∃ (A : Option Addr) (c : Nat), r = [.slice A b.gr.length c, .int .i64 b.w, .int .i64 b.c, .int .i64 b.g] ∧ w.ownsRow base 41 2 (.slice A b.gr.length c) b.gr.length (gnr b.gr).flatten
structure BinsOwn (w : World) (base : Nat) (rs : List (List Value)) (bs : List Bn) : Prop where
  len : rs.length = bs.length
  row : ∀ (j : Nat) (r : List Value) (b : Bn), rs[j]? = some r → bs[j]? = some b → GrRow w base r b
section
variable {w w' : World} {base : Nat} {rs : List (List Value)} {bs : List Bn}
theorem BinsOwn.kept (h : BinsOwn w base rs bs) {row : Option Nat} (k : w.grownBy w' row) (hne : ∀ v n xs, w.ownsRow base 41 2 v n xs → v.ownBlock = none ∨ v.ownBlock ≠ row) : BinsOwn w' base rs bs :=
  ⟨h.len, fun j r b hr hb => by obtain ⟨A, c, e, o⟩ := h.row j r b hr hb; exact ⟨A, c, e, o.kept k (hne _ _ _ o)⟩⟩
theorem BinsOwn.ft {g : Nat} (h : BinsOwn w base rs bs) (hf : Fd g w) (k : w.grownBy w' (some g)) : BinsOwn w' base rs bs :=
  ⟨h.len, fun j r b hr hb => by obtain ⟨A, c, e, o⟩ := h.row j r b hr hb; exact ⟨A, c, e, own_fd o hf k (by decide)⟩⟩
theorem BinsOwn.set_ (h : BinsOwn w base rs bs) {q t : Nat} {cs : Array Value} (hb : Bx w q t cs) (ht : t ≠ 41) (o : Nat) (u : Value) : BinsOwn (w.setCell ⟨q, o, none⟩ u) base rs bs :=
  h.kept (grown_set w q o u) fun v n xs ho => .inr fun e => own_bx ho hb ht e.symm
theorem BinsOwn.own (h : BinsOwn w base rs bs) {b n t s : Nat} {v : Value} {xs : List Value} (ho : w.ownsRow b t s v n xs) (k : w.grownBy w' v.ownBlock) (ht : t ≠ 41) : BinsOwn w' base rs bs :=
  h.kept k fun v' n' xs' ho' => own_ne ho' ho (Ne.symm ht)
theorem BinsOwn.nil (w : World) (base : Nat) : BinsOwn w base [] [] := ⟨rfl, fun j r b h => by simp at h⟩
theorem BinsOwn.snoc (h : BinsOwn w base rs bs) {r : List Value} {b : Bn} (hr : GrRow w base r b) : BinsOwn w base (rs ++ [r]) (bs ++ [b]) := by
  refine ⟨by simp [h.len], fun j r' b' h1 h2 => ?_⟩
  by_cases hj : j < rs.length
  · rw [List.getElem?_append_left hj] at h1
    rw [List.getElem?_append_left (by rw [← h.len]; exact hj)] at h2
    exact h.row j r' b' h1 h2
  · have hj2 : j < (rs ++ [r]).length := (List.getElem?_eq_some_iff.1 h1).1
    obtain rfl : j = rs.length := by simp at hj2; omega
    rw [List.getElem?_concat_length] at h1
    rw [h.len, List.getElem?_concat_length] at h2
    simp only [Option.some.injEq] at h1 h2
    subst h1 h2
    exact hr
theorem BinsOwn.four (h : BinsOwn w base rs bs) : ∀ r ∈ rs, r.length = 4 := by
  intro r hr
  obtain ⟨j, hj⟩ := List.getElem?_of_mem hr
  have hlt : j < bs.length := by have := (List.getElem?_eq_some_iff.1 hj).1; have := h.len; omega
  obtain ⟨A, c, rfl, _⟩ := h.row j r bs[j] hj (List.getElem?_eq_getElem hlt)
  rfl
theorem gnr_two (l : List (Int × Int)) : ∀ r ∈ gnr l, r.length = 2 := by
  intro r hr; unfold gnr at hr; obtain ⟨x, _, rfl⟩ := List.mem_map.1 hr; rfl
theorem inr_one (l : List Int) : ∀ r ∈ inr l, r.length = 1 := by
  intro r hr; unfold inr at hr; obtain ⟨x, _, rfl⟩ := List.mem_map.1 hr; rfl
theorem own_inr {b n c : Nat} {A : Option Addr} {l : List Int} (h : w.ownsRow b 3 1 (.slice A n c) n (inr l).flatten) (hl : l.length = n) : Sl w w.heap.size 1 A (inr l) := by
  obtain ⟨A', c', e, hs⟩ := own_sl h (inr_one l) (by simpa [inr] using hl)
  simp only [Value.slice.injEq] at e
  rw [e.1]
  exact hs
theorem own_gnr {b n c : Nat} {A : Option Addr} {l : List (Int × Int)} (h : w.ownsRow b 41 2 (.slice A n c) n (gnr l).flatten) (hl : l.length = n) : Sl w w.heap.size 2 A (gnr l) := by
  obtain ⟨A', c', e, hs⟩ := own_sl h (gnr_two l) (by simpa [gnr] using hl)
  simp only [Value.slice.injEq] at e
  rw [e.1]
  exact hs
end
section
variable {g : Nat} {w V x : World} {lm : List Int} {bs : List Bn} {le mo : Int} {lv bv : Value} {rs : List (List Value)}
end
/-- Orders that swarfkit makes: small numbers. -/
structure Small (o : Od) (bins metals grabs : Int) : Prop where
  lm : (o.lm.length : Int) ≤ metals
  li : ∀ x ∈ o.lm, 20 ≤ x ∧ x ≤ 300
  b1 : 1 ≤ o.bs.length
  bs : (o.bs.length : Int) ≤ bins
  bn : ∀ b ∈ o.bs, b.gr.length = o.lm.length ∧ (∀ p ∈ b.gr, 0 ≤ p.1 ∧ p.1 ≤ p.2 ∧ p.2 ≤ 600) ∧ 1 ≤ b.w ∧ b.w ≤ 20 ∧ 0 ≤ b.c ∧ b.c ≤ 49 ∧ 0 ≤ b.g ∧ b.g ≤ grabs
  le0 : 0 ≤ o.le
  lem : o.le ≤ o.mo
  mo : o.mo ≤ 1000
theorem Small.ok {o : Od} {bins metals grabs : Int} (h : Small o bins metals grabs) (hb : bins ≤ 4) (hm : metals ≤ 3) (hg : grabs ≤ 6) : o.Ok := by
  have h1 := h.lm
  have h2 := h.bs
  have h3 := h.b1
  have h4 := h.le0
  have h5 := h.lem
  have h6 := h.mo
  refine ⟨by omega, fun x hx => by have := h.li x hx; omega, by omega, by omega, by omega, by omega, by omega, fun b hb => ?_⟩
  obtain ⟨p1, p2, p3, p4, p5, p6, p7, p8⟩ := h.bn b hb
  refine ⟨p1, fun p hp => by have := p2 p hp; omega, by omega, by omega, by omega, by omega, by omega, by omega⟩
end Go.Proofs.Ytfcpjkofbejleaa

/-! swarfkit.OrderOf. -/
namespace Go.Proofs.Ytfcpjkofbejleaa
open Go Go.RowKit
theorem own_num {w : World} {b q n c : Nat} {l : List Int} (h : w.ownsRow b 3 1 (.slice (some ⟨q, 0, none⟩) n c) n (inr l).flatten) (hl : l.length = n) {j : Nat} (hj : j < l.length) : w.cell? ⟨q, j, none⟩ = some (.int .i64 l[j]) := by
  obtain ⟨ad, e, _, h2⟩ := inr_at (own_inr h hl) hj
  simp only [Option.some.injEq] at e
  subst e
  have e : (⟨q, 0, none⟩ : Addr).add j = ⟨q, j, none⟩ := by unfold Addr.add; split <;> simp_all
  rwa [e] at h2
end Go.Proofs.Ytfcpjkofbejleaa

/-! swarfkit.BlendOf. -/
namespace Go.Proofs.Ytfcpjkofbejleaa
open Go Go.RowKit
theorem getD_snoc (l : List Int) (x : Int) {j : Nat} : (l ++ [x]).getD j 0 = if j < l.length then l.getD j 0 else if j = l.length then x else 0 := by
  rw [List.getD_eq_getElem?_getD, List.getD_eq_getElem?_getD]
  by_cases h : j < l.length
  · rw [if_pos h, List.getElem?_append_left h]
  · rw [if_neg h, List.getElem?_append_right (by omega)]
    by_cases h2 : j = l.length
    · subst h2; simp
    · rw [if_neg h2, List.getElem?_eq_none (by simp; omega)]; rfl
end Go.Proofs.Ytfcpjkofbejleaa

/-! swarflaw06.kept: whether a blend keeps all limits, grab by grab. -/
namespace Go.Proofs.Ytfcpjkofbejleaa
open Go Go.RowKit
/-- Rows of rows of numbers. -/
def LsAt (w : World) (B : Nat) (A : Option Addr) (Ls : List (List Int)) : Prop :=
  ∀ (k : Nat) (l : List Int), Ls[k]? = some l → ∃ (ad : Addr) (G : Option Addr) (c : Nat), A = some ad ∧ ad.block < B ∧ w.cell? (ad.add k) = some (.slice G l.length c) ∧ Sl w B 1 G (inr l)
theorem LsAt.below {w w' : World} {B : Nat} {A : Option Addr} {Ls : List (List Int)} (h : LsAt w B A Ls) (hb : Below B w w') : LsAt w' B A Ls := fun k l hk => by
  obtain ⟨ad, G, c, h1, h2, h3, h4⟩ := h k l hk
  exact ⟨ad, G, c, h1, h2, (hb.cell (by rw [add_block]; exact h2)).trans h3, h4.below hb⟩
theorem LsAt.more {w : World} {B B' : Nat} {A : Option Addr} {Ls : List (List Int)} (h : LsAt w B A Ls) (hB : B ≤ B') : LsAt w B' A Ls := fun k l hk => by
  obtain ⟨ad, G, c, h1, h2, h3, h4⟩ := h k l hk
  exact ⟨ad, G, c, h1, by omega, h3, h4.more hB⟩
theorem LsAt.call {w w' : World} {A : Option Addr} {Ls : List (List Int)} (h : LsAt w w.heap.size A Ls) (hb : Below w.heap.size w w') : LsAt w' w'.heap.size A Ls := (h.below hb).more hb.size
/-- What grab a has of metal j. -/
def gmOf (Ls : List (List Int)) (a j : Nat) : Int := (Ls.getD a []).getD j 0
theorem off_mono (b : Nat → Int) : ∀ {i k : Nat}, i ≤ k → off b i ≤ off b k
  | i, 0, h => by
    have : i = 0 := by omega
    subst this; exact Nat.le_refl _
  | i, k + 1, h => by
    by_cases e : i = k + 1
    · subst e; exact Nat.le_refl _
    · have := off_mono b (i := i) (k := k) (by omega)
      simp only [off]; omega
theorem off_lt (b : Nat → Int) {i k t : Nat} (h : i < k) (ht : t < (b i).toNat) : off b i + t < off b k := by
  have := off_mono b (i := i + 1) (k := k) h
  simp only [off] at this
  omega
end Go.Proofs.Ytfcpjkofbejleaa

/-! Rows of rows of one's own; what is in the grabs of a blend, bin by bin. -/
namespace Go.Proofs.Ytfcpjkofbejleaa
open Go Go.RowKit
structure LsOwn (w : World) (base : Nat) (vs : List Value) (Ls : List (List Int)) : Prop where
  len : vs.length = Ls.length
  row : ∀ (k : Nat) (v : Value) (l : List Int), vs[k]? = some v → Ls[k]? = some l → ∃ A c, v = .slice A l.length c ∧ w.ownsRow base 3 1 v l.length (inr l).flatten
section
variable {w w' : World} {base : Nat} {vs : List Value} {Ls : List (List Int)}
theorem LsOwn.kept (h : LsOwn w base vs Ls) {row : Option Nat} (k : w.grownBy w' row) (hne : ∀ v n xs, w.ownsRow base 3 1 v n xs → v.ownBlock = none ∨ v.ownBlock ≠ row) : LsOwn w' base vs Ls :=
  ⟨h.len, fun j r b hr hb => by obtain ⟨A, c, e, o⟩ := h.row j r b hr hb; exact ⟨A, c, e, o.kept k (hne _ _ _ o)⟩⟩
theorem LsOwn.bel (h : LsOwn w base vs Ls) (hb : Below w.heap.size w w') : LsOwn w' base vs Ls :=
  ⟨h.len, fun j r b hr hb' => by obtain ⟨A, c, e, o⟩ := h.row j r b hr hb'; exact ⟨A, c, e, own_bel o hb⟩⟩
theorem LsOwn.ft {g : Nat} (h : LsOwn w base vs Ls) (hf : Fd g w) (k : w.grownBy w' (some g)) : LsOwn w' base vs Ls :=
  ⟨h.len, fun j r b hr hb => by obtain ⟨A, c, e, o⟩ := h.row j r b hr hb; exact ⟨A, c, e, own_fd o hf k (by decide)⟩⟩
theorem LsOwn.own (h : LsOwn w base vs Ls) {b n t s : Nat} {v : Value} {xs : List Value} (ho : w.ownsRow b t s v n xs) (k : w.grownBy w' v.ownBlock) (ht : t ≠ 3) : LsOwn w' base vs Ls :=
  h.kept k fun v' n' xs' ho' => own_ne ho' ho (Ne.symm ht)
theorem LsOwn.nil (w : World) (base : Nat) : LsOwn w base [] [] := ⟨rfl, fun j r b h => by simp at h⟩
theorem LsOwn.snoc (h : LsOwn w base vs Ls) {A : Option Addr} {c n : Nat} {l : List Int} (hl : l.length = n) (hr : w.ownsRow base 3 1 (.slice A n c) n (inr l).flatten) : LsOwn w base (vs ++ [.slice A n c]) (Ls ++ [l]) := by
  refine ⟨by simp [h.len], fun j r' b' h1 h2 => ?_⟩
  by_cases hj : j < vs.length
  · rw [List.getElem?_append_left hj] at h1
    rw [List.getElem?_append_left (by rw [← h.len]; exact hj)] at h2
    exact h.row j r' b' h1 h2
  · have hj2 : j < (vs ++ [Value.slice A n c]).length := (List.getElem?_eq_some_iff.1 h1).1
    obtain rfl : j = vs.length := by simp at hj2; omega
    rw [List.getElem?_concat_length] at h1
    rw [h.len, List.getElem?_concat_length] at h2
    simp only [Option.some.injEq] at h1 h2
    subst h1 h2
    exact ⟨A, c, by rw [hl], by rw [hl]; exact hr⟩
theorem LsOwn.at_ (h : LsOwn w base vs Ls) {b c n : Nat} {A : Option Addr} (ho : w.ownsRow b 27 1 (.slice A n c) n vs) : LsAt w w.heap.size A Ls := by
  have e : vs = (vs.map fun v => [v]).flatten := by
    clear h ho
    induction vs with
    | nil => rfl
    | cons x r ih => simp only [List.map_cons, List.flatten_cons, List.singleton_append, List.cons.injEq, true_and]; exact ih
  have hn : vs.length = n := by have := ho.1; omega
  rw [e] at ho
  obtain ⟨A', c', e', hs⟩ := own_sl ho (by intro r hr; obtain ⟨x, _, rfl⟩ := List.mem_map.1 hr; rfl) (by simpa using hn)
  simp only [Value.slice.injEq] at e'
  rw [← e'.1] at hs
  intro k l hk
  have hk2 : k < vs.length := by rw [h.len]; exact (List.getElem?_eq_some_iff.1 hk).1
  obtain ⟨A2, c2, e2, o⟩ := h.row k vs[k] l (List.getElem?_eq_getElem hk2) hk
  obtain ⟨ad, q1, q2, q3⟩ := hs.at_ (k := k) (by simpa using hk2)
  simp only [List.getElem_map, Nat.mul_one] at q3
  rw [e2] at q3 o
  exact ⟨ad, A2, c2, q1, q2, q3.head rfl, own_inr o rfl⟩
end
/-! What is in the grabs, bin by bin. -/
end Go.Proofs.Ytfcpjkofbejleaa

/-! swarflaw06.gramsOf: what each grab of a blend truly has. -/
namespace Go.Proofs.Ytfcpjkofbejleaa
open Go Go.RowKit
/-- The bins of the grabs, grab by grab. -/
def ixOf (b : Nat → Int) : Nat → List Nat
  | 0 => []
  | i + 1 => ixOf b i ++ List.replicate (b i).toNat i
theorem ixOf_len (b : Nat → Int) : ∀ i : Nat, (ixOf b i).length = off b i
  | 0 => rfl
  | i + 1 => by simp only [ixOf, List.length_append, List.length_replicate, ixOf_len b i, off]
theorem ixOf_at (b : Nat → Int) : ∀ {k i t : Nat}, i < k → t < (b i).toNat → (ixOf b k)[off b i + t]? = some i
  | 0, i, t, h, _ => by omega
  | k + 1, i, t, h, ht => by
    simp only [ixOf]
    by_cases hi : i < k
    · rw [List.getElem?_append_left (by rw [ixOf_len]; exact off_lt b hi ht)]
      exact ixOf_at b hi ht
    · obtain rfl : i = k := by omega
      rw [List.getElem?_append_right (by rw [ixOf_len]; omega), ixOf_len, Nat.add_sub_cancel_left, List.getElem?_replicate, if_pos ht]
theorem ixOf_mem (b : Nat → Int) {r : Nat} : ∀ {k : Nat}, r ∈ ixOf b k → r < k
  | 0, h => by simp [ixOf] at h
  | k + 1, h => by
    simp only [ixOf, List.mem_append, List.mem_replicate] at h
    rcases h with h | ⟨_, rfl⟩
    · have := ixOf_mem b h; omega
    · omega
/-- A row of what a grab of bin i may have. -/
def RowIn (o : Od) (i : Nat) (r : List Int) : Prop := ∀ j, j < r.length → (o.bn i).g1 j ≤ r.getD j 0 ∧ r.getD j 0 ≤ (o.bn i).g2 j
structure GmOk (o : Od) (ln : Nat) (ix : List Nat) (GM : List (List Int)) : Prop where
  len : GM.length = ix.length
  row : ∀ (k i : Nat) (r : List Int), ix[k]? = some i → GM[k]? = some r → r.length = ln ∧ RowIn o i r
theorem GmOk.snoc {o : Od} {ln i : Nat} {ix : List Nat} {GM : List (List Int)} {l : List Int} (h : GmOk o ln ix GM) (h1 : l.length = ln) (h2 : RowIn o i l) : GmOk o ln (ix ++ [i]) (GM ++ [l]) := by
  refine ⟨by simp [h.len], fun k i' r e1 e2 => ?_⟩
  by_cases hk : k < ix.length
  · rw [List.getElem?_append_left hk] at e1
    rw [List.getElem?_append_left (by rw [h.len]; exact hk)] at e2
    exact h.row k i' r e1 e2
  · have hk2 : k < (ix ++ [i]).length := (List.getElem?_eq_some_iff.1 e1).1
    obtain rfl : k = ix.length := by simp at hk2; omega
    rw [List.getElem?_concat_length] at e1
    rw [← h.len, List.getElem?_concat_length] at e2
    simp only [Option.some.injEq] at e1 e2
    subst e1 e2
    exact ⟨h1, h2⟩
theorem RowIn.snoc {o : Od} {i : Nat} {l : List Int} {x : Int} (h : RowIn o i l) (h1 : (o.bn i).g1 l.length ≤ x) (h2 : x ≤ (o.bn i).g2 l.length) : RowIn o i (l ++ [x]) := fun j hj => by
  rw [getD_snoc]
  by_cases hj2 : j < l.length
  · rw [if_pos hj2]; exact h j hj2
  · rw [if_neg hj2, if_pos (by simp at hj; omega)]
    obtain rfl : j = l.length := by simp at hj; omega
    exact ⟨h1, h2⟩
/-- What the lists of a truth say to kept. -/
theorem GmOk.gm {o : Od} {ln bn : Nat} {b : Nat → Int} {GM : List (List Int)} (h : GmOk o ln (ixOf b bn) GM) {i t j : Nat} (hi : i < bn) (ht : t < (b i).toNat) (hj : j < ln) : (o.bn i).g1 j ≤ gmOf GM (off b i + t) j ∧ gmOf GM (off b i + t) j ≤ (o.bn i).g2 j := by
  have h1 := ixOf_at b hi ht
  have hk : off b i + t < GM.length := by rw [h.len]; exact (List.getElem?_eq_some_iff.1 h1).1
  obtain ⟨e1, e2⟩ := h.row _ _ GM[off b i + t] h1 (List.getElem?_eq_getElem hk)
  have := e2 j (by omega)
  unfold gmOf
  rw [show GM.getD (off b i + t) [] = GM[off b i + t] by rw [List.getD_eq_getElem?_getD, List.getElem?_eq_getElem hk]; rfl]
  exact this
theorem GmOk.all {o : Od} {ln bn : Nat} {b : Nat → Int} {GM : List (List Int)} (h : GmOk o ln (ixOf b bn) GM) (ho : o.Ok) (hbn : bn ≤ o.bs.length) : ∀ r ∈ GM, r.length = ln ∧ ∀ x ∈ r, 0 ≤ x ∧ x ≤ 1000000 := fun r hr => by
  obtain ⟨k, hk⟩ := List.getElem?_of_mem hr
  have hk2 : k < (ixOf b bn).length := by rw [← h.len]; exact (List.getElem?_eq_some_iff.1 hk).1
  obtain ⟨e1, e2⟩ := h.row k _ r (List.getElem?_eq_getElem hk2) hk
  refine ⟨e1, fun x hx => ?_⟩
  obtain ⟨j, hj⟩ := List.getElem?_of_mem hx
  have := e2 j (List.getElem?_eq_some_iff.1 hj).1
  rw [List.getD_eq_getElem?_getD, hj] at this
  have := (ho.bn (i := (ixOf b bn)[k]) (by have := ixOf_mem b (List.getElem_mem hk2); omega)).gj j
  simp only [Option.getD_some] at *
  omega
end Go.Proofs.Ytfcpjkofbejleaa

/-! Orders with all weights multiplied: mathematics. What is the cheapest blend is so in one way only. -/
namespace Go.Proofs.Ytfcpjkofbejleaa
open Go Go.RowKit
def Bn.scale (k : Int) (b : Bn) : Bn := { b with w := b.w * k }
def Od.scale (k : Int) (o : Od) : Od := ⟨o.lm, o.le * k, o.mo * k, o.bs.map (Bn.scale k)⟩
section
variable (o : Od) (k : Int)
theorem scale_len : (o.scale k).bs.length = o.bs.length := by simp [Od.scale]
end
theorem Small.scale {o : Od} {bins metals grabs k : Int} (h : Small o bins metals grabs) (hb : bins ≤ 4) (hm : metals ≤ 3) (hg : grabs ≤ 6) (h1 : 1 ≤ k) (h2 : k ≤ 100) : (o.scale k).Ok := by
  have ho := h.ok hb hm hg
  have h3 := h.le0
  have h4 := h.lem
  have h5 := h.mo
  have e1 := mul_bd h3 (show o.le ≤ 1000 by omega) (show (0 : Int) ≤ k by omega) h2
  have e2 := mul_bd (show 0 ≤ o.mo by omega) h5 (show (0 : Int) ≤ k by omega) h2
  have e3 := Int.mul_le_mul_of_nonneg_right h4 (show 0 ≤ k by omega)
  refine ⟨ho.lm, ho.lv, e1.1, e3, by show o.mo * k ≤ 240000; omega, by rw [scale_len]; exact ho.b1, by rw [scale_len]; exact ho.b2, fun b hb' => ?_⟩
  obtain ⟨c, hc, rfl⟩ := List.mem_map.1 hb'
  obtain ⟨p1, p2, p3, p4, p5, p6, p7, p8⟩ := h.bn c hc
  have hc2 := ho.bs c hc
  have e4 := mul_bd (show 0 ≤ c.w by omega) p4 (show (0 : Int) ≤ k by omega) h2
  have e5 := mul_bd (show (0 : Int) ≤ 1 by omega) (show (1 : Int) ≤ 1 by omega) (show (0 : Int) ≤ 0 by omega) (show (0 : Int) ≤ 0 by omega)
  have e6 : 1 ≤ c.w * k := by have := Int.mul_le_mul p3 h1 (by omega) (by omega : (0 : Int) ≤ c.w); omega
  exact ⟨hc2.len, hc2.gr, e6, by show c.w * k ≤ 10000; omega, hc2.c1, hc2.c2, hc2.g1, hc2.g2⟩
end Go.Proofs.Ytfcpjkofbejleaa

/-! All blends of an order, in order: mathematics. -/
namespace Go.Proofs.Ytfcpjkofbejleaa
open Go Go.RowKit
/-- What is in such a list. -/
inductive Fit : List Int → List Int → Prop
  | nil : Fit [] []
  | cons {g x : Int} {gs l : List Int} (h1 : 0 ≤ x) (h2 : x ≤ g) (h : Fit gs l) : Fit (g :: gs) (x :: l)
theorem Fit.len {gs l : List Int} (h : Fit gs l) : l.length = gs.length := by
  induction h with
  | nil => rfl
  | cons _ _ _ ih => simp [ih]
theorem Fit.at_ {gs l : List Int} (h : Fit gs l) : ∀ i, i < gs.length → 0 ≤ l.getD i 0 ∧ l.getD i 0 ≤ gs.getD i 0 := by
  induction h with
  | nil => intro i hi; simp at hi
  | cons h1 h2 _ ih =>
    intro i hi
    cases i with
    | zero => exact ⟨h1, h2⟩
    | succ i => exact ih i (by simpa using hi)
theorem Fit.of : ∀ {gs l : List Int}, l.length = gs.length → (∀ i, i < gs.length → 0 ≤ l.getD i 0 ∧ l.getD i 0 ≤ gs.getD i 0) → Fit gs l
  | [], [], _, _ => .nil
  | g :: gs, x :: l, hl, h => .cons (h 0 (by simp)).1 (h 0 (by simp)).2 (Fit.of (by simpa using hl) fun i hi => h (i + 1) (by simpa using hi))
/-- Before, in lexicographic order. -/
inductive Lex : List Int → List Int → Prop
  | head {x y : Int} {a b : List Int} (h : x < y) : Lex (x :: a) (y :: b)
  | tail {x : Int} {a b : List Int} (h : Lex a b) : Lex (x :: a) (x :: b)
/-- The grabs of an order's bins. -/
def Od.gs (o : Od) : List Int := o.bs.map Bn.g
theorem gs_len (o : Od) : o.gs.length = o.bs.length := by simp [Od.gs]
theorem gs_at (o : Od) (i : Nat) : o.gs.getD i 0 = (o.bn i).g := by
  unfold Od.gs Od.bn
  rw [List.getD_eq_getElem?_getD, List.getD_eq_getElem?_getD, List.getElem?_map]
  cases o.bs[i]? <;> rfl
theorem mx_at (o : Od) (i : Nat) : o.mx i = (o.bn i).g := rfl
theorem Fit.inb {o : Od} {l : List Int} (h : Fit o.gs l) : InB zer o.mx (lf l) := fun i _ => by
  rw [mx_at, ← gs_at]
  by_cases hi : i < o.gs.length
  · exact h.at_ i hi
  · unfold lf
    rw [List.getD_eq_getElem?_getD, List.getD_eq_getElem?_getD, List.getElem?_eq_none (by rw [h.len]; omega), List.getElem?_eq_none (by omega)]
    exact ⟨Int.le_refl _, Int.le_refl _⟩
/-- Behind in the list is behind in rank. -/
theorem lex_rk {lo hi b d : Nat → Int} (hb : InB lo hi b) (hd : InB lo hi d) (h : (b 0 < d 0) ∨ (b 0 = d 0 ∧ b 1 < d 1) ∨ (b 0 = d 0 ∧ b 1 = d 1 ∧ b 2 < d 2) ∨ (b 0 = d 0 ∧ b 1 = d 1 ∧ b 2 = d 2 ∧ b 3 < d 3)) : rk lo hi b < rk lo hi d := by
  rcases Int.lt_or_le (rk lo hi b) (rk lo hi d) with h1 | h1
  · exact h1
  · exfalso
    have b1 := hb 1 (by omega)
    have b2 := hb 2 (by omega)
    have b3 := hb 3 (by omega)
    have d1 := hd 1 (by omega)
    have d2 := hd 2 (by omega)
    have d3 := hd 3 (by omega)
    unfold rk at h1
    have e1 := dg_mono (m := hi 3 - lo 3 + 1) (by omega) (by omega) (by omega) h1 (by omega)
    have e2 := dg_mono (m := hi 2 - lo 2 + 1) (by omega) (by omega) (by omega) e1 (by omega)
    have e3 := dg_mono (m := hi 1 - lo 1 + 1) (by omega) (by omega) (by omega) e2 (by omega)
    rcases h with h | ⟨h, h'⟩ | ⟨h, h', h''⟩ | ⟨h, h', h'', h'''⟩
    · omega
    · rw [h] at e2; omega
    · rw [h, h'] at e1; omega
    · rw [h, h', h''] at h1; omega
theorem Lex.four {a b : List Int} (h : Lex a b) (hl : a.length = b.length) (h4 : a.length ≤ 4) : (lf a 0 < lf b 0) ∨ (lf a 0 = lf b 0 ∧ lf a 1 < lf b 1) ∨ (lf a 0 = lf b 0 ∧ lf a 1 = lf b 1 ∧ lf a 2 < lf b 2) ∨ (lf a 0 = lf b 0 ∧ lf a 1 = lf b 1 ∧ lf a 2 = lf b 2 ∧ lf a 3 < lf b 3) := by
  cases h with
  | head h => exact .inl h
  | tail h =>
    cases h with
    | head h => exact .inr (.inl ⟨rfl, h⟩)
    | tail h =>
      cases h with
      | head h => exact .inr (.inr (.inl ⟨rfl, rfl, h⟩))
      | tail h =>
        cases h with
        | head h => exact .inr (.inr (.inr ⟨rfl, rfl, rfl, h⟩))
        | tail h =>
          cases h with
          | head h => simp at h4
          | tail h => simp at h4
theorem Lex.rk {o : Od} {a b : List Int} (h : Lex a b) (ha : Fit o.gs a) (hb : Fit o.gs b) (h4 : o.bs.length ≤ 4) : rk zer o.mx (lf a) < rk zer o.mx (lf b) :=
  lex_rk ha.inb hb.inb (h.four (by rw [ha.len, hb.len]) (by rw [ha.len, gs_len]; exact h4))
end Go.Proofs.Ytfcpjkofbejleaa

/-! swarfkit.Ints, Ranges, CopyOrder. -/
namespace Go.Proofs.Ytfcpjkofbejleaa
open Go Go.RowKit
theorem flat_back {s : Nat} (hs0 : 0 < s) : ∀ (xs : List (List Value)) (_ : ∀ r ∈ xs, r.length = s) (j : Nat) (u : Value), xs.flatten[j]? = some u → ∃ k r i, j = k * s + i ∧ xs[k]? = some r ∧ r[i]? = some u
  | [], _, j, u, h => by simp at h
  | x :: xs, hs, j, u, h => by
    have hx := hs x (by simp)
    rw [List.flatten_cons] at h
    by_cases hj : j < s
    · rw [List.getElem?_append_left (by omega)] at h
      exact ⟨0, x, j, by omega, rfl, h⟩
    · rw [List.getElem?_append_right (by omega), hx] at h
      obtain ⟨k, r, i, e, h1, h2⟩ := flat_back hs0 xs (fun r hr => hs r (by simp [hr])) _ _ h
      exact ⟨k + 1, r, i, by rw [Nat.succ_mul]; omega, by simpa using h1, h2⟩
theorem Sl.cells {w : World} {B s : Nat} {a : Addr} {xs : List (List Value)} (h : Sl w B s (some a) xs) (hs0 : 0 < s) (hs : ∀ r ∈ xs, r.length = s) : ∀ j u, xs.flatten[j]? = some u → w.cell? (a.add j) = some u := by
  intro j u hu
  obtain ⟨k, r, i, rfl, h1, h2⟩ := flat_back hs0 xs hs j u hu
  obtain ⟨ad, e, _, h3⟩ := h k r h1
  simp only [Option.some.injEq] at e
  subst e
  have := h3 i u h2
  rwa [add_add] at this
theorem BinsOwn.bel {w w' : World} {base : Nat} {rs : List (List Value)} {bs : List Bn} (h : BinsOwn w base rs bs) (hb : Below w.heap.size w w') : BinsOwn w' base rs bs :=
  ⟨h.len, fun j r b hr hb' => by obtain ⟨A, c, e, o⟩ := h.row j r b hr hb'; exact ⟨A, c, e, own_bel o hb⟩⟩
section
variable {V wr x : World} {lm : List Int} {bs : List Bn} {le mo : Int} {lv bv : Value} {rs : List (List Value)} {q : Nat}
end
end Go.Proofs.Ytfcpjkofbejleaa

/-! swarfref06.Blends: all blends of an order. -/
namespace Go.Proofs.Ytfcpjkofbejleaa
open Go Go.RowKit
section
variable {P : Program}
theorem app_none (w : World) (t ty e : TypeId) (i : TypeInfo) (ht : P.underlying t = some (.slice e)) (hi : P.info? e = some i) (a : Option Addr) (n cap c : Nat) (h : n ≤ cap) :
    (Builtin.append_ #[t, t] ty #[.slice a n cap, .slice none 0 c]).run P w = .ok (.slice a n cap) w := by
  cases a with
  | none => simp [Builtin.append_, run_underlying ht, sizeOf, typeInfo, hi, Builtin.lenOf, run_firstCells_none, h]
  | some a => simp [Builtin.append_, run_underlying ht, sizeOf, typeInfo, hi, Builtin.lenOf, run_firstCells_none, h, storeCells]
theorem own_cap {w : World} {b : Nat} {e : TypeId} {s : Nat} {v : Value} {n : Nat} {xs : List Value} (h : w.ownsRow b e s v n xs) : ∃ A cap, v = .slice A n cap ∧ n ≤ cap := by
  rcases h.2 with ⟨rfl, rfl⟩ | ⟨g, cap, cur, rfl, hb, hg, hc, hm, hs, ht⟩
  · exact ⟨none, 0, rfl, Nat.le_refl _⟩
  · exact ⟨_, cap, rfl, hc⟩
/-- Append of a row that may be empty. -/
theorem wp_app3 {o : Oper} {a : Act} {w : World} {K : Act → World → Prop} {Q : Exit → Act → World → Prop} (s x : Operand) (t : TypeId)
    (ho : o.op = .call { callee := .builtin .append, args := #[s, x], argTypes := #[t, t] })
    (base : Nat) (e : TypeId) (i : TypeInfo) (z : Value) (size bytes : Nat) (ht : P.underlying t = some (.slice e)) (hi : P.info? e = some i) (hz : i.zero = some z)
    (hsize : i.size = size) (hby : i.bytes = bytes) (hzs : z.cells.size = size) (hsz : 0 < size)
    (v : Value) (n : Nat) (xs : List Value) (hs : a.eval s = v) (hown : w.ownsRow base e size v n xs)
    (A : Option Addr) (m c : Nat) (news : List Value) (hx : a.eval x = .slice A m c) (hl : news.length = m * size) (hnews : ∀ j u, news[j]? = some u → ∃ ad, A = some ad ∧ w.cell? (ad.add j) = some u) (h1 : ∀ u ∈ news, u.oneCell' = true)
    (h63 : n + m ≤ maxLen) (hbytes : (n + m) * bytes ≤ 140737488355328) (hbase : base ≤ w.heap.size)
    (h : ∀ v' w', w'.ownsRow base e size v' (n + m) (xs ++ news) → w.grownBy w' v.ownBlock → w'.ownsRow base e size v n xs → (v'.ownBlock = v.ownBlock ∨ ∀ k, v'.ownBlock = some k → w.heap.size ≤ k) → K (a.put o.dst v') w') : o.wp P a w K Q := by
  cases A with
  | some ad => exact wp_app2 s x t ho base e i z size bytes ht hi hz hsize hby hzs hsz v n xs hs hown ad m c news hx hl (fun j u hu => by obtain ⟨ad', e1, e2⟩ := hnews j u hu; cases e1; exact e2) h1 h63 hbytes hbase h
  | none =>
    have hn : news = [] := by
      cases news with
      | nil => rfl
      | cons u r => obtain ⟨ad, e1, _⟩ := hnews 0 u rfl; cases e1
    subst hn
    have hm : m = 0 := by
      rcases Nat.mul_eq_zero.1 hl.symm with h | h
      · exact h
      · omega
    subst hm
    obtain ⟨B, cap, e1, hc⟩ := own_cap hown
    have hr := app_none (P := P) w t o.type e i ht hi B n cap c hc
    rw [← e1] at hr
    unfold Oper.wp execOp
    simp only [ho, resolve, invoke, builtin, Sem.run_bind, Sem.run_pure, Result.andThen_ok, List.map_toArray, List.map_cons, List.map_nil, hs, hx, hr]
    exact h v w (by simpa using hown) (grown_refl _ _) hown (.inl rfl)
end
theorem LsOwn.append {w : World} {base : Nat} {vs vs' : List Value} {Ls Ls' : List (List Int)} (h : LsOwn w base vs Ls) (h' : LsOwn w base vs' Ls') : LsOwn w base (vs ++ vs') (Ls ++ Ls') := by
  refine ⟨by simp [h.len, h'.len], fun k v l h1 h2 => ?_⟩
  by_cases hk : k < vs.length
  · rw [List.getElem?_append_left hk] at h1
    rw [List.getElem?_append_left (by rw [← h.len]; exact hk)] at h2
    exact h.row k v l h1 h2
  · rw [List.getElem?_append_right (by omega)] at h1
    rw [List.getElem?_append_right (by rw [← h.len]; omega), ← h.len] at h2
    exact h'.row _ v l h1 h2
theorem LsOwn.one {w : World} {b : Nat} {vs : List Value} {Ls : List (List Int)} (h : LsOwn w b vs Ls) : ∀ u ∈ vs, u.oneCell' = true := fun u hu => by
  obtain ⟨k, hk, rfl⟩ := List.getElem_of_mem hu
  obtain ⟨A, c, e, _⟩ := h.row k _ _ (List.getElem?_eq_getElem hk) (List.getElem?_eq_getElem (by rw [← h.len]; exact hk))
  rw [e]; rfl
end Go.Proofs.Ytfcpjkofbejleaa

/-! MeltScaled. -/
namespace Go.Proofs.Ytfcpjkofbejleaa
open Go Go.RowKit
theorem flatten_set {s : Nat} : ∀ (xs : List (List Value)) (_ : ∀ r ∈ xs, r.length = s) (i j : Nat) (r : List Value) (u : Value), xs[i]? = some r → j < s → xs.flatten.set (i * s + j) u = (xs.set i (r.set j u)).flatten
  | [], _, i, j, r, u, h, _ => by simp at h
  | x :: xs, hs, 0, j, r, u, h, hj => by
    obtain rfl : x = r := by simpa using h
    have hx := hs x (by simp)
    rw [List.flatten_cons, Nat.zero_mul, Nat.zero_add, List.set_append_left _ _ (by omega)]
    simp
  | x :: xs, hs, i + 1, j, r, u, h, hj => by
    have hx := hs x (by simp)
    have h' : xs[i]? = some r := by simpa using h
    rw [List.flatten_cons, List.set_append_right _ _ (by rw [hx, Nat.succ_mul]; omega), hx, show (i + 1) * s + j - s = i * s + j by rw [Nat.succ_mul]; omega, flatten_set xs (fun r hr => hs r (by simp [hr])) i j r u h' hj]
    simp
/-- A store into a row of one's own. -/
theorem own_store {w : World} {b : Nat} {e : TypeId} {s q n cap : Nat} {xs : List Value} (h : w.ownsRow b e s (.slice (some ⟨q, 0, none⟩) n cap) n xs) (j : Nat) (u : Value) (hj : j < n * s) : (w.setCell ⟨q, j, none⟩ u).ownsRow b e s (.slice (some ⟨q, 0, none⟩) n cap) n (xs.set j u) := by
  refine ⟨by rw [List.length_set]; exact h.1, ?_⟩
  rcases h.2 with ⟨h1, _⟩ | ⟨g, c, cur, h1, hb, hg, hc, hm, hs, ht⟩
  · simp at h1
  · simp only [Value.slice.injEq, Option.some.injEq, Addr.mk.injEq, and_true, true_and] at h1
    obtain ⟨rfl, rfl⟩ := h1
    have k : Bx (w.setCell ⟨q, j, none⟩ u) q e (cur.setIfInBounds j u) := Bx.set_ (show Bx w q e cur from hg) j u
    refine .inr ⟨q, cap, _, rfl, hb, k, hc, hm, by simpa using hs, ?_⟩
    rw [Array.toList_setIfInBounds, ← ht, ← List.take_set]
section
variable {V wr : World} {lm : List Int} {bs : List Bn} {le mo : Int} {lv bv : Value} {rs : List (List Value)} {q : Nat}
end
/-- The bins before i are scaled. -/
structure Half (k : Int) (bs bs' : List Bn) (i : Nat) : Prop where
  len : bs'.length = bs.length
  row : ∀ (j : Nat) (b : Bn), bs[j]? = some b → bs'[j]? = some (if j < i then b.scale k else b)
theorem Half.start (k : Int) (bs : List Bn) : Half k bs bs 0 := ⟨rfl, fun j b h => by rw [if_neg (by omega)]; exact h⟩
theorem Half.step {k : Int} {bs bs' : List Bn} {i : Nat} {b : Bn} (h : Half k bs bs' i) (hb : bs[i]? = some b) : Half k bs (bs'.set i (b.scale k)) (i + 1) := by
  have hi : i < bs'.length := by rw [h.len]; exact (List.getElem?_eq_some_iff.1 hb).1
  refine ⟨by rw [List.length_set]; exact h.len, fun j c hc => ?_⟩
  by_cases e : j = i
  · subst e
    rw [List.getElem?_set_self hi, if_pos (by omega)]
    rw [hb] at hc
    rw [Option.some.inj hc]
  · rw [List.getElem?_set_ne (Ne.symm e), h.row j c hc]
    by_cases e2 : j < i
    · rw [if_pos e2, if_pos (by omega)]
    · rw [if_neg e2, if_neg (by omega)]
theorem Half.done {k : Int} {bs bs' : List Bn} (h : Half k bs bs' bs.length) : bs' = bs.map (Bn.scale k) := by
  refine List.ext_getElem? fun j => ?_
  rw [List.getElem?_map]
  cases e : bs[j]? with
  | none => rw [List.getElem?_eq_none (by rw [h.len]; exact List.getElem?_eq_none_iff.1 e)]; rfl
  | some b => rw [h.row j b e, if_pos (List.getElem?_eq_some_iff.1 e).1]; rfl
end Go.Proofs.Ytfcpjkofbejleaa
