/- What a feed leaves; orders that are being made. -/
import Derived.Test.YtmemcopfeabcgaaFd
set_option linter.unusedSimpArgs false
set_option linter.unusedVariables false
namespace Go.Proofs.Ytmemcopfeabcgaa
open Go Go.RowKit
theorem own_ne {w : World} {b b' : Nat} {e e' : TypeId} {s s' : Nat} {v v' : Value} {n n' : Nat} {xs xs' : List Value} (h : w.ownsRow b e s v n xs) (h' : w.ownsRow b' e' s' v' n' xs') (hne : e ≠ e') : v.ownBlock = none ∨ v.ownBlock ≠ v'.ownBlock := by
  rcases h.2 with ⟨rfl, _⟩ | ⟨g, cap, cur, rfl, _, hg, _⟩
  · exact .inl rfl
  · refine .inr fun he => ?_
    rcases h'.2 with ⟨rfl, _⟩ | ⟨g', cap', cur', rfl, _, hg', _⟩
    · simp [Value.ownBlock] at he
    · simp only [Value.ownBlock, Option.some.injEq] at he
      subst he
      rw [hg] at hg'
      injection hg' with h1
      injection h1 with _ h2
      exact hne h2
theorem own_set {w : World} {b : Nat} {e : TypeId} {s : Nat} {v : Value} {n : Nat} {xs : List Value} (h : w.ownsRow b e s v n xs) {q o : Nat} (hq : some q ≠ v.ownBlock) (u : Value) : (w.setCell ⟨q, o, none⟩ u).ownsRow b e s v n xs :=
  h.kept (grown_set w q o u) (.inr fun he => hq he.symm)
theorem bx_news {w : World} {q t : Nat} {cs : Array Value} (h : Bx w q t cs) : ∀ j u, cs.toList[j]? = some u → w.cell? ((⟨q, 0, none⟩ : Addr).add j) = some u := by
  intro j u hu
  have e : (⟨q, 0, none⟩ : Addr).add j = ⟨q, j, none⟩ := by unfold Addr.add; split <;> simp_all
  rw [e, h.cell]
  simpa using hu
theorem fd_cell {g : Nat} {w : World} (h : Fd g w) {a : Addr} {v : Value} (hc : w.cell? a = some v) (hv : ∀ x, v ≠ .int .u64 x) : a.block ≠ g := by
  intro e
  obtain ⟨x, _, _, hx⟩ := h
  unfold Bx at hx
  unfold World.cell? at hc
  rw [e, hx] at hc
  dsimp only at hc
  split at hc
  · cases hc
  · match hq : a.off with
    | 0 => rw [hq] at hc; exact hv x (by simpa using hc.symm)
    | k + 1 => rw [hq] at hc; simp at hc
theorem Sl.ft {g s : Nat} {V w' : World} {B : Nat} {A : Option Addr} {xs : List (List Value)} (h : Sl V B s A xs) (hf : Fd g V) (k : V.grownBy w' (some g)) (hx : ∀ r ∈ xs, ∀ u ∈ r, ∀ x, u ≠ .int .u64 x) : Sl w' B s A xs := fun i r hr => by
  obtain ⟨ad, h1, h2, h3⟩ := h i r hr
  exact ⟨ad, h1, h2, fun j u hu => k.cell (h3 j u hu) (by simpa using fd_cell hf (h3 j u hu) (hx r (List.mem_of_getElem? hr) u (List.mem_of_getElem? hu)))⟩
theorem inr_no (l : List Int) : ∀ r ∈ inr l, ∀ u ∈ r, ∀ x, u ≠ .int .u64 x := by
  intro r hr u hu x h
  unfold inr at hr
  obtain ⟨a, _, rfl⟩ := List.mem_map.1 hr
  obtain rfl : u = .int .i64 a := by simpa using hu
  simp at h
theorem gnr_no (l : List (Int × Int)) : ∀ r ∈ gnr l, ∀ u ∈ r, ∀ x, u ≠ .int .u64 x := by
  intro r hr u hu x h
  unfold gnr at hr
  obtain ⟨a, _, rfl⟩ := List.mem_map.1 hr
  subst h
  simp at hu
theorem own_free {w : World} {b q n c : Nat} {t : TypeId} {s : Nat} {xs : List Value} (h : w.ownsRow b t s (.slice (some ⟨q, 0, none⟩) n c) n xs) : ∀ o, w.frozen? ⟨q, o, none⟩ = false := by
  rcases h.2 with ⟨h, _⟩ | ⟨q', cap, cur, h, _, hg, _⟩
  · simp at h
  · simp only [Value.slice.injEq, Option.some.injEq, Addr.mk.injEq, and_true, true_and] at h
    obtain ⟨rfl, rfl⟩ := h
    exact Bx.free (show Bx w q t cur from hg)
theorem own_fd {g : Nat} {V w' : World} {b n : Nat} {t : TypeId} {s : Nat} {v : Value} {xs : List Value} (o : V.ownsRow b t s v n xs) (hf : Fd g V) (hgr : V.grownBy w' (some g)) (hne : (75 : Nat) ≠ t) : w'.ownsRow b t s v n xs :=
  o.kept hgr (.inr fun hk => by obtain ⟨y, _, _, hy⟩ := hf; exact own_bx o hy hne hk.symm)
theorem Fd.below {g : Nat} {w w' : World} (h : Fd g w) (hb : Below w.heap.size w w') : Fd g w' := by obtain ⟨y, h1, h2, h3⟩ := h; exact ⟨y, h1, h2, h3.call hb⟩
theorem gr_own {w x y : World} {row own : Option Nat} (g : w.grownBy x row) (h : x.grownBy y own) (ho : ∀ k, own = some k → w.heap.size ≤ k) : w.grownBy y row :=
  grown_trans g h (.inr ho)
theorem FT.alloc {g : Nat} {V x : World} (h : FT g V x) (o : Obj) : FT g V (x.alloc o) := h.step (FK.alloc g _ _)
theorem FT.call {g : Nat} {V x y : World} (h : FT g V x) (hg : x.grownBy y (some g)) (hf : Fd g y) : FT g V y := ⟨grownF_trans h.1 hg, hf⟩
theorem FT.set_ {g b : Nat} {V x : World} (h : FT g V x) (hb : V.heap.size ≤ b) (hg : g ≠ b) (o : Nat) (u : Value) : FT g V (x.setCell ⟨b, o, none⟩ u) := ⟨grown_new h.1 hb u, h.2.far hg u⟩
theorem FT.size {g : Nat} {V x : World} (h : FT g V x) : V.heap.size ≤ x.heap.size := h.1.size
theorem FT.bel {g : Nat} {V x y : World} (h : FT g V x) (hb : Below x.heap.size x y) : FT g V y := ⟨grownF_trans h.1 (grown_below hb), Fd.below h.2 hb⟩
theorem FT.self {g : Nat} {V : World} (h : Fd g V) : FT g V V := ⟨grown_refl _ _, h⟩
theorem FT.drew {g : Nat} {V x : World} (h : FT g V x) : FT g V x.drew := ⟨grownF_trans h.1 (grown_drew _ _), h.2.drew⟩
theorem FT.sl {g s : Nat} {V x : World} {A : Option Addr} {xs : List (List Value)} (h : FT g V x) (hf : Fd g V) (hs : Sl V V.heap.size s A xs) (hx : ∀ r ∈ xs, ∀ u ∈ r, ∀ x, u ≠ .int .u64 x) : Sl x x.heap.size s A xs := (Sl.ft hs hf h.1 hx).more h.1.size
theorem FT.be {g : Nat} {w V x : World} (h : FT g V x) (hB : Below w.heap.size w V) (hg : w.heap.size ≤ g) : Below w.heap.size w x := hB.grown h.1 hB.size (fun k e => by cases e; exact hg)
theorem FT.own {g : Nat} {V x y : World} (h : FT g V x) {b n : Nat} {t : TypeId} {s : Nat} {v : Value} {xs : List Value} (ho : x.ownsRow b t s v n xs) (hg : x.grownBy y v.ownBlock) (hb : V.heap.size ≤ b) (ht : (75 : Nat) ≠ t) : FT g V y := by
  refine ⟨gr_own h.1 hg (fun k hk => Nat.le_trans hb (ho.lt k hk).1), ?_⟩
  obtain ⟨z, h1, h2, h3⟩ := h.2
  exact ⟨z, h1, h2, h3.grown hg (own_bx ho h3 ht)⟩
/-- A row of one's own that lies behind V survives what FT turns. -/
theorem FT.row {g : Nat} {V x : World} (h : FT g V x) (hf : Fd g V) {b n : Nat} {t : TypeId} {s : Nat} {v : Value} {xs : List Value} (o : V.ownsRow b t s v n xs) (hne : (75 : Nat) ≠ t) : x.ownsRow b t s v n xs := own_fd o hf h.1 hne
/-- An order in memory after the feed has turned. -/
theorem BinsAt.ft {g : Nat} {V x : World} {B : Nat} {A : Option Addr} {bs : List Bn} (h : BinsAt V B A bs) (hf : Fd g V) (k : V.grownBy x (some g)) : BinsAt x B A bs := by
  obtain ⟨rs, h1, h2, h3⟩ := h.rows
  refine ⟨rs, h1.ft hf k fun r hr u hu y e => ?_, h2, fun j r b hr hb => ?_⟩
  · obtain ⟨j, hj⟩ := List.getElem?_of_mem hr
    have hlt : j < bs.length := by have := (List.getElem?_eq_some_iff.1 hj).1; omega
    obtain ⟨A', c, e1, _⟩ := h3 j r bs[j] hj (List.getElem?_eq_getElem hlt)
    subst e1 e
    simp at hu
  · obtain ⟨A', c, e1, h4⟩ := h3 j r b hr hb
    exact ⟨A', c, e1, h4.ft hf k (gnr_no _)⟩
theorem OrdAt.ft {g : Nat} {V x : World} {B : Nat} {LA BA : Option Addr} {o : Od} (h : OrdAt V B LA BA o) (hf : Fd g V) (k : V.grownBy x (some g)) : OrdAt x B LA BA o := ⟨h.lm.ft hf k (inr_no _), h.bs.ft hf k⟩
theorem FT.ord {g : Nat} {V x : World} {LA BA : Option Addr} {o : Od} (k : FT g V x) (hf : Fd g V) (h : OrdAt V V.heap.size LA BA o) : OrdAt x x.heap.size LA BA o := (h.ft hf k.1).more k.size
theorem info39 : (Try.prog.info? 39).map (fun i => (i.zero, i.size, i.bytes)) = some (some (.agg #[.int .i64 0, .int .i64 0]), 2, 16) := by kernel_rfl
theorem info42 : (Try.prog.info? 42).map (fun i => (i.zero, i.size, i.bytes)) = some (some (.agg #[.slice none 0 0, .int .i64 0, .int .i64 0, .int .i64 0]), 4, 48) := by kernel_rfl
theorem bx2 {x y : Int} (P : Int → Prop) (h1 : P x) (h2 : P y) : ∀ i, i < 2 → ∃ q, (#[Value.int .i64 x, .int .i64 y] : Array Value)[i]? = some (.int .i64 q) ∧ P q := by
  intro i hi
  match i, hi with
  | 0, _ => exact ⟨x, rfl, h1⟩
  | 1, _ => exact ⟨y, rfl, h2⟩
theorem inr_snoc (l : List Int) (x : Int) : (inr (l ++ [x])).flatten = (inr l).flatten ++ [.int .i64 x] := by simp [inr]
theorem gnr_snoc (l : List (Int × Int)) (a b : Int) : (gnr (l ++ [(a, b)])).flatten = (gnr l).flatten ++ [.int .i64 a, .int .i64 b] := by simp [gnr]
theorem rows_snoc (l : List (List Value)) (r : List Value) : (l ++ [r]).flatten = l.flatten ++ r := by simp
/-- A bin whose grams are a row of one's own. -/
def GrRow (w : World) (base : Nat) (r : List Value) (b : Bn) : Prop :=
  ∃ (A : Option Addr) (c : Nat), r = [.slice A b.gr.length c, .int .i64 b.w, .int .i64 b.c, .int .i64 b.g] ∧ w.ownsRow base 39 2 (.slice A b.gr.length c) b.gr.length (gnr b.gr).flatten
structure BinsOwn (w : World) (base : Nat) (rs : List (List Value)) (bs : List Bn) : Prop where
  len : rs.length = bs.length
  row : ∀ (j : Nat) (r : List Value) (b : Bn), rs[j]? = some r → bs[j]? = some b → GrRow w base r b
section
variable {w w' : World} {base : Nat} {rs : List (List Value)} {bs : List Bn}
theorem BinsOwn.kept (h : BinsOwn w base rs bs) {row : Option Nat} (k : w.grownBy w' row) (hne : ∀ v n xs, w.ownsRow base 39 2 v n xs → v.ownBlock = none ∨ v.ownBlock ≠ row) : BinsOwn w' base rs bs :=
  ⟨h.len, fun j r b hr hb => by obtain ⟨A, c, e, o⟩ := h.row j r b hr hb; exact ⟨A, c, e, o.kept k (hne _ _ _ o)⟩⟩
theorem BinsOwn.ft {g : Nat} (h : BinsOwn w base rs bs) (hf : Fd g w) (k : w.grownBy w' (some g)) : BinsOwn w' base rs bs :=
  ⟨h.len, fun j r b hr hb => by obtain ⟨A, c, e, o⟩ := h.row j r b hr hb; exact ⟨A, c, e, own_fd o hf k (by decide)⟩⟩
theorem BinsOwn.set_ (h : BinsOwn w base rs bs) {q t : Nat} {cs : Array Value} (hb : Bx w q t cs) (ht : t ≠ 39) (o : Nat) (u : Value) : BinsOwn (w.setCell ⟨q, o, none⟩ u) base rs bs :=
  h.kept (grown_set w q o u) fun v n xs ho => .inr fun e => own_bx ho hb ht e.symm
theorem BinsOwn.own (h : BinsOwn w base rs bs) {b n t s : Nat} {v : Value} {xs : List Value} (ho : w.ownsRow b t s v n xs) (k : w.grownBy w' v.ownBlock) (ht : t ≠ 39) : BinsOwn w' base rs bs :=
  h.kept k fun v' n' xs' ho' => own_ne ho' ho (Ne.symm ht)
theorem BinsOwn.nil (w : World) (base : Nat) : BinsOwn w base [] [] := ⟨rfl, fun j r b h => by simp at h⟩
theorem BinsOwn.snoc (h : BinsOwn w base rs bs) {r : List Value} {b : Bn} (hr : GrRow w base r b) : BinsOwn w base (rs ++ [r]) (bs ++ [b]) := by
  refine ⟨by simp [h.len], fun j r' b' h1 h2 => ?_⟩
  by_cases hj : j < rs.length
  · rw [List.getElem?_append_left hj] at h1
    rw [List.getElem?_append_left (by rw [← h.len]; exact hj)] at h2
    exact h.row j r' b' h1 h2
  · have hj2 : j < (rs ++ [r]).length := (List.getElem?_eq_some_iff.1 h1).1
    obtain rfl : j = rs.length := by simp at hj2; omega
    rw [List.getElem?_concat_length] at h1
    rw [h.len, List.getElem?_concat_length] at h2
    simp only [Option.some.injEq] at h1 h2
    subst h1 h2
    exact hr
theorem BinsOwn.four (h : BinsOwn w base rs bs) : ∀ r ∈ rs, r.length = 4 := by
  intro r hr
  obtain ⟨j, hj⟩ := List.getElem?_of_mem hr
  have hlt : j < bs.length := by have := (List.getElem?_eq_some_iff.1 hj).1; have := h.len; omega
  obtain ⟨A, c, rfl, _⟩ := h.row j r bs[j] hj (List.getElem?_eq_getElem hlt)
  rfl
theorem gnr_two (l : List (Int × Int)) : ∀ r ∈ gnr l, r.length = 2 := by
  intro r hr; unfold gnr at hr; obtain ⟨x, _, rfl⟩ := List.mem_map.1 hr; rfl
theorem inr_one (l : List Int) : ∀ r ∈ inr l, r.length = 1 := by
  intro r hr; unfold inr at hr; obtain ⟨x, _, rfl⟩ := List.mem_map.1 hr; rfl
theorem own_inr {b n c : Nat} {A : Option Addr} {l : List Int} (h : w.ownsRow b 3 1 (.slice A n c) n (inr l).flatten) (hl : l.length = n) : Sl w w.heap.size 1 A (inr l) := by
  obtain ⟨A', c', e, hs⟩ := own_sl h (inr_one l) (by simpa [inr] using hl)
  simp only [Value.slice.injEq] at e
  rw [e.1]
  exact hs
theorem own_gnr {b n c : Nat} {A : Option Addr} {l : List (Int × Int)} (h : w.ownsRow b 39 2 (.slice A n c) n (gnr l).flatten) (hl : l.length = n) : Sl w w.heap.size 2 A (gnr l) := by
  obtain ⟨A', c', e, hs⟩ := own_sl h (gnr_two l) (by simpa [gnr] using hl)
  simp only [Value.slice.injEq] at e
  rw [e.1]
  exact hs
/-- What is one's own can be read. -/
theorem BinsOwn.at_ (h : BinsOwn w base rs bs) {b c n : Nat} {A : Option Addr} (ho : w.ownsRow b 42 4 (.slice A n c) n rs.flatten) (hn : bs.length = n) : BinsAt w w.heap.size A bs := by
  obtain ⟨A', c', e, hs⟩ := own_sl ho h.four (by rw [h.len]; exact hn)
  simp only [Value.slice.injEq] at e
  rw [← e.1] at hs
  refine ⟨rs, hs, h.len, fun j r b' hr hb => ?_⟩
  obtain ⟨A2, c2, e2, o⟩ := h.row j r b' hr hb
  exact ⟨A2, c2, e2, own_gnr o rfl⟩
end
/-- An order in the making: its box behind w, its rows one's own. -/
structure OI (g : Nat) (w : World) (lm : List Int) (bs : List Bn) (le mo : Int) (lv bv : Value) (rs : List (List Value)) (wr : World) : Prop where
  k8 : Bx wr w.heap.size 27 #[.slice none 0 0, .int .i64 0, .int .i64 0, .slice none 0 0]
  k9 : Bx wr (w.heap.size + 1) 27 #[lv, .int .i64 le, .int .i64 mo, bv]
  ol : wr.ownsRow w.heap.size 3 1 lv lm.length (inr lm).flatten
  ob : wr.ownsRow w.heap.size 42 4 bv bs.length rs.flatten
  bo : BinsOwn wr w.heap.size rs bs
  fd : Fd g wr
  gr : w.grownBy wr (some g)
section
variable {g : Nat} {w V x : World} {lm : List Int} {bs : List Bn} {le mo : Int} {lv bv : Value} {rs : List (List Value)}
theorem OI.ft (h : OI g w lm bs le mo lv bv rs V) (k : FT g V x) (hg : g < w.heap.size) : OI g w lm bs le mo lv bv rs x :=
  ⟨k.bx h.k8 (by omega), k.bx h.k9 (by omega), k.row h.fd h.ol (by decide), k.row h.fd h.ob (by decide), h.bo.ft h.fd k.1, k.2, grownF_trans h.gr k.1⟩
/-- A limit more. -/
theorem OI.lim (h : OI g w lm bs le mo lv bv rs V) (hg : g < w.heap.size) {z : Int} {v' : Value} (k : V.grownBy x lv.ownBlock) (o : x.ownsRow w.heap.size 3 1 v' (lm.length + 1) ((inr lm).flatten ++ [.int .i64 z])) :
    OI g w (lm ++ [z]) bs le mo v' bv rs (x.setCell ⟨w.heap.size + 1, 0, none⟩ v') := by
  have k9' := h.k9.grown k (own_bx h.ol h.k9 (by decide))
  have k8' := h.k8.grown k (own_bx h.ol h.k8 (by decide))
  have hfd : Fd g x := by obtain ⟨y, h1, h2, h3⟩ := h.fd; exact ⟨y, h1, h2, h3.grown k (own_bx h.ol h3 (by decide))⟩
  refine ⟨k8'.far (by simp) v', ?_, ?_, ?_, ?_, hfd.far (by simp; omega) v', ?_⟩
  · have := k9'.set_ 0 v'; simpa using this
  · rw [List.length_append, inr_snoc]
    exact own_set o (own_bx o k9' (by decide)) v'
  · have ob' := h.ob.kept k (own_ne h.ob h.ol (by decide))
    exact own_set ob' (own_bx ob' k9' (by decide)) v'
  · exact (h.bo.own h.ol k (by decide)).set_ k9' (by decide) 0 v'
  · exact grown_new (gr_own h.gr k (fun i hi => (h.ol.lt i hi).1)) (by omega) v'
/-- A bin more. -/
theorem OI.bin (h : OI g w lm bs le mo lv bv rs V) (hg : g < w.heap.size) {r : List Value} {b : Bn} {v' : Value} (k : V.grownBy x bv.ownBlock) (o : x.ownsRow w.heap.size 42 4 v' (bs.length + 1) (rs.flatten ++ r)) (hr : GrRow V w.heap.size r b) :
    OI g w lm (bs ++ [b]) le mo lv v' (rs ++ [r]) (x.setCell ⟨w.heap.size + 1, 3, none⟩ v') := by
  have k9' := h.k9.grown k (own_bx h.ob h.k9 (by decide))
  have k8' := h.k8.grown k (own_bx h.ob h.k8 (by decide))
  have hfd : Fd g x := by obtain ⟨y, h1, h2, h3⟩ := h.fd; exact ⟨y, h1, h2, h3.grown k (own_bx h.ob h3 (by decide))⟩
  refine ⟨k8'.far (by simp) v', ?_, ?_, ?_, ?_, hfd.far (by simp; omega) v', ?_⟩
  · have := k9'.set_ 3 v'; simpa using this
  · have ol' := h.ol.kept k (own_ne h.ol h.ob (by decide))
    exact own_set ol' (own_bx ol' k9' (by decide)) v'
  · rw [List.length_append, rows_snoc]
    exact own_set o (own_bx o k9' (by decide)) v'
  · exact ((h.bo.snoc hr).own h.ob k (by decide)).set_ k9' (by decide) 3 v'
  · exact grown_new (gr_own h.gr k (fun i hi => (h.ob.lt i hi).1)) (by omega) v'
/-- A number set in the box. -/
theorem OI.num (h : OI g w lm bs le mo lv bv rs V) (hg : g < w.heap.size) (i : Nat) (z le' mo' : Int) (hi : (#[lv, .int .i64 le, .int .i64 mo, bv] : Array Value).setIfInBounds i (.int .i64 z) = #[lv, .int .i64 le', .int .i64 mo', bv]) : OI g w lm bs le' mo' lv bv rs (V.setCell ⟨w.heap.size + 1, i, none⟩ (.int .i64 z)) := by
  refine ⟨h.k8.far (by simp) _, ?_, own_set h.ol (own_bx h.ol h.k9 (by decide)) _, own_set h.ob (own_bx h.ob h.k9 (by decide)) _, h.bo.set_ h.k9 (by decide) i _, h.fd.far (by simp; omega) _, grown_new h.gr (by omega) _⟩
  have := h.k9.set_ i (.int .i64 z)
  rw [hi] at this
  exact this
end
/-- Orders that swarfkit makes: small numbers. -/
structure Small (o : Od) (bins metals grabs : Int) : Prop where
  lm : (o.lm.length : Int) ≤ metals
  li : ∀ x ∈ o.lm, 20 ≤ x ∧ x ≤ 300
  b1 : 1 ≤ o.bs.length
  bs : (o.bs.length : Int) ≤ bins
  bn : ∀ b ∈ o.bs, b.gr.length = o.lm.length ∧ (∀ p ∈ b.gr, 0 ≤ p.1 ∧ p.1 ≤ p.2 ∧ p.2 ≤ 600) ∧ 1 ≤ b.w ∧ b.w ≤ 20 ∧ 0 ≤ b.c ∧ b.c ≤ 49 ∧ 0 ≤ b.g ∧ b.g ≤ grabs
  le0 : 0 ≤ o.le
  lem : o.le ≤ o.mo
  mo : o.mo ≤ 1000
theorem Small.ok {o : Od} {bins metals grabs : Int} (h : Small o bins metals grabs) (hb : bins ≤ 4) (hm : metals ≤ 3) (hg : grabs ≤ 6) : o.Ok := by
  have h1 := h.lm
  have h2 := h.bs
  have h3 := h.b1
  have h4 := h.le0
  have h5 := h.lem
  have h6 := h.mo
  refine ⟨by omega, fun x hx => by have := h.li x hx; omega, by omega, by omega, by omega, by omega, by omega, fun b hb => ?_⟩
  obtain ⟨p1, p2, p3, p4, p5, p6, p7, p8⟩ := h.bn b hb
  refine ⟨p1, fun p hp => by have := p2 p hp; omega, by omega, by omega, by omega, by omega, by omega, by omega⟩
end Go.Proofs.Ytmemcopfeabcgaa
