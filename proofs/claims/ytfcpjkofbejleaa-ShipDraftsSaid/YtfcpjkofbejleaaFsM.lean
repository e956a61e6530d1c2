/- Voyages in the making, and voyages in memory while a feed turns. -/
import Derived.Test.YtfcpjkofbejleaaNb
import Derived.Test.YtfcpjkofbejleaaAmaM
set_option linter.unusedSimpArgs false
set_option linter.unusedVariables false
namespace Go.Proofs.Ytfcpjkofbejleaa
open Go Go.RowKit
theorem hdr_no (l : List Hd) : ∀ r ∈ l.map hdr, ∀ u ∈ r, ∀ x, u ≠ .int .u64 x := by
  intro r hr u hu x e
  obtain ⟨y, _, rfl⟩ := List.mem_map.1 hr
  subst e
  simp [hdr] at hu
theorem lvr_no (l : List Lv) : ∀ r ∈ l.map lvr, ∀ u ∈ r, ∀ x, u ≠ .int .u64 x := by
  intro r hr u hu x e
  obtain ⟨y, _, rfl⟩ := List.mem_map.1 hr
  subst e
  simp [lvr] at hu
theorem cgr_no (l : List Cg) : ∀ r ∈ l.map cgr, ∀ u ∈ r, ∀ x, u ≠ .int .u64 x := by
  intro r hr u hu x e
  obtain ⟨y, _, rfl⟩ := List.mem_map.1 hr
  subst e
  simp [cgr] at hu
theorem hdr_three (l : List Hd) : ∀ r ∈ l.map hdr, r.length = 3 := fun r hr => by obtain ⟨y, _, rfl⟩ := List.mem_map.1 hr; rfl
theorem lvr_three (l : List Lv) : ∀ r ∈ l.map lvr, r.length = 3 := fun r hr => by obtain ⟨y, _, rfl⟩ := List.mem_map.1 hr; rfl
theorem cgr_three (l : List Cg) : ∀ r ∈ l.map cgr, r.length = 3 := fun r hr => by obtain ⟨y, _, rfl⟩ := List.mem_map.1 hr; rfl
/-- A voyage in memory after the feed has turned. -/
theorem SisAt.ft {g : Nat} {V x : World} {B : Nat} {A : Option Addr} {ss : List Si} (h : SisAt V B A ss) (hf : Fd g V) (k : V.grownBy x (some g)) : SisAt x B A ss := by
  obtain ⟨rs, h1, h2, h3⟩ := h.rows
  refine ⟨rs, h1.ft hf k fun r hr u hu y e => ?_, h2, fun j r b hr hb => ?_⟩
  · obtain ⟨j, hj⟩ := List.getElem?_of_mem hr
    have hlt : j < ss.length := by have := (List.getElem?_eq_some_iff.1 hj).1; omega
    obtain ⟨A', c, e1, _⟩ := h3 j r ss[j] hj (List.getElem?_eq_getElem hlt)
    subst e1 e
    simp at hu
  · obtain ⟨A', c, e1, h5, h4⟩ := h3 j r b hr hb
    exact ⟨A', c, e1, h5, h4.ft hf k (lvr_no _)⟩
theorem VoyAt.ft {g : Nat} {V x : World} {B : Nat} {v : Vg} {p : Vp} (h : VoyAt V B v p) (hf : Fd g V) (k : V.grownBy x (some g)) : VoyAt x B v p := ⟨h.hl, h.sl, h.ll, h.hs.ft hf k (hdr_no _), h.ss.ft hf k, h.ls.ft hf k (cgr_no _)⟩
theorem FT.voy {g : Nat} {V x : World} {v : Vg} {p : Vp} (k : FT g V x) (hf : Fd g V) (h : VoyAt V V.heap.size v p) : VoyAt x x.heap.size v p := (h.ft hf k.1).more k.size
theorem info85 : (Try.prog.info? 85).map (fun i => (i.zero, i.size, i.bytes)) = some (some (.agg #[.int .i64 0, .int .i64 0, .int .i64 0]), 3, 24) := by kernel_rfl
theorem info75 : (Try.prog.info? 75).map (fun i => (i.zero, i.size, i.bytes)) = some (some (.agg #[.int .i64 0, .int .i64 0, .int .i64 0]), 3, 24) := by kernel_rfl
theorem info70 : (Try.prog.info? 70).map (fun i => (i.zero, i.size, i.bytes)) = some (some (.agg #[.int .i64 0, .int .i64 0, .int .i64 0]), 3, 24) := by kernel_rfl
theorem info73 : (Try.prog.info? 73).map (fun i => (i.zero, i.size, i.bytes)) = some (some (.agg #[.int .i64 0, .int .i64 0, .slice none 0 0]), 3, 40) := by kernel_rfl
theorem hdr_snoc (l : List Hd) (x : Hd) : ((l ++ [x]).map hdr).flatten = (l.map hdr).flatten ++ hdr x := by simp
theorem lvr_snoc (l : List Lv) (x : Lv) : ((l ++ [x]).map lvr).flatten = (l.map lvr).flatten ++ lvr x := by simp
theorem cgr_snoc (l : List Cg) (x : Cg) : ((l ++ [x]).map cgr).flatten = (l.map cgr).flatten ++ cgr x := by simp
/-- A sill whose levels are a row of one's own. -/
def SlRow (w : World) (base : Nat) (r : List Value) (s : Si) : Prop :=
  ∃ (A : Option Addr) (c : Nat), r = [.int .i64 s.t0, .int .i64 s.t1, .slice A s.lv.length c] ∧ w.ownsRow base 75 3 (.slice A s.lv.length c) s.lv.length (s.lv.map lvr).flatten
structure SisOwn (w : World) (base : Nat) (rs : List (List Value)) (ss : List Si) : Prop where
  len : rs.length = ss.length
  row : ∀ (j : Nat) (r : List Value) (b : Si), rs[j]? = some r → ss[j]? = some b → SlRow w base r b
theorem own_capc {w : World} {b n c : Nat} {e : TypeId} {s : Nat} {A : Option Addr} {xs : List Value} (h : w.ownsRow b e s (.slice A n c) n xs) : n ≤ c := by
  rcases h.2 with ⟨e1, e2⟩ | ⟨g, cap, cur, e1, e2, e3, e4, _⟩
  · omega
  · simp only [Value.slice.injEq] at e1
    omega
theorem own_rows {w : World} {b n c : Nat} {e : TypeId} {s : Nat} {A : Option Addr} {rs : List (List Value)} (h : w.ownsRow b e s (.slice A n c) n rs.flatten) (hs : ∀ r ∈ rs, r.length = s) (hl : rs.length = n) : Sl w w.heap.size s A rs := by
  obtain ⟨A', c', e, k⟩ := own_sl h hs hl
  simp only [Value.slice.injEq] at e
  rw [e.1]
  exact k
section
variable {w w' : World} {base : Nat} {rs : List (List Value)} {ss : List Si}
theorem SisOwn.kept (h : SisOwn w base rs ss) {row : Option Nat} (k : w.grownBy w' row) (hne : ∀ v n xs, w.ownsRow base 75 3 v n xs → v.ownBlock = none ∨ v.ownBlock ≠ row) : SisOwn w' base rs ss :=
  ⟨h.len, fun j r b hr hb => by obtain ⟨A, c, e, o⟩ := h.row j r b hr hb; exact ⟨A, c, e, o.kept k (hne _ _ _ o)⟩⟩
theorem SisOwn.ft {g : Nat} (h : SisOwn w base rs ss) (hf : Fd g w) (k : w.grownBy w' (some g)) : SisOwn w' base rs ss :=
  ⟨h.len, fun j r b hr hb => by obtain ⟨A, c, e, o⟩ := h.row j r b hr hb; exact ⟨A, c, e, own_fd o hf k (by decide)⟩⟩
theorem SisOwn.set_ (h : SisOwn w base rs ss) {q t : Nat} {cs : Array Value} (hb : Bx w q t cs) (ht : t ≠ 75) (o : Nat) (u : Value) : SisOwn (w.setCell ⟨q, o, none⟩ u) base rs ss :=
  h.kept (grown_set w q o u) fun v n xs ho => .inr fun e => own_bx ho hb ht e.symm
theorem SisOwn.own (h : SisOwn w base rs ss) {b n t s : Nat} {v : Value} {xs : List Value} (ho : w.ownsRow b t s v n xs) (k : w.grownBy w' v.ownBlock) (ht : t ≠ 75) : SisOwn w' base rs ss :=
  h.kept k fun v' n' xs' ho' => own_ne ho' ho (Ne.symm ht)
theorem SisOwn.nil (w : World) (base : Nat) : SisOwn w base [] [] := ⟨rfl, fun j r b h => by simp at h⟩
theorem SisOwn.snoc (h : SisOwn w base rs ss) {r : List Value} {b : Si} (hr : SlRow w base r b) : SisOwn w base (rs ++ [r]) (ss ++ [b]) := by
  refine ⟨by simp [h.len], fun j r' b' h1 h2 => ?_⟩
  by_cases hj : j < rs.length
  · rw [List.getElem?_append_left hj] at h1
    rw [List.getElem?_append_left (by rw [← h.len]; exact hj)] at h2
    exact h.row j r' b' h1 h2
  · have hj2 : j < (rs ++ [r]).length := (List.getElem?_eq_some_iff.1 h1).1
    obtain rfl : j = rs.length := by simp at hj2; omega
    rw [List.getElem?_concat_length] at h1
    rw [h.len, List.getElem?_concat_length] at h2
    simp only [Option.some.injEq] at h1 h2
    subst h1 h2
    exact hr
theorem SisOwn.three (h : SisOwn w base rs ss) : ∀ r ∈ rs, r.length = 3 := by
  intro r hr
  obtain ⟨j, hj⟩ := List.getElem?_of_mem hr
  have hlt : j < ss.length := by have := (List.getElem?_eq_some_iff.1 hj).1; have := h.len; omega
  obtain ⟨A, c, rfl, _⟩ := h.row j r ss[j] hj (List.getElem?_eq_getElem hlt)
  rfl
theorem SisOwn.at_ (h : SisOwn w base rs ss) {b c n : Nat} {A : Option Addr} (ho : w.ownsRow b 73 3 (.slice A n c) n rs.flatten) (hn : ss.length = n) : SisAt w w.heap.size A ss := by
  refine ⟨rs, own_rows ho h.three (by rw [h.len]; exact hn), h.len, fun j r b' hr hb => ?_⟩
  obtain ⟨A2, c2, e2, o⟩ := h.row j r b' hr hb
  exact ⟨A2, c2, e2, own_capc o, own_rows o (lvr_three _) (by simp)⟩
end
/-- A voyage in the making: its box behind w, its rows one's own. -/
structure VI (g b : Nat) (w : World) (li un tr le : Int) (hs : List Hd) (ss : List Si) (ls : List Cg) (hv sv lv : Value) (rs : List (List Value)) (wr : World) : Prop where
  hb : w.heap.size < b
  k0 : Bx wr w.heap.size 26 #[.int .i64 0, .int .i64 0, .int .i64 0, .slice none 0 0, .int .i64 0, .slice none 0 0, .slice none 0 0]
  k1 : Bx wr b 26 #[.int .i64 li, .int .i64 un, .int .i64 tr, hv, .int .i64 le, sv, lv]
  oh : wr.ownsRow w.heap.size 85 3 hv hs.length (hs.map hdr).flatten
  os : wr.ownsRow w.heap.size 73 3 sv ss.length rs.flatten
  so : SisOwn wr w.heap.size rs ss
  ol : wr.ownsRow w.heap.size 70 3 lv ls.length (ls.map cgr).flatten
  fd : Fd g wr
  gr : w.grownBy wr (some g)
section
variable {g b : Nat} {w V x : World} {li un tr le : Int} {hs : List Hd} {ss : List Si} {ls : List Cg} {hv sv lv : Value} {rs : List (List Value)}
theorem VI.ft (h : VI g b w li un tr le hs ss ls hv sv lv rs V) (k : FT g V x) (hg : g < w.heap.size) : VI g b w li un tr le hs ss ls hv sv lv rs x :=
  ⟨h.hb, k.bx h.k0 (by omega), k.bx h.k1 (by have := h.hb; omega), k.row h.fd h.oh (by decide), k.row h.fd h.os (by decide), h.so.ft h.fd k.1, k.row h.fd h.ol (by decide), k.2, grownF_trans h.gr k.1⟩
/-- A hold more. -/
theorem VI.hold (h : VI g b w li un tr le hs ss ls hv sv lv rs V) (hg : g < w.heap.size) {z : Hd} {v' : Value} (k : V.grownBy x hv.ownBlock) (o : x.ownsRow w.heap.size 85 3 v' (hs.length + 1) ((hs.map hdr).flatten ++ hdr z)) :
    VI g b w li un tr le (hs ++ [z]) ss ls v' sv lv rs (x.setCell ⟨b, 3, none⟩ v') := by
  have hb := h.hb
  have k1' := h.k1.grown k (own_bx h.oh h.k1 (by decide))
  have k0' := h.k0.grown k (own_bx h.oh h.k0 (by decide))
  have hfd : Fd g x := by obtain ⟨y, h1, h2, h3⟩ := h.fd; exact ⟨y, h1, h2, h3.grown k (own_bx h.oh h3 (by decide))⟩
  refine ⟨hb, k0'.far (by simp; omega) v', ?_, ?_, ?_, ?_, ?_, hfd.far (by simp; omega) v', ?_⟩
  · have := k1'.set_ 3 v'; simpa using this
  · rw [List.length_append, hdr_snoc]
    exact own_set o (own_bx o k1' (by decide)) v'
  · have o' := h.os.kept k (own_ne h.os h.oh (by decide))
    exact own_set o' (own_bx o' k1' (by decide)) v'
  · exact (h.so.own h.oh k (by decide)).set_ k1' (by decide) 3 v'
  · have o' := h.ol.kept k (own_ne h.ol h.oh (by decide))
    exact own_set o' (own_bx o' k1' (by decide)) v'
  · exact grown_new (gr_own h.gr k (fun i hi => (h.oh.lt i hi).1)) (by omega) v'
/-- A sill more. -/
theorem VI.sill (h : VI g b w li un tr le hs ss ls hv sv lv rs V) (hg : g < w.heap.size) {r : List Value} {y : Si} {v' : Value} (k : V.grownBy x sv.ownBlock) (o : x.ownsRow w.heap.size 73 3 v' (ss.length + 1) (rs.flatten ++ r)) (hr : SlRow V w.heap.size r y) :
    VI g b w li un tr le hs (ss ++ [y]) ls hv v' lv (rs ++ [r]) (x.setCell ⟨b, 5, none⟩ v') := by
  have hb := h.hb
  have k1' := h.k1.grown k (own_bx h.os h.k1 (by decide))
  have k0' := h.k0.grown k (own_bx h.os h.k0 (by decide))
  have hfd : Fd g x := by obtain ⟨y, h1, h2, h3⟩ := h.fd; exact ⟨y, h1, h2, h3.grown k (own_bx h.os h3 (by decide))⟩
  refine ⟨hb, k0'.far (by simp; omega) v', ?_, ?_, ?_, ?_, ?_, hfd.far (by simp; omega) v', ?_⟩
  · have := k1'.set_ 5 v'; simpa using this
  · have o' := h.oh.kept k (own_ne h.oh h.os (by decide))
    exact own_set o' (own_bx o' k1' (by decide)) v'
  · rw [List.length_append, rows_snoc]
    exact own_set o (own_bx o k1' (by decide)) v'
  · exact ((h.so.snoc hr).own h.os k (by decide)).set_ k1' (by decide) 5 v'
  · have o' := h.ol.kept k (own_ne h.ol h.os (by decide))
    exact own_set o' (own_bx o' k1' (by decide)) v'
  · exact grown_new (gr_own h.gr k (fun i hi => (h.os.lt i hi).1)) (by omega) v'
/-- A lot more. -/
theorem VI.lot (h : VI g b w li un tr le hs ss ls hv sv lv rs V) (hg : g < w.heap.size) {z : Cg} {v' : Value} (k : V.grownBy x lv.ownBlock) (o : x.ownsRow w.heap.size 70 3 v' (ls.length + 1) ((ls.map cgr).flatten ++ cgr z)) :
    VI g b w li un tr le hs ss (ls ++ [z]) hv sv v' rs (x.setCell ⟨b, 6, none⟩ v') := by
  have hb := h.hb
  have k1' := h.k1.grown k (own_bx h.ol h.k1 (by decide))
  have k0' := h.k0.grown k (own_bx h.ol h.k0 (by decide))
  have hfd : Fd g x := by obtain ⟨y, h1, h2, h3⟩ := h.fd; exact ⟨y, h1, h2, h3.grown k (own_bx h.ol h3 (by decide))⟩
  refine ⟨hb, k0'.far (by simp; omega) v', ?_, ?_, ?_, ?_, ?_, hfd.far (by simp; omega) v', ?_⟩
  · have := k1'.set_ 6 v'; simpa using this
  · have o' := h.oh.kept k (own_ne h.oh h.ol (by decide))
    exact own_set o' (own_bx o' k1' (by decide)) v'
  · have o' := h.os.kept k (own_ne h.os h.ol (by decide))
    exact own_set o' (own_bx o' k1' (by decide)) v'
  · exact (h.so.own h.ol k (by decide)).set_ k1' (by decide) 6 v'
  · rw [List.length_append, cgr_snoc]
    exact own_set o (own_bx o k1' (by decide)) v'
  · exact grown_new (gr_own h.gr k (fun i hi => (h.ol.lt i hi).1)) (by omega) v'
theorem VI.fin {HA SA LA : Option Addr} {hc sc lc : Nat} (h : VI g b w li un tr le hs ss ls (.slice HA hs.length hc) (.slice SA ss.length sc) (.slice LA ls.length lc) rs V) (hg : g < w.heap.size) (k : V.grownBy x (some w.heap.size)) :
    VoyAt x x.heap.size ⟨li, un, tr, le, hs, ss, ls⟩ ⟨HA, hs.length, hc, SA, ss.length, sc, LA, ls.length, lc⟩ ∧ FT g w x := by
  have oh := h.oh.kept k (.inr fun e => own_bx h.oh h.k0 (by decide) e.symm)
  have os := h.os.kept k (.inr fun e => own_bx h.os h.k0 (by decide) e.symm)
  have ol := h.ol.kept k (.inr fun e => own_bx h.ol h.k0 (by decide) e.symm)
  have so := h.so.kept k fun v n xs o => .inr fun e => own_bx o h.k0 (by decide) e.symm
  have hfd : Fd g x := by obtain ⟨y, h1, h2, h3⟩ := h.fd; exact ⟨y, h1, h2, h3.grown k (by simp; omega)⟩
  exact ⟨⟨rfl, rfl, rfl, own_rows oh (hdr_three _) (by simp), so.at_ os rfl, own_rows ol (cgr_three _) (by simp)⟩, gr_own h.gr k (fun i hi => by cases hi; omega), hfd⟩
end
end Go.Proofs.Ytfcpjkofbejleaa

/-! Voyages that swarfkit makes are valid. -/
namespace Go.Proofs.Ytfcpjkofbejleaa
open Go Go.RowKit
theorem ckLl_of {L : List Lv} (h1 : 1 ≤ L.length) (h6 : L.length ≤ 6) (ho : ∀ l ∈ L, l.Ok) (hp : L.Pairwise fun x y => x.fr < y.fr) (h0 : ∀ l, L[0]? = some l → l.fr = 0) : ckLl L = 0 := by
  unfold ckLl
  rw [if_neg (by omega), if_neg (by omega), ckLvs_ok]
  refine ⟨ho, hp, ?_⟩
  cases L with
  | nil => trivial
  | cons l r => exact h0 l rfl
theorem ckSi_of {s : Si} (h : s.Ok) (h0 : ∀ l, s.lv[0]? = some l → l.fr = 0) : ckSi s = 0 := by
  unfold ckSi
  rw [if_neg (by rw [ckR_ok.2 ⟨h.t0, h.t01, h.t1⟩]; simp)]
  exact ckLl_of h.l1 h.l6 h.lv h.asc h0
theorem ckSis_of : ∀ {L : List Si}, (∀ s ∈ L, s.Ok ∧ ∀ l, s.lv[0]? = some l → l.fr = 0) → ckSis L = 0
  | [], _ => rfl
  | s :: r, h => by
    have k := h s (by simp)
    unfold ckSis
    rw [if_neg (by rw [ckSi_of k.1 k.2]; simp)]
    exact ckSis_of fun x hx => h x (by simp [hx])
theorem ckCgs_of : ∀ {L : List Cg}, (∀ c ∈ L, c.Ok) → ckCgs L = 0
  | [], _ => rfl
  | c :: r, h => by
    have k := h c (by simp)
    have e : ckCg c = 0 := by
      unfold ckCg
      rw [if_neg (by rw [ckR_ok.2 ⟨k.t0, k.t01, k.t1⟩]; simp), if_neg (by have := k.wo; omega)]
    unfold ckCgs
    rw [if_neg (by rw [e]; simp)]
    exact ckCgs_of fun x hx => h x (by simp [hx])
theorem ok_ck {v : Vg} (h : v.Ok) (h0 : ∀ s ∈ v.ss, ∀ l, s.lv[0]? = some l → l.fr = 0) : ckV v = 0 := by
  have a : ckBg v = 0 := by
    unfold ckBg
    have := h.li; have := h.un; have := h.tr
    exact if_pos (by omega)
  have b : ckHs v.hs = 0 := by
    unfold ckHs
    have := h.h1; have := h.h3
    rw [if_neg (by omega), if_neg (by omega)]
    exact ckHds_ok.2 h.hs
  have c : ckSs v.ss = 0 := by
    unfold ckSs
    have := h.s4
    rw [if_neg (by omega)]
    exact ckSis_of fun s hs => ⟨h.ss s hs, h0 s hs⟩
  have d : ckCs v.ls = 0 := by
    unfold ckCs
    have := h.l6
    rw [if_neg (by omega)]
    exact ckCgs_of h.ls
  unfold ckV
  rw [if_neg (by rw [a]; simp), if_neg (by rw [b]; simp), if_neg (by have := h.le; omega), if_neg (by rw [c]; simp)]
  exact d
/-- Levels that swarfkit makes: the first one from minute 0 on, each one later than the one before. -/
structure SmallL (lv : List Lv) (T : Int) : Prop where
  ok : ∀ l ∈ lv, 0 ≤ l.fr ∧ l.fr ≤ 27 ∧ 0 ≤ l.d0 ∧ l.d0 ≤ l.d1 ∧ l.d1 ≤ 12 + 2 * T
  asc : lv.Pairwise fun x y => x.fr < y.fr
  zero : ∀ l, lv[0]? = some l → l.fr = 0
/-- Voyages that swarfkit makes: small numbers. -/
structure SmallV (v : Vg) (H S L T : Int) : Prop where
  li : 0 ≤ v.li ∧ v.li ≤ 8
  un : 0 ≤ v.un ∧ v.un ≤ 3
  tr : 0 ≤ v.tr ∧ v.tr ≤ 40
  le : 0 ≤ v.le ∧ v.le ≤ 8
  h1 : 1 ≤ v.hs.length
  hn : (v.hs.length : Int) ≤ H
  hs : ∀ h ∈ v.hs, 0 ≤ h.rm ∧ h.rm ≤ 3 * T ∧ 0 ≤ h.bw ∧ h.bw ≤ 1499 ∧ 0 ≤ h.st ∧ h.st ≤ 1499
  sn : (v.ss.length : Int) ≤ S
  ss : ∀ s ∈ v.ss, 0 ≤ s.t0 ∧ s.t0 ≤ s.t1 ∧ s.t1 ≤ 12 ∧ 1 ≤ s.lv.length ∧ s.lv.length ≤ 4 ∧ SmallL s.lv T
  ln : (v.ls.length : Int) ≤ L
  ls : ∀ c ∈ v.ls, 0 ≤ c.t0 ∧ c.t0 ≤ c.t1 ∧ c.t1 ≤ T ∧ 0 ≤ c.wo ∧ c.wo ≤ 29
theorem SmallV.ok {v : Vg} {H S L T : Int} (h : SmallV v H S L T) (hH : H ≤ 3) (hS : S ≤ 4) (hL : L ≤ 6) (hT : T ≤ 900) : v.Ok := by
  have a := h.li
  have b := h.un
  have c := h.tr
  have d := h.le
  have e := h.hn
  have f := h.sn
  have i := h.ln
  refine ⟨by omega, by omega, by omega, by omega, h.h1, by omega, fun x hx => ?_, by omega, fun x hx => ?_, by omega, fun x hx => ?_⟩
  · have := h.hs x hx
    exact ⟨by omega, by omega, by omega⟩
  · obtain ⟨k1, k2, k3, k4, k5, k6⟩ := h.ss x hx
    exact ⟨k1, k2, by omega, k4, by omega, k6.asc, fun l hl => by have := k6.ok l hl; exact ⟨by omega, by omega, by omega, by omega⟩⟩
  · have := h.ls x hx
    exact ⟨by omega, by omega, by omega, by omega⟩
theorem SmallV.ck {v : Vg} {H S L T : Int} (h : SmallV v H S L T) (hH : H ≤ 3) (hS : S ≤ 4) (hL : L ≤ 6) (hT : T ≤ 900) : ckV v = 0 :=
  ok_ck (h.ok hH hS hL hT) fun s hs => (h.ss s hs).2.2.2.2.2.zero
theorem SmallV.lf {v : Vg} {H S L T : Int} (h : SmallV v H S L T) : LvFit v := fun s hs => by have := (h.ss s hs).2.2.2.2.1; omega
end Go.Proofs.Ytfcpjkofbejleaa

/-! factOf 38: a truth in the making. -/
namespace Go.Proofs.Ytfcpjkofbejleaa
open Go Go.RowKit
/-- What is known of a truth's lists so far. -/
def TsIn (ls : List Cg) (ts : List Int) : Prop := ∀ (i : Nat) (c : Cg) (n : Int), ls[i]? = some c → ts[i]? = some n → c.t0 ≤ n ∧ n ≤ c.t1
def WsIn (ss : List Si) (ws : List Int) : Prop := ∀ (i : Nat) (s : Si) (n : Int), ss[i]? = some s → ws[i]? = some n → s.t0 ≤ n ∧ n ≤ s.t1
def RsIn (lv : List Lv) (r : List Int) : Prop := ∀ (k : Nat) (l : Lv) (n : Int), lv[k]? = some l → r[k]? = some n → l.d0 ≤ n ∧ n ≤ l.d1
def DsIn (ss : List Si) (ds : List (List Int)) : Prop := ∀ (i : Nat) (s : Si) (r : List Int), ss[i]? = some s → ds[i]? = some r → r.length = s.lv.length ∧ RsIn s.lv r
theorem get_snoc {α : Type} {l : List α} {x y : α} {i : Nat} (h : (l ++ [x])[i]? = some y) : l[i]? = some y ∨ i = l.length ∧ y = x := by
  by_cases hi : i < l.length
  · rw [List.getElem?_append_left hi] at h; exact .inl h
  · have hj2 : i < (l ++ [x]).length := (List.getElem?_eq_some_iff.1 h).1
    obtain rfl : i = l.length := by simp at hj2; omega
    rw [List.getElem?_concat_length, Option.some.injEq] at h
    exact .inr ⟨rfl, h.symm⟩
theorem TsIn.snoc {ls : List Cg} {ts : List Int} (h : TsIn ls ts) {c : Cg} {n : Int} (hc : ls[ts.length]? = some c) (h1 : c.t0 ≤ n) (h2 : n ≤ c.t1) : TsIn ls (ts ++ [n]) := fun i c' m hi hm => by
  rcases get_snoc hm with hm | ⟨rfl, rfl⟩
  · exact h i c' m hi hm
  · rw [hc, Option.some.injEq] at hi; subst hi; exact ⟨h1, h2⟩
theorem WsIn.snoc {ss : List Si} {ws : List Int} (h : WsIn ss ws) {s : Si} {n : Int} (hc : ss[ws.length]? = some s) (h1 : s.t0 ≤ n) (h2 : n ≤ s.t1) : WsIn ss (ws ++ [n]) := fun i c' m hi hm => by
  rcases get_snoc hm with hm | ⟨rfl, rfl⟩
  · exact h i c' m hi hm
  · rw [hc, Option.some.injEq] at hi; subst hi; exact ⟨h1, h2⟩
theorem RsIn.snoc {lv : List Lv} {r : List Int} (h : RsIn lv r) {l : Lv} {n : Int} (hc : lv[r.length]? = some l) (h1 : l.d0 ≤ n) (h2 : n ≤ l.d1) : RsIn lv (r ++ [n]) := fun i c' m hi hm => by
  rcases get_snoc hm with hm | ⟨rfl, rfl⟩
  · exact h i c' m hi hm
  · rw [hc, Option.some.injEq] at hi; subst hi; exact ⟨h1, h2⟩
theorem DsIn.snoc {ss : List Si} {ds : List (List Int)} (h : DsIn ss ds) {s : Si} {r : List Int} (hc : ss[ds.length]? = some s) (h1 : r.length = s.lv.length) (h2 : RsIn s.lv r) : DsIn ss (ds ++ [r]) := fun i c' m hi hm => by
  rcases get_snoc hm with hm | ⟨rfl, rfl⟩
  · exact h i c' m hi hm
  · rw [hc, Option.some.injEq] at hi; subst hi; exact ⟨h1, h2⟩
theorem LsOwn.kept2 {w w' : World} {base : Nat} {vs : List Value} {Ls : List (List Int)} (h : LsOwn w base vs Ls) {row : Option Nat} (k : w.grownBy w' row) (hne : ∀ v ∈ vs, v.ownBlock = none ∨ v.ownBlock ≠ row) : LsOwn w' base vs Ls :=
  ⟨h.len, fun j r b hr hb => by obtain ⟨A, c, e, o⟩ := h.row j r b hr hb; exact ⟨A, c, e, o.kept k (hne _ (List.mem_of_getElem? hr))⟩⟩
/-- A truth in the making: its box b behind V, the ways and depths behind B. -/
structure FI (g b B : Nat) (V : World) (ts ws : List Int) (ds : List (List Int)) (tv wv dv : Value) (vs : List Value) (wr : World) : Prop where
  kb : Bx wr b 62 #[tv, wv, dv]
  hb : V.heap.size ≤ b
  hbg : b ≠ g
  hB : V.heap.size ≤ B
  hBw : B ≤ wr.heap.size
  ot : wr.ownsRow V.heap.size 3 1 tv ts.length (inr ts).flatten
  ow : wr.ownsRow B 3 1 wv ws.length (inr ws).flatten
  od : wr.ownsRow B 27 1 dv ds.length vs
  ld : LsOwn wr B vs ds
  sep : ∀ u ∈ vs, u.ownBlock = none ∨ u.ownBlock ≠ wv.ownBlock
  tlt : ∀ k, tv.ownBlock = some k → k < B
  ft : FT g V wr
section
variable {g b B : Nat} {V wr x : World} {ts ws : List Int} {ds : List (List Int)} {tv wv dv : Value} {vs : List Value}
theorem FI.way (h : FI g b B V ts ws ds tv wv dv vs wr) {n : Int} {v' : Value} (k : wr.grownBy x wv.ownBlock) (o : x.ownsRow B 3 1 v' (ws.length + 1) ((inr ws).flatten ++ [.int .i64 n])) (o4 : v'.ownBlock = wv.ownBlock ∨ ∀ k, v'.ownBlock = some k → wr.heap.size ≤ k) :
    FI g b B V ts (ws ++ [n]) ds tv v' dv vs (x.setCell ⟨b, 1, none⟩ v') := by
  have kb' := h.kb.grown k (own_bx h.ow h.kb (by decide))
  have hfd : FT g V x := h.ft.own h.ow k h.hB (by decide)
  have ot' := h.ot.kept k (by
    cases e : tv.ownBlock with
    | none => exact .inl rfl
    | some q =>
      refine .inr fun e2 => ?_
      have h1 := h.tlt q e
      have h2 := (h.ow.lt q e2.symm).1
      omega)
  have od' := h.od.kept k (own_ne h.od h.ow (by decide))
  have ld' := h.ld.kept2 k h.sep
  refine ⟨?_, h.hb, h.hbg, h.hB, by simpa [World.setCell] using Nat.le_trans h.hBw k.size, own_set ot' (own_bx ot' kb' (by decide)) _, ?_, own_set od' (own_bx od' kb' (by decide)) _, ?_, ?_, h.tlt, hfd.set_ h.hb (Ne.symm h.hbg) _ _⟩
  · have := kb'.set_ 1 v'; simpa using this
  · rw [List.length_append, inr_snoc]
    exact own_set o (own_bx o kb' (by decide)) _
  · exact ld'.kept (grown_set x b 1 v') fun v n xs ho => .inr fun e => own_bx ho kb' (by decide) e.symm
  · intro u hu
    rcases o4 with e | e
    · rw [e]; exact h.sep u hu
    · cases e1 : u.ownBlock with
      | none => exact .inl rfl
      | some q =>
        refine .inr fun e2 => ?_
        obtain ⟨j, hj⟩ := List.getElem?_of_mem hu
        have hjl : j < ds.length := by rw [← h.ld.len]; exact (List.getElem?_eq_some_iff.1 hj).1
        obtain ⟨A, c, _, o'⟩ := h.ld.row j u _ hj (List.getElem?_eq_getElem hjl)
        have h1 := (o'.lt q e1).2
        have h2 := e q e2.symm
        omega
theorem FI.row (h : FI g b B V ts ws ds tv wv dv vs wr) {r : List Int} {n c : Nat} {A : Option Addr} {v' : Value} (k : wr.grownBy x dv.ownBlock) (o : x.ownsRow B 27 1 v' (ds.length + 1) (vs ++ [.slice A n c])) (hr : wr.ownsRow B 3 1 (.slice A n c) n (inr r).flatten) (hn : r.length = n) (hs : (Value.slice A n c).ownBlock = none ∨ (Value.slice A n c).ownBlock ≠ wv.ownBlock) :
    FI g b B V ts ws (ds ++ [r]) tv wv v' (vs ++ [.slice A n c]) (x.setCell ⟨b, 2, none⟩ v') := by
  have kb' := h.kb.grown k (own_bx h.od h.kb (by decide))
  have hfd : FT g V x := h.ft.own h.od k h.hB (by decide)
  have ot' := h.ot.kept k (own_ne h.ot h.od (by decide))
  have ow' := h.ow.kept k (own_ne h.ow h.od (by decide))
  have ld' := (h.ld.snoc hn hr).own h.od k (by decide)
  refine ⟨?_, h.hb, h.hbg, h.hB, by simpa [World.setCell] using Nat.le_trans h.hBw k.size, own_set ot' (own_bx ot' kb' (by decide)) _, own_set ow' (own_bx ow' kb' (by decide)) _, ?_, ?_, ?_, h.tlt, hfd.set_ h.hb (Ne.symm h.hbg) _ _⟩
  · have := kb'.set_ 2 v'; simpa using this
  · rw [List.length_append]
    exact own_set o (own_bx o kb' (by decide)) _
  · exact ld'.kept (grown_set x b 2 v') fun v n xs ho => .inr fun e => own_bx ho kb' (by decide) e.symm
  · intro u hu
    rcases List.mem_append.1 hu with hu | hu
    · exact h.sep u hu
    · obtain rfl := List.mem_singleton.1 hu
      exact hs
theorem FI.fin (h : FI g b B V ts ws ds tv wv dv vs wr) {TA WA DA : Option Addr} {tn tc wn wc dn dc : Nat} (e1 : tv = .slice TA tn tc) (e2 : wv = .slice WA wn wc) (e3 : dv = .slice DA dn dc) (h1 : ts.length = tn) (h2 : ws.length = wn) (h3 : ds.length = dn) {q t : Nat} {cs : Array Value} (hq : Bx wr q t cs) (ht : t = 62) (k : wr.grownBy x (some q)) : FacAt x x.heap.size ⟨ts, ws, ds⟩ TA WA DA := by
  subst ht e1 e2 e3
  have ot := h.ot.kept k (.inr fun e => own_bx h.ot hq (by decide) e.symm)
  have ow := h.ow.kept k (.inr fun e => own_bx h.ow hq (by decide) e.symm)
  have od := h.od.kept k (.inr fun e => own_bx h.od hq (by decide) e.symm)
  have ld := h.ld.kept k fun v n xs ho => .inr fun e => own_bx ho hq (by decide) e.symm
  rw [h1] at ot
  rw [h2] at ow
  rw [h3] at od
  exact ⟨own_inr ot h1, own_inr ow h2, ld.at_ od⟩
end
end Go.Proofs.Ytfcpjkofbejleaa

/-! factOf 38. -/
namespace Go.Proofs.Ytfcpjkofbejleaa
open Go Go.RowKit
theorem FT.cell {g : Nat} {V x : World} {a : Addr} {u : Value} (k : FT g V x) (hf : Fd g V) (hc : V.cell? a = some u) (hu : ∀ y, u ≠ .int .u64 y) : x.cell? a = some u := k.1.cell hc (by simpa using fd_cell hf hc hu)
end Go.Proofs.Ytfcpjkofbejleaa
