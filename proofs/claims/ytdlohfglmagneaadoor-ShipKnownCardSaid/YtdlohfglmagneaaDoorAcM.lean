/- Voyages in memory. -/
import Derived.Test.YtdlohfglmagneaaDoorVb
import Derived.Test.YtdlohfglmagneaaDoorPvM
import Derived.RangeFuncOne
import Derived.Test.YtdlohfglmagneaaDoorBsM
import Derived.Test.YtdlohfglmagneaaDoorEzM
set_option linter.unusedSimpArgs false
set_option linter.unusedVariables false
namespace Go.Proofs.YtdlohfglmagneaaDoor
open Go Go.RowKit
/-- Where the lists of a voyage lie. -/
structure Vp where
  (HA : Option Addr)
  (hn hc : Nat)
  (SA : Option Addr)
  (sn sc : Nat)
  (LA : Option Addr)
  (ln lc : Nat)
def vcs (v : Vg) (p : Vp) : Array Value := #[.int .i64 v.li, .int .i64 v.un, .int .i64 v.tr, .slice p.HA p.hn p.hc, .int .i64 v.le, .slice p.SA p.sn p.sc, .slice p.LA p.ln p.lc]
theorem vcs_def (v : Vg) (p : Vp) : vcs v p = #[.int .i64 v.li, .int .i64 v.un, .int .i64 v.tr, .slice p.HA p.hn p.hc, .int .i64 v.le, .slice p.SA p.sn p.sc, .slice p.LA p.ln p.lc] := rfl
def hdr (h : Hd) : List Value := [.int .i64 h.rm, .int .i64 h.bw, .int .i64 h.st]
def lvr (l : Lv) : List Value := [.int .i64 l.fr, .int .i64 l.d0, .int .i64 l.d1]
def cgr (c : Cg) : List Value := [.int .i64 c.t0, .int .i64 c.t1, .int .i64 c.wo]
theorem Bx.seven {w : World} {g : Nat} {t : TypeId} {a b c d e f h : Value} (k : Bx w g t #[a, b, c, d, e, f, h]) : w.cell? ⟨g, 0, none⟩ = some a ∧ w.cell? ⟨g, 1, none⟩ = some b ∧ w.cell? ⟨g, 2, none⟩ = some c ∧ w.cell? ⟨g, 3, none⟩ = some d ∧ w.cell? ⟨g, 4, none⟩ = some e ∧ w.cell? ⟨g, 5, none⟩ = some f ∧ w.cell? ⟨g, 6, none⟩ = some h ∧ (∀ o, w.frozen? ⟨g, o, none⟩ = false) ∧ g < w.heap.size :=
  ⟨k.cell 0, k.cell 1, k.cell 2, k.cell 3, k.cell 4, k.cell 5, k.cell 6, k.free, k.lt⟩
theorem Bx.three' {w : World} {g : Nat} {t : TypeId} {a b c : Value} (k : Bx w g t #[a, b, c]) : w.cell? ⟨g, 0, none⟩ = some a ∧ w.cell? ⟨g, 1, none⟩ = some b ∧ w.cell? ⟨g, 2, none⟩ = some c ∧ (∀ o, w.frozen? ⟨g, o, none⟩ = false) ∧ g < w.heap.size :=
  ⟨k.cell 0, k.cell 1, k.cell 2, k.free, k.lt⟩
/-- The three cells of a row of three numbers. -/
theorem thr_at {α : Type} {f : α → List Value} {a b c : α → Value} (hf : ∀ x, f x = [a x, b x, c x]) {w : World} {B k : Nat} {A : Option Addr} {L : List α} (h : Sl w B 3 A (L.map f)) (hk : k < L.length) :
    ∃ ad, A = some ad ∧ ad.block < B ∧ w.cell? (ad.add (k * 3)) = some (a L[k]) ∧ w.cell? ⟨(ad.add (k * 3)).block, (ad.add (k * 3)).off + 1, none⟩ = some (b L[k]) ∧ w.cell? ⟨(ad.add (k * 3)).block, (ad.add (k * 3)).off + 2, none⟩ = some (c L[k]) := by
  obtain ⟨ad, h1, h2, h3⟩ := h.at_ (k := k) (by simpa using hk)
  simp only [List.getElem_map, hf] at h3
  exact ⟨ad, h1, h2, h3.head rfl, h3.next 0 rfl, h3.next 1 rfl⟩
section
variable {w w' : World} {B B' k : Nat} {A : Option Addr}
theorem hd_at {L : List Hd} (h : Sl w B 3 A (L.map hdr)) (hk : k < L.length) : ∃ ad, A = some ad ∧ ad.block < B ∧ w.cell? (ad.add (k * 3)) = some (.int .i64 L[k].rm) ∧ w.cell? ⟨(ad.add (k * 3)).block, (ad.add (k * 3)).off + 1, none⟩ = some (.int .i64 L[k].bw) ∧ w.cell? ⟨(ad.add (k * 3)).block, (ad.add (k * 3)).off + 2, none⟩ = some (.int .i64 L[k].st) :=
  thr_at (f := hdr) (a := fun h => .int .i64 h.rm) (b := fun h => .int .i64 h.bw) (c := fun h => .int .i64 h.st) (fun _ => rfl) h hk
theorem lv_at {L : List Lv} (h : Sl w B 3 A (L.map lvr)) (hk : k < L.length) : ∃ ad, A = some ad ∧ ad.block < B ∧ w.cell? (ad.add (k * 3)) = some (.int .i64 L[k].fr) ∧ w.cell? ⟨(ad.add (k * 3)).block, (ad.add (k * 3)).off + 1, none⟩ = some (.int .i64 L[k].d0) ∧ w.cell? ⟨(ad.add (k * 3)).block, (ad.add (k * 3)).off + 2, none⟩ = some (.int .i64 L[k].d1) :=
  thr_at (f := lvr) (a := fun h => .int .i64 h.fr) (b := fun h => .int .i64 h.d0) (c := fun h => .int .i64 h.d1) (fun _ => rfl) h hk
theorem cg_at {L : List Cg} (h : Sl w B 3 A (L.map cgr)) (hk : k < L.length) : ∃ ad, A = some ad ∧ ad.block < B ∧ w.cell? (ad.add (k * 3)) = some (.int .i64 L[k].t0) ∧ w.cell? ⟨(ad.add (k * 3)).block, (ad.add (k * 3)).off + 1, none⟩ = some (.int .i64 L[k].t1) ∧ w.cell? ⟨(ad.add (k * 3)).block, (ad.add (k * 3)).off + 2, none⟩ = some (.int .i64 L[k].wo) :=
  thr_at (f := cgr) (a := fun h => .int .i64 h.t0) (b := fun h => .int .i64 h.t1) (c := fun h => .int .i64 h.wo) (fun _ => rfl) h hk
/-- The three cells of a sill. -/
def SiRow (w : World) (B : Nat) (r : List Value) (s : Si) : Prop :=
  ∃ (A : Option Addr) (c : Nat), r = [.int .i64 s.t0, .int .i64 s.t1, .slice A s.lv.length c] ∧ s.lv.length ≤ c ∧ Sl w B 3 A (s.lv.map lvr)
structure SisAt (w : World) (B : Nat) (A : Option Addr) (ss : List Si) : Prop where
  rows : ∃ rs : List (List Value), Sl w B 3 A rs ∧ rs.length = ss.length ∧ ∀ (j : Nat) (r : List Value) (b : Si), rs[j]? = some r → ss[j]? = some b → SiRow w B r b
theorem SisAt.below {ss : List Si} (h : SisAt w B A ss) (hb : Below B w w') : SisAt w' B A ss := by
  obtain ⟨rs, h1, h2, h3⟩ := h.rows
  refine ⟨rs, h1.below hb, h2, fun j r b hr hb' => ?_⟩
  obtain ⟨A', c, e, h5, h4⟩ := h3 j r b hr hb'
  exact ⟨A', c, e, h5, h4.below hb⟩
theorem SisAt.more {ss : List Si} (h : SisAt w B A ss) (hB : B ≤ B') : SisAt w B' A ss := by
  obtain ⟨rs, h1, h2, h3⟩ := h.rows
  refine ⟨rs, h1.more hB, h2, fun j r b hr hb' => ?_⟩
  obtain ⟨A', c, e, h5, h4⟩ := h3 j r b hr hb'
  exact ⟨A', c, e, h5, h4.more hB⟩
theorem SisAt.at_ {ss : List Si} (h : SisAt w B A ss) (hk : k < ss.length) : ∃ (ad : Addr) (G : Option Addr) (c : Nat), A = some ad ∧ ad.block < B ∧
    w.cell? (ad.add (k * 3)) = some (.int .i64 ss[k].t0) ∧ w.cell? ⟨(ad.add (k * 3)).block, (ad.add (k * 3)).off + 1, none⟩ = some (.int .i64 ss[k].t1) ∧
    w.cell? ⟨(ad.add (k * 3)).block, (ad.add (k * 3)).off + 2, none⟩ = some (.slice G ss[k].lv.length c) ∧ ss[k].lv.length ≤ c ∧ Sl w B 3 G (ss[k].lv.map lvr) := by
  obtain ⟨rs, h1, h2, h3⟩ := h.rows
  have hk' : k < rs.length := by omega
  obtain ⟨ad, e1, e2, e3⟩ := h1.at_ hk'
  obtain ⟨G, c, e4, e6, e5⟩ := h3 k rs[k] ss[k] (List.getElem?_eq_getElem hk') (List.getElem?_eq_getElem hk)
  rw [e4] at e3
  exact ⟨ad, G, c, e1, e2, e3.head rfl, e3.next 0 rfl, e3.next 1 rfl, e6, e5⟩
/-- A voyage in memory. -/
structure VoyAt (w : World) (B : Nat) (v : Vg) (p : Vp) : Prop where
  hl : v.hs.length = p.hn
  sl : v.ss.length = p.sn
  ll : v.ls.length = p.ln
  hs : Sl w B 3 p.HA (v.hs.map hdr)
  ss : SisAt w B p.SA v.ss
  ls : Sl w B 3 p.LA (v.ls.map cgr)
theorem VoyAt.below {v : Vg} {p : Vp} (h : VoyAt w B v p) (hb : Below B w w') : VoyAt w' B v p := ⟨h.hl, h.sl, h.ll, h.hs.below hb, h.ss.below hb, h.ls.below hb⟩
theorem VoyAt.more {v : Vg} {p : Vp} (h : VoyAt w B v p) (hb : B ≤ B') : VoyAt w B' v p := ⟨h.hl, h.sl, h.ll, h.hs.more hb, h.ss.more hb, h.ls.more hb⟩
theorem VoyAt.call {v : Vg} {p : Vp} (h : VoyAt w w.heap.size v p) (hb : Below w.heap.size w w') : VoyAt w' w'.heap.size v p := (h.below hb).more hb.size
theorem SisAt.call {ss : List Si} (h : SisAt w w.heap.size A ss) (hb : Below w.heap.size w w') : SisAt w' w'.heap.size A ss := (h.below hb).more hb.size
end
/-- Lists that are not too long for Go. -/
structure Vp.Fit (p : Vp) : Prop where
  hn : p.hn ≤ 9223372036854775807
  sn : p.sn ≤ 9223372036854775807
  ln : p.ln ≤ 9223372036854775807
def LvFit (v : Vg) : Prop := ∀ s ∈ v.ss, s.lv.length ≤ 9223372036854775807
end Go.Proofs.YtdlohfglmagneaaDoor

/-! The lots that a stowage has in holds: the iterator of ship.aboard as a contract, and the law for loops over it. -/
namespace Go.Proofs.YtdlohfglmagneaaDoor
open Go Go.RowKit Go.Shelf
attribute [local go_sem] Oper.semAt_some
/-- All blocks of cells but b lie as they lay. -/
structure KeepC (b : Nat) (A B : World) : Prop where
  size : A.heap.size ≤ B.heap.size
  same : ∀ (k : Nat) (cs : Array Value) (t : TypeId) (f : Nat × Nat), k ≠ b → A.heap[k]? = some (.cells cs t f) → B.heap[k]? = some (.cells cs t f)
theorem KeepC.refl (b : Nat) (A : World) : KeepC b A A := ⟨Nat.le_refl _, fun _ _ _ _ _ h => h⟩
theorem KeepC.trans {b : Nat} {A B C : World} (h : KeepC b A B) (k : KeepC b B C) : KeepC b A C := ⟨Nat.le_trans h.size k.size, fun i cs t f hi e => k.same i cs t f hi (h.same i cs t f hi e)⟩
theorem KeepC.grown {b : Nat} {A B : World} (h : A.grownBy B (some b)) : KeepC b A B :=
  ⟨h.size, fun k cs t f hk e => (h.block k (Array.getElem?_eq_some_iff.1 e).1 (by simpa using hk)).trans e⟩
theorem KeepC.put {b : Nat} (W : World) (l : Nat) (o o' : Obj) (h : W.heap[l]? = some o) (ho : o.isCells = false) : KeepC b W (W.putObj l o') :=
  ⟨by simp [World.putObj], fun k cs t f _ e => by
    by_cases hk : k = l
    · subst hk; rw [h] at e; cases e; cases ho
    · exact (World.putObj_heap_other hk).trans e⟩
theorem KeepC.bx {b : Nat} {A B : World} (h : KeepC b A B) {g t : Nat} {cs : Array Value} (k : Bx A g t cs) (hg : g ≠ b) : Bx B g t cs := h.same g cs t (0, 0) hg k
theorem KeepC.cell {b : Nat} {A B : World} (h : KeepC b A B) {p : Addr} {v : Value} (hp : p.block ≠ b) (k : A.cell? p = some v) : B.cell? p = some v := by
  unfold World.cell? at k ⊢
  split at k
  · rename_i c t f e
    rw [h.same _ _ _ _ hp e]
    exact k
  · cases k
theorem KeepC.sl {b : Nat} {A B : World} (h : KeepC b A B) {X s : Nat} {P : Option Addr} {xs : List (List Value)} (k : Sl A X s P xs) (hX : X ≤ b) : Sl B X s P xs := fun i r hr => by
  obtain ⟨ad, h1, h2, h3⟩ := k i r hr
  exact ⟨ad, h1, h2, fun j u hu => h.cell (by rw [add_block, add_block]; omega) (h3 j u hu)⟩
theorem KeepC.sis {b : Nat} {A B : World} (h : KeepC b A B) {X : Nat} {P : Option Addr} {ss : List Si} (k : SisAt A X P ss) (hX : X ≤ b) : SisAt B X P ss := by
  obtain ⟨rs, h1, h2, h3⟩ := k.rows
  refine ⟨rs, h.sl h1 hX, h2, fun j r s hr hs => ?_⟩
  obtain ⟨A', c, e, h5, h4⟩ := h3 j r s hr hs
  exact ⟨A', c, e, h5, h.sl h4 hX⟩
theorem KeepC.voy {b : Nat} {A B : World} (h : KeepC b A B) {X : Nat} {v : Vg} {p : Vp} (k : VoyAt A X v p) (hX : X ≤ b) : VoyAt B X v p := ⟨k.hl, k.sl, k.ll, h.sl k.hs hX, h.sis k.ss hX, h.sl k.ls hX⟩
/-! The lots aboard, one by one. -/
abbrev AbT (ls : List Cg) (s : List Int) := { x : Cg × Int // x ∈ abd ls s }
def cgv (c : Cg) : Value := .agg #[.int .i64 c.t0, .int .i64 c.t1, .int .i64 c.wo]
theorem zip_take {α β : Type} (ls : List α) (s : List β) (n : Nat) : ls.zip (s.take n) = (ls.zip s).take n := by
  induction s generalizing ls n with
  | nil => simp
  | cons b s ih =>
    cases ls with
    | nil => simp
    | cons a ls =>
      cases n with
      | zero => simp
      | succ n => simp [ih]
theorem abd_snoc {ls : List Cg} {s : List Int} {k : Nat} (hk : k < s.length) (hl : k < ls.length) : abd ls (s.take (k + 1)) = abd ls (s.take k) ++ (if s[k] = -1 then [] else [(ls[k], s[k])]) := by
  have hz : k < (ls.zip s).length := by simp; omega
  unfold abd
  rw [zip_take, zip_take, List.take_succ_eq_append_getElem hz, List.filter_append, List.getElem_zip]
  by_cases e : s[k] = -1
  · rw [if_pos e, List.filter_cons_of_neg (by simp [e])]; rfl
  · rw [if_neg e, List.filter_cons_of_pos (by simp [e])]; rfl
theorem abd_pre {ls : List Cg} {s : List Int} (k : Nat) : abd ls (s.take k) <+: abd ls s := by
  unfold abd
  rw [zip_take]
  exact (List.take_prefix _ _).filter _
set_option maxRecDepth 100000 in
set_option maxHeartbeats 1000000 in
theorem aboard1_in (F : Fence) (n : Nat) (h103 : F.fn 51) (hro : F.round = none) (hn : 1 ≤ n) (b5 gs gv B : Nat) (v : Vg) (p : Vp) (A : Option Addr) (sn sc : Nat) (s : List Int) (hgs : gs ≠ b5) (hgv : gv ≠ b5) (hB : B ≤ b5) (hsn : sn ≤ 1000) (hln : sn ≤ p.ln) (hl : s.length = sn) (l : Nat) (J Jx : List (AbT v.ls s) → World → Prop)
    (hY : ∀ pre x W, J pre W → pre.length < (abd v.ls s).length → YieldAt F (n - 1) Tryd.prog l #[cgv x.1.1, .int .i64 x.1.2] W fun e W' =>
      (e = .returned (.bool true) ∧ J (pre ++ [x]) W' ∧ KeepC b5 W W') ∨ (e = .returned (.bool false) ∧ Jx (pre ++ [x]) W'))
    (W : World) (kS : Bx W gs 39 #[.slice A sn sc]) (kV : Bx W gv 26 (vcs v p)) (hV : VoyAt W B v p) (hS : Sl W B 1 A (inr s)) (h0 : J [] W) :
    CallsIn F n Tryd.prog 51 #[.func (.yield l) #[] #[], .pointer (some ⟨gs, 0, none⟩), .pointer (some ⟨gv, 0, none⟩)] W fun e W' => (∃ u, e = .returned u) ∧
      ((∃ xs : List (AbT v.ls s), xs.map (·.1) = abd v.ls s ∧ J xs W') ∨ (∃ pre : List (AbT v.ls s), pre.map (·.1) <+: abd v.ls s ∧ Jx pre W')) := by
  obtain ⟨c0, cf, cz⟩ := kS.one
  have HL := Lib.hid hl
  clear hl
  refine callsIn_of_wp Tryd.func51 rfl h103 ?_ hro
  simp only [Tryd.ntmps51, List.size_toArray, List.length_cons, List.length_nil, Nat.reduceAdd, Nat.reduceSub, Array.replicate_succ, Array.replicate_zero, List.push_toArray, List.append_toArray, List.nil_append, List.cons_append]
  gi_wp2
  clear c0 cf cz
  gi_loopw [8] (fun i wr => ∃ (k : Nat) (pre : List (AbT v.ls s)), i = .int .i64 k ∧ k ≤ sn ∧ Hid (pre.map (·.1) = abd v.ls (s.take k)) ∧ KeepC b5 W wr ∧ J pre wr) (fun i _ => sn - (intOf i).toNat)
  case atStart => exact ⟨0, [], rfl, by omega, Lib.hid (by simp [abd]), KeepC.refl _ _, h0⟩
  case round =>
    obtain ⟨k, pre, rfl, hk, hpre, hK, hJ⟩ := hrel
    by_cases hks : k < sn
    · have hke : k < s.length := by rw [HL.out]; exact hks
      have hkl : k < v.ls.length := by rw [hV.ll]; omega
      obtain ⟨ad, rfl, _, q0⟩ := inr_at (hK.sl hS hB) hke
      obtain ⟨bd, hbd, _, d0, d1, d2⟩ := cg_at (hK.sl hV.ls hB) hkl
      have hds := abd_snoc (ls := v.ls) hke hkl
      have hmem : s[k] ≠ -1 → (v.ls[k], s[k]) ∈ abd v.ls s := fun hne => by
        have := (abd_pre (ls := v.ls) (s := s) (k + 1)).subset
        refine this ?_
        rw [hds, if_neg hne]
        simp
      have hlen : s[k] ≠ -1 → pre.length < (abd v.ls s).length := fun hne => by
        have h1 := (abd_pre (ls := v.ls) (s := s) (k + 1)).length_le
        rw [hds, if_neg hne, ← hpre.out] at h1
        simp at h1
        omega
      have e0 : s[k]? = some s[k] := List.getElem?_eq_getElem hke
      generalize s[k] = x at *
      generalize v.ls[k] = c at *
      have hkp : k < p.ln := by omega
      have hiw : IntKind.i64.wrap ((k : Int) + 1) = (k : Int) + 1 := IntWalk.i64_in _ (by omega)
      have HD := Lib.hid hds
      have HM := Lib.hid hmem
      have HN := Lib.hid hlen
      clear hds hmem hlen e0
      by_cases hx : x = -1
      · have hx1 : (x != -1) = false := by simp [hx]
        have hd' : Hid (pre.map (·.1) = abd v.ls (s.take (k + 1))) := Lib.hid (by rw [HD.out, if_pos hx, List.append_nil]; exact hpre.out)
        clear hx
        gi_wp2
        refine ⟨fun f h => (by cases h), ?_⟩
        gi_wp2
        go_roundw
        case rel => exact ⟨k + 1, pre, by go_num, by omega, hd', hK, hJ⟩
        case measure => simp [intOf]; omega
      · have hx1 : (x != -1) = true := by simp [hx]
        have kV' := hK.bx kV hgv
        rw [vcs_def] at kV'
        obtain ⟨v0, v1, v2, v3, v4, v5, v6, vf, vz⟩ := kV'.seven
        rw [hbd] at v6
        obtain ⟨fn, tmps, assign, body, hy, hR⟩ := hY pre ⟨(c, x), HM.out hx⟩ wr hJ (HN.out hx)
        have hd' : Hid ((pre ++ [(⟨(c, x), HM.out hx⟩ : AbT v.ls s)]).map (·.1) = abd v.ls (s.take (k + 1))) := Lib.hid (by rw [HD.out, if_neg hx, List.map_append, hpre.out]; rfl)
        dsimp only [cgv] at hy
        clear hY
        gi_wp2
        refine hR.mono ?_
        rintro e W3 (⟨rfl, hJ3, hk3⟩ | ⟨rfl, hJx3⟩)
        · gi_wp2
          go_roundw
          case rel => exact ⟨k + 1, _, by go_num, by omega, hd', hK.trans hk3, hJ3⟩
          case measure => simp [intOf]; omega
        · gi_wp2
          refine bodyPost_ret (results_none rfl _ _ _) rfl ?_
          refine ⟨⟨_, rfl⟩, .inr ⟨_, ?_, hJx3⟩⟩
          rw [hd'.out]
          exact abd_pre _
    · gi_wp2
      go_end0
      refine ⟨⟨_, rfl⟩, .inl ⟨pre, ?_, hJ⟩⟩
      rw [hpre.out, List.take_of_length_le (by rw [HL.out]; omega)]
end Go.Proofs.YtdlohfglmagneaaDoor

/-! Loops over the lots aboard. -/
namespace Go.Proofs.YtdlohfglmagneaaDoor
open Go Go.RowKit Go.Shelf
theorem aboard1_stops (F : Fence) (n : Nat) (h103 : F.fn 51) (hro : F.round = none) (hn : 1 ≤ n) (b5 gs gv B : Nat) (v : Vg) (p : Vp) (A : Option Addr) (sn sc : Nat) (s : List Int) (hgs : gs ≠ b5) (hgv : gv ≠ b5) (hB : B ≤ b5) (hsn : sn ≤ 1000) (hln : sn ≤ p.ln) (hl : s.length = sn) (w : World)
    (kS : Bx w gs 39 #[.slice A sn sc]) (kV : Bx w gv 26 (vcs v p)) (hV : VoyAt w B v p) (hS : Sl w B 1 A (inr s)) (hBw : B ≤ w.heap.size) :
    SeqStopsK F n Tryd.prog 51 #[.pointer (some ⟨gs, 0, none⟩), .pointer (some ⟨gv, 0, none⟩)] (fun x : AbT v.ls s => #[cgv x.1.1, .int .i64 x.1.2]) (KeepC b5) (fun xs => xs.map (·.1) = abd v.ls s) (fun pre => pre.map (·.1) <+: abd v.ls s) (abd v.ls s).length w :=
  fun l J Jx W hW _ _ hY h0 => aboard1_in F n h103 hro hn b5 gs gv B v p A sn sc s hgs hgv hB hsn hln hl l J Jx hY W (kS.call hW) (kV.call hW) (hV.below (hW.mono hBw)) (hS.below (hW.mono hBw)) h0
theorem bx_own (B t : Nat) {α : Type} (g : α → Array Value) : Own (fun (s : α) W => Bx W B t (g s)) := fun s A C row hs hg hr => by
  refine Bx.grown hs hg fun e => ?_
  obtain ⟨o, ho, hc⟩ := hr B e.symm
  rw [show A.heap[B]? = _ from hs] at ho
  cases ho
  cases hc
theorem keepsFrom_below' {B : Nat} {W W' : World} (hb : Below W.heap.size W W') : KeepsFrom B W W' := ⟨hb.size, fun k _ _ ho _ => (hb.block k (Array.getElem?_eq_some_iff.1 ho).1).trans ho⟩
theorem own_grown {β : Type} {B : Nat} {w : World} (hB : w.heap.size ≤ B) (b : Nat) : OwnFrom B (fun (_ : β) W => w.grownBy W (some b)) := fun _ X Y row hs hg hr =>
  grown_trans hs hg (.inr fun k hk => Nat.le_trans hB (hr k hk).1)
/-- How a round may end: it goes on, or returns. -/
def abPost (b5 t5 : Nat) (cs : Array Value) (Ix : World → Prop) (W : World) : Exit → Act → World → Prop
  | .normal, _, W' => W.grownBy W' (some b5) ∧ Bx W' b5 t5 cs
  | .ret, _, W' => W.grownBy W' (some b5) ∧ Ix W'
  | _, _, _ => False
def cgc (c : Cg) : Array Value := #[.int .i64 c.t0, .int .i64 c.t1, .int .i64 c.wo]
theorem AnyG.startCIn {P : Program} {ops : Array Oper} {Q : Exit → Act → World → Prop} {l n : Nat} {id : Nat} {a : Act} {w : World} (hm : P.follows .mixedOrders = true) (hd : noDefer ops = true) (hQ : ∀ a w, ¬ Q .outgrown a w)
    (h : wpAny P .any ops Q ops.size (Array.replicate ops.size false) a w.drew) : (Code.region id ops true).wpIn (Fence.wide.inRound l) n P Q a w :=
  wpIn_region_any hm (wpAnyIn_of (fun ⟨a, w, h⟩ => hQ a w h) hd (fun row args w R h => rows_wide row args w R h) _ _ _ _ h)
/-- A loop over the lots aboard that turns one box, and goes on or returns. -/
theorem range_ab {n : Nat} (hn : 3 ≤ n) {ps : Array Tmp} {assign body : Code} {Q : Exit → Act → World → Prop} {a : Act} {w : World} {g : Operand} (b5 t5 gs gv B : Nat) (v : Vg) (p : Vp) (A : Option Addr) (sn sc : Nat) (s : List Int)
    (hg : a.eval g = .func (.func 51) #[] #[.pointer (some ⟨gs, 0, none⟩), .pointer (some ⟨gv, 0, none⟩)])
    (kS : Bx w gs 39 #[.slice A sn sc]) (kV : Bx w gv 26 (vcs v p)) (hV : VoyAt w B v p) (hS : Sl w B 1 A (inr s)) (hgs : gs ≠ b5) (hgv : gv ≠ b5) (hB : B ≤ b5) (hsn : sn ≤ 1000) (hln : sn ≤ p.ln) (hl : s.length = sn)
    (enc : List (Cg × Int) → Array Value) (k5 : Bx w b5 t5 (enc [])) (hps : ps.size = 2)
    (Ix : List (AbT v.ls s) → World → Prop) (hIx : OwnFrom w.heap.size Ix)
    (Fr : AbT v.ls s → Nat → Act)
    (hassign : ∀ (l : Nat) (x : AbT v.ls s) (W : World) (K : Act → World → Prop), (∀ (b8 : Nat) (W' : World), W.heap.size = b8 → Below W.heap.size W W' → Bx W' b8 53 (cgc x.1.1) → K (Fr x b8) W') →
      assign.wpIn (Fence.wide.inRound l) (n - 1 - 1) Tryd.prog (Exit.then K (fun _ _ _ => False)) { tmps := (ps.zip #[cgv x.1.1, .int .i64 x.1.2]).foldl (fun t (p, v) => t.setIfInBounds p v) a.tmps, defers := [] } W)
    (hbody : ∀ (l : Nat) (pre : List (AbT v.ls s)) (x : AbT v.ls s) (b8 : Nat) (W : World), w.heap.size ≤ l → (∃ r, W.heap[l]? = some (.loop r)) → w.grownBy W (some b5) → Bx W b5 t5 (enc (pre.map (·.1))) → w.heap.size ≤ b8 → Bx W b8 53 (cgc x.1.1) → pre.length < (abd v.ls s).length →
      body.wpIn (Fence.wide.inRound l) (n - 1 - 1) Tryd.prog (abPost b5 t5 (enc ((pre ++ [x]).map (·.1))) (Ix (pre ++ [x])) W) (Fr x b8) W)
    (hdone : ∀ (D : Nat) (W : World), w.heap.size ≤ D → w.grownBy W (some b5) → Bx W b5 t5 (enc (abd v.ls s)) → W.heap[D]? = some (.deferred (some [])) → Q .normal { a with defers := { target := .collected D, args := #[] } :: a.defers } W)
    (hstop : ∀ (D : Nat) (pre : List (AbT v.ls s)) (W : World), w.heap.size ≤ D → pre.map (·.1) <+: abd v.ls s → Ix pre W → W.heap[D]? = some (.deferred (some [])) → Code.ret.wpIn Fence.wide n Tryd.prog Q { a with defers := { target := .collected D, args := #[] } :: a.defers } W) :
    (Code.rangeFunc g ps assign body).wpIn Fence.wide n Tryd.prog Q a w := by
  have hb5 := k5.lt
  have kf : ∀ {X Y : World}, X.grownBy Y (some b5) → (∃ cs, Bx X b5 t5 cs) → KeepsFrom w.heap.size X Y := fun {X Y} hg hx => ⟨hg.size, fun k o hk h0 ho => by
    refine (hg.block k (Array.getElem?_eq_some_iff.1 h0).1 fun e => ?_).trans h0
    obtain ⟨cs, hx⟩ := hx
    obtain rfl : k = b5 := by simpa using e
    rw [show X.heap[k]? = _ from hx] at h0
    cases h0
    cases ho⟩
  refine wpIn_rangeFunc_ownH (F := Fence.wide) rfl (by omega) (gf := 51) (lb := #[.pointer (some ⟨gs, 0, none⟩), .pointer (some ⟨gv, 0, none⟩)]) hg trivial (enters_of Tryd.func51 (by kernel_rfl) rfl)
    (aboard1_stops Fence.wide (n - 1) trivial rfl (by omega) b5 gs gv B v p A sn sc s hgs hgv hB hsn hln hl w kS kV hV hS (by omega)) (fun h k => h.trans k) (fun W l o o' _ h ho _ => KeepC.put W l o o' h ho) (Below.refl _ _) (fun _ => hps.symm)
    (fun pre W => w.grownBy W (some b5) ∧ Bx W b5 t5 (enc (pre.map (·.1))))
    (fun c pre W => c = .ret ∧ Ix pre W)
    (OwnFrom.and (own_grown (Nat.le_refl _) b5) (Own.from (bx_own _ _ _) _))
    (fun c => OwnFrom.and (ownFrom_pure _ _) hIx)
    ⟨grown_refl _ _, k5⟩ (fun x a' W => ∃ b8, a' = Fr x b8 ∧ w.heap.size ≤ b8 ∧ Bx W b8 53 (cgc x.1.1))
    (fun x a' _ X Y row hs hg hr => by obtain ⟨b8, e, h8, h9⟩ := hs; exact ⟨b8, e, h8, (Own.from (bx_own b8 53 (fun (_ : Unit) => cgc x.1.1)) w.heap.size) () X Y row h9 hg hr⟩) ?assign ?body ?done ?stop
  case assign =>
    rintro l pre x W K ⟨i1, i2⟩ hK
    refine hassign l x W K fun b8 W' hb8 hb hx => hK _ W' (keepsFrom_below' hb) (KeepC.grown (grown_below hb)) ⟨grownF_trans i1 (grown_below hb), i2.call hb⟩ ⟨b8, rfl, ?_, hx⟩
    rw [← hb8]; exact i1.size
  case body =>
    rintro l pre x a' W hl hr ⟨i1, i2⟩ ⟨b8, rfl, h8, hx⟩ hlen
    refine wpIn_mono (hbody l pre x b8 W hl hr i1 i2 h8 hx hlen) ?_
    rintro e a3 W' h
    cases e with
    | normal => exact ⟨kf h.1 ⟨_, i2⟩, KeepC.grown h.1, grownF_trans i1 h.1, h.2⟩
    | ret => exact ⟨kf h.1 ⟨_, i2⟩, rfl, h.2⟩
    | exit _ => exact h.elim
    | goto _ => exact h.elim
    | panic _ => exact h.elim
    | outgrown => exact h.elim
  case done =>
    rintro D xs W hD hS ⟨i1, i2⟩ hk
    rw [hS] at i2
    exact hdone D W hD i1 i2 hk
  case stop =>
    rintro D c pre W hD hS ⟨rfl, hi⟩ hk
    exact hstop D pre W hD hS hi hk
def abPostP (B b5 t5 : Nat) (cs : Array Value) (Pu : Prop) (Ix : World → Prop) (W : World) : Exit → Act → World → Prop
  | .normal, _, W' => W.grownBy W' (some b5) ∧ Bx W' b5 t5 cs ∧ Pu
  | .ret, _, W' => KeepsFrom B W W' ∧ Ix W'
  | _, _, _ => False
/-- The same, with something that is so of the lots gone through; a round that returns may turn other boxes. -/
theorem range_abP {n : Nat} (hn : 3 ≤ n) {ps : Array Tmp} {assign body : Code} {Q : Exit → Act → World → Prop} {a : Act} {w : World} {g : Operand} (b5 t5 gs gv B : Nat) (v : Vg) (p : Vp) (A : Option Addr) (sn sc : Nat) (s : List Int)
    (hg : a.eval g = .func (.func 51) #[] #[.pointer (some ⟨gs, 0, none⟩), .pointer (some ⟨gv, 0, none⟩)])
    (kS : Bx w gs 39 #[.slice A sn sc]) (kV : Bx w gv 26 (vcs v p)) (hV : VoyAt w B v p) (hS : Sl w B 1 A (inr s)) (hgs : gs ≠ b5) (hgv : gv ≠ b5) (hB : B ≤ b5) (hsn : sn ≤ 1000) (hln : sn ≤ p.ln) (hl : s.length = sn)
    (enc : List (Cg × Int) → Array Value) (Pu : List (Cg × Int) → Prop) (k5 : Bx w b5 t5 (enc [])) (hPu : Pu []) (hps : ps.size = 2)
    (Ix : List (AbT v.ls s) → World → Prop) (hIx : OwnFrom w.heap.size Ix)
    (Fr : AbT v.ls s → Nat → Act)
    (hassign : ∀ (l : Nat) (x : AbT v.ls s) (W : World) (K : Act → World → Prop), (∀ (b8 : Nat) (W' : World), W.heap.size = b8 → Below W.heap.size W W' → Bx W' b8 53 (cgc x.1.1) → K (Fr x b8) W') →
      assign.wpIn (Fence.wide.inRound l) (n - 1 - 1) Tryd.prog (Exit.then K (fun _ _ _ => False)) { tmps := (ps.zip #[cgv x.1.1, .int .i64 x.1.2]).foldl (fun t (p, v) => t.setIfInBounds p v) a.tmps, defers := [] } W)
    (hbody : ∀ (l : Nat) (pre : List (AbT v.ls s)) (x : AbT v.ls s) (b8 : Nat) (W : World), w.heap.size ≤ l → (∃ r, W.heap[l]? = some (.loop r)) → w.grownBy W (some b5) → Bx W b5 t5 (enc (pre.map (·.1))) → Pu (pre.map (·.1)) → w.heap.size ≤ b8 → Bx W b8 53 (cgc x.1.1) → pre.length < (abd v.ls s).length →
      body.wpIn (Fence.wide.inRound l) (n - 1 - 1) Tryd.prog (abPostP w.heap.size b5 t5 (enc ((pre ++ [x]).map (·.1))) (Pu ((pre ++ [x]).map (·.1))) (Ix (pre ++ [x])) W) (Fr x b8) W)
    (hdone : ∀ (D : Nat) (W : World), w.heap.size ≤ D → w.grownBy W (some b5) → Bx W b5 t5 (enc (abd v.ls s)) → Pu (abd v.ls s) → W.heap[D]? = some (.deferred (some [])) → Q .normal { a with defers := { target := .collected D, args := #[] } :: a.defers } W)
    (hstop : ∀ (D : Nat) (pre : List (AbT v.ls s)) (W : World), w.heap.size ≤ D → pre.map (·.1) <+: abd v.ls s → Ix pre W → W.heap[D]? = some (.deferred (some [])) → Code.ret.wpIn Fence.wide n Tryd.prog Q { a with defers := { target := .collected D, args := #[] } :: a.defers } W) :
    (Code.rangeFunc g ps assign body).wpIn Fence.wide n Tryd.prog Q a w := by
  have hb5 := k5.lt
  have kf : ∀ {X Y : World}, X.grownBy Y (some b5) → (∃ cs, Bx X b5 t5 cs) → KeepsFrom w.heap.size X Y := fun {X Y} hg hx => ⟨hg.size, fun k o hk h0 ho => by
    refine (hg.block k (Array.getElem?_eq_some_iff.1 h0).1 fun e => ?_).trans h0
    obtain ⟨cs, hx⟩ := hx
    obtain rfl : k = b5 := by simpa using e
    rw [show X.heap[k]? = _ from hx] at h0
    cases h0
    cases ho⟩
  refine wpIn_rangeFunc_ownH (F := Fence.wide) rfl (by omega) (gf := 51) (lb := #[.pointer (some ⟨gs, 0, none⟩), .pointer (some ⟨gv, 0, none⟩)]) hg trivial (enters_of Tryd.func51 (by kernel_rfl) rfl)
    (aboard1_stops Fence.wide (n - 1) trivial rfl (by omega) b5 gs gv B v p A sn sc s hgs hgv hB hsn hln hl w kS kV hV hS (by omega)) (fun h k => h.trans k) (fun W l o o' _ h ho _ => KeepC.put W l o o' h ho) (Below.refl _ _) (fun _ => hps.symm)
    (fun pre W => (w.grownBy W (some b5) ∧ Bx W b5 t5 (enc (pre.map (·.1)))) ∧ Pu (pre.map (·.1)))
    (fun c pre W => c = .ret ∧ Ix pre W)
    (OwnFrom.and (OwnFrom.and (own_grown (Nat.le_refl _) b5) (Own.from (bx_own _ _ _) _)) (ownFrom_pure _ _))
    (fun c => OwnFrom.and (ownFrom_pure _ _) hIx)
    ⟨⟨grown_refl _ _, k5⟩, hPu⟩ (fun x a' W => ∃ b8, a' = Fr x b8 ∧ w.heap.size ≤ b8 ∧ Bx W b8 53 (cgc x.1.1))
    (fun x a' _ X Y row hs hg hr => by obtain ⟨b8, e, h8, h9⟩ := hs; exact ⟨b8, e, h8, (Own.from (bx_own b8 53 (fun (_ : Unit) => cgc x.1.1)) w.heap.size) () X Y row h9 hg hr⟩) ?assign ?body ?done ?stop
  case assign =>
    rintro l pre x W K ⟨⟨i1, i2⟩, i3⟩ hK
    refine hassign l x W K fun b8 W' hb8 hb hx => hK _ W' (keepsFrom_below' hb) (KeepC.grown (grown_below hb)) ⟨⟨grownF_trans i1 (grown_below hb), i2.call hb⟩, i3⟩ ⟨b8, rfl, ?_, hx⟩
    rw [← hb8]; exact i1.size
  case body =>
    rintro l pre x a' W hl hr ⟨⟨i1, i2⟩, i3⟩ ⟨b8, rfl, h8, hx⟩ hlen
    refine wpIn_mono (hbody l pre x b8 W hl hr i1 i2 i3 h8 hx hlen) ?_
    rintro e a3 W' h
    cases e with
    | normal => exact ⟨kf h.1 ⟨_, i2⟩, KeepC.grown h.1, ⟨grownF_trans i1 h.1, h.2.1⟩, h.2.2⟩
    | ret => exact ⟨h.1, rfl, h.2⟩
    | exit _ => exact h.elim
    | goto _ => exact h.elim
    | panic _ => exact h.elim
    | outgrown => exact h.elim
  case done =>
    rintro D xs W hD hS ⟨⟨i1, i2⟩, i3⟩ hk
    rw [hS] at i2 i3
    exact hdone D W hD i1 i2 i3 hk
  case stop =>
    rintro D c pre W hD hS ⟨rfl, hi⟩ hk
    exact hstop D pre W hD hS hi hk
end Go.Proofs.YtdlohfglmagneaaDoor
