/- Voyages in memory. -/
import Derived.Test.YtfcpjkofbejleaaVb
import Derived.Test.YtfcpjkofbejleaaChM
import Derived.RangeFuncOne
set_option linter.unusedSimpArgs false
set_option linter.unusedVariables false
namespace Go.Proofs.Ytfcpjkofbejleaa
open Go Go.RowKit
/-- Where the lists of a voyage lie. -/
structure Vp where
  (HA : Option Addr)
  (hn hc : Nat)
  (SA : Option Addr)
  (sn sc : Nat)
  (LA : Option Addr)
  (ln lc : Nat)
def vcs (v : Vg) (p : Vp) : Array Value := #[.int .i64 v.li, .int .i64 v.un, .int .i64 v.tr, .slice p.HA p.hn p.hc, .int .i64 v.le, .slice p.SA p.sn p.sc, .slice p.LA p.ln p.lc]
theorem vcs_def (v : Vg) (p : Vp) : vcs v p = #[.int .i64 v.li, .int .i64 v.un, .int .i64 v.tr, .slice p.HA p.hn p.hc, .int .i64 v.le, .slice p.SA p.sn p.sc, .slice p.LA p.ln p.lc] := rfl
def hdr (h : Hd) : List Value := [.int .i64 h.rm, .int .i64 h.bw, .int .i64 h.st]
def lvr (l : Lv) : List Value := [.int .i64 l.fr, .int .i64 l.d0, .int .i64 l.d1]
def cgr (c : Cg) : List Value := [.int .i64 c.t0, .int .i64 c.t1, .int .i64 c.wo]
theorem Bx.seven {w : World} {g : Nat} {t : TypeId} {a b c d e f h : Value} (k : Bx w g t #[a, b, c, d, e, f, h]) : w.cell? ⟨g, 0, none⟩ = some a ∧ w.cell? ⟨g, 1, none⟩ = some b ∧ w.cell? ⟨g, 2, none⟩ = some c ∧ w.cell? ⟨g, 3, none⟩ = some d ∧ w.cell? ⟨g, 4, none⟩ = some e ∧ w.cell? ⟨g, 5, none⟩ = some f ∧ w.cell? ⟨g, 6, none⟩ = some h ∧ (∀ o, w.frozen? ⟨g, o, none⟩ = false) ∧ g < w.heap.size :=
  ⟨k.cell 0, k.cell 1, k.cell 2, k.cell 3, k.cell 4, k.cell 5, k.cell 6, k.free, k.lt⟩
theorem Bx.three' {w : World} {g : Nat} {t : TypeId} {a b c : Value} (k : Bx w g t #[a, b, c]) : w.cell? ⟨g, 0, none⟩ = some a ∧ w.cell? ⟨g, 1, none⟩ = some b ∧ w.cell? ⟨g, 2, none⟩ = some c ∧ (∀ o, w.frozen? ⟨g, o, none⟩ = false) ∧ g < w.heap.size :=
  ⟨k.cell 0, k.cell 1, k.cell 2, k.free, k.lt⟩
/-- The three cells of a row of three numbers. -/
theorem thr_at {α : Type} {f : α → List Value} {a b c : α → Value} (hf : ∀ x, f x = [a x, b x, c x]) {w : World} {B k : Nat} {A : Option Addr} {L : List α} (h : Sl w B 3 A (L.map f)) (hk : k < L.length) :
    ∃ ad, A = some ad ∧ ad.block < B ∧ w.cell? (ad.add (k * 3)) = some (a L[k]) ∧ w.cell? ⟨(ad.add (k * 3)).block, (ad.add (k * 3)).off + 1, none⟩ = some (b L[k]) ∧ w.cell? ⟨(ad.add (k * 3)).block, (ad.add (k * 3)).off + 2, none⟩ = some (c L[k]) := by
  obtain ⟨ad, h1, h2, h3⟩ := h.at_ (k := k) (by simpa using hk)
  simp only [List.getElem_map, hf] at h3
  exact ⟨ad, h1, h2, h3.head rfl, h3.next 0 rfl, h3.next 1 rfl⟩
section
variable {w w' : World} {B B' k : Nat} {A : Option Addr}
theorem hd_at {L : List Hd} (h : Sl w B 3 A (L.map hdr)) (hk : k < L.length) : ∃ ad, A = some ad ∧ ad.block < B ∧ w.cell? (ad.add (k * 3)) = some (.int .i64 L[k].rm) ∧ w.cell? ⟨(ad.add (k * 3)).block, (ad.add (k * 3)).off + 1, none⟩ = some (.int .i64 L[k].bw) ∧ w.cell? ⟨(ad.add (k * 3)).block, (ad.add (k * 3)).off + 2, none⟩ = some (.int .i64 L[k].st) :=
  thr_at (f := hdr) (a := fun h => .int .i64 h.rm) (b := fun h => .int .i64 h.bw) (c := fun h => .int .i64 h.st) (fun _ => rfl) h hk
theorem lv_at {L : List Lv} (h : Sl w B 3 A (L.map lvr)) (hk : k < L.length) : ∃ ad, A = some ad ∧ ad.block < B ∧ w.cell? (ad.add (k * 3)) = some (.int .i64 L[k].fr) ∧ w.cell? ⟨(ad.add (k * 3)).block, (ad.add (k * 3)).off + 1, none⟩ = some (.int .i64 L[k].d0) ∧ w.cell? ⟨(ad.add (k * 3)).block, (ad.add (k * 3)).off + 2, none⟩ = some (.int .i64 L[k].d1) :=
  thr_at (f := lvr) (a := fun h => .int .i64 h.fr) (b := fun h => .int .i64 h.d0) (c := fun h => .int .i64 h.d1) (fun _ => rfl) h hk
theorem cg_at {L : List Cg} (h : Sl w B 3 A (L.map cgr)) (hk : k < L.length) : ∃ ad, A = some ad ∧ ad.block < B ∧ w.cell? (ad.add (k * 3)) = some (.int .i64 L[k].t0) ∧ w.cell? ⟨(ad.add (k * 3)).block, (ad.add (k * 3)).off + 1, none⟩ = some (.int .i64 L[k].t1) ∧ w.cell? ⟨(ad.add (k * 3)).block, (ad.add (k * 3)).off + 2, none⟩ = some (.int .i64 L[k].wo) :=
  thr_at (f := cgr) (a := fun h => .int .i64 h.t0) (b := fun h => .int .i64 h.t1) (c := fun h => .int .i64 h.wo) (fun _ => rfl) h hk
/-- The three cells of a sill. -/
def SiRow (w : World) (B : Nat) (r : List Value) (s : Si) : Prop :=
  ∃ (A : Option Addr) (c : Nat), r = [.int .i64 s.t0, .int .i64 s.t1, .slice A s.lv.length c] ∧ s.lv.length ≤ c ∧ Sl w B 3 A (s.lv.map lvr)
structure SisAt (w : World) (B : Nat) (A : Option Addr) (ss : List Si) : Prop where
  rows : ∃ rs : List (List Value), Sl w B 3 A rs ∧ rs.length = ss.length ∧ ∀ (j : Nat) (r : List Value) (b : Si), rs[j]? = some r → ss[j]? = some b → SiRow w B r b
theorem SisAt.below {ss : List Si} (h : SisAt w B A ss) (hb : Below B w w') : SisAt w' B A ss := by
  obtain ⟨rs, h1, h2, h3⟩ := h.rows
  refine ⟨rs, h1.below hb, h2, fun j r b hr hb' => ?_⟩
  obtain ⟨A', c, e, h5, h4⟩ := h3 j r b hr hb'
  exact ⟨A', c, e, h5, h4.below hb⟩
theorem SisAt.more {ss : List Si} (h : SisAt w B A ss) (hB : B ≤ B') : SisAt w B' A ss := by
  obtain ⟨rs, h1, h2, h3⟩ := h.rows
  refine ⟨rs, h1.more hB, h2, fun j r b hr hb' => ?_⟩
  obtain ⟨A', c, e, h5, h4⟩ := h3 j r b hr hb'
  exact ⟨A', c, e, h5, h4.more hB⟩
theorem SisAt.at_ {ss : List Si} (h : SisAt w B A ss) (hk : k < ss.length) : ∃ (ad : Addr) (G : Option Addr) (c : Nat), A = some ad ∧ ad.block < B ∧
    w.cell? (ad.add (k * 3)) = some (.int .i64 ss[k].t0) ∧ w.cell? ⟨(ad.add (k * 3)).block, (ad.add (k * 3)).off + 1, none⟩ = some (.int .i64 ss[k].t1) ∧
    w.cell? ⟨(ad.add (k * 3)).block, (ad.add (k * 3)).off + 2, none⟩ = some (.slice G ss[k].lv.length c) ∧ ss[k].lv.length ≤ c ∧ Sl w B 3 G (ss[k].lv.map lvr) := by
  obtain ⟨rs, h1, h2, h3⟩ := h.rows
  have hk' : k < rs.length := by omega
  obtain ⟨ad, e1, e2, e3⟩ := h1.at_ hk'
  obtain ⟨G, c, e4, e6, e5⟩ := h3 k rs[k] ss[k] (List.getElem?_eq_getElem hk') (List.getElem?_eq_getElem hk)
  rw [e4] at e3
  exact ⟨ad, G, c, e1, e2, e3.head rfl, e3.next 0 rfl, e3.next 1 rfl, e6, e5⟩
/-- A voyage in memory. -/
structure VoyAt (w : World) (B : Nat) (v : Vg) (p : Vp) : Prop where
  hl : v.hs.length = p.hn
  sl : v.ss.length = p.sn
  ll : v.ls.length = p.ln
  hs : Sl w B 3 p.HA (v.hs.map hdr)
  ss : SisAt w B p.SA v.ss
  ls : Sl w B 3 p.LA (v.ls.map cgr)
theorem VoyAt.below {v : Vg} {p : Vp} (h : VoyAt w B v p) (hb : Below B w w') : VoyAt w' B v p := ⟨h.hl, h.sl, h.ll, h.hs.below hb, h.ss.below hb, h.ls.below hb⟩
theorem VoyAt.more {v : Vg} {p : Vp} (h : VoyAt w B v p) (hb : B ≤ B') : VoyAt w B' v p := ⟨h.hl, h.sl, h.ll, h.hs.more hb, h.ss.more hb, h.ls.more hb⟩
theorem VoyAt.call {v : Vg} {p : Vp} (h : VoyAt w w.heap.size v p) (hb : Below w.heap.size w w') : VoyAt w' w'.heap.size v p := (h.below hb).more hb.size
theorem SisAt.call {ss : List Si} (h : SisAt w w.heap.size A ss) (hb : Below w.heap.size w w') : SisAt w' w'.heap.size A ss := (h.below hb).more hb.size
end
/-- Lists that are not too long for Go. -/
structure Vp.Fit (p : Vp) : Prop where
  hn : p.hn ≤ 9223372036854775807
  sn : p.sn ≤ 9223372036854775807
  ln : p.ln ≤ 9223372036854775807
def LvFit (v : Vg) : Prop := ∀ s ∈ v.ss, s.lv.length ≤ 9223372036854775807
end Go.Proofs.Ytfcpjkofbejleaa

/-! The lots that a stowage has in holds: the iterator of ship.aboard as a contract, and the law for loops over it. -/
namespace Go.Proofs.Ytfcpjkofbejleaa
open Go Go.RowKit Go.Shelf
attribute [local go_sem] Oper.semAt_some
/-- All blocks of cells but b lie as they lay. -/
structure KeepC (b : Nat) (A B : World) : Prop where
  size : A.heap.size ≤ B.heap.size
  same : ∀ (k : Nat) (cs : Array Value) (t : TypeId) (f : Nat × Nat), k ≠ b → A.heap[k]? = some (.cells cs t f) → B.heap[k]? = some (.cells cs t f)
theorem KeepC.refl (b : Nat) (A : World) : KeepC b A A := ⟨Nat.le_refl _, fun _ _ _ _ _ h => h⟩
theorem KeepC.trans {b : Nat} {A B C : World} (h : KeepC b A B) (k : KeepC b B C) : KeepC b A C := ⟨Nat.le_trans h.size k.size, fun i cs t f hi e => k.same i cs t f hi (h.same i cs t f hi e)⟩
theorem KeepC.grown {b : Nat} {A B : World} (h : A.grownBy B (some b)) : KeepC b A B :=
  ⟨h.size, fun k cs t f hk e => (h.block k (Array.getElem?_eq_some_iff.1 e).1 (by simpa using hk)).trans e⟩
theorem KeepC.put {b : Nat} (W : World) (l : Nat) (o o' : Obj) (h : W.heap[l]? = some o) (ho : o.isCells = false) : KeepC b W (W.putObj l o') :=
  ⟨by simp [World.putObj], fun k cs t f _ e => by
    by_cases hk : k = l
    · subst hk; rw [h] at e; cases e; cases ho
    · exact (World.putObj_heap_other hk).trans e⟩
theorem KeepC.bx {b : Nat} {A B : World} (h : KeepC b A B) {g t : Nat} {cs : Array Value} (k : Bx A g t cs) (hg : g ≠ b) : Bx B g t cs := h.same g cs t (0, 0) hg k
theorem KeepC.cell {b : Nat} {A B : World} (h : KeepC b A B) {p : Addr} {v : Value} (hp : p.block ≠ b) (k : A.cell? p = some v) : B.cell? p = some v := by
  unfold World.cell? at k ⊢
  split at k
  · rename_i c t f e
    rw [h.same _ _ _ _ hp e]
    exact k
  · cases k
theorem KeepC.sl {b : Nat} {A B : World} (h : KeepC b A B) {X s : Nat} {P : Option Addr} {xs : List (List Value)} (k : Sl A X s P xs) (hX : X ≤ b) : Sl B X s P xs := fun i r hr => by
  obtain ⟨ad, h1, h2, h3⟩ := k i r hr
  exact ⟨ad, h1, h2, fun j u hu => h.cell (by rw [add_block, add_block]; omega) (h3 j u hu)⟩
theorem KeepC.sis {b : Nat} {A B : World} (h : KeepC b A B) {X : Nat} {P : Option Addr} {ss : List Si} (k : SisAt A X P ss) (hX : X ≤ b) : SisAt B X P ss := by
  obtain ⟨rs, h1, h2, h3⟩ := k.rows
  refine ⟨rs, h.sl h1 hX, h2, fun j r s hr hs => ?_⟩
  obtain ⟨A', c, e, h5, h4⟩ := h3 j r s hr hs
  exact ⟨A', c, e, h5, h.sl h4 hX⟩
theorem KeepC.voy {b : Nat} {A B : World} (h : KeepC b A B) {X : Nat} {v : Vg} {p : Vp} (k : VoyAt A X v p) (hX : X ≤ b) : VoyAt B X v p := ⟨k.hl, k.sl, k.ll, h.sl k.hs hX, h.sis k.ss hX, h.sl k.ls hX⟩
/-! The lots aboard, one by one. -/
abbrev AbT (ls : List Cg) (s : List Int) := { x : Cg × Int // x ∈ abd ls s }
def cgv (c : Cg) : Value := .agg #[.int .i64 c.t0, .int .i64 c.t1, .int .i64 c.wo]
theorem zip_take {α β : Type} (ls : List α) (s : List β) (n : Nat) : ls.zip (s.take n) = (ls.zip s).take n := by
  induction s generalizing ls n with
  | nil => simp
  | cons b s ih =>
    cases ls with
    | nil => simp
    | cons a ls =>
      cases n with
      | zero => simp
      | succ n => simp [ih]
theorem abd_snoc {ls : List Cg} {s : List Int} {k : Nat} (hk : k < s.length) (hl : k < ls.length) : abd ls (s.take (k + 1)) = abd ls (s.take k) ++ (if s[k] = -1 then [] else [(ls[k], s[k])]) := by
  have hz : k < (ls.zip s).length := by simp; omega
  unfold abd
  rw [zip_take, zip_take, List.take_succ_eq_append_getElem hz, List.filter_append, List.getElem_zip]
  by_cases e : s[k] = -1
  · rw [if_pos e, List.filter_cons_of_neg (by simp [e])]; rfl
  · rw [if_neg e, List.filter_cons_of_pos (by simp [e])]; rfl
theorem abd_pre {ls : List Cg} {s : List Int} (k : Nat) : abd ls (s.take k) <+: abd ls s := by
  unfold abd
  rw [zip_take]
  exact (List.take_prefix _ _).filter _
set_option maxRecDepth 100000 in
set_option maxHeartbeats 1000000 in
theorem aboard1_in (F : Fence) (n : Nat) (h103 : F.fn 103) (hro : F.round = none) (hn : 1 ≤ n) (b5 gs gv B : Nat) (v : Vg) (p : Vp) (A : Option Addr) (sn sc : Nat) (s : List Int) (hgs : gs ≠ b5) (hgv : gv ≠ b5) (hB : B ≤ b5) (hsn : sn ≤ 1000) (hln : sn ≤ p.ln) (hl : s.length = sn) (l : Nat) (J Jx : List (AbT v.ls s) → World → Prop)
    (hY : ∀ pre x W, J pre W → pre.length < (abd v.ls s).length → YieldAt F (n - 1) Try.prog l #[cgv x.1.1, .int .i64 x.1.2] W fun e W' =>
      (e = .returned (.bool true) ∧ J (pre ++ [x]) W' ∧ KeepC b5 W W') ∨ (e = .returned (.bool false) ∧ Jx (pre ++ [x]) W'))
    (W : World) (kS : Bx W gs 27 #[.slice A sn sc]) (kV : Bx W gv 26 (vcs v p)) (hV : VoyAt W B v p) (hS : Sl W B 1 A (inr s)) (h0 : J [] W) :
    CallsIn F n Try.prog 103 #[.func (.yield l) #[] #[], .pointer (some ⟨gs, 0, none⟩), .pointer (some ⟨gv, 0, none⟩)] W fun e W' => (∃ u, e = .returned u) ∧
      ((∃ xs : List (AbT v.ls s), xs.map (·.1) = abd v.ls s ∧ J xs W') ∨ (∃ pre : List (AbT v.ls s), pre.map (·.1) <+: abd v.ls s ∧ Jx pre W')) := by
  obtain ⟨c0, cf, cz⟩ := kS.one
  have HL := Lib.hid hl
  clear hl
  refine callsIn_of_wp Try.func103 rfl h103 ?_ hro
  simp only [Try.ntmps103, List.size_toArray, List.length_cons, List.length_nil, Nat.reduceAdd, Nat.reduceSub, Array.replicate_succ, Array.replicate_zero, List.push_toArray, List.append_toArray, List.nil_append, List.cons_append]
  gi_wp2
  clear c0 cf cz
  gi_loopw [8] (fun i wr => ∃ (k : Nat) (pre : List (AbT v.ls s)), i = .int .i64 k ∧ k ≤ sn ∧ Hid (pre.map (·.1) = abd v.ls (s.take k)) ∧ KeepC b5 W wr ∧ J pre wr) (fun i _ => sn - (intOf i).toNat)
  case atStart => exact ⟨0, [], rfl, by omega, Lib.hid (by simp [abd]), KeepC.refl _ _, h0⟩
  case round =>
    obtain ⟨k, pre, rfl, hk, hpre, hK, hJ⟩ := hrel
    by_cases hks : k < sn
    · have hke : k < s.length := by rw [HL.out]; exact hks
      have hkl : k < v.ls.length := by rw [hV.ll]; omega
      obtain ⟨ad, rfl, _, q0⟩ := inr_at (hK.sl hS hB) hke
      obtain ⟨bd, hbd, _, d0, d1, d2⟩ := cg_at (hK.sl hV.ls hB) hkl
      have hds := abd_snoc (ls := v.ls) hke hkl
      have hmem : s[k] ≠ -1 → (v.ls[k], s[k]) ∈ abd v.ls s := fun hne => by
        have := (abd_pre (ls := v.ls) (s := s) (k + 1)).subset
        refine this ?_
        rw [hds, if_neg hne]
        simp
      have hlen : s[k] ≠ -1 → pre.length < (abd v.ls s).length := fun hne => by
        have h1 := (abd_pre (ls := v.ls) (s := s) (k + 1)).length_le
        rw [hds, if_neg hne, ← hpre.out] at h1
        simp at h1
        omega
      have e0 : s[k]? = some s[k] := List.getElem?_eq_getElem hke
      generalize s[k] = x at *
      generalize v.ls[k] = c at *
      have hkp : k < p.ln := by omega
      have hiw : IntKind.i64.wrap ((k : Int) + 1) = (k : Int) + 1 := IntWalk.i64_in _ (by omega)
      have HD := Lib.hid hds
      have HM := Lib.hid hmem
      have HN := Lib.hid hlen
      clear hds hmem hlen e0
      by_cases hx : x = -1
      · have hx1 : (x != -1) = false := by simp [hx]
        have hd' : Hid (pre.map (·.1) = abd v.ls (s.take (k + 1))) := Lib.hid (by rw [HD.out, if_pos hx, List.append_nil]; exact hpre.out)
        clear hx
        gi_wp2
        refine ⟨fun f h => (by cases h), ?_⟩
        gi_wp2
        go_roundw
        case rel => exact ⟨k + 1, pre, by go_num, by omega, hd', hK, hJ⟩
        case measure => simp [intOf]; omega
      · have hx1 : (x != -1) = true := by simp [hx]
        have kV' := hK.bx kV hgv
        rw [vcs_def] at kV'
        obtain ⟨v0, v1, v2, v3, v4, v5, v6, vf, vz⟩ := kV'.seven
        rw [hbd] at v6
        obtain ⟨fn, tmps, assign, body, hy, hR⟩ := hY pre ⟨(c, x), HM.out hx⟩ wr hJ (HN.out hx)
        have hd' : Hid ((pre ++ [(⟨(c, x), HM.out hx⟩ : AbT v.ls s)]).map (·.1) = abd v.ls (s.take (k + 1))) := Lib.hid (by rw [HD.out, if_neg hx, List.map_append, hpre.out]; rfl)
        dsimp only [cgv] at hy
        clear hY
        gi_wp2
        refine hR.mono ?_
        rintro e W3 (⟨rfl, hJ3, hk3⟩ | ⟨rfl, hJx3⟩)
        · gi_wp2
          go_roundw
          case rel => exact ⟨k + 1, _, by go_num, by omega, hd', hK.trans hk3, hJ3⟩
          case measure => simp [intOf]; omega
        · gi_wp2
          refine bodyPost_ret (results_none rfl _ _ _) rfl ?_
          refine ⟨⟨_, rfl⟩, .inr ⟨_, ?_, hJx3⟩⟩
          rw [hd'.out]
          exact abd_pre _
    · gi_wp2
      go_end0
      refine ⟨⟨_, rfl⟩, .inl ⟨pre, ?_, hJ⟩⟩
      rw [hpre.out, List.take_of_length_le (by rw [HL.out]; omega)]
end Go.Proofs.Ytfcpjkofbejleaa

/-! The errors of voyages: checkBarge, checkHolds, checkLevels, checkSills, checkLots, Check. -/
namespace Go.Proofs.Ytfcpjkofbejleaa
open Go Go.RowKit
set_option maxHeartbeats 800000 in
theorem checkBarge_any (v : Vg) (p : Vp) (w : World) : Calls Try.prog 60 #[.agg (vcs v p)] w fun e w' => e = .returned (.int .i64 (ckBg v)) ∧ Below w.heap.size w w' := by
  have k0 := Bx.new w 26 (vcs v p)
  have B0 := (Below.refl w.heap.size w).alloc (Nat.le_refl _) (.cells (vcs v p) 26)
  rw [vcs_def] at k0 B0 ⊢
  by_cases hA : 0 ≤ v.li ∧ v.li ≤ 5000
  · by_cases hB : 0 ≤ v.un ∧ v.un ≤ 5000
    · by_cases hC : 0 ≤ v.tr ∧ v.tr ≤ 5000
      · have HR : Hid (ckBg v = 0) := Lib.hid (by unfold ckBg; rw [if_pos (by omega)])
        go_enter Try.func60, Try.ntmps60
        go_wp2_with (first
            | (go_at_call 62; have _t := hb_2; clear _t; refine (isWithin_yes _ _ _ _ hC).mono ?_; rintro e_3 w_3 ⟨rfl, hb_3⟩; have k_3 := k_2.call hb_3; have B_3 := B_2.trans (hb_3.mono B_2.size); obtain ⟨c0_3, c1_3, c2_3, c3_3, c4_3, c5_3, c6_3, cf_3, cz_3⟩ := k_3.seven)
            | (go_at_call 62; have _t := hb_1; clear _t; refine (isWithin_yes _ _ _ _ hB).mono ?_; rintro e_2 w_2 ⟨rfl, hb_2⟩; have k_2 := k_1.call hb_2; have B_2 := B_1.trans (hb_2.mono B_1.size); obtain ⟨c0_2, c1_2, c2_2, c3_2, c4_2, c5_2, c6_2, cf_2, cz_2⟩ := k_2.seven)
            | (go_at_call 62; refine (isWithin_yes _ _ _ _ hA).mono ?_; rintro e_1 w_1 ⟨rfl, hb_1⟩; have k_1 := k0.call hb_1; have B_1 := B0.trans (hb_1.mono B0.size); obtain ⟨c0_1, c1_1, c2_1, c3_1, c4_1, c5_1, c6_1, cf_1, cz_1⟩ := k_1.seven)
            | fail)
        go_ret
        exact ⟨ret_int HR.out.symm, B_3⟩
      · have HR : Hid (ckBg v = 1) := Lib.hid (by unfold ckBg; rw [if_neg (by omega)])
        go_enter Try.func60, Try.ntmps60
        go_wp2_with (first
            | (go_at_call 62; have _t := hb_2; clear _t; refine (isWithin_no _ _ _ _ hC).mono ?_; rintro e_3 w_3 ⟨rfl, hb_3⟩; have k_3 := k_2.call hb_3; have B_3 := B_2.trans (hb_3.mono B_2.size); obtain ⟨c0_3, c1_3, c2_3, c3_3, c4_3, c5_3, c6_3, cf_3, cz_3⟩ := k_3.seven)
            | (go_at_call 62; have _t := hb_1; clear _t; refine (isWithin_yes _ _ _ _ hB).mono ?_; rintro e_2 w_2 ⟨rfl, hb_2⟩; have k_2 := k_1.call hb_2; have B_2 := B_1.trans (hb_2.mono B_1.size); obtain ⟨c0_2, c1_2, c2_2, c3_2, c4_2, c5_2, c6_2, cf_2, cz_2⟩ := k_2.seven)
            | (go_at_call 62; refine (isWithin_yes _ _ _ _ hA).mono ?_; rintro e_1 w_1 ⟨rfl, hb_1⟩; have k_1 := k0.call hb_1; have B_1 := B0.trans (hb_1.mono B0.size); obtain ⟨c0_1, c1_1, c2_1, c3_1, c4_1, c5_1, c6_1, cf_1, cz_1⟩ := k_1.seven)
            | fail)
        go_ret
        exact ⟨ret_int HR.out.symm, B_3⟩
    · have HR : Hid (ckBg v = 1) := Lib.hid (by unfold ckBg; rw [if_neg (by omega)])
      go_enter Try.func60, Try.ntmps60
      go_wp2_with (first
          | (go_at_call 62; have _t := hb_1; clear _t; refine (isWithin_no _ _ _ _ hB).mono ?_; rintro e_2 w_2 ⟨rfl, hb_2⟩; have k_2 := k_1.call hb_2; have B_2 := B_1.trans (hb_2.mono B_1.size); obtain ⟨c0_2, c1_2, c2_2, c3_2, c4_2, c5_2, c6_2, cf_2, cz_2⟩ := k_2.seven)
          | (go_at_call 62; refine (isWithin_yes _ _ _ _ hA).mono ?_; rintro e_1 w_1 ⟨rfl, hb_1⟩; have k_1 := k0.call hb_1; have B_1 := B0.trans (hb_1.mono B0.size); obtain ⟨c0_1, c1_1, c2_1, c3_1, c4_1, c5_1, c6_1, cf_1, cz_1⟩ := k_1.seven)
          | fail)
      go_ret
      exact ⟨ret_int HR.out.symm, B_2⟩
  · have HR : Hid (ckBg v = 1) := Lib.hid (by unfold ckBg; rw [if_neg (by omega)])
    go_enter Try.func60, Try.ntmps60
    go_wp2_with (first
        | (go_at_call 62; refine (isWithin_no _ _ _ _ hA).mono ?_; rintro e_1 w_1 ⟨rfl, hb_1⟩; have k_1 := k0.call hb_1; have B_1 := B0.trans (hb_1.mono B0.size); obtain ⟨c0_1, c1_1, c2_1, c3_1, c4_1, c5_1, c6_1, cf_1, cz_1⟩ := k_1.seven)
        | fail)
    go_ret
    exact ⟨ret_int HR.out.symm, B_1⟩
theorem ckHds_step {L : List Hd} {k : Nat} (hk : k < L.length) : ckHds (L.drop k) = if ckHd L[k] ≠ 0 then ckHd L[k] else ckHds (L.drop (k + 1)) := by
  rw [List.drop_eq_getElem_cons hk, ckHds]
theorem ckSis_step {L : List Si} {k : Nat} (hk : k < L.length) : ckSis (L.drop k) = if ckSi L[k] ≠ 0 then ckSi L[k] else ckSis (L.drop (k + 1)) := by
  rw [List.drop_eq_getElem_cons hk, ckSis]
theorem ckCgs_step {L : List Cg} {k : Nat} (hk : k < L.length) : ckCgs (L.drop k) = if ckCg L[k] ≠ 0 then ckCg L[k] else ckCgs (L.drop (k + 1)) := by
  rw [List.drop_eq_getElem_cons hk, ckCgs]
/-- A count that is within its bounds, or not. -/
theorem count_ok (n : Nat) (lo hi : Int) (w : World) (h : lo ≤ n ∧ (n : Int) ≤ hi) : Calls Try.prog 93 #[.int .i64 n, .int .i64 lo, .int .i64 hi] w fun e w' => e = .returned (.int .i64 0) ∧ Below w.heap.size w w' :=
  (count_any n lo hi w).mono (by rintro e w' ⟨rfl, hb⟩; rw [if_neg (by omega), if_neg (by omega)]; exact ⟨rfl, hb⟩)
theorem count_few (n : Nat) (lo hi : Int) (w : World) (h : (n : Int) < lo) : Calls Try.prog 93 #[.int .i64 n, .int .i64 lo, .int .i64 hi] w fun e w' => e = .returned (.int .i64 7) ∧ Below w.heap.size w w' :=
  (count_any n lo hi w).mono (by rintro e w' ⟨rfl, hb⟩; rw [if_pos (by omega)]; exact ⟨rfl, hb⟩)
theorem count_many (n : Nat) (lo hi : Int) (w : World) (h : lo ≤ n ∧ hi < (n : Int)) : Calls Try.prog 93 #[.int .i64 n, .int .i64 lo, .int .i64 hi] w fun e w' => e = .returned (.int .i64 6) ∧ Below w.heap.size w w' :=
  (count_any n lo hi w).mono (by rintro e w' ⟨rfl, hb⟩; rw [if_neg (by omega), if_pos (by omega)]; exact ⟨rfl, hb⟩)
set_option maxHeartbeats 800000 in
theorem checkHolds_any (A : Option Addr) (n c : Nat) (L : List Hd) (w : World) (hn : n ≤ 9223372036854775807) (hl : L.length = n) (hA : Sl w w.heap.size 3 A (L.map hdr)) :
    Calls Try.prog 61 #[.slice A n c] w fun e w' => e = .returned (.int .i64 (ckHs L)) ∧ Below w.heap.size w w' := by
  have HL := Lib.hid hl
  clear hl
  by_cases h7 : n < 1
  · have HR : Hid (ckHs L = 7) := Lib.hid (by unfold ckHs; rw [if_pos (by rw [HL.out]; exact h7)])
    go_enter Try.func61, Try.ntmps61
    go_wp2_with (go_at_call 93; refine (count_few _ _ _ _ (by omega)).mono ?_; rintro e w1 ⟨rfl, hb⟩)
    go_ret
    exact ⟨ret_int HR.out.symm, hb⟩
  by_cases h6 : 3 < n
  · have HR : Hid (ckHs L = 6) := Lib.hid (by unfold ckHs; rw [if_neg (by rw [HL.out]; omega)]; rw [if_pos (by rw [HL.out]; exact h6)])
    go_enter Try.func61, Try.ntmps61
    go_wp2_with (go_at_call 93; refine (count_many _ _ _ _ (by omega)).mono ?_; rintro e w1 ⟨rfl, hb⟩)
    go_ret
    exact ⟨ret_int HR.out.symm, hb⟩
  have HR0 : Hid (ckHs L = ckHds L) := Lib.hid (by unfold ckHs; rw [if_neg (by rw [HL.out]; omega)]; rw [if_neg (by rw [HL.out]; omega)])
  go_enter Try.func61, Try.ntmps61
  go_wp2_with (go_at_call 93; refine (count_ok _ _ _ _ (by omega)).mono ?_; rintro e w1 ⟨rfl, hb⟩)
  go_loopw [15] (fun i wr => ∃ k : Nat, k ≤ n ∧ i = .int .i64 k ∧ Hid (ckHds L = ckHds (L.drop k)) ∧ Below w.heap.size w wr) (fun i _ => n - (intOf i).toNat)
  case atStart => exact ⟨0, by omega, rfl, rfl, hb⟩
  case round =>
    clear hb
    obtain ⟨k, hk, rfl, hd, hB⟩ := hrel
    by_cases hkn : k < n
    · have hke : k < L.length := by rw [HL.out]; exact hkn
      obtain ⟨ad, rfl, _, q0, q1, q2⟩ := hd_at ((hA.below hB).more hB.size) hke
      have hds := ckHds_step hke
      generalize L[k] = b at *
      have k0 := Bx.new wr 85 #[.int .i64 b.rm, .int .i64 b.bw, .int .i64 b.st]
      have B0 := hB.alloc hB.size (.cells #[.int .i64 b.rm, .int .i64 b.bw, .int .i64 b.st] 85)
      clear hA hB
      by_cases h1 : 0 ≤ b.bw ∧ b.bw ≤ 10000
      · by_cases h2 : 0 ≤ b.st ∧ b.st ≤ 10000
        · by_cases h3 : 0 ≤ b.rm ∧ b.rm ≤ 5000
          · have hd' : Hid (ckHds L = ckHds (L.drop (k + 1))) := Lib.hid (by rw [hd.out, hds, show ckHd b = 0 by unfold ckHd; rw [if_pos (by omega)]]; simp)
            clear hds
            go_wp2_with (first
                | (go_at_call 62; have _t := hb_2; clear _t; refine (isWithin_yes _ _ _ _ h3).mono ?_; rintro e_3 w_3 ⟨rfl, hb_3⟩; have k_3 := k_2.call hb_3; have B_3 := B_2.trans (hb_3.mono B_2.size); obtain ⟨c0_3, c1_3, c2_3, cf_3, cz_3⟩ := k_3.three')
                | (go_at_call 62; have _t := hb_1; clear _t; refine (isWithin_yes _ _ _ _ h2).mono ?_; rintro e_2 w_2 ⟨rfl, hb_2⟩; have k_2 := k_1.call hb_2; have B_2 := B_1.trans (hb_2.mono B_1.size); obtain ⟨c0_2, c1_2, c2_2, cf_2, cz_2⟩ := k_2.three')
                | (go_at_call 62; refine (isWithin_yes _ _ _ _ h1).mono ?_; rintro e_1 w_1 ⟨rfl, hb_1⟩; have k_1 := k0.call hb_1; have B_1 := B0.trans (hb_1.mono B0.size); obtain ⟨c0_1, c1_1, c2_1, cf_1, cz_1⟩ := k_1.three')
                | fail)
            go_roundw
            case rel => exact ⟨k + 1, by omega, by go_num, hd', B_3⟩
            case measure => simp [intOf]; omega
          · have hd' : Hid (ckHds L = 1) := Lib.hid (by rw [hd.out, hds, show ckHd b = 1 by unfold ckHd; rw [if_neg (by omega)]]; simp)
            clear hds
            go_wp2_with (first
                | (go_at_call 62; have _t := hb_2; clear _t; refine (isWithin_no _ _ _ _ h3).mono ?_; rintro e_3 w_3 ⟨rfl, hb_3⟩; have k_3 := k_2.call hb_3; have B_3 := B_2.trans (hb_3.mono B_2.size); obtain ⟨c0_3, c1_3, c2_3, cf_3, cz_3⟩ := k_3.three')
                | (go_at_call 62; have _t := hb_1; clear _t; refine (isWithin_yes _ _ _ _ h2).mono ?_; rintro e_2 w_2 ⟨rfl, hb_2⟩; have k_2 := k_1.call hb_2; have B_2 := B_1.trans (hb_2.mono B_1.size); obtain ⟨c0_2, c1_2, c2_2, cf_2, cz_2⟩ := k_2.three')
                | (go_at_call 62; refine (isWithin_yes _ _ _ _ h1).mono ?_; rintro e_1 w_1 ⟨rfl, hb_1⟩; have k_1 := k0.call hb_1; have B_1 := B0.trans (hb_1.mono B0.size); obtain ⟨c0_1, c1_1, c2_1, cf_1, cz_1⟩ := k_1.three')
                | fail)
            go_ret
            exact ⟨ret_int (HR0.out.trans hd'.out).symm, B_3⟩
        · have hd' : Hid (ckHds L = 1) := Lib.hid (by rw [hd.out, hds, show ckHd b = 1 by unfold ckHd; rw [if_neg (by omega)]]; simp)
          clear hds
          go_wp2_with (first
              | (go_at_call 62; have _t := hb_1; clear _t; refine (isWithin_no _ _ _ _ h2).mono ?_; rintro e_2 w_2 ⟨rfl, hb_2⟩; have k_2 := k_1.call hb_2; have B_2 := B_1.trans (hb_2.mono B_1.size); obtain ⟨c0_2, c1_2, c2_2, cf_2, cz_2⟩ := k_2.three')
              | (go_at_call 62; refine (isWithin_yes _ _ _ _ h1).mono ?_; rintro e_1 w_1 ⟨rfl, hb_1⟩; have k_1 := k0.call hb_1; have B_1 := B0.trans (hb_1.mono B0.size); obtain ⟨c0_1, c1_1, c2_1, cf_1, cz_1⟩ := k_1.three')
              | fail)
          go_ret
          exact ⟨ret_int (HR0.out.trans hd'.out).symm, B_2⟩
      · have hd' : Hid (ckHds L = 1) := Lib.hid (by rw [hd.out, hds, show ckHd b = 1 by unfold ckHd; rw [if_neg (by omega)]]; simp)
        clear hds
        go_wp2_with (first
            | (go_at_call 62; refine (isWithin_no _ _ _ _ h1).mono ?_; rintro e_1 w_1 ⟨rfl, hb_1⟩; have k_1 := k0.call hb_1; have B_1 := B0.trans (hb_1.mono B0.size); obtain ⟨c0_1, c1_1, c2_1, cf_1, cz_1⟩ := k_1.three')
            | fail)
        go_ret
        exact ⟨ret_int (HR0.out.trans hd'.out).symm, B_1⟩
    · have hd' : Hid (ckHds L = 0) := by unfold Hid; rw [hd.out, List.drop_eq_nil_of_le (by rw [HL.out]; omega)]; rfl
      go_wp2_with fail
      go_ret
      exact ⟨ret_int (HR0.out.trans hd'.out).symm, hB⟩
set_option maxHeartbeats 800000 in
theorem checkLots_any (A : Option Addr) (n c : Nat) (L : List Cg) (w : World) (hn : n ≤ 9223372036854775807) (hl : L.length = n) (hA : Sl w w.heap.size 3 A (L.map cgr)) :
    Calls Try.prog 64 #[.slice A n c] w fun e w' => e = .returned (.int .i64 (ckCs L)) ∧ Below w.heap.size w w' := by
  have HL := Lib.hid hl
  clear hl
  by_cases h6 : 6 < n
  · have HR : Hid (ckCs L = 6) := Lib.hid (by unfold ckCs; rw [if_pos (by rw [HL.out]; exact h6)])
    go_enter Try.func64, Try.ntmps64
    go_wp2_with (go_at_call 93; refine (count_many _ _ _ _ (by omega)).mono ?_; rintro e w1 ⟨rfl, hb⟩)
    go_ret
    exact ⟨ret_int HR.out.symm, hb⟩
  have HR0 : Hid (ckCs L = ckCgs L) := Lib.hid (by unfold ckCs; rw [if_neg (by rw [HL.out]; omega)])
  go_enter Try.func64, Try.ntmps64
  go_wp2_with (go_at_call 93; refine (count_ok _ _ _ _ (by omega)).mono ?_; rintro e w1 ⟨rfl, hb⟩)
  go_loopw [15] (fun i wr => ∃ k : Nat, k ≤ n ∧ i = .int .i64 k ∧ Hid (ckCgs L = ckCgs (L.drop k)) ∧ Below w.heap.size w wr) (fun i _ => n - (intOf i).toNat)
  case atStart => exact ⟨0, by omega, rfl, rfl, hb⟩
  case round =>
    clear hb
    obtain ⟨k, hk, rfl, hd, hB⟩ := hrel
    by_cases hkn : k < n
    · have hke : k < L.length := by rw [HL.out]; exact hkn
      obtain ⟨ad, rfl, _, q0, q1, q2⟩ := cg_at ((hA.below hB).more hB.size) hke
      have hds := ckCgs_step hke
      generalize L[k] = b at *
      have k0 := Bx.new wr 70 #[.int .i64 b.t0, .int .i64 b.t1, .int .i64 b.wo]
      have B0 := hB.alloc hB.size (.cells #[.int .i64 b.t0, .int .i64 b.t1, .int .i64 b.wo] 70)
      clear hA hB
      obtain ⟨R, hR⟩ : ∃ R, ckR b.t0 b.t1 0 5000 = R := ⟨_, rfl⟩
      by_cases hz : R = 0
      · subst hz
        by_cases h3 : 0 ≤ b.wo ∧ b.wo ≤ 100000
        · have hd' : Hid (ckCgs L = ckCgs (L.drop (k + 1))) := Lib.hid (by rw [hd.out, hds, show ckCg b = 0 by unfold ckCg; rw [hR, if_neg (by simp), if_neg (by omega)]]; simp)
          have HRR := Lib.hid hR
          clear hds hR
          go_wp2_with (first
              | (go_at_call 62; have _t := hb_1; clear _t; refine (isWithin_yes _ _ _ _ h3).mono ?_; rintro e_2 w_2 ⟨rfl, hb_2⟩; have k_2 := k_1.call hb_2; have B_2 := B_1.trans (hb_2.mono B_1.size); obtain ⟨c0_2, c1_2, c2_2, cf_2, cz_2⟩ := k_2.three')
              | (go_at_call 94; refine (spanCheck_any _ _ _ _ _).mono ?_; rintro e_1 w_1 ⟨rfl, hb_1⟩; rw [HRR.out]; have k_1 := k0.call hb_1; have B_1 := B0.trans (hb_1.mono B0.size); obtain ⟨c0_1, c1_1, c2_1, cf_1, cz_1⟩ := k_1.three')
              | fail)
          go_roundw
          case rel => exact ⟨k + 1, by omega, by go_num, hd', B_2⟩
          case measure => simp [intOf]; omega
        · have hd' : Hid (ckCgs L = 1) := Lib.hid (by rw [hd.out, hds, show ckCg b = 1 by unfold ckCg; rw [hR, if_neg (by simp), if_pos (by omega)]]; simp)
          have HRR := Lib.hid hR
          clear hds hR
          go_wp2_with (first
              | (go_at_call 62; have _t := hb_1; clear _t; refine (isWithin_no _ _ _ _ h3).mono ?_; rintro e_2 w_2 ⟨rfl, hb_2⟩; have k_2 := k_1.call hb_2; have B_2 := B_1.trans (hb_2.mono B_1.size); obtain ⟨c0_2, c1_2, c2_2, cf_2, cz_2⟩ := k_2.three')
              | (go_at_call 94; refine (spanCheck_any _ _ _ _ _).mono ?_; rintro e_1 w_1 ⟨rfl, hb_1⟩; rw [HRR.out]; have k_1 := k0.call hb_1; have B_1 := B0.trans (hb_1.mono B0.size); obtain ⟨c0_1, c1_1, c2_1, cf_1, cz_1⟩ := k_1.three')
              | fail)
          go_ret
          exact ⟨ret_int (HR0.out.trans hd'.out).symm, B_2⟩
      · have hz1 : (R != 0) = true := by simpa using hz
        have hd' : Hid (ckCgs L = R) := Lib.hid (by rw [hd.out, hds, show ckCg b = R by unfold ckCg; rw [hR, if_pos hz], if_pos hz])
        have HRR := Lib.hid hR
        clear hds hR
        go_wp2_with (first
            | (go_at_call 94; refine (spanCheck_any _ _ _ _ _).mono ?_; rintro e_1 w_1 ⟨rfl, hb_1⟩; rw [HRR.out]; have k_1 := k0.call hb_1; have B_1 := B0.trans (hb_1.mono B0.size); obtain ⟨c0_1, c1_1, c2_1, cf_1, cz_1⟩ := k_1.three')
            | fail)
        go_ret
        exact ⟨ret_int (HR0.out.trans hd'.out).symm, B_1⟩
    · have hd' : Hid (ckCgs L = 0) := by unfold Hid; rw [hd.out, List.drop_eq_nil_of_le (by rw [HL.out]; omega)]; rfl
      go_wp2_with fail
      go_ret
      exact ⟨ret_int (HR0.out.trans hd'.out).symm, hB⟩
end Go.Proofs.Ytfcpjkofbejleaa
