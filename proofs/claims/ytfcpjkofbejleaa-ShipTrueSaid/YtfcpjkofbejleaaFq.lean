/- factOf 38: a truth in the making. -/
import Derived.Test.YtfcpjkofbejleaaFp
import Derived.Test.YtfcpjkofbejleaaYbM
set_option linter.unusedSimpArgs false
set_option linter.unusedVariables false
namespace Go.Proofs.Ytfcpjkofbejleaa
open Go Go.RowKit
/-- What is known of a truth's lists so far. -/
def TsIn (ls : List Cg) (ts : List Int) : Prop := ∀ (i : Nat) (c : Cg) (n : Int), ls[i]? = some c → ts[i]? = some n → c.t0 ≤ n ∧ n ≤ c.t1
def WsIn (ss : List Si) (ws : List Int) : Prop := ∀ (i : Nat) (s : Si) (n : Int), ss[i]? = some s → ws[i]? = some n → s.t0 ≤ n ∧ n ≤ s.t1
def RsIn (lv : List Lv) (r : List Int) : Prop := ∀ (k : Nat) (l : Lv) (n : Int), lv[k]? = some l → r[k]? = some n → l.d0 ≤ n ∧ n ≤ l.d1
def DsIn (ss : List Si) (ds : List (List Int)) : Prop := ∀ (i : Nat) (s : Si) (r : List Int), ss[i]? = some s → ds[i]? = some r → r.length = s.lv.length ∧ RsIn s.lv r
theorem get_snoc {α : Type} {l : List α} {x y : α} {i : Nat} (h : (l ++ [x])[i]? = some y) : l[i]? = some y ∨ i = l.length ∧ y = x := by
  by_cases hi : i < l.length
  · rw [List.getElem?_append_left hi] at h; exact .inl h
  · have hj2 : i < (l ++ [x]).length := (List.getElem?_eq_some_iff.1 h).1
    obtain rfl : i = l.length := by simp at hj2; omega
    rw [List.getElem?_concat_length, Option.some.injEq] at h
    exact .inr ⟨rfl, h.symm⟩
theorem TsIn.snoc {ls : List Cg} {ts : List Int} (h : TsIn ls ts) {c : Cg} {n : Int} (hc : ls[ts.length]? = some c) (h1 : c.t0 ≤ n) (h2 : n ≤ c.t1) : TsIn ls (ts ++ [n]) := fun i c' m hi hm => by
  rcases get_snoc hm with hm | ⟨rfl, rfl⟩
  · exact h i c' m hi hm
  · rw [hc, Option.some.injEq] at hi; subst hi; exact ⟨h1, h2⟩
theorem WsIn.snoc {ss : List Si} {ws : List Int} (h : WsIn ss ws) {s : Si} {n : Int} (hc : ss[ws.length]? = some s) (h1 : s.t0 ≤ n) (h2 : n ≤ s.t1) : WsIn ss (ws ++ [n]) := fun i c' m hi hm => by
  rcases get_snoc hm with hm | ⟨rfl, rfl⟩
  · exact h i c' m hi hm
  · rw [hc, Option.some.injEq] at hi; subst hi; exact ⟨h1, h2⟩
theorem RsIn.snoc {lv : List Lv} {r : List Int} (h : RsIn lv r) {l : Lv} {n : Int} (hc : lv[r.length]? = some l) (h1 : l.d0 ≤ n) (h2 : n ≤ l.d1) : RsIn lv (r ++ [n]) := fun i c' m hi hm => by
  rcases get_snoc hm with hm | ⟨rfl, rfl⟩
  · exact h i c' m hi hm
  · rw [hc, Option.some.injEq] at hi; subst hi; exact ⟨h1, h2⟩
theorem DsIn.snoc {ss : List Si} {ds : List (List Int)} (h : DsIn ss ds) {s : Si} {r : List Int} (hc : ss[ds.length]? = some s) (h1 : r.length = s.lv.length) (h2 : RsIn s.lv r) : DsIn ss (ds ++ [r]) := fun i c' m hi hm => by
  rcases get_snoc hm with hm | ⟨rfl, rfl⟩
  · exact h i c' m hi hm
  · rw [hc, Option.some.injEq] at hi; subst hi; exact ⟨h1, h2⟩
theorem LsOwn.kept2 {w w' : World} {base : Nat} {vs : List Value} {Ls : List (List Int)} (h : LsOwn w base vs Ls) {row : Option Nat} (k : w.grownBy w' row) (hne : ∀ v ∈ vs, v.ownBlock = none ∨ v.ownBlock ≠ row) : LsOwn w' base vs Ls :=
  ⟨h.len, fun j r b hr hb => by obtain ⟨A, c, e, o⟩ := h.row j r b hr hb; exact ⟨A, c, e, o.kept k (hne _ (List.mem_of_getElem? hr))⟩⟩
theorem info27 : (Try.prog.info? 27).map (fun i => (i.zero, i.size, i.bytes)) = some (some (.slice none 0 0), 1, 24) := by kernel_rfl
/-- A truth in the making: its box b behind V, the ways and depths behind B. -/
structure FI (g b B : Nat) (V : World) (ts ws : List Int) (ds : List (List Int)) (tv wv dv : Value) (vs : List Value) (wr : World) : Prop where
  kb : Bx wr b 62 #[tv, wv, dv]
  hb : V.heap.size ≤ b
  hbg : b ≠ g
  hB : V.heap.size ≤ B
  hBw : B ≤ wr.heap.size
  ot : wr.ownsRow V.heap.size 3 1 tv ts.length (inr ts).flatten
  ow : wr.ownsRow B 3 1 wv ws.length (inr ws).flatten
  od : wr.ownsRow B 27 1 dv ds.length vs
  ld : LsOwn wr B vs ds
  sep : ∀ u ∈ vs, u.ownBlock = none ∨ u.ownBlock ≠ wv.ownBlock
  tlt : ∀ k, tv.ownBlock = some k → k < B
  ft : FT g V wr
section
variable {g b B : Nat} {V wr x : World} {ts ws : List Int} {ds : List (List Int)} {tv wv dv : Value} {vs : List Value}
theorem FI.go (h : FI g b B V ts ws ds tv wv dv vs wr) (k : FT g wr x) : FI g b B V ts ws ds tv wv dv vs x :=
  ⟨k.bx h.kb h.hbg, h.hb, h.hbg, h.hB, Nat.le_trans h.hBw k.size, k.row h.ft.2 h.ot (by decide), k.row h.ft.2 h.ow (by decide), k.row h.ft.2 h.od (by decide), h.ld.ft h.ft.2 k.1, h.sep, h.tlt, ⟨grownF_trans h.ft.1 k.1, k.2⟩⟩
theorem FI.way (h : FI g b B V ts ws ds tv wv dv vs wr) {n : Int} {v' : Value} (k : wr.grownBy x wv.ownBlock) (o : x.ownsRow B 3 1 v' (ws.length + 1) ((inr ws).flatten ++ [.int .i64 n])) (o4 : v'.ownBlock = wv.ownBlock ∨ ∀ k, v'.ownBlock = some k → wr.heap.size ≤ k) :
    FI g b B V ts (ws ++ [n]) ds tv v' dv vs (x.setCell ⟨b, 1, none⟩ v') := by
  have kb' := h.kb.grown k (own_bx h.ow h.kb (by decide))
  have hfd : FT g V x := h.ft.own h.ow k h.hB (by decide)
  have ot' := h.ot.kept k (by
    cases e : tv.ownBlock with
    | none => exact .inl rfl
    | some q =>
      refine .inr fun e2 => ?_
      have h1 := h.tlt q e
      have h2 := (h.ow.lt q e2.symm).1
      omega)
  have od' := h.od.kept k (own_ne h.od h.ow (by decide))
  have ld' := h.ld.kept2 k h.sep
  refine ⟨?_, h.hb, h.hbg, h.hB, by simpa [World.setCell] using Nat.le_trans h.hBw k.size, own_set ot' (own_bx ot' kb' (by decide)) _, ?_, own_set od' (own_bx od' kb' (by decide)) _, ?_, ?_, h.tlt, hfd.set_ h.hb (Ne.symm h.hbg) _ _⟩
  · have := kb'.set_ 1 v'; simpa using this
  · rw [List.length_append, inr_snoc]
    exact own_set o (own_bx o kb' (by decide)) _
  · exact ld'.kept (grown_set x b 1 v') fun v n xs ho => .inr fun e => own_bx ho kb' (by decide) e.symm
  · intro u hu
    rcases o4 with e | e
    · rw [e]; exact h.sep u hu
    · cases e1 : u.ownBlock with
      | none => exact .inl rfl
      | some q =>
        refine .inr fun e2 => ?_
        obtain ⟨j, hj⟩ := List.getElem?_of_mem hu
        have hjl : j < ds.length := by rw [← h.ld.len]; exact (List.getElem?_eq_some_iff.1 hj).1
        obtain ⟨A, c, _, o'⟩ := h.ld.row j u _ hj (List.getElem?_eq_getElem hjl)
        have h1 := (o'.lt q e1).2
        have h2 := e q e2.symm
        omega
theorem FI.row (h : FI g b B V ts ws ds tv wv dv vs wr) {r : List Int} {n c : Nat} {A : Option Addr} {v' : Value} (k : wr.grownBy x dv.ownBlock) (o : x.ownsRow B 27 1 v' (ds.length + 1) (vs ++ [.slice A n c])) (hr : wr.ownsRow B 3 1 (.slice A n c) n (inr r).flatten) (hn : r.length = n) (hs : (Value.slice A n c).ownBlock = none ∨ (Value.slice A n c).ownBlock ≠ wv.ownBlock) :
    FI g b B V ts ws (ds ++ [r]) tv wv v' (vs ++ [.slice A n c]) (x.setCell ⟨b, 2, none⟩ v') := by
  have kb' := h.kb.grown k (own_bx h.od h.kb (by decide))
  have hfd : FT g V x := h.ft.own h.od k h.hB (by decide)
  have ot' := h.ot.kept k (own_ne h.ot h.od (by decide))
  have ow' := h.ow.kept k (own_ne h.ow h.od (by decide))
  have ld' := (h.ld.snoc hn hr).own h.od k (by decide)
  refine ⟨?_, h.hb, h.hbg, h.hB, by simpa [World.setCell] using Nat.le_trans h.hBw k.size, own_set ot' (own_bx ot' kb' (by decide)) _, own_set ow' (own_bx ow' kb' (by decide)) _, ?_, ?_, ?_, h.tlt, hfd.set_ h.hb (Ne.symm h.hbg) _ _⟩
  · have := kb'.set_ 2 v'; simpa using this
  · rw [List.length_append]
    exact own_set o (own_bx o kb' (by decide)) _
  · exact ld'.kept (grown_set x b 2 v') fun v n xs ho => .inr fun e => own_bx ho kb' (by decide) e.symm
  · intro u hu
    rcases List.mem_append.1 hu with hu | hu
    · exact h.sep u hu
    · obtain rfl := List.mem_singleton.1 hu
      exact hs
theorem FI.fin (h : FI g b B V ts ws ds tv wv dv vs wr) {TA WA DA : Option Addr} {tn tc wn wc dn dc : Nat} (e1 : tv = .slice TA tn tc) (e2 : wv = .slice WA wn wc) (e3 : dv = .slice DA dn dc) (h1 : ts.length = tn) (h2 : ws.length = wn) (h3 : ds.length = dn) {q t : Nat} {cs : Array Value} (hq : Bx wr q t cs) (ht : t = 62) (k : wr.grownBy x (some q)) : FacAt x x.heap.size ⟨ts, ws, ds⟩ TA WA DA := by
  subst ht e1 e2 e3
  have ot := h.ot.kept k (.inr fun e => own_bx h.ot hq (by decide) e.symm)
  have ow := h.ow.kept k (.inr fun e => own_bx h.ow hq (by decide) e.symm)
  have od := h.od.kept k (.inr fun e => own_bx h.od hq (by decide) e.symm)
  have ld := h.ld.kept k fun v n xs ho => .inr fun e => own_bx ho hq (by decide) e.symm
  rw [h1] at ot
  rw [h2] at ow
  rw [h3] at od
  exact ⟨own_inr ot h1, own_inr ow h2, ld.at_ od⟩
end
end Go.Proofs.Ytfcpjkofbejleaa
