/- Sail and Best, the answers in one form. -/
import Derived.Test.YtfcpjkofbejleaaRsaM
import Derived.Test.YtfcpjkofbejleaaRsd
import Derived.Test.YtfcpjkofbejleaaEoM
set_option linter.unusedSimpArgs false
set_option linter.unusedVariables false
namespace Go.Proofs.Ytfcpjkofbejleaa
open Go Go.RowKit
def oR (v : Vg) (s : List Int) : List (Int × Int) := if ckSt v s = 0 then overM v (abd v.ls s) else []
theorem sl_nil {w : World} {B s : Nat} {A : Option Addr} : Sl w B s A [] := fun k r h => by simp at h
def lR (v : Vg) : List Int := if ckV v = 0 then (bestM v).getD [] else []
def bR (v : Vg) : Int := if ckV v = 0 then (match bestM v with | none => -1 | some s => woB v s) else 0
def BsPost (v : Vg) (p : Vp) (w : World) (e : Ending) (w' : World) : Prop :=
  (∃ A n c, e = .returned (.tuple #[.slice A n c, .int .i64 (bR v), .int .i64 (ckV v)]) ∧ Sl w' w'.heap.size 1 A (inr (lR v)) ∧ Hid ((lR v).length = n ∧ n ≤ p.ln)) ∧ Below w.heap.size w w'
theorem bestP_any (v : Vg) (p : Vp) (w : World) (hF : p.Fit) (hLF : LvFit v) (hV : VoyAt w w.heap.size v p) : Calls Try.prog 36 #[.agg (vcs v p)] w (BsPost v p w) := by
  refine (best_any v p w hF hLF hV).mono ?_
  rintro e w' ⟨h, hb⟩
  refine ⟨?_, hb⟩
  unfold lR bR
  by_cases hz : ckV v = 0
  · rw [if_pos hz] at h
    rw [if_pos hz, if_pos hz, hz]
    obtain ⟨A, m, c, b, rfl, hq⟩ := best_post h
    rcases hq with ⟨h1, rfl, rfl⟩ | ⟨s, h1, rfl, rfl, o⟩
    · rw [h1]
      exact ⟨A, 0, c, rfl, sl_nil, Lib.hid ⟨rfl, by omega⟩⟩
    · rw [h1]
      have hs : s.length = p.ln := by
        have ho := ckV_ok hz
        have hh1 : 1 ≤ p.hn := by rw [← hV.hl]; exact ho.h1
        have hm := best_most (ok := okB v) (wo := woB v) (fun x => by unfold woB; exact wor_nonneg ho x) (allS ((p.hn : Int) - 1) p.ln)
        have hbm : bestM v = bst (okB v) (woB v) (allS ((p.hn : Int) - 1) p.ln) := by rw [bestM_eq, hV.hl, hV.ll]
        rw [← hbm, h1] at hm
        obtain ⟨A, B, e, _⟩ := hm
        have hin : s ∈ allS ((p.hn : Int) - 1) p.ln := by rw [e]; simp
        exact ((allS_mem (last := (p.hn : Int) - 1) (by omega) p.ln s).1 hin).1
      exact ⟨A, p.ln, c, rfl, own_inr o hs, Lib.hid ⟨hs, by omega⟩⟩
  · rw [if_neg hz] at h
    rw [if_neg hz, if_neg hz]
    exact ⟨none, 0, 0, h, sl_nil, Lib.hid ⟨rfl, by omega⟩⟩
theorem bestR_any (v : Vg) (p : Vp) (w : World) (hF : p.Fit) (hLF : LvFit v) (hV : VoyAt w w.heap.size v p) : Calls Try.prog 37 #[.agg (vcs v p)] w (BsPost v p w) := by
  refine (refBest_any v p w hF hLF hV).mono ?_
  rintro e w' ⟨h, hb⟩
  refine ⟨?_, hb⟩
  unfold lR bR
  by_cases hz : ckV v = 0
  · rw [if_pos hz] at h
    rw [if_pos hz, if_pos hz, hz]
    obtain ⟨A, m, c, b, rfl, h⟩ := h
    rcases h.out with ⟨h1, rfl, rfl⟩ | ⟨s, h1, h2, h3, rfl, o⟩
    · rw [h1]
      exact ⟨A, 0, c, rfl, sl_nil, Lib.hid ⟨rfl, by omega⟩⟩
    · rw [h1]
      exact ⟨A, m, c, rfl, o, Lib.hid ⟨h2, by omega⟩⟩
  · rw [if_neg hz] at h
    rw [if_neg hz, if_neg hz]
    exact ⟨none, 0, 0, h, sl_nil, Lib.hid ⟨rfl, by omega⟩⟩
/-- A voyage in a list. -/
structure OneAt (W : World) (ad : Addr) (k : Nat) (v : Vg) (p : Vp) : Prop where
  c0 : W.cell? (ad.add (k * 7)) = some (.int .i64 v.li)
  c1 : W.cell? ⟨(ad.add (k * 7)).block, (ad.add (k * 7)).off + 1, none⟩ = some (.int .i64 v.un)
  c2 : W.cell? ⟨(ad.add (k * 7)).block, (ad.add (k * 7)).off + 2, none⟩ = some (.int .i64 v.tr)
  c3 : W.cell? ⟨(ad.add (k * 7)).block, (ad.add (k * 7)).off + 3, none⟩ = some (.slice p.HA p.hn p.hc)
  c4 : W.cell? ⟨(ad.add (k * 7)).block, (ad.add (k * 7)).off + 4, none⟩ = some (.int .i64 v.le)
  c5 : W.cell? ⟨(ad.add (k * 7)).block, (ad.add (k * 7)).off + 5, none⟩ = some (.slice p.SA p.sn p.sc)
  c6 : W.cell? ⟨(ad.add (k * 7)).block, (ad.add (k * 7)).off + 6, none⟩ = some (.slice p.LA p.ln p.lc)
  hV : VoyAt W W.heap.size v p
theorem OneAt.call {W X : World} {ad : Addr} {k : Nat} {v : Vg} {p : Vp} (h : OneAt W ad k v p) (b : Below W.heap.size W X) : OneAt X ad k v p :=
  ⟨cellC b h.c0, cellC b h.c1, cellC b h.c2, cellC b h.c3, cellC b h.c4, cellC b h.c5, cellC b h.c6, h.hV.call b⟩
theorem ones2_of {V : World} {bv : Nat} {v0 v : Vg} {p0 p : Vp} (kB : Bx V bv 26 #[.int .i64 v0.li, .int .i64 v0.un, .int .i64 v0.tr, .slice p0.HA p0.hn p0.hc, .int .i64 v0.le, .slice p0.SA p0.sn p0.sc, .slice p0.LA p0.ln p0.lc, .int .i64 v.li, .int .i64 v.un, .int .i64 v.tr, .slice p.HA p.hn p.hc, .int .i64 v.le, .slice p.SA p.sn p.sc, .slice p.LA p.ln p.lc]) (h0 : VoyAt V V.heap.size v0 p0) (h : VoyAt V V.heap.size v p) (o0 : v0.Slim) (o : v.Slim) :
    ∀ k, k < 2 → ∃ (v : Vg) (p : Vp), OneAt V ⟨bv, 0, none⟩ k v p ∧ PairOk v p [] 0 := by
  intro k hk
  rcases k with _ | _ | k
  · exact ⟨v0, p0, ⟨kB.cell 0, kB.cell 1, kB.cell 2, kB.cell 3, kB.cell 4, kB.cell 5, kB.cell 6, h0⟩, o0, h0.hl, h0.sl, h0.ll, rfl, by omega⟩
  · exact ⟨v, p, ⟨kB.cell 7, kB.cell 8, kB.cell 9, kB.cell 10, kB.cell 11, kB.cell 12, kB.cell 13, h⟩, o, h.hl, h.sl, h.ll, rfl, by omega⟩
  · omega

end Go.Proofs.Ytfcpjkofbejleaa
