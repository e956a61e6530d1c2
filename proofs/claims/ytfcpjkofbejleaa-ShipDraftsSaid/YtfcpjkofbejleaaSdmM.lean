/- The reference: Level 26. -/
import Derived.Test.YtfcpjkofbejleaaRci
import Derived.Test.YtfcpjkofbejleaaCvg
import Derived.Test.YtfcpjkofbejleaaEqv
import Derived.Test.YtfcpjkofbejleaaLi2M
set_option linter.unusedSimpArgs false
set_option linter.unusedVariables false
namespace Go.Proofs.Ytfcpjkofbejleaa
open Go Go.RowKit
set_option maxRecDepth 100000 in
set_option maxHeartbeats 3200000 in
theorem refLevel_any (v : Vg) (p : Vp) (A : Option Addr) (sn sc : Nat) (s : List Int) (w : World) (hF : p.Fit) (hLF : LvFit v) (hV : VoyAt w w.heap.size v p) (hS0 : Sl w w.heap.size 1 A (inr s)) (hl : s.length = sn) (hsn : sn ≤ 1000000) :
    Calls Try.prog 26 #[.agg (vcs v p), .slice A sn sc] w fun e w' => e = .returned (if ckSt v s = 0 then .tuple #[.bool (lvlOk v (tiltP v.hs (abd v.ls s))), .agg #[.int .i64 (tiltP v.hs (abd v.ls s)).1, .int .i64 (tiltP v.hs (abd v.ls s)).2], .int .i64 0] else .tuple #[.bool false, .agg #[.int .i64 0, .int .i64 0], .int .i64 (ckSt v s)]) ∧ Below w.heap.size w w' := by
  have HSL := Lib.hid hl
  rw [vcs_def]
  have Bw := ((Below.refl w.heap.size w).alloc (Nat.le_refl _) (.cells #[.int .i64 v.li, .int .i64 v.un, .int .i64 v.tr, .slice p.HA p.hn p.hc, .int .i64 v.le, .slice p.SA p.sn p.sc, .slice p.LA p.ln p.lc] 26)).alloc (by simp) (.cells #[.int .i64 0, .int .i64 0] 41)
  have k1 := (Bx.new w 26 #[.int .i64 v.li, .int .i64 v.un, .int .i64 v.tr, .slice p.HA p.hn p.hc, .int .i64 v.le, .slice p.SA p.sn p.sc, .slice p.LA p.ln p.lc]).alloc (.cells #[.int .i64 0, .int .i64 0] 41)
  have c4 := Bx.at (w.alloc (.cells #[.int .i64 v.li, .int .i64 v.un, .int .i64 v.tr, .slice p.HA p.hn p.hc, .int .i64 v.le, .slice p.SA p.sn p.sc, .slice p.LA p.ln p.lc] 26)) 41 #[.int .i64 0, .int .i64 0] (n := w.heap.size + 1) (by simp)
  have hV1 := hV.call Bw
  have hS1 := hS0.call Bw
  clear hl hV hS0
  obtain ⟨W1, hW1⟩ : ∃ x, (w.alloc (.cells #[.int .i64 v.li, .int .i64 v.un, .int .i64 v.tr, .slice p.HA p.hn p.hc, .int .i64 v.le, .slice p.SA p.sn p.sc, .slice p.LA p.ln p.lc] 26)).alloc (.cells #[.int .i64 0, .int .i64 0] 41) = x := ⟨_, rfl⟩
  have HW := Lib.hid hW1
  rw [hW1] at k1 Bw hV1 hS1 c4
  clear hW1
  obtain ⟨R, hR⟩ : ∃ R, ckSt v s = R := ⟨_, rfl⟩
  have HRR := Lib.hid hR
  by_cases hz : R = 0
  case neg =>
    have hz1 : (R != 0) = true := by simpa using hz
    rw [hR, if_neg hz]
    clear hR
    go_enter Try.func26, Try.ntmps26
    go_upto_region 1 with fail
    rw [HW.out]
    obtain ⟨l0, l1, l2, l3, l4, l5, l6, lf', lz⟩ := k1.seven
    go_wp2_with (first
      | (go_at_call 30; refine (refCheckStowage_any v p A sn sc s _ hF hLF hV1 hS1 HSL.out hsn).mono ?_; rintro e_1 w_1 ⟨rfl, hb_1⟩; rw [HRR.out]; have B_1 := Bw.trans (hb_1.mono Bw.size); have d4 := c4.call hb_1; obtain ⟨a0, a1, af, az⟩ := d4.two')
      | fail)
    have g4 := (d4.set_ 0 (.int .i64 0)).set_ 1 (.int .i64 0)
    simp only [List.setIfInBounds_toArray, List.set_cons_zero, List.set_cons_succ] at g4
    have BZ := (B_1.setCell (p := ⟨w.heap.size + 1, 0, none⟩) (by dsimp only; omega) (.int .i64 0)).setCell (p := ⟨w.heap.size + 1, 1, none⟩) (by dsimp only; omega) (.int .i64 0)
    obtain ⟨Z, hZ⟩ : ∃ Z, (w_1.setCell ⟨w.heap.size + 1, 0, none⟩ (.int .i64 0)).setCell ⟨w.heap.size + 1, 1, none⟩ (.int .i64 0) = Z := ⟨_, rfl⟩
    rw [hZ] at g4 BZ ⊢
    clear hZ
    obtain ⟨s0, s1, sf, sz⟩ := g4.two'
    exact bodyPost_ret (v := .tuple #[.bool false, .agg #[.int .i64 0, .int .i64 0], .int .i64 R]) (by simp [results, Try.results26, go_sem, s0, s1]) rfl ⟨rfl, BZ⟩
  subst hz
  have HST := Lib.hid (ckSt_ok hR)
  rw [hR, if_pos rfl]
  obtain ⟨x0, hx0⟩ : ∃ y, (tiltP v.hs (abd v.ls s)).1 = y := ⟨_, rfl⟩
  obtain ⟨x1, hx1⟩ : ∃ y, (tiltP v.hs (abd v.ls s)).2 = y := ⟨_, rfl⟩
  obtain ⟨bb, hbb⟩ : ∃ y, lvlOk v (tiltP v.hs (abd v.ls s)) = y := ⟨_, rfl⟩
  have HX0 := Lib.hid hx0
  have HX1 := Lib.hid hx1
  have HBB := Lib.hid hbb
  rw [hx0, hx1, hbb]
  clear hR hx0 hx1 hbb
  go_enter Try.func26, Try.ntmps26
  go_upto_region 1 with fail
  rw [HW.out]
  obtain ⟨l0, l1, l2, l3, l4, l5, l6, lf', lz⟩ := k1.seven
  go_upto_region 5 with (first
    | (go_at_call 59; refine (refLevel59_any v p A sn sc s _ HST.out hV2 hS2 HSL.out).mono ?_; rintro e_2 w_2 ⟨rfl, hb_2⟩; rw [HX0.out, HX1.out, HBB.out]; have B_2 := B_1.trans (hb_2.mono B_1.size); have e4 := d4.call hb_2)
    | (go_at_call 30; refine (refCheckStowage_any v p A sn sc s _ hF hLF hV1 hS1 HSL.out hsn).mono ?_; rintro e_1 w_1 ⟨rfl, hb_1⟩; rw [HRR.out]; have B_1 := Bw.trans (hb_1.mono Bw.size); have d4 := c4.call hb_1; have hV2 := hV1.call hb_1; have hS2 := hS1.call hb_1; have k2 := k1.call hb_1; clear l0 l1 l2 l3 l4 l5 l6 lf' lz; obtain ⟨l0, l1, l2, l3, l4, l5, l6, lf', lz⟩ := k2.seven)
    | fail)
  clear l0 l1 l2 l3 l4 l5 l6 lf' lz
  have hb3 := (Below.refl w_2.heap.size w_2).alloc (Nat.le_refl _) (.cells #[.int .i64 x0, .int .i64 x1] 41)
  have k8 := Bx.new w_2 41 #[.int .i64 x0, .int .i64 x1]
  have g4 := e4.call hb3
  have B_3 := B_2.trans (hb3.mono B_2.size)
  obtain ⟨w9, hw9⟩ : ∃ x, w_2.alloc (.cells #[.int .i64 x0, .int .i64 x1] 41) = x := ⟨_, rfl⟩
  rw [hw9] at k8 g4 B_3 ⊢
  obtain ⟨p8, hp8⟩ : ∃ x, w_2.heap.size = x := ⟨_, rfl⟩
  rw [hp8] at k8 ⊢
  have h8 : w.heap.size + 1 < p8 := by have := e4.lt; omega
  clear hw9 hp8 hb3
  refine AnyG.startC (by kernel_rfl) ?_
  refine AnyG.takeP (i := 0) (v := ?_) rfl (by kernel_rfl) (fun _ _ _ h => h) rfl ?_ ?_
  rotate_left
  · (intro w'; go_simp; try with_reducible rfl)
  try simp only [Act.put, List.getElem_toArray, List.getElem_cons_succ, List.getElem_cons_zero, List.setIfInBounds_toArray, List.set_cons_zero, List.set_cons_succ]
  refine AnyG.enter (fun w' : World => Bx w' p8 41 #[.int .i64 x0, .int .i64 x1]) (fun i => i != 3 && i != 4) ?_
  have hS : (fun w' : World => Bx w' p8 41 #[.int .i64 x0, .int .i64 x1]) (World.drew _) := k8.drew
  refine AnyG.takeC (i := 1) (v := ?_) rfl (by kernel_rfl) (fun _ _ _ h => h) rfl ?_ hS ?_
  rotate_left
  · (intro w' hSw; (try dsimp only at hSw); obtain ⟨a0, a1, af, az⟩ := hSw.two'; go_simp; try with_reducible rfl)
  try simp only [Act.put, List.getElem_toArray, List.getElem_cons_succ, List.getElem_cons_zero, List.setIfInBounds_toArray, List.set_cons_zero, List.set_cons_succ]
  refine AnyG.one (i := 2) (by kernel_rfl) rfl rfl ?_
  go_simp
  refine Onward.on hS (fun hS2 => ?_)
  clear hS
  have hS := hS2
  clear hS2
  try simp only [Act.put, List.getElem_toArray, List.getElem_cons_succ, List.getElem_cons_zero, List.setIfInBounds_toArray, List.set_cons_zero, List.set_cons_succ]
  refine AnyG.one (i := 3) (by kernel_rfl) rfl rfl ?_
  obtain ⟨y0, y1, yf, yz⟩ := g4.two'
  go_simp
  clear y0 y1 yf yz
  refine Onward.last rfl ?_
  try simp only [Act.put, List.getElem_toArray, List.getElem_cons_succ, List.getElem_cons_zero, List.setIfInBounds_toArray, List.set_cons_zero, List.set_cons_succ]
  refine AnyG.one (i := 4) (by kernel_rfl) rfl rfl ?_
  go_simp
  refine Onward.last rfl ?_
  try simp only [Act.put, List.getElem_toArray, List.getElem_cons_succ, List.getElem_cons_zero, List.setIfInBounds_toArray, List.set_cons_zero, List.set_cons_succ]
  refine AnyG.done (by kernel_rfl) ?_ _
  go_simp
  go_wp2_with fail
  have q4 := (g4.set_ 0 (.int .i64 x0)).set_ 1 (.int .i64 x1)
  simp only [List.setIfInBounds_toArray, List.set_cons_zero, List.set_cons_succ] at q4
  have BZ := (B_3.setCell (p := ⟨w.heap.size + 1, 0, none⟩) (by dsimp only; omega) (.int .i64 x0)).setCell (p := ⟨w.heap.size + 1, 1, none⟩) (by dsimp only; omega) (.int .i64 x1)
  obtain ⟨Z, hZ⟩ : ∃ Z, ((w9.setCell ⟨w.heap.size + 1, 0, none⟩ (.int .i64 x0)).setCell ⟨w.heap.size + 1, 1, none⟩ (.int .i64 x1)).drew = Z := ⟨_, rfl⟩
  have r4 : Bx Z (w.heap.size + 1) 41 #[.int .i64 x0, .int .i64 x1] := by rw [← hZ]; exact q4.drew
  have BY : Below w.heap.size w Z := by rw [← hZ]; exact BZ.drew
  rw [hZ]
  clear hZ
  obtain ⟨s0, s1, sf, sz⟩ := r4.two'
  exact bodyPost_ret (v := .tuple #[.bool bb, .agg #[.int .i64 x0, .int .i64 x1], .int .i64 0]) (by simp [results, Try.results26, go_sem, s0, s1]) rfl ⟨rfl, BY⟩
end Go.Proofs.Ytfcpjkofbejleaa

/-! A number brought into a list (Round 21). -/
namespace Go.Proofs.Ytfcpjkofbejleaa
open Go Go.RowKit
theorem round_any (x : Int) (n : Nat) (w : World) (hx0 : -9223372036854775808 ≤ x) (hx1 : x ≤ 9223372036854775807) (hn : 2 ≤ n) (hn2 : n ≤ 1000000) :
    Calls Try.prog 21 #[.int .i64 x, .int .i64 n] w fun e w' => (∃ r : Nat, e = .returned (.int .i64 r) ∧ r < n) ∧ Below w.heap.size w w' := by
  have h2 : decide ((n : Int) < 2) = false := decide_eq_false (by omega)
  have h0 : ((n : Int) == 0) = false := by simp; omega
  have hm1 : ((n : Int) == -1) = false := by simp
  have b1 : -(n : Int) < x.tmod n := by
    have := Int.tmod_lt_of_pos (-x) (show (0 : Int) < n by omega)
    rw [Int.neg_tmod] at this; omega
  have b2 : x.tmod n < n := Int.tmod_lt_of_pos x (by omega)
  have b3 : 0 ≤ (x.tmod n + n) % n := Int.emod_nonneg _ (by omega)
  have b4 : (x.tmod n + n) % n < n := Int.emod_lt_of_pos _ (by omega)
  have w1 : IntKind.i64.wrap (x.tmod n) = x.tmod n := IntWalk.i64_in _ (by omega)
  have w2 : IntKind.i64.wrap (x.tmod n + n) = x.tmod n + n := IntWalk.i64_in _ (by omega)
  go_enter Try.func21, Try.ntmps21
  go_wp2_with fail
  go_ret
  refine ⟨⟨((x.tmod n + n) % n).toNat, ?_, by omega⟩, Below.refl _ _⟩
  rw [Int.toNat_of_nonneg b3]
  rfl
theorem round_one (x : Int) (w : World) :
    Calls Try.prog 21 #[.int .i64 x, .int .i64 1] w fun e w' => e = .returned (.int .i64 0) ∧ Below w.heap.size w w' := by
  go_enter Try.func21, Try.ntmps21
  go_wp2_with fail
  go_ret
  exact ⟨rfl, Below.refl _ _⟩
end Go.Proofs.Ytfcpjkofbejleaa

/-! ShipDrafts: pairs of a voyage and a stowage. -/
namespace Go.Proofs.Ytfcpjkofbejleaa
open Go Go.RowKit
/-- A voyage and a stowage in two lists. -/
structure PairAt (W : World) (ad al : Addr) (k : Nat) (v : Vg) (p : Vp) (s : List Int) (A : Option Addr) (n c : Nat) : Prop where
  c0 : W.cell? (ad.add (k * 7)) = some (.int .i64 v.li)
  c1 : W.cell? ⟨(ad.add (k * 7)).block, (ad.add (k * 7)).off + 1, none⟩ = some (.int .i64 v.un)
  c2 : W.cell? ⟨(ad.add (k * 7)).block, (ad.add (k * 7)).off + 2, none⟩ = some (.int .i64 v.tr)
  c3 : W.cell? ⟨(ad.add (k * 7)).block, (ad.add (k * 7)).off + 3, none⟩ = some (.slice p.HA p.hn p.hc)
  c4 : W.cell? ⟨(ad.add (k * 7)).block, (ad.add (k * 7)).off + 4, none⟩ = some (.int .i64 v.le)
  c5 : W.cell? ⟨(ad.add (k * 7)).block, (ad.add (k * 7)).off + 5, none⟩ = some (.slice p.SA p.sn p.sc)
  c6 : W.cell? ⟨(ad.add (k * 7)).block, (ad.add (k * 7)).off + 6, none⟩ = some (.slice p.LA p.ln p.lc)
  b0 : W.cell? (al.add k) = some (.slice A n c)
  hV : VoyAt W W.heap.size v p
  hS : Sl W W.heap.size 1 A (inr s)
theorem PairAt.call {W X : World} {ad al : Addr} {k : Nat} {v : Vg} {p : Vp} {s : List Int} {A : Option Addr} {n c : Nat} (h : PairAt W ad al k v p s A n c) (b : Below W.heap.size W X) : PairAt X ad al k v p s A n c :=
  ⟨cellC b h.c0, cellC b h.c1, cellC b h.c2, cellC b h.c3, cellC b h.c4, cellC b h.c5, cellC b h.c6, cellC b h.b0, h.hV.call b, (h.hS.below b).more b.size⟩
structure PairOk (v : Vg) (p : Vp) (s : List Int) (n : Nat) : Prop where
  slim : v.Slim
  hl : v.hs.length = p.hn
  sl' : v.ss.length = p.sn
  ll : v.ls.length = p.ln
  sl : s.length = n
  n20 : n ≤ 20
theorem PairOk.fit {v : Vg} {p : Vp} {s : List Int} {n : Nat} (h : PairOk v p s n) : p.Fit :=
  ⟨by have := h.hl; have := h.slim.h20; omega, by have := h.sl'; have := h.slim.s20; omega, by have := h.ll; have := h.slim.l20; omega⟩
theorem PairOk.fitq {v : Vg} {p : Vp} {s : List Int} {n : Nat} (h : PairOk v p s n) {HA SA LA : Option Addr} {hc sc lc : Nat} : Vp.Fit ⟨HA, p.hn, hc, SA, p.sn, sc, LA, p.ln, lc⟩ := ⟨h.fit.hn, h.fit.sn, h.fit.ln⟩
theorem PairOk.lf {v : Vg} {p : Vp} {s : List Int} {n : Nat} (h : PairOk v p s n) : LvFit v := fun x hx => by have := h.slim.v20 x hx; omega
theorem own_ins {w : World} {b n c : Nat} {B : Option Addr} {s : List Int} (o : w.ownsRow b 3 1 (.slice B n c) n (inr s).flatten) (hl : s.length = n) : Sl w w.heap.size 1 B (inr s) :=
  own_rows o (fun r hr => by obtain ⟨y, _, rfl⟩ := List.mem_map.1 hr; rfl) (by simpa [inr] using hl)
/-- The four pairs. -/
theorem pairs_of {V : World} {bv bl : Nat} {v0 v : Vg} {p0 p : Vp} {A0 A1 A2 : Option Addr} {n0 d0 n1 d1 d2 : Nat} {s0 s1 s2 : List Int}
    (kB : Bx V bv 26 #[.int .i64 v0.li, .int .i64 v0.un, .int .i64 v0.tr, .slice p0.HA p0.hn p0.hc, .int .i64 v0.le, .slice p0.SA p0.sn p0.sc, .slice p0.LA p0.ln p0.lc, .int .i64 v.li, .int .i64 v.un, .int .i64 v.tr, .slice p.HA p.hn p.hc, .int .i64 v.le, .slice p.SA p.sn p.sc, .slice p.LA p.ln p.lc, .int .i64 v.li, .int .i64 v.un, .int .i64 v.tr, .slice p.HA p.hn p.hc, .int .i64 v.le, .slice p.SA p.sn p.sc, .slice p.LA p.ln p.lc, .int .i64 v.li, .int .i64 v.un, .int .i64 v.tr, .slice p.HA p.hn p.hc, .int .i64 v.le, .slice p.SA p.sn p.sc, .slice p.LA p.ln p.lc]) (kL : Bx V bl 27 #[.slice A0 n0 d0, .slice A1 n1 d1, .slice A2 n1 d2, .slice A0 n0 d0])
    (h0 : VoyAt V V.heap.size v0 p0) (h : VoyAt V V.heap.size v p) (g0 : Sl V V.heap.size 1 A0 (inr s0)) (g1 : Sl V V.heap.size 1 A1 (inr s1)) (g2 : Sl V V.heap.size 1 A2 (inr s2))
    (o0 : v0.Slim) (o : v.Slim) (l0 : s0.length = n0) (l1 : s1.length = n1) (l2 : s2.length = n1) (m0 : n0 ≤ 20) (m1 : n1 ≤ 20) :
    ∀ k, k < 4 → ∃ (v : Vg) (p : Vp) (s : List Int) (A : Option Addr) (n c : Nat), PairAt V ⟨bv, 0, none⟩ ⟨bl, 0, none⟩ k v p s A n c ∧ PairOk v p s n := by
  intro k hk
  rcases k with _ | _ | _ | _ | k
  · exact ⟨v0, p0, s0, A0, n0, d0, ⟨kB.cell 0, kB.cell 1, kB.cell 2, kB.cell 3, kB.cell 4, kB.cell 5, kB.cell 6, kL.cell 0, h0, g0⟩, o0, h0.hl, h0.sl, h0.ll, l0, m0⟩
  · exact ⟨v, p, s1, A1, n1, d1, ⟨kB.cell 7, kB.cell 8, kB.cell 9, kB.cell 10, kB.cell 11, kB.cell 12, kB.cell 13, kL.cell 1, h, g1⟩, o, h.hl, h.sl, h.ll, l1, m1⟩
  · exact ⟨v, p, s2, A2, n1, d2, ⟨kB.cell 14, kB.cell 15, kB.cell 16, kB.cell 17, kB.cell 18, kB.cell 19, kB.cell 20, kL.cell 2, h, g2⟩, o, h.hl, h.sl, h.ll, l2, m1⟩
  · exact ⟨v, p, s0, A0, n0, d0, ⟨kB.cell 21, kB.cell 22, kB.cell 23, kB.cell 24, kB.cell 25, kB.cell 26, kB.cell 27, kL.cell 3, h, g0⟩, o, h.hl, h.sl, h.ll, l0, m0⟩
  · omega
theorem drafts_tup (b : Bool) (x0 x1 x2 x3 e : Int) : ∃ a0 a1 a2 a3 ec : Int, (if b then Value.tuple #[.agg #[.int .i64 x0, .int .i64 x1], .agg #[.int .i64 x2, .int .i64 x3], .int .i64 0] else .tuple #[.agg #[.int .i64 0, .int .i64 0], .agg #[.int .i64 0, .int .i64 0], .int .i64 e]) = .tuple #[.agg #[.int .i64 a0, .int .i64 a1], .agg #[.int .i64 a2, .int .i64 a3], .int .i64 ec] := by
  cases b
  · exact ⟨0, 0, 0, 0, e, rfl⟩
  · exact ⟨x0, x1, x2, x3, 0, rfl⟩
theorem ins_set {l : List Int} {i : Nat} (hi : i < l.length) (z : Int) : (inr l).flatten.set i (.int .i64 z) = (inr (l.set i z)).flatten := by
  have := flatten_set (s := 1) (inr l) (inr_one l) i 0 [.int .i64 l[i]] (.int .i64 z) (by unfold inr; rw [List.getElem?_map, List.getElem?_eq_getElem hi]; rfl) (by omega)
  rw [Nat.mul_one, Nat.add_zero] at this
  rw [this]
  congr 1
  unfold inr
  rw [List.map_set]
  rfl
theorem ins_cell {w : World} {b q n c : Nat} {l : List Int} (h : w.ownsRow b 3 1 (.slice (some ⟨q, 0, none⟩) n c) n (inr l).flatten) (hl : l.length = n) {i : Nat} (hi : i < l.length) : w.cell? ⟨q, i, none⟩ = some (.int .i64 l[i]) := by
  obtain ⟨ad, e, _, h0⟩ := inr_at (own_inr h hl) hi
  simp only [Option.some.injEq] at e
  subst e
  have e : (⟨q, 0, none⟩ : Addr).add i = ⟨q, i, none⟩ := by unfold Addr.add; split <;> simp_all
  rw [e] at h0
  exact h0
theorem level_tup (b l : Bool) (x0 x1 e : Int) : ∃ (lv : Bool) (a4 a5 ed : Int), (if b then Value.tuple #[.bool l, .agg #[.int .i64 x0, .int .i64 x1], .int .i64 0] else .tuple #[.bool false, .agg #[.int .i64 0, .int .i64 0], .int .i64 e]) = .tuple #[.bool lv, .agg #[.int .i64 a4, .int .i64 a5], .int .i64 ed] := by
  cases b
  · exact ⟨false, 0, 0, e, rfl⟩
  · exact ⟨l, x0, x1, 0, rfl⟩
theorem round_lt (x : Int) (n : Nat) (w : World) (hx0 : -9223372036854775808 ≤ x) (hx1 : x ≤ 9223372036854775807) (hn : 1 ≤ n) (hn2 : n ≤ 1000000) :
    Calls Try.prog 21 #[.int .i64 x, .int .i64 n] w fun e w' => (∃ r : Nat, e = .returned (.int .i64 r) ∧ r < n) ∧ Below w.heap.size w w' := by
  by_cases h : n = 1
  · subst h
    refine (round_one x w).mono ?_
    rintro e w' ⟨rfl, hb⟩
    exact ⟨⟨0, rfl, by omega⟩, hb⟩
  · exact round_any x n w hx0 hx1 (by omega) hn2

end Go.Proofs.Ytfcpjkofbejleaa
