/- For every log, every event and every list of numbers BridgeZeros returns true and leaves its arguments as they were. No condition. -/
import Derived.Test.YtgbogdckmfencaaZsA
import Derived.Test.YtgbogdckmfencaaLo
import Derived.Test.YtgbogdckmfencaaAk
import Derived.Test.YtgbogdckmfencaaRows
import Derived.ProofKit
import Derived.SizedLaws
import Derived.Deep.Slices
set_option linter.unusedSimpArgs false
set_option linter.unusedVariables false
namespace Go.Proofs.Ytgbogdckmfencaa
open Go Go.RowKit
/-- A log as it lies in memory. -/
structure LogD where
  (st z0 z1 : Int) (A : Option Addr) (c : Nat) (es : List Ev)
structure LogAt (bR i : Nat) (d : LogD) (x : World) : Prop where
  c0 : x.cell? ⟨bR, i * 4, none⟩ = some (.int .i64 d.st)
  c1 : x.cell? ⟨bR, i * 4 + 1, none⟩ = some (.int .i64 d.z0)
  c2 : x.cell? ⟨bR, i * 4 + 2, none⟩ = some (.int .i64 d.z1)
  c3 : x.cell? ⟨bR, i * 4 + 3, none⟩ = some (.slice d.A d.es.length d.c)
  ev : EvsAt x x.heap.size d.A d.es
  len : d.es.length ≤ 20
  lt : bR < x.heap.size
theorem LogAt.bel {bR i : Nat} {d : LogD} {x y : World} (h : LogAt bR i d x) (hb : Below x.heap.size x y) : LogAt bR i d y :=
  ⟨(hb.cell (p := ⟨bR, i * 4, none⟩) h.lt).trans h.c0, (hb.cell (p := ⟨bR, i * 4 + 1, none⟩) h.lt).trans h.c1, (hb.cell (p := ⟨bR, i * 4 + 2, none⟩) h.lt).trans h.c2, (hb.cell (p := ⟨bR, i * 4 + 3, none⟩) h.lt).trans h.c3, (Sl.below h.ev hb).more hb.size, h.len, Nat.lt_of_lt_of_le h.lt hb.size⟩
/-- A log of the three, and its copy. -/
structure ZB (U : World) (bR i b12 : Nat) (d : LogD) (A2 : Option Addr) (c2 : Nat) (x : World) : Prop where
  la : LogAt bR i d x
  kB : Bx x b12 26 #[.int .i64 d.st, .int .i64 d.z0, .int .i64 d.z1, .slice A2 d.es.length c2]
  ev : EvsAt x x.heap.size A2 d.es
  hb : Below U.heap.size U x
theorem ZB.bel {U : World} {bR i b12 : Nat} {d : LogD} {A2 : Option Addr} {c2 : Nat} {x y : World} (h : ZB U bR i b12 d A2 c2 x) (hb : Below x.heap.size x y) : ZB U bR i b12 d A2 c2 y :=
  ⟨h.la.bel hb, h.kB.call hb, (Sl.below h.ev hb).more hb.size, h.hb.trans (hb.mono h.hb.size)⟩
set_option maxRecDepth 100000 in
set_option maxHeartbeats 8000000 in
theorem zeros_run (x0 x1 x2 : Int) (XA : Option Addr) (xn xc : Nat) (xs : List Ev) (kd sh ld m0 m1 : Int) (A : Option Addr) (n c : Nat) (L : List Int) (w : World) (hxn : xn ≤ 9223372036854775807) (hxl : xs.length = xn) (hX : EvsAt w w.heap.size XA xs) (hn : n ≤ 9000000000000000000) (hl : L.length = n) (hA : Sl w w.heap.size 1 A (ints L)) :
    Calls Try.prog 3 #[.agg #[.int .i64 x0, .int .i64 x1, .int .i64 x2, .slice XA xn xc], .agg #[.int .i64 kd, .int .i64 sh, .int .i64 ld, .int .i64 m0, .int .i64 m1], .slice A n c] w fun e w' => e = .returned (.bool true) ∧ Below w.heap.size w w' := by
  have HL := Lib.hid hl
  have HXL := Lib.hid hxl
  clear hl hxl
  have hB0 := ((Below.refl w.heap.size w).alloc (Nat.le_refl _) (.cells #[.int .i64 x0, .int .i64 x1, .int .i64 x2, .slice XA xn xc] 26)).alloc (by simp) (.cells #[.int .i64 kd, .int .i64 sh, .int .i64 ld, .int .i64 m0, .int .i64 m1] 28)
  have kX0 := (Bx.new w 26 #[.int .i64 x0, .int .i64 x1, .int .i64 x2, .slice XA xn xc]).alloc (.cells #[.int .i64 kd, .int .i64 sh, .int .i64 ld, .int .i64 m0, .int .i64 m1] 28)
  have kE0 := Bx.at (w.alloc (.cells #[.int .i64 x0, .int .i64 x1, .int .i64 x2, .slice XA xn xc] 26)) 28 #[.int .i64 kd, .int .i64 sh, .int .i64 ld, .int .i64 m0, .int .i64 m1] (n := w.heap.size + 1) (by simp)
  have hA0 : Sl ((w.alloc (.cells #[.int .i64 x0, .int .i64 x1, .int .i64 x2, .slice XA xn xc] 26)).alloc (.cells #[.int .i64 kd, .int .i64 sh, .int .i64 ld, .int .i64 m0, .int .i64 m1] 28)) ((w.alloc (.cells #[.int .i64 x0, .int .i64 x1, .int .i64 x2, .slice XA xn xc] 26)).alloc (.cells #[.int .i64 kd, .int .i64 sh, .int .i64 ld, .int .i64 m0, .int .i64 m1] 28)).heap.size 1 A (ints L) := (hA.below hB0).more hB0.size
  have hX0 : EvsAt ((w.alloc (.cells #[.int .i64 x0, .int .i64 x1, .int .i64 x2, .slice XA xn xc] 26)).alloc (.cells #[.int .i64 kd, .int .i64 sh, .int .i64 ld, .int .i64 m0, .int .i64 m1] 28)) ((w.alloc (.cells #[.int .i64 x0, .int .i64 x1, .int .i64 x2, .slice XA xn xc] 26)).alloc (.cells #[.int .i64 kd, .int .i64 sh, .int .i64 ld, .int .i64 m0, .int .i64 m1] 28)).heap.size XA xs := (Sl.below hX hB0).more hB0.size
  have H0 := Lib.hid (And.intro hB0 (And.intro kX0 (And.intro kE0 (And.intro hA0 hX0))))
  clear hB0 kX0 kE0 hA0 hX0 hX hA
  by_cases h20 : 20 < xn
  · go_enter Try.func3, Try.ntmps3
    go_wp2_with (first | (go_at_call 14; refine (awake_any _).mono ?_; rintro e x7 ⟨rfl, hq7⟩) | fail)
    go_ret
    exact ⟨rfl, H0.out.1.trans (hq7.mono H0.out.1.size)⟩
  · go_enter Try.func3, Try.ntmps3
    go_upto_region 4 with (first
      | (go_at_call 16; refine (feedOf_any A n c L _ hn HL.out H0.out.2.2.2.1).mono ?_; rintro e w1 ⟨⟨g, rfl, hg0, hfd⟩, hb1⟩; have hgl := hfd.lt)
      | (go_at_call 15; refine (logOf_any g 8 60 false _ hfd (by omega) (by omega) (by omega) (by omega)).mono ?_; rintro e w2 ⟨st, z0, z1, ts, z, ev, zv, nv, rfl, ⟨hs1, hs2, -, hz0, hz01, hz1⟩, hmd, hlen, hoe, hoz, hon, -, hfd2, hgr2⟩; obtain ⟨EA, EC, rfl⟩ := own_shape hoe; obtain ⟨ZA, ZC, rfl⟩ := own_shape hoz; obtain ⟨NA, NC, rfl⟩ := own_shape hon)
      | fail)
    obtain ⟨k, hk⟩ : ∃ k, ts.length = k := ⟨_, rfl⟩
    have hk8 : k ≤ 8 := by omega
    obtain ⟨es, hes⟩ : ∃ e, evsOf ts = e := ⟨_, rfl⟩
    have hel : es.length = k := by rw [← hes, evsOf_len]; exact hk
    rw [hk] at hoe hoz hon ⊢
    rw [hes] at hoe
    have hgB : Below w1.heap.size w1 w2 ∨ True := .inr trivial
    have hBw := H0.out.1
    have hB1 := hBw.trans (hb1.mono hBw.size)
    have hgw : w.heap.size ≤ g := Nat.le_trans hBw.size hg0
    have hB2 : Below w.heap.size w w2 := hB1.grown hgr2 hB1.size (fun k e => by cases e; exact hgw)
    have hB2s : Below ((w.alloc (.cells #[.int .i64 x0, .int .i64 x1, .int .i64 x2, .slice XA xn xc] 26)).alloc (.cells #[.int .i64 kd, .int .i64 sh, .int .i64 ld, .int .i64 m0, .int .i64 m1] 28)).heap.size ((w.alloc (.cells #[.int .i64 x0, .int .i64 x1, .int .i64 x2, .slice XA xn xc] 26)).alloc (.cells #[.int .i64 kd, .int .i64 sh, .int .i64 ld, .int .i64 m0, .int .i64 m1] 28)) w2 := hb1.grown hgr2 hb1.size (fun k e => by cases e; exact hg0)
    have kX2 := H0.out.2.1.call hB2s
    have kE2 := H0.out.2.2.1.call hB2s
    have hX2 := (Sl.below H0.out.2.2.2.2 hB2s).more hB2s.size
    have kM := (Bx.new w2 26 #[.int .i64 st, .int .i64 z0, .int .i64 z1, .slice EA k EC]).alloc (.cells #[.slice ZA k ZC, .slice NA k NC] 32)
    have hM : EvsAt ((w2.alloc (.cells #[.int .i64 st, .int .i64 z0, .int .i64 z1, .slice EA k EC] 26)).alloc (.cells #[.slice ZA k ZC, .slice NA k NC] 32)) ((w2.alloc (.cells #[.int .i64 st, .int .i64 z0, .int .i64 z1, .slice EA k EC] 26)).alloc (.cells #[.slice ZA k ZC, .slice NA k NC] 32)).heap.size EA es := (((own_evs2 hoe hel).alloc (Nat.le_refl _) _).alloc (by simp) _).more (by simp; omega)
    have kX := (kX2.alloc (.cells #[.int .i64 st, .int .i64 z0, .int .i64 z1, .slice EA k EC] 26)).alloc (.cells #[.slice ZA k ZC, .slice NA k NC] 32)
    have kE := (kE2.alloc (.cells #[.int .i64 st, .int .i64 z0, .int .i64 z1, .slice EA k EC] 26)).alloc (.cells #[.slice ZA k ZC, .slice NA k NC] 32)
    have hXV : EvsAt ((w2.alloc (.cells #[.int .i64 st, .int .i64 z0, .int .i64 z1, .slice EA k EC] 26)).alloc (.cells #[.slice ZA k ZC, .slice NA k NC] 32)) ((w2.alloc (.cells #[.int .i64 st, .int .i64 z0, .int .i64 z1, .slice EA k EC] 26)).alloc (.cells #[.slice ZA k ZC, .slice NA k NC] 32)).heap.size XA xs := ((EvsAt.alloc hX2 (Nat.le_refl _) _).alloc (by simp) _).more (by simp; omega)
    have hBV := (hB2.alloc hB2.size (.cells #[.int .i64 st, .int .i64 z0, .int .i64 z1, .slice EA k EC] 26)).alloc (by have := hB2.size; simp; omega) (.cells #[.slice ZA k ZC, .slice NA k NC] 32)
    obtain ⟨V, hV⟩ : ∃ x, ((w2.alloc (.cells #[.int .i64 st, .int .i64 z0, .int .i64 z1, .slice EA k EC] 26)).alloc (.cells #[.slice ZA k ZC, .slice NA k NC] 32)) = x := ⟨_, rfl⟩
    rw [hV] at kM hM kX kE hXV hBV ⊢
    obtain ⟨bM, hbM⟩ : ∃ b, w2.heap.size = b := ⟨_, rfl⟩
    rw [hbM] at kM ⊢
    have hMw : w.heap.size + 1 < bM := by rw [← hbM]; have := kE2.lt; omega
    have HEL := Lib.hid hel
    clear hel hes hV hbM hoe hoz hon hfd2 hgr2 hmd hlen hgB hBw hB1 hB2 hB2s kX2 kE2 hX2 H0 hb1 hgl hfd hk
    obtain ⟨l0, l1, l2, l3, lf, lz⟩ := kM.four
    go_upto_region 5 with (first | (go_at_call 17; refine (copyLog_20 st z0 z1 EA k EC es _ (by omega) HEL.out hM).mono ?_; rintro e x3 ⟨⟨CA, CC, rfl, ho3⟩, hq3⟩) | fail)
    clear l0 l1 l2 l3 lf lz
    have kM3 := (kM.call hq3).alloc (.cells #[.int .i64 st, .int .i64 z0, .int .i64 z1, .slice CA k CC] 26)
    have kX3 := (kX.call hq3).alloc (.cells #[.int .i64 st, .int .i64 z0, .int .i64 z1, .slice CA k CC] 26)
    have kE3 := (kE.call hq3).alloc (.cells #[.int .i64 st, .int .i64 z0, .int .i64 z1, .slice CA k CC] 26)
    have k9 := Bx.new x3 26 #[.int .i64 st, .int .i64 z0, .int .i64 z1, .slice CA k CC]
    have hBq := hq3.alloc hq3.size (.cells #[.int .i64 st, .int .i64 z0, .int .i64 z1, .slice CA k CC] 26)
    have ho9 := ho3.alloc (.cells #[.int .i64 st, .int .i64 z0, .int .i64 z1, .slice CA k CC] 26)
    have hb9 : V.heap.size ≤ x3.heap.size := hq3.size
    have hVM := kM.lt
    obtain ⟨x4, hx4⟩ : ∃ x, x3.alloc (.cells #[.int .i64 st, .int .i64 z0, .int .i64 z1, .slice CA k CC] 26) = x := ⟨_, rfl⟩
    rw [hx4] at kM3 kX3 kE3 k9 hBq ho9 ⊢
    obtain ⟨b9, hb9e⟩ : ∃ b, x3.heap.size = b := ⟨_, rfl⟩
    rw [hb9e] at k9 hb9 ⊢
    clear hx4 hb9e hq3 ho3
    obtain ⟨i3, hi3, hz3, hs3, iy3⟩ := info_parts info28
    obtain ⟨p0, p1, p2, p3, pf, pz⟩ := k9.four
    obtain ⟨e0, e1, e2, e3, e4, ef, ez⟩ := kE3.five
    have hoA := ho9.alloc (.cells #[.int .i64 kd, .int .i64 sh, .int .i64 ld, .int .i64 m0, .int .i64 m1] 28)
    have kb := Bx.new x4 28 #[.int .i64 kd, .int .i64 sh, .int .i64 ld, .int .i64 m0, .int .i64 m1]
    have k9A := k9.alloc (.cells #[.int .i64 kd, .int .i64 sh, .int .i64 ld, .int .i64 m0, .int .i64 m1] 28)
    go_upto_region 6 with (first | (at_builtin; refine wpList_append_own _ rfl (.tmp 35) (.tmp 37) 24 rfl V.heap.size 28 i3 _ 5 40 Try.underlying24 hi3 hz3 hs3 iy3 rfl (by decide) (.slice CA k CC) k ((es.map Ev.cells).flatten) rfl hoA ⟨x4.heap.size, 0, none⟩ 1 1 [.int .i64 kd, .int .i64 sh, .int .i64 ld, .int .i64 m0, .int .i64 m1] rfl rfl (bx_news kb) (by simp [Value.oneCell']) (by unfold maxLen; omega) (by omega) (Nat.le_trans hBq.size (by simp)) ?_; intro v5 x5 o5 g5 r5; obtain ⟨OA, OC, rfl⟩ := own_shape o5; have k95 := k9A.grown g5 (own_bx hoA k9A (by decide)); clear p0 p1 p2 p3 pf pz; obtain ⟨p0, p1, p2, p3, pf, pz⟩ := k95.four) | fail)
    have hB5 : Below V.heap.size V x5 := (hBq.alloc hBq.size (.cells #[.int .i64 kd, .int .i64 sh, .int .i64 ld, .int .i64 m0, .int .i64 m1] 28)).grown g5 (by have := hBq.size; simp; omega) (fun q hq => (hoA.lt q hq).1)
    have hB6 := hB5.setCell (p := ⟨b9, 3, none⟩) hb9 (.slice OA (k + 1) OC)
    have k96 : Bx (x5.setCell ⟨b9, 3, none⟩ (.slice OA (k + 1) OC)) b9 26 #[.int .i64 st, .int .i64 z0, .int .i64 z1, .slice OA (k + 1) OC] := by have := k95.set_ 3 (.slice OA (k + 1) OC); simpa using this
    have hfl : (es.map Ev.cells).flatten ++ [.int .i64 kd, .int .i64 sh, .int .i64 ld, .int .i64 m0, .int .i64 m1] = ((es ++ [(⟨kd, sh, ld, m0, m1⟩ : Ev)]).map Ev.cells).flatten := by simp [Ev.cells]
    rw [hfl] at o5
    have o6 := own_set o5 (own_bx o5 k95 (by decide)) (o := 3) (.slice OA (k + 1) OC)
    have hO6 := own_evs2 o6 (by rw [List.length_append, HEL.out]; rfl)
    obtain ⟨x6, hx6⟩ : ∃ x, (x5.setCell ⟨b9, 3, none⟩ (.slice OA (k + 1) OC)) = x := ⟨_, rfl⟩
    rw [hx6] at hB6 k96 hO6 ⊢
    clear hx6 o6 hfl o5 g5 r5 hoA kb k9A k95 hB5 ho9 kM3 kX3 kE3 k9 hBq p0 p1 p2 p3 pf pz e0 e1 e2 e3 e4 ef ez
    have kM6 := kM.call hB6
    have kX6 := kX.call hB6
    have hM6 := (Sl.below hM hB6).more hB6.size
    have hX6 := (Sl.below hXV hB6).more hB6.size
    have hBw6 := hBV.trans (hB6.mono hBV.size)
    obtain ⟨p0, p1, p2, p3, pf, pz⟩ := k96.four
    obtain ⟨l0, l1, l2, l3, lf, lz⟩ := kM6.four
    obtain ⟨y0, y1, y2, y3, yf, yz⟩ := kX6.four
    go_upto_region 7 with fail
    clear p0 p1 p2 p3 pf pz l0 l1 l2 l3 lf lz y0 y1 y2 y3 yf yz
    have kR := Bx.new x6 26 #[.int .i64 x0, .int .i64 x1, .int .i64 x2, .slice XA xn xc, .int .i64 st, .int .i64 z0, .int .i64 z1, .slice EA k EC, .int .i64 st, .int .i64 z0, .int .i64 z1, .slice OA (k + 1) OC]
    have hX7 := (EvsAt.alloc hX6 (Nat.le_refl _) (.cells #[.int .i64 x0, .int .i64 x1, .int .i64 x2, .slice XA xn xc, .int .i64 st, .int .i64 z0, .int .i64 z1, .slice EA k EC, .int .i64 st, .int .i64 z0, .int .i64 z1, .slice OA (k + 1) OC] 26)).more (B' := (x6.alloc (.cells #[.int .i64 x0, .int .i64 x1, .int .i64 x2, .slice XA xn xc, .int .i64 st, .int .i64 z0, .int .i64 z1, .slice EA k EC, .int .i64 st, .int .i64 z0, .int .i64 z1, .slice OA (k + 1) OC] 26)).heap.size) (by simp)
    have hM7 := (EvsAt.alloc hM6 (Nat.le_refl _) (.cells #[.int .i64 x0, .int .i64 x1, .int .i64 x2, .slice XA xn xc, .int .i64 st, .int .i64 z0, .int .i64 z1, .slice EA k EC, .int .i64 st, .int .i64 z0, .int .i64 z1, .slice OA (k + 1) OC] 26)).more (B' := (x6.alloc (.cells #[.int .i64 x0, .int .i64 x1, .int .i64 x2, .slice XA xn xc, .int .i64 st, .int .i64 z0, .int .i64 z1, .slice EA k EC, .int .i64 st, .int .i64 z0, .int .i64 z1, .slice OA (k + 1) OC] 26)).heap.size) (by simp)
    have hO7 := (EvsAt.alloc hO6 (Nat.le_refl _) (.cells #[.int .i64 x0, .int .i64 x1, .int .i64 x2, .slice XA xn xc, .int .i64 st, .int .i64 z0, .int .i64 z1, .slice EA k EC, .int .i64 st, .int .i64 z0, .int .i64 z1, .slice OA (k + 1) OC] 26)).more (B' := (x6.alloc (.cells #[.int .i64 x0, .int .i64 x1, .int .i64 x2, .slice XA xn xc, .int .i64 st, .int .i64 z0, .int .i64 z1, .slice EA k EC, .int .i64 st, .int .i64 z0, .int .i64 z1, .slice OA (k + 1) OC] 26)).heap.size) (by simp)
    have hBU := hBw6.alloc hBw6.size (.cells #[.int .i64 x0, .int .i64 x1, .int .i64 x2, .slice XA xn xc, .int .i64 st, .int .i64 z0, .int .i64 z1, .slice EA k EC, .int .i64 st, .int .i64 z0, .int .i64 z1, .slice OA (k + 1) OC] 26)
    obtain ⟨U, hU⟩ : ∃ x, x6.alloc (.cells #[.int .i64 x0, .int .i64 x1, .int .i64 x2, .slice XA xn xc, .int .i64 st, .int .i64 z0, .int .i64 z1, .slice EA k EC, .int .i64 st, .int .i64 z0, .int .i64 z1, .slice OA (k + 1) OC] 26) = x := ⟨_, rfl⟩
    rw [hU] at kR hX7 hM7 hO7 hBU ⊢
    obtain ⟨bR, hbR⟩ : ∃ b, x6.heap.size = b := ⟨_, rfl⟩
    rw [hbR] at kR ⊢
    clear hU hbR
    have hD : ∀ i, i < 3 → ∃ d, LogAt bR i d U := by
      intro i hi
      match i, hi with
      | 0, _ => exact ⟨⟨x0, x1, x2, XA, xc, xs⟩, kR.cell 0, kR.cell 1, kR.cell 2, by dsimp only; rw [HXL.out]; exact kR.cell 3, hX7, by dsimp only; rw [HXL.out]; omega, kR.lt⟩
      | 1, _ => exact ⟨⟨st, z0, z1, EA, EC, es⟩, kR.cell 4, kR.cell 5, kR.cell 6, by dsimp only; rw [HEL.out]; exact kR.cell 7, hM7, by dsimp only; rw [HEL.out]; omega, kR.lt⟩
      | 2, _ => exact ⟨⟨st, z0, z1, OA, OC, es ++ [⟨kd, sh, ld, m0, m1⟩]⟩, kR.cell 8, kR.cell 9, kR.cell 10, by dsimp only; rw [List.length_append, HEL.out]; exact kR.cell 11, hO7, by dsimp only; rw [List.length_append, HEL.out]; simp; omega, kR.lt⟩
    have HD := Lib.hid hD
    clear hD kR hX7 hM7 hO7 hX6 hM6 hO6 kM6 kX6 k96 hB6 hBw6 kM kX kE hM hXV hBV hb9 hVM hMw
    go_wp2_with fail
    go_loopw [11] (fun v11 wr => ∃ i : Nat, i ≤ 3 ∧ v11 = .int .i64 i ∧ Below U.heap.size U wr) (fun v11 _ => 3 - (intOf v11).toNat)
    case atStart => exact ⟨0, by omega, rfl, Below.refl _ _⟩
    case round =>
      obtain ⟨w4, rfl⟩ : ∃ x, x = wr := ⟨_, rfl⟩
      obtain ⟨i, hi, rfl, hB⟩ := hrel
      by_cases hi3 : i < 3
      · obtain ⟨d, hd⟩ := HD.out i hi3
        have hd4 := hd.bel hB
        obtain ⟨st1, za, zb, A1, c1, es1⟩ := d
        obtain ⟨E, zL, hzl, hz18, hz19⟩ := zeros_both st1 za zb es1 (by have := hd4.len; dsimp only at this; omega)
        obtain ⟨M, F, hc20, hc21⟩ := conflict_both st1 za zb es1 (by have := hd4.len; dsimp only at this; omega)
        have HZ18 := Lib.hid hz18
        have HZ19 := Lib.hid hz19
        have HC20 := Lib.hid hc20
        have HC21 := Lib.hid hc21
        clear hz18 hz19 hc20 hc21 hd
        have hlen := hd4.len
        dsimp only at hlen
        obtain ⟨n1, hn1⟩ : ∃ r, es1.length = r := ⟨_, rfl⟩
        have HN1 := Lib.hid hn1
        have hn20 : n1 ≤ 20 := by omega
        have r0 := hd4.c0
        have r1 := hd4.c1
        have r2 := hd4.c2
        have r3 := hd4.c3
        dsimp only at r0 r1 r2 r3
        rw [hn1] at r3
        clear hn1 hlen
        go_upto_region 11 with (first | (go_at_call 17; refine (copyLog_20 st1 za zb A1 n1 c1 es1 _ (by omega) HN1.out hd4.ev).mono ?_; rintro e y1 ⟨⟨A2, c2, rfl, ho⟩, hq1⟩) | fail)
        clear r0 r1 r2 r3
        have hd5 := (hd4.bel hq1).bel ((Below.refl _ _).alloc (Nat.le_refl _) (.cells #[.int .i64 st1, .int .i64 za, .int .i64 zb, .slice A2 n1 c2] 26))
        have k12 := Bx.new y1 26 #[.int .i64 st1, .int .i64 za, .int .i64 zb, .slice A2 n1 c2]
        have hE2 := (EvsAt.alloc (own_evs2 ho HN1.out) (Nat.le_refl _) (.cells #[.int .i64 st1, .int .i64 za, .int .i64 zb, .slice A2 n1 c2] 26)).more (B' := (y1.alloc (.cells #[.int .i64 st1, .int .i64 za, .int .i64 zb, .slice A2 n1 c2] 26)).heap.size) (by simp)
        have hB5 := (hB.trans (hq1.mono hB.size)).alloc (by have := hB.size; have := hq1.size; omega) (.cells #[.int .i64 st1, .int .i64 za, .int .i64 zb, .slice A2 n1 c2] 26)
        obtain ⟨y2, hy2⟩ : ∃ x, y1.alloc (.cells #[.int .i64 st1, .int .i64 za, .int .i64 zb, .slice A2 n1 c2] 26) = x := ⟨_, rfl⟩
        rw [hy2] at hd5 k12 hE2 hB5 ⊢
        obtain ⟨b12, hb12⟩ : ∃ b, y1.heap.size = b := ⟨_, rfl⟩
        rw [hb12] at k12 ⊢
        clear hy2 hb12 ho hq1 hd4
        have Z2 : ZB U bR i b12 ⟨st1, za, zb, A1, c1, es1⟩ A2 c2 y2 := ⟨hd5, by dsimp only; rw [HN1.out]; exact k12, hE2, hB5⟩
        clear hd5 k12 hE2 hB5
        have k12 := Z2.kB
        dsimp only at k12
        rw [HN1.out] at k12
        obtain ⟨p0, p1, p2, p3, pf, pz⟩ := k12.four
        go_upto_region 12 with (first | (go_at_call 18; have hcc := HZ18.out A2 c2 _ Z2.ev; rw [HN1.out] at hcc; refine hcc.mono ?_; clear hcc; rintro e y3 ⟨⟨QA, QC, rfl, hQ⟩, hq3⟩) | fail)
        clear k12 p0 p1 p2 p3 pf pz
        have Z3 := Z2.bel hq3
        clear Z2 hq3
        have r0 := Z3.la.c0
        have r1 := Z3.la.c1
        have r2 := Z3.la.c2
        have r3 := Z3.la.c3
        dsimp only at r0 r1 r2 r3
        rw [HN1.out] at r3
        go_upto_region 13 with (first | (go_at_call 19; have hcc := HZ19.out A1 c1 _ Z3.la.ev; rw [HN1.out] at hcc; refine hcc.mono ?_; clear hcc; rintro e y4 ⟨⟨RA, RC, rfl, hR⟩, hq4⟩) | fail)
        clear r0 r1 r2 r3
        have Z4 := Z3.bel hq4
        have hQ4 := (hQ.below hq4).more hq4.size
        clear Z3 hq4 hQ
        have k12 := Z4.kB
        dsimp only at k12
        rw [HN1.out] at k12
        obtain ⟨p0, p1, p2, p3, pf, pz⟩ := k12.four
        go_upto_region 14 with (first | (go_at_call 20; have hcc := HC20.out A2 c2 _ Z4.ev; rw [HN1.out] at hcc; refine hcc.mono ?_; clear hcc; rintro e y5 ⟨rfl, hq5⟩) | fail)
        clear k12 p0 p1 p2 p3 pf pz
        have Z5 := Z4.bel hq5
        have hQ5 := (hQ4.below hq5).more hq5.size
        have hR5 := (hR.below hq5).more hq5.size
        clear Z4 hq5 hQ4 hR
        have r0 := Z5.la.c0
        have r1 := Z5.la.c1
        have r2 := Z5.la.c2
        have r3 := Z5.la.c3
        dsimp only at r0 r1 r2 r3
        rw [HN1.out] at r3
        go_upto_region 15 with (first | (go_at_call 21; have hcc := HC21.out A1 c1 _ Z5.la.ev; rw [HN1.out] at hcc; refine hcc.mono ?_; clear hcc; rintro e y6 ⟨rfl, hq6⟩) | fail)
        clear r0 r1 r2 r3
        have Z6 := Z5.bel hq6
        have hQ6 := (hQ5.below hq6).more hq6.size
        have hR6 := (hR5.below hq6).more hq6.size
        clear Z5 hq6 hQ5 hR5
        obtain ⟨CE, hCE⟩ : ∃ x, ckL st1 za zb es1 = x := ⟨_, rfl⟩
        have HCE := Lib.hid hCE
        clear hCE
        refine AnyG.startC (by kernel_rfl) ?_
        refine AnyG.takeP (i := 2) (v := ?_) rfl (by kernel_rfl) (fun _ _ _ h => h) rfl ?_ ?_
        rotate_left
        · (intro w'; go_simp; try with_reducible rfl)
        try simp only [Act.put, List.getElem_toArray, List.getElem_cons_succ, List.getElem_cons_zero, List.setIfInBounds_toArray, List.set_cons_zero, List.set_cons_succ]
        refine AnyG.takeP (i := 3) (v := ?_) rfl (by kernel_rfl) (fun _ _ _ h => h) rfl ?_ ?_
        rotate_left
        · (intro w'; go_simp; try with_reducible rfl)
        try simp only [Act.put, List.getElem_toArray, List.getElem_cons_succ, List.getElem_cons_zero, List.setIfInBounds_toArray, List.set_cons_zero, List.set_cons_succ]
        refine AnyG.takeP (i := 4) (v := ?_) rfl (by kernel_rfl) (fun _ _ _ h => h) rfl ?_ ?_
        rotate_left
        · (intro w'; go_simp; try with_reducible rfl)
        try simp only [Act.put, List.getElem_toArray, List.getElem_cons_succ, List.getElem_cons_zero, List.setIfInBounds_toArray, List.set_cons_zero, List.set_cons_succ]
        refine AnyG.enter (fun w' : World => Below y6.heap.size y6 w') (fun i => true) ?_
        have hS : (fun w' : World => Below y6.heap.size y6 w') (World.drew _) := (Below.refl _ _).drew
        refine AnyG.takeC (i := 0) (v := ?_) rfl (by kernel_rfl) (fun _ _ _ h => h) rfl ?_ hS ?_
        rotate_left
        · (intro w' hSw; (try dsimp only at hSw); have Zw := Z6.bel hSw; have k12 := Zw.kB; dsimp only at k12; rw [HN1.out] at k12; obtain ⟨p0, p1, p2, p3, pf, pz⟩ := k12.four; go_simp; try with_reducible rfl)
        try simp only [Act.put, List.getElem_toArray, List.getElem_cons_succ, List.getElem_cons_zero, List.setIfInBounds_toArray, List.set_cons_zero, List.set_cons_succ]
        refine AnyG.takeC (i := 5) (v := ?_) rfl (by kernel_rfl) (fun _ _ _ h => h) rfl ?_ hS ?_
        rotate_left
        · (intro w' hSw; (try dsimp only at hSw); have Zw := Z6.bel hSw; have r0 := Zw.la.c0; have r1 := Zw.la.c1; have r2 := Zw.la.c2; have r3 := Zw.la.c3; dsimp only at r0 r1 r2 r3; rw [HN1.out] at r3; go_simp; try with_reducible rfl)
        try simp only [Act.put, List.getElem_toArray, List.getElem_cons_succ, List.getElem_cons_zero, List.setIfInBounds_toArray, List.set_cons_zero, List.set_cons_succ]
        refine AnyG.one (i := 1) (by kernel_rfl) rfl rfl ?_
        go_simp
        refine (check_any st1 za zb A2 n1 c2 es1 _ (by omega) HN1.out (Z6.bel hS).ev).mono ?_
        rintro er u1 ⟨rfl, hp1⟩
        rw [HCE.out]
        have hT := hS.trans (hp1.mono hS.size)
        clear hS
        have hS := hT
        clear hT
        refine Onward.on hS (fun hS2 => ?_)
        clear hS
        have hS := hS2
        clear hS2
        try simp only [Act.put, List.getElem_toArray, List.getElem_cons_succ, List.getElem_cons_zero, List.setIfInBounds_toArray, List.set_cons_zero, List.set_cons_succ]
        refine AnyG.one (i := 6) (by kernel_rfl) rfl rfl ?_
        go_simp
        refine (refCheck_any st1 za zb A1 n1 c1 es1 _ (by omega) HN1.out (Z6.bel hS).la.ev).mono ?_
        rintro er u6 ⟨rfl, hp6⟩
        rw [HCE.out]
        have hT := hS.trans (hp6.mono hS.size)
        clear hS
        have hS := hT
        clear hT
        refine Onward.on hS (fun hS2 => ?_)
        clear hS
        have hS := hS2
        clear hS2
        try simp only [Act.put, List.getElem_toArray, List.getElem_cons_succ, List.getElem_cons_zero, List.setIfInBounds_toArray, List.set_cons_zero, List.set_cons_succ]
        refine AnyG.takeC (i := 7) (v := ?_) rfl (by kernel_rfl) (fun _ _ _ h => h) rfl ?_ hS ?_
        rotate_left
        · (intro w' hSw; (try dsimp only at hSw); go_simp; try with_reducible rfl)
        try simp only [Act.put, List.getElem_toArray, List.getElem_cons_succ, List.getElem_cons_zero, List.setIfInBounds_toArray, List.set_cons_zero, List.set_cons_succ]
        refine AnyG.takeC (i := 8) (v := ?_) rfl (by kernel_rfl) (fun _ _ _ h => h) rfl ?_ hS ?_
        rotate_left
        · (intro w' hSw; (try dsimp only at hSw); go_simp; try with_reducible rfl)
        try simp only [Act.put, List.getElem_toArray, List.getElem_cons_succ, List.getElem_cons_zero, List.setIfInBounds_toArray, List.set_cons_zero, List.set_cons_succ]
        refine AnyG.takeGC (i := 9) (v := ?_) rfl (by kernel_rfl) (fun _ _ _ h => h) (by first | (simp [Region.wanted, yielded]; done) | simp [Region.wanted, yielded, undef]) ?_ hS ?_
        rotate_left
        · (intro w' hSw; (try dsimp only at hSw); go_simp; try with_reducible rfl)
        try simp only [Act.put, List.getElem_toArray, List.getElem_cons_succ, List.getElem_cons_zero, List.setIfInBounds_toArray, List.set_cons_zero, List.set_cons_succ]
        refine AnyG.takeGC (i := 10) (v := ?_) rfl (by kernel_rfl) (fun _ _ _ h => h) (by first | (simp [Region.wanted, yielded]; done) | simp [Region.wanted, yielded, undef]) ?_ hS ?_
        rotate_left
        · (intro w' hSw; (try dsimp only at hSw); go_simp; try with_reducible rfl)
        try simp only [Act.put, List.getElem_toArray, List.getElem_cons_succ, List.getElem_cons_zero, List.setIfInBounds_toArray, List.set_cons_zero, List.set_cons_succ]
        refine AnyG.takeGC (i := 11) (v := ?_) rfl (by kernel_rfl) (fun _ _ _ h => h) (by first | (simp [Region.wanted, yielded]; done) | simp [Region.wanted, yielded, undef]) ?_ hS ?_
        rotate_left
        · (intro w' hSw; (try dsimp only at hSw); go_simp; try with_reducible rfl)
        try simp only [Act.put, List.getElem_toArray, List.getElem_cons_succ, List.getElem_cons_zero, List.setIfInBounds_toArray, List.set_cons_zero, List.set_cons_succ]
        refine AnyG.takeC (i := 12) (v := ?_) rfl (by kernel_rfl) (fun _ _ _ h => h) rfl ?_ hS ?_
        rotate_left
        · (intro w' hSw; (try dsimp only at hSw); go_simp; try with_reducible rfl)
        try simp only [Act.put, List.getElem_toArray, List.getElem_cons_succ, List.getElem_cons_zero, List.setIfInBounds_toArray, List.set_cons_zero, List.set_cons_succ]
        refine AnyG.takeC (i := 13) (v := ?_) rfl (by kernel_rfl) (fun _ _ _ h => h) rfl ?_ hS ?_
        rotate_left
        · (intro w' hSw; (try dsimp only at hSw); go_simp; try with_reducible rfl)
        try simp only [Act.put, List.getElem_toArray, List.getElem_cons_succ, List.getElem_cons_zero, List.setIfInBounds_toArray, List.set_cons_zero, List.set_cons_succ]
        refine AnyG.takeGC (i := 14) (v := ?_) rfl (by kernel_rfl) (fun _ _ _ h => h) (by first | (simp [Region.wanted, yielded]; done) | simp [Region.wanted, yielded, undef]) ?_ hS ?_
        rotate_left
        · (intro w' hSw; (try dsimp only at hSw); go_simp; try with_reducible rfl)
        try simp only [Act.put, List.getElem_toArray, List.getElem_cons_succ, List.getElem_cons_zero, List.setIfInBounds_toArray, List.set_cons_zero, List.set_cons_succ]
        refine AnyG.takeGC (i := 15) (v := ?_) rfl (by kernel_rfl) (fun _ _ _ h => h) (by first | (simp [Region.wanted, yielded]; done) | simp [Region.wanted, yielded, undef]) ?_ hS ?_
        rotate_left
        · (intro w' hSw; (try dsimp only at hSw); go_simp; try with_reducible rfl)
        try simp only [Act.put, List.getElem_toArray, List.getElem_cons_succ, List.getElem_cons_zero, List.setIfInBounds_toArray, List.set_cons_zero, List.set_cons_succ]
        refine AnyG.takeGC (i := 16) (v := ?_) rfl (by kernel_rfl) (fun _ _ _ h => h) (by first | (simp [Region.wanted, yielded]; done) | simp [Region.wanted, yielded, undef]) ?_ hS ?_
        rotate_left
        · (intro w' hSw; (try dsimp only at hSw); go_simp; try with_reducible rfl)
        try simp only [Act.put, List.getElem_toArray, List.getElem_cons_succ, List.getElem_cons_zero, List.setIfInBounds_toArray, List.set_cons_zero, List.set_cons_succ]
        refine AnyG.takeC (i := 17) (v := ?_) rfl (by kernel_rfl) (fun _ _ _ h => h) rfl ?_ hS ?_
        rotate_left
        · (intro w' hSw; (try dsimp only at hSw); go_simp; try with_reducible rfl)
        try simp only [Act.put, List.getElem_toArray, List.getElem_cons_succ, List.getElem_cons_zero, List.setIfInBounds_toArray, List.set_cons_zero, List.set_cons_succ]
        refine AnyG.takeC (i := 18) (v := ?_) rfl (by kernel_rfl) (fun _ _ _ h => h) rfl ?_ hS ?_
        rotate_left
        · (intro w' hSw; (try dsimp only at hSw); go_simp; try with_reducible rfl)
        try simp only [Act.put, List.getElem_toArray, List.getElem_cons_succ, List.getElem_cons_zero, List.setIfInBounds_toArray, List.set_cons_zero, List.set_cons_succ]
        refine AnyG.takeGC (i := 19) (v := ?_) rfl (by kernel_rfl) (fun _ _ _ h => h) (by first | (simp [Region.wanted, yielded]; done) | simp [Region.wanted, yielded, undef]) ?_ hS ?_
        rotate_left
        · (intro w' hSw; (try dsimp only at hSw); go_simp; try with_reducible rfl)
        try simp only [Act.put, List.getElem_toArray, List.getElem_cons_succ, List.getElem_cons_zero, List.setIfInBounds_toArray, List.set_cons_zero, List.set_cons_succ]
        refine AnyG.takeGC (i := 20) (v := ?_) rfl (by kernel_rfl) (fun _ _ _ h => h) (by first | (simp [Region.wanted, yielded]; done) | simp [Region.wanted, yielded, undef]) ?_ hS ?_
        rotate_left
        · (intro w' hSw; (try dsimp only at hSw); go_simp; try with_reducible rfl)
        try simp only [Act.put, List.getElem_toArray, List.getElem_cons_succ, List.getElem_cons_zero, List.setIfInBounds_toArray, List.set_cons_zero, List.set_cons_succ]
        refine AnyG.takeGC (i := 21) (v := ?_) rfl (by kernel_rfl) (fun _ _ _ h => h) (by first | (simp [Region.wanted, yielded]; done) | simp [Region.wanted, yielded, undef]) ?_ hS ?_
        rotate_left
        · (intro w' hSw; (try dsimp only at hSw); go_simp; try with_reducible rfl)
        try simp only [Act.put, List.getElem_toArray, List.getElem_cons_succ, List.getElem_cons_zero, List.setIfInBounds_toArray, List.set_cons_zero, List.set_cons_succ]
        refine AnyG.takeC (i := 22) (v := ?_) rfl (by kernel_rfl) (fun _ _ _ h => h) rfl ?_ hS ?_
        rotate_left
        · (intro w' hSw; (try dsimp only at hSw); go_simp; try with_reducible rfl)
        try simp only [Act.put, List.getElem_toArray, List.getElem_cons_succ, List.getElem_cons_zero, List.setIfInBounds_toArray, List.set_cons_zero, List.set_cons_succ]
        refine AnyG.takeC (i := 23) (v := ?_) rfl (by kernel_rfl) (fun _ _ _ h => h) rfl ?_ hS ?_
        rotate_left
        · (intro w' hSw; (try dsimp only at hSw); go_simp; try with_reducible rfl)
        try simp only [Act.put, List.getElem_toArray, List.getElem_cons_succ, List.getElem_cons_zero, List.setIfInBounds_toArray, List.set_cons_zero, List.set_cons_succ]
        refine AnyG.takeGC (i := 24) (v := ?_) rfl (by kernel_rfl) (fun _ _ _ h => h) (by first | (simp [Region.wanted, yielded]; done) | simp [Region.wanted, yielded, undef]) ?_ hS ?_
        rotate_left
        · (intro w' hSw; (try dsimp only at hSw); go_simp; try with_reducible rfl)
        try simp only [Act.put, List.getElem_toArray, List.getElem_cons_succ, List.getElem_cons_zero, List.setIfInBounds_toArray, List.set_cons_zero, List.set_cons_succ]
        refine AnyG.takeGC (i := 25) (v := ?_) rfl (by kernel_rfl) (fun _ _ _ h => h) (by first | (simp [Region.wanted, yielded]; done) | simp [Region.wanted, yielded, undef]) ?_ hS ?_
        rotate_left
        · (intro w' hSw; (try dsimp only at hSw); go_simp; try with_reducible rfl)
        try simp only [Act.put, List.getElem_toArray, List.getElem_cons_succ, List.getElem_cons_zero, List.setIfInBounds_toArray, List.set_cons_zero, List.set_cons_succ]
        refine AnyG.oneC (i := 26) (by kernel_rfl) rfl (by first | (simp [Region.wanted, yielded]; done) | simp [Region.wanted, yielded, undef]) ?_
        go_simp
        refine (equalRanges_any QA zL.length QC RA zL.length RC zL zL _ (by omega) (by omega) rfl rfl ((hQ6.below hS).more hS.size) ((hR6.below hS).more hS.size)).mono ?_
        rintro er u26 ⟨rfl, hp26⟩
        rw [decide_eq_true (rfl : zL = zL)]
        have hT := hS.trans (hp26.mono hS.size)
        clear hS
        have hS := hT
        clear hT
        refine Onward.on hS (fun hS2 => ?_)
        clear hS
        have hS := hS2
        clear hS2
        try simp only [Act.put, List.getElem_toArray, List.getElem_cons_succ, List.getElem_cons_zero, List.setIfInBounds_toArray, List.set_cons_zero, List.set_cons_succ]
        refine AnyG.takeGC (i := 27) (v := ?_) rfl (by kernel_rfl) (fun _ _ _ h => h) (by first | (simp [Region.wanted, yielded]; done) | simp [Region.wanted, yielded, undef]) ?_ hS ?_
        rotate_left
        · (intro w' hSw; (try dsimp only at hSw); go_simp; try with_reducible rfl)
        try simp only [Act.put, List.getElem_toArray, List.getElem_cons_succ, List.getElem_cons_zero, List.setIfInBounds_toArray, List.set_cons_zero, List.set_cons_succ]
        refine AnyG.takeC (i := 28) (v := ?_) rfl (by kernel_rfl) (fun _ _ _ h => h) rfl ?_ hS ?_
        rotate_left
        · (intro w' hSw; (try dsimp only at hSw); go_simp; try with_reducible rfl)
        try simp only [Act.put, List.getElem_toArray, List.getElem_cons_succ, List.getElem_cons_zero, List.setIfInBounds_toArray, List.set_cons_zero, List.set_cons_succ]
        refine AnyG.takeC (i := 29) (v := ?_) rfl (by kernel_rfl) (fun _ _ _ h => h) rfl ?_ hS ?_
        rotate_left
        · (intro w' hSw; (try dsimp only at hSw); go_simp; try with_reducible rfl)
        try simp only [Act.put, List.getElem_toArray, List.getElem_cons_succ, List.getElem_cons_zero, List.setIfInBounds_toArray, List.set_cons_zero, List.set_cons_succ]
        refine AnyG.takeGC (i := 30) (v := ?_) rfl (by kernel_rfl) (fun _ _ _ h => h) (by first | (simp [Region.wanted, yielded]; done) | simp [Region.wanted, yielded, undef]) ?_ hS ?_
        rotate_left
        · (intro w' hSw; (try dsimp only at hSw); have Zw := Z6.bel hSw; have k12 := Zw.kB; dsimp only at k12; rw [HN1.out] at k12; obtain ⟨p0, p1, p2, p3, pf, pz⟩ := k12.four; go_simp; try with_reducible rfl)
        try simp only [Act.put, List.getElem_toArray, List.getElem_cons_succ, List.getElem_cons_zero, List.setIfInBounds_toArray, List.set_cons_zero, List.set_cons_succ]
        refine AnyG.takeGC (i := 31) (v := ?_) rfl (by kernel_rfl) (fun _ _ _ h => h) (by first | (simp [Region.wanted, yielded]; done) | simp [Region.wanted, yielded, undef]) ?_ hS ?_
        rotate_left
        · (intro w' hSw; (try dsimp only at hSw); go_simp; try with_reducible rfl)
        try simp only [Act.put, List.getElem_toArray, List.getElem_cons_succ, List.getElem_cons_zero, List.setIfInBounds_toArray, List.set_cons_zero, List.set_cons_succ]
        refine AnyG.takeGC (i := 32) (v := ?_) rfl (by kernel_rfl) (fun _ _ _ h => h) (by first | (simp [Region.wanted, yielded]; done) | simp [Region.wanted, yielded, undef]) ?_ hS ?_
        rotate_left
        · (intro w' hSw; (try dsimp only at hSw); go_simp; try with_reducible rfl)
        try simp only [Act.put, List.getElem_toArray, List.getElem_cons_succ, List.getElem_cons_zero, List.setIfInBounds_toArray, List.set_cons_zero, List.set_cons_succ]
        refine AnyG.takeGC (i := 33) (v := ?_) rfl (by kernel_rfl) (fun _ _ _ h => h) (by first | (simp [Region.wanted, yielded]; done) | simp [Region.wanted, yielded, undef]) ?_ hS ?_
        rotate_left
        · (intro w' hSw; (try dsimp only at hSw); go_simp; try with_reducible rfl)
        try simp only [Act.put, List.getElem_toArray, List.getElem_cons_succ, List.getElem_cons_zero, List.setIfInBounds_toArray, List.set_cons_zero, List.set_cons_succ]
        refine AnyG.takeGC (i := 34) (v := ?_) rfl (by kernel_rfl) (fun _ _ _ h => h) (by first | (simp [Region.wanted, yielded]; done) | simp [Region.wanted, yielded, undef]) ?_ hS ?_
        rotate_left
        · (intro w' hSw; (try dsimp only at hSw); have Zw := Z6.bel hSw; have r0 := Zw.la.c0; have r1 := Zw.la.c1; have r2 := Zw.la.c2; have r3 := Zw.la.c3; dsimp only at r0 r1 r2 r3; rw [HN1.out] at r3; go_simp; try with_reducible rfl)
        try simp only [Act.put, List.getElem_toArray, List.getElem_cons_succ, List.getElem_cons_zero, List.setIfInBounds_toArray, List.set_cons_zero, List.set_cons_succ]
        refine AnyG.oneC (i := 35) (by kernel_rfl) rfl (by first | (simp [Region.wanted, yielded]; done) | simp [Region.wanted, yielded, undef]) ?_
        go_simp
        refine (equalLogs_same st1 za zb A2 n1 c2 A1 c1 es1 _ (by omega) HN1.out (Z6.bel hS).ev (Z6.bel hS).la.ev).mono ?_
        rintro er u35 ⟨rfl, hp35⟩
        have hT := hS.trans (hp35.mono hS.size)
        clear hS
        have hS := hT
        clear hT
        refine Onward.on hS (fun hS2 => ?_)
        clear hS
        have hS := hS2
        clear hS2
        try simp only [Act.put, List.getElem_toArray, List.getElem_cons_succ, List.getElem_cons_zero, List.setIfInBounds_toArray, List.set_cons_zero, List.set_cons_succ]
        refine AnyG.takeGC (i := 36) (v := ?_) rfl (by kernel_rfl) (fun _ _ _ h => h) (by first | (simp [Region.wanted, yielded]; done) | simp [Region.wanted, yielded, undef]) ?_ hS ?_
        rotate_left
        · (intro w' hSw; (try dsimp only at hSw); go_simp; try with_reducible rfl)
        try simp only [Act.put, List.getElem_toArray, List.getElem_cons_succ, List.getElem_cons_zero, List.setIfInBounds_toArray, List.set_cons_zero, List.set_cons_succ]
        refine AnyG.takeC (i := 37) (v := ?_) rfl (by kernel_rfl) (fun _ _ _ h => h) rfl ?_ hS ?_
        rotate_left
        · (intro w' hSw; (try dsimp only at hSw); go_simp; try with_reducible rfl)
        try simp only [Act.put, List.getElem_toArray, List.getElem_cons_succ, List.getElem_cons_zero, List.setIfInBounds_toArray, List.set_cons_zero, List.set_cons_succ]
        refine AnyG.done (by kernel_rfl) ?_ _
        go_simp
        go_wp2_with fail
        go_roundw
        case rel => exact ⟨i + 1, by omega, by go_num, Z6.hb.trans (hS.mono Z6.hb.size)⟩
        case measure => simp [intOf]; omega
      · go_wp2_with (first | (go_at_call 14; refine (awake_any _).mono ?_; rintro e x7 ⟨rfl, hq7⟩) | fail)
        go_ret
        exact ⟨rfl, (hBU.trans (hB.mono hBU.size)).trans (hq7.mono ((hBU.trans (hB.mono hBU.size)).size))⟩
end Go.Proofs.Ytgbogdckmfencaa
namespace Go.Proofs.Ytgbogdckmfencaa.bridgeZeros
open Go Go.ChangeShapes Go.WideShapes Go.ChangeAt Go.RowKit
theorem own : ownKnob Try.prog.godebug = none := by kernel_rfl
theorem laidOut : laidOutB Try.prog = true := by kernel_rfl
theorem cells3 : Try.prog.cellsOf 3 = 1 := by kernel_rfl
theorem cells23 : Try.prog.cellsOf 23 = 2 := by kernel_rfl
theorem cells24 : Try.prog.cellsOf 24 = 1 := by kernel_rfl
theorem cells26 : Try.prog.cellsOf 26 = 4 := by kernel_rfl
theorem cells28 : Try.prog.cellsOf 28 = 5 := by kernel_rfl
theorem bytes3 : Try.prog.bytesOf 3 = 8 := by kernel_rfl
theorem len2 {l : List Value} (h : l.length = 2) : ∃ a b, l = [a, b] := by
  match l, h with
  | [a, b], _ => exact ⟨a, b, rfl⟩
theorem len4 {l : List Value} (h : l.length = 4) : ∃ a b c d, l = [a, b, c, d] := by
  match l, h with
  | [a, b, c, d], _ => exact ⟨a, b, c, d, rfl⟩
theorem len5 {l : List Value} (h : l.length = 5) : ∃ a b c d e, l = [a, b, c, d, e] := by
  match l, h with
  | [a, b, c, d, e], _ => exact ⟨a, b, c, d, e, rfl⟩
theorem list_of {α : Type} {P : Nat → α → Prop} : ∀ n : Nat, (∀ i, i < n → ∃ e, P i e) → ∃ es : List α, es.length = n ∧ ∀ i e, es[i]? = some e → P i e := by
  intro n
  induction n with
  | zero => intro _; exact ⟨[], rfl, fun i e h => by simp at h⟩
  | succ n ih =>
    intro h
    obtain ⟨es, hl, he⟩ := ih fun i hi => h i (by omega)
    obtain ⟨e, hp⟩ := h n (by omega)
    refine ⟨es ++ [e], by simp [hl], fun i x hx => ?_⟩
    by_cases hi : i < n
    · rw [List.getElem?_append_left (by omega)] at hx
      exact he i x hx
    · rw [List.getElem?_append_right (by omega)] at hx
      have h0 : i - es.length = 0 := by
        rcases Nat.eq_zero_or_pos (i - es.length) with h | h
        · exact h
        · rw [List.getElem?_eq_none (by simp; omega)] at hx; cases hx
      rw [h0] at hx
      simp only [List.getElem?_cons_zero, Option.some.injEq] at hx
      subst hx
      rw [show i = n by omega]
      exact hp
section
variable {H : Type} {enc : TypeId × Value → H} {w : World} {base : Nat} {spare : Nat → Bool} {held : Bool}
set_option maxRecDepth 100000 in
theorem open_range {fuel : Nat} {cs : List Value} {x : DataW H × List MemPlace} (h : DataW.trod enc Try.prog w base spare held fuel 23 cs = some x) : ∃ a b : Int, cs = [.int .i64 a, .int .i64 b] := by
  obtain ⟨xs, n, _, _, hl, hlen, hf⟩ := DataW.trod_struct Try.underlying23 h
  rw [cells23] at hl
  obtain ⟨c0, c1, rfl⟩ := len2 hl
  · have e0 := hf 0 _ rfl
    have e1 := hf 1 _ rfl
    simp only [List.getElem_toArray, List.getElem_cons_zero, List.getElem_cons_succ] at e0 e1
    rw [cells3, List.getElem?_eq_getElem (by rw [hlen]; decide)] at e0 e1
    obtain ⟨a, ha, _⟩ := DataW.trod_int Try.underlying3 e0
    obtain ⟨b, hb, _⟩ := DataW.trod_int Try.underlying3 e1
    simp at ha hb
    exact ⟨a, b, by rw [ha, hb]⟩
set_option maxRecDepth 100000 in
theorem open_event {fuel : Nat} {cs : List Value} {x : DataW H × List MemPlace} (h : DataW.trod enc Try.prog w base spare held fuel 28 cs = some x) : ∃ e : Ev, cs = e.cells := by
  obtain ⟨xs, n, _, _, hl, hlen, hf⟩ := DataW.trod_struct Try.underlying28 h
  rw [cells28] at hl
  obtain ⟨c0, c1, c2, c3, c4, rfl⟩ := len5 hl
  · have e0 := hf 0 _ rfl
    have e1 := hf 1 _ rfl
    have e2 := hf 2 _ rfl
    have e3 := hf 3 _ rfl
    simp only [List.getElem_toArray, List.getElem_cons_zero, List.getElem_cons_succ] at e0 e1 e2 e3
    rw [cells3, List.getElem?_eq_getElem (by rw [hlen]; decide)] at e0 e1 e2
    rw [cells23, List.getElem?_eq_getElem (by rw [hlen]; decide)] at e3
    obtain ⟨a, ha, _⟩ := DataW.trod_int Try.underlying3 e0
    obtain ⟨b, hb, _⟩ := DataW.trod_int Try.underlying3 e1
    obtain ⟨c, hc, _⟩ := DataW.trod_int Try.underlying3 e2
    obtain ⟨p, q, hp⟩ := open_range e3
    simp at ha hb hc hp
    exact ⟨⟨a, b, c, p, q⟩, by rw [ha, hb, hc, hp.1, hp.2]; rfl⟩
theorem open_events {fuel : Nat} {v : Value} {x : DataW H × List MemPlace} (h : DataW.trod enc Try.prog w base spare held fuel 24 [v] = some x) : ∃ (A : Option Addr) (len cap : Nat) (es : List Ev), v = .slice A len cap ∧ es.length = len ∧ len ≤ 9223372036854775807 ∧ EvsAt w w.heap.size A es := by
  rcases Go.Deep.open_slice Try.underlying24 h with ⟨hcs, _⟩ | ⟨a, len, cap, m, n, D, Pl, hcs, hb, hl, hm, hmm, hx, hi⟩
  · simp at hcs
    exact ⟨none, 0, 0, [], hcs, rfl, by omega, Sl.nil _ _ _ _⟩
  · simp at hcs
    have hlm : len ≤ m := by rw [hmm]; split <;> omega
    obtain ⟨es, h1, h2⟩ := list_of (P := fun i (e : Ev) => w.cells? base (a.add (i * 5)) 5 = some e.cells) len fun i him => by
      obtain ⟨cs', hc, ht⟩ := hi i (by omega)
      rw [cells28] at hc
      obtain ⟨e, rfl⟩ := open_event ht
      exact ⟨e, hc⟩
    refine ⟨some a, len, cap, es, hcs, h1, by unfold maxLen at hm; omega, fun k r hr => ?_⟩
    rw [List.getElem?_map] at hr
    cases he : es[k]? with
    | none => rw [he] at hr; cases hr
    | some e =>
      rw [he] at hr
      simp only [Option.map_some, Option.some.injEq] at hr
      subst hr
      obtain ⟨_, hcl, hat⟩ := World.cells?_some (h2 k e he)
      have h0 := hat 0 (by omega)
      refine ⟨a, rfl, ?_, fun j u hu => ?_⟩
      · have hh := World.block_lt_of_cell? w _ (h0.trans (show e.cells[0]? = some _ from rfl))
        rwa [add_block, add_block] at hh
      · have hj : j < 5 := by
          have := (List.getElem?_eq_some_iff.1 hu).1
          simpa [Ev.cells] using this
        rw [hat j hj]
        exact hu
set_option maxRecDepth 100000 in
theorem open_log {r : Reach} {b0 : Nat} {v : Value} {d : DataW H} {p : List MemPlace} (hv : Value.okWide Try.prog w r b0 26 v) (h : DataW.Trod enc Try.prog w base spare held 26 v d p) : ∃ (st z0 z1 : Int) (A : Option Addr) (len cap : Nat) (es : List Ev), v = .agg #[.int .i64 st, .int .i64 z0, .int .i64 z1, .slice A len cap] ∧ es.length = len ∧ len ≤ 9223372036854775807 ∧ EvsAt w w.heap.size A es := by
  obtain ⟨cs, rfl, hsz⟩ := okWide_struct Try.underlying26 hv
  obtain ⟨l⟩ := cs
  rw [cells26] at hsz
  obtain ⟨fuel, hf⟩ := h
  obtain ⟨c0, c1, c2, c3, rfl⟩ := len4 (l := l) hsz
  · obtain ⟨xs, n, _, _, hl, hlen, hg⟩ := DataW.trod_struct Try.underlying26 hf
    have e0 := hg 0 _ rfl
    have e1 := hg 1 _ rfl
    have e2 := hg 2 _ rfl
    simp only [List.getElem_toArray, List.getElem_cons_zero, List.getElem_cons_succ] at e0 e1 e2
    rw [cells3, List.getElem?_eq_getElem (by rw [hlen]; decide)] at e0
    rw [cells23, List.getElem?_eq_getElem (by rw [hlen]; decide)] at e1
    rw [cells24, List.getElem?_eq_getElem (by rw [hlen]; decide)] at e2
    simp only [Value.cells] at e0 e1 e2
    obtain ⟨st, hst, _⟩ := DataW.trod_int Try.underlying3 e0
    obtain ⟨z0, z1, hz⟩ := open_range e1
    obtain ⟨A, len, cap, es, hA, h1, h2, h3⟩ := open_events (v := c3) (by simpa using e2)
    simp at hst hz
    exact ⟨st, z0, z1, A, len, cap, es, by rw [hst, hz.1, hz.2, hA], h1, h2, h3⟩
set_option maxRecDepth 100000 in
theorem open_ev {r : Reach} {b0 : Nat} {v : Value} {d : DataW H} {p : List MemPlace} (hv : Value.okWide Try.prog w r b0 28 v) (h : DataW.Trod enc Try.prog w base spare held 28 v d p) : ∃ e : Ev, v = .agg #[.int .i64 e.kd, .int .i64 e.sh, .int .i64 e.ld, .int .i64 e.c0, .int .i64 e.c1] := by
  obtain ⟨cs, rfl, hsz⟩ := okWide_struct Try.underlying28 hv
  obtain ⟨l⟩ := cs
  obtain ⟨fuel, hf⟩ := h
  obtain ⟨e, he⟩ := open_event hf
  simp only [Value.cells] at he
  refine ⟨e, ?_⟩
  have : l = e.cells := by simpa using he
  rw [this]
  rfl
end
set_option maxHeartbeats 800000 in
set_option maxRecDepth 100000 in
theorem lifted (os : Os) (started : os.Started) (H : Type) (enc : TypeId × Value → H) :
    ReturnsInHanded {} Try.checked os 3 .any (Rows.bridgeZerosSpec.pre6 enc Try.prog Try.f3 Rows.bridgeZerosRow.domain false) (Rows.bridgeZerosSpec.post enc Try.prog Try.f3 false true false false) := by
  refine returnsInHanded_of_change_sized (C := Try.checked) own started (by kernel_rfl) Try.func3
    (ChangeSpec.witness6 (enc := enc) (C := Try.checked) false ⟨#[], #[.agg #[.int .i64 0, .int .i64 0, .int .i64 0, .slice none 0 0], .agg #[.int .i64 0, .int .i64 0, .int .i64 0, .int .i64 0, .int .i64 0], .slice none 0 0], []⟩ 8 (by kernel_rfl) (by kernel_rfl) (by kernel_rfl) (by kernel_rfl)) ?_
  intro W base args ds gs before hval0 hW _ hsz0 _
  have hsz : (DataW.weightsEach Try.prog (Try.f3.params.toList ++ Rows.bridgeZerosSpec.plain.varTypes Try.prog) (ds ++ gs)).all (· ≤ reachBytes) = true := hsz0
  clear hsz0
  have hval : ∀ (j : Nat) t v, Try.f3.params[j]? = some t → args[j]? = some v → Value.okWide Try.prog W .any base t v := hval0
  have hW' := hW
  obtain ⟨p, q, hA0, hV, rfl, _, _⟩ := hW
  have hA : DataW.TrodAll enc Try.prog W 0 (fun _ => true) true Try.f3.params.toList args.toList ds p := hA0
  rw [Try.params3] at hA hval hsz
  obtain ⟨v0, v1, v2, d0, d1, d2, q0, q1, q2, rfl, rfl, hp, h0, h1, h2⟩ := trodAll_three hA
  subst hp
  obtain ⟨rfl, rfl⟩ := trodVars_none hV
  obtain ⟨x0, x1, x2, XA, xn, xc, xs, rfl, hxl, hxn, hX⟩ := open_log (hval 0 26 v0 rfl rfl) h0
  obtain ⟨⟨kd, sh, ld, m0, m1⟩, rfl⟩ := open_ev (hval 1 28 v1 rfl rfl) h1
  dsimp only at *
  obtain ⟨a0, len, cap, rfl⟩ := okWide_slice Try.underlying29 (hval 2 29 v2 rfl rfl)
  have h2k := h2
  obtain ⟨fuel, hf⟩ := h2
  clear hA0 hval0
  simp only [List.append_nil, List.append_assoc] at hW'
  have hlt : ∀ x ∈ q0 ++ (q1 ++ q2), x.block < W.heap.size := fun x hx => by simpa using hW'.lt x hx
  have hargs0 : ∀ (W' : World), Below W.heap.size W W' → DataW.Trod enc Try.prog W' 0 (fun b => decide (b < W.heap.size)) true 26 (.agg #[.int .i64 x0, .int .i64 x1, .int .i64 x2, .slice XA xn xc]) d0 q0 :=
    fun W' hn => Below.trod laidOut (by kernel_rfl) (of_decide_eq_true (by kernel_rfl)) h0 hn (fun x hx => hlt x (by simp [hx]))
  have hargs1 : ∀ (W' : World), Below W.heap.size W W' → DataW.Trod enc Try.prog W' 0 (fun b => decide (b < W.heap.size)) true 28 (.agg #[.int .i64 kd, .int .i64 sh, .int .i64 ld, .int .i64 m0, .int .i64 m1]) d1 q1 :=
    fun W' hn => Below.trod laidOut (by kernel_rfl) (of_decide_eq_true (by kernel_rfl)) h1 hn (fun x hx => hlt x (by simp [hx]))
  have hargs2 : ∀ (W' : World), Below W.heap.size W W' → DataW.Trod enc Try.prog W' 0 (fun b => decide (b < W.heap.size)) true 29 (.slice a0 len cap) d2 q2 :=
    fun W' hn => Below.trod laidOut (by kernel_rfl) (of_decide_eq_true (by kernel_rfl)) h2k hn (fun x hx => hlt x (by simp [hx]))
  rcases open_ints Try.underlying29 Try.underlying3 cells3 hf with ⟨hcs, hx⟩ | ⟨a, len', cap', zs, hcs, _, hl, hm, hz, hx, hcell, hwz⟩
  · simp [Value.cells] at hcs
    obtain ⟨rfl, rfl, rfl⟩ := hcs
    refine (zeros_run x0 x1 x2 XA xn xc xs kd sh ld m0 m1 none 0 0 [] W hxn hxl hX (by omega) rfl (Sl.nil _ _ _ _)).mono fun e W' ⟨he, hnx⟩ => ?_
    subst he
    exact ⟨_, rfl, _, _, _, [], _, [], hW', trodAll_mk1 (shut_bool Try.underlying4 true), trodAll_mk3 (hargs0 _ hnx) (hargs1 _ hnx) (hargs2 _ hnx), rfl, hnx.frame _, fun h => by cases h⟩
  · simp [Value.cells] at hcs
    obtain ⟨rfl, rfl, rfl⟩ := hcs
    simp only [Prod.mk.injEq] at hx
    obtain ⟨rfl, rfl⟩ := hx
    simp only [if_true] at hz
    have hreach : len * 8 ≤ 140737488351232 := by
      have := sized_slice hsz (j := 2) (t := 29) (e := 3) rfl rfl Try.underlying29
      rw [bytes3] at this
      simp only [lits, List.length_map, List.length_take, List.length_drop, reachBytes] at this
      omega
    have hlen : (zs.take len).length = len := by simp; omega
    have hsl : Sl W W.heap.size 1 (some a) (ints (zs.take len)) := by
      intro k r hr
      have hk : k < (zs.take len).length := by
        have := (List.getElem?_eq_some_iff.1 hr).1
        simpa [ints] using this
      have hkl : k < len := by rw [hlen] at hk; exact hk
      have hrr : r = [.int .i64 (zs.take len)[k]] := by
        have h1 : (ints (zs.take len))[k]? = some [.int .i64 (zs.take len)[k]] := by
          show ((zs.take len).map fun a => [Value.int .i64 a])[k]? = _
          rw [List.getElem?_map, List.getElem?_eq_getElem hk]
          rfl
        rw [h1] at hr
        exact (Option.some.inj hr).symm
      subst hrr
      have hc := hcell k (by omega)
      refine ⟨a, rfl, by have h := World.block_lt_of_cell? W _ hc; rwa [add_block] at h, fun j u hu => ?_⟩
      match j, hu with
      | 0, hu =>
        obtain rfl : Value.int .i64 (zs.take len)[k] = u := by simpa using hu
        rw [Nat.mul_one, add_add, Nat.add_zero, hc]
        simp [List.getD, List.getElem?_eq_getElem (show k < zs.length by omega)]
      | j + 1, hu => simp at hu
    refine (zeros_run x0 x1 x2 XA xn xc xs kd sh ld m0 m1 (some a) len cap (zs.take len) W hxn hxl hX (by omega) hlen hsl).mono fun e W' ⟨he, hnx⟩ => ?_
    subst he
    exact ⟨_, rfl, _, _, _, [], _, [], hW', trodAll_mk1 (shut_bool Try.underlying4 true), trodAll_mk3 (hargs0 _ hnx) (hargs1 _ hnx) (hargs2 _ hnx), rfl, hnx.frame _, fun h => by cases h⟩
end Go.Proofs.Ytgbogdckmfencaa.bridgeZeros
namespace Go.Proofs.Ytgbogdckmfencaa
theorem bridgeZeros_holds : Rows.BridgeZerosSaid :=
  OpenClaim.holds_of_wide 3 Try.f3 rfl rfl rfl rfl rfl rfl rfl ⟨rfl, rfl, rfl, rfl, rfl⟩ rfl rfl rfl rfl rfl (by kernel_rfl) Try.func3 (by kernel_rfl)
    (of_decide_eq_true (by kernel_rfl)) (by unfold Func.isWrapper; first | (rw [if_pos (by decide +kernel)]; kernel_rfl) | (rw [if_neg (by decide +kernel)]; exact ⟨rfl, rfl⟩))
    (fun os started H enc _ => bridgeZeros.lifted os started H enc)
end Go.Proofs.Ytgbogdckmfencaa
