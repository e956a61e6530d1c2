/- swarflaw06.kept: whether a blend keeps all limits, grab by grab. -/
import Derived.Test.YtmemcopfeabcgaaBf
set_option linter.unusedSimpArgs false
set_option linter.unusedVariables false
namespace Go.Proofs.Ytmemcopfeabcgaa
open Go Go.RowKit
/-- Rows of rows of numbers. -/
def LsAt (w : World) (B : Nat) (A : Option Addr) (Ls : List (List Int)) : Prop :=
  ∀ (k : Nat) (l : List Int), Ls[k]? = some l → ∃ (ad : Addr) (G : Option Addr) (c : Nat), A = some ad ∧ ad.block < B ∧ w.cell? (ad.add k) = some (.slice G l.length c) ∧ Sl w B 1 G (inr l)
theorem LsAt.below {w w' : World} {B : Nat} {A : Option Addr} {Ls : List (List Int)} (h : LsAt w B A Ls) (hb : Below B w w') : LsAt w' B A Ls := fun k l hk => by
  obtain ⟨ad, G, c, h1, h2, h3, h4⟩ := h k l hk
  exact ⟨ad, G, c, h1, h2, (hb.cell (by rw [add_block]; exact h2)).trans h3, h4.below hb⟩
theorem LsAt.more {w : World} {B B' : Nat} {A : Option Addr} {Ls : List (List Int)} (h : LsAt w B A Ls) (hB : B ≤ B') : LsAt w B' A Ls := fun k l hk => by
  obtain ⟨ad, G, c, h1, h2, h3, h4⟩ := h k l hk
  exact ⟨ad, G, c, h1, by omega, h3, h4.more hB⟩
theorem LsAt.call {w w' : World} {A : Option Addr} {Ls : List (List Int)} (h : LsAt w w.heap.size A Ls) (hb : Below w.heap.size w w') : LsAt w' w'.heap.size A Ls := (h.below hb).more hb.size
/-- What grab a has of metal j. -/
def gmOf (Ls : List (List Int)) (a j : Nat) : Int := (Ls.getD a []).getD j 0
theorem gmOf_at {Ls : List (List Int)} {a j : Nat} {r : List Int} (h : Ls[a]? = some r) (hj : j < r.length) : gmOf Ls a j = r[j] := by
  unfold gmOf
  rw [show Ls.getD a [] = r by rw [List.getD_eq_getElem?_getD, h]; rfl, List.getD_eq_getElem?_getD, List.getElem?_eq_getElem hj]; rfl
theorem off_mono (b : Nat → Int) : ∀ {i k : Nat}, i ≤ k → off b i ≤ off b k
  | i, 0, h => by have : i = 0 := by omega
                  subst this; exact Nat.le_refl _
  | i, k + 1, h => by
    by_cases e : i = k + 1
    · subst e; exact Nat.le_refl _
    · have := off_mono b (i := i) (k := k) (by omega)
      simp only [off]; omega
theorem off_lt (b : Nat → Int) {i k t : Nat} (h : i < k) (ht : t < (b i).toNat) : off b i + t < off b k := by
  have := off_mono b (i := i + 1) (k := k) h
  simp only [off] at this
  omega
theorem off_six {b : Nat → Int} (hb : Six b) : ∀ k : Nat, off b k ≤ 6 * k
  | 0 => by simp [off]
  | k + 1 => by have h1 := off_six hb k; have h2 := hb k; simp only [off]; omega
theorem kept_no {o : Od} {b : Nat → Int} {gm : Nat → Nat → Int} {j k : Nat} (hj : j < k) (h : 0 < gsum o b gm j o.bs.length) : kept o b gm k = false := by
  unfold kept
  rw [List.all_eq_false]
  exact ⟨j, by simpa using hj, by simp; omega⟩
theorem kept_yes {o : Od} {b : Nat → Int} {gm : Nat → Nat → Int} {k : Nat} (h : ∀ j, j < k → gsum o b gm j o.bs.length ≤ 0) : kept o b gm k = true := by
  unfold kept
  rw [List.all_eq_true]
  intro j hj
  simpa using h j (by simpa using hj)
def grab (o : Od) (b : Nat → Int) (gm : Nat → Nat → Int) (j i t : Nat) : Int := (o.bn i).w * (gm (off b i + t) j - o.li j)
theorem gsum_succ (o : Od) (b : Nat → Int) (gm : Nat → Nat → Int) (j i : Nat) : gsum o b gm j (i + 1) = gsum o b gm j i + sm (grab o b gm j i) (b i).toNat := rfl
set_option maxRecDepth 100000 in
set_option maxHeartbeats 8000000 in
theorem kept_any (LA : Option Addr) (ln lc : Nat) (BA : Option Addr) (bn bc : Nat) (o : Od) (A : Option Addr) (n c : Nat) (L : List Int) (GA : Option Addr) (gn gc : Nat) (GM : List (List Int)) (w : World) (hl : o.lm.length = ln) (hb' : o.bs.length = bn) (hA : OrdAt w w.heap.size LA BA o) (hL : L.length = n) (hS0 : Sl w w.heap.size 1 A (inr L)) (hz : ckBl o L = 0)
    (hG : LsAt w w.heap.size GA GM) (hGn : GM.length = gn) (hgo : off (lf L) bn = gn) (hgr : ∀ r ∈ GM, r.length = ln ∧ ∀ x ∈ r, 0 ≤ x ∧ x ≤ 1000000) :
    Calls Try.prog 17 #[.agg #[.slice LA ln lc, .int .i64 o.le, .int .i64 o.mo, .slice BA bn bc], .slice A n c, .slice GA gn gc] w fun e w' => e = .returned (.bool (kept o (lf L) (gmOf GM) ln)) ∧ Below w.heap.size w w' := by
  have hok := ckBl_zero hz
  have B0 := (Below.refl w.heap.size w).alloc (Nat.le_refl _) (.cells #[.slice LA ln lc, .int .i64 o.le, .int .i64 o.mo, .slice BA bn bc] 27)
  have kB := Bx.new w 27 #[.slice LA ln lc, .int .i64 o.le, .int .i64 o.mo, .slice BA bn bc]
  have HO := Lib.hid (hA.call B0)
  have HS := Lib.hid (hS0.call B0)
  have HG := Lib.hid (hG.call B0)
  have HB := Lib.hid hb'
  have HL := Lib.hid hl
  have HLL := Lib.hid hL
  have HOK := Lib.hid hok
  have HSIX := Lib.hid hok.six
  have HGN := Lib.hid hGn
  have HGO := Lib.hid hgo
  have HGR := Lib.hid hgr
  have hbn : bn ≤ 4 := by rw [← hb']; exact hok.ok.b2
  have hln : ln ≤ 3 := by rw [← hl]; exact hok.ok.lm
  have hnb : n = bn := by rw [← hL, ← hb']; exact hok.len
  have hg24 : gn ≤ 24 := by have := off_six hok.six bn; omega
  clear hA hS0 hG hb' hl hL hok hz hGn hgo hgr
  subst hnb
  obtain ⟨gm, hgm⟩ : ∃ gm, gmOf GM = gm := ⟨_, rfl⟩
  obtain ⟨b, hb⟩ : ∃ b, lf L = b := ⟨_, rfl⟩
  rw [hb] at HSIX HGO ⊢
  rw [hgm]
  have HGM := Lib.hid hgm
  have HBB := Lib.hid hb
  clear hgm hb
  go_enter Try.func17, Try.ntmps17
  go_wp2_with fail
  obtain ⟨V, hV⟩ : ∃ V, w.alloc (.cells #[.slice LA ln lc, .int .i64 o.le, .int .i64 o.mo, .slice BA n bc] 27) = V := ⟨_, rfl⟩
  rw [hV] at B0 HO HS HG kB ⊢
  obtain ⟨q, hq⟩ : ∃ q, w.heap.size = q := ⟨_, rfl⟩
  rw [hq] at kB ⊢
  have HQ := Lib.hid hq
  clear hV hq
  go_loopw [7] (fun v wr => ∃ (j : Nat), v = .int .i64 j ∧ j ≤ ln ∧ Hid (∀ j', j' < j → gsum o b gm j' n ≤ 0) ∧ Below V.heap.size V wr) (fun v _ => ln - (intOf v).toNat)
  case atStart => exact ⟨0, rfl, by omega, fun j' h => by omega, Below.refl _ _⟩
  case round =>
    obtain ⟨j, rfl, hj, hle, hBe⟩ := hrel
    obtain ⟨l0, l1, l2, l3, lf', lz⟩ := (kB.call hBe).four
    by_cases hjl : j < ln
    · have hjl' : j < o.lm.length := by rw [HL.out]; exact hjl
      obtain ⟨la, rfl, hla, hlc⟩ := inr_at HO.out.lm hjl'
      rw [Od.li_eq hjl'] at hlc
      have hlb := (HOK.out.ok.li (j := j))
      obtain ⟨lj, hlj⟩ : ∃ x, o.li j = x := ⟨_, rfl⟩
      rw [hlj] at hlc hlb
      have HLJ := Lib.hid hlj
      clear hlj
      have hjw : IntKind.i64.wrap ((j : Int) + 1) = (j : Int) + 1 := IntWalk.i64_in _ (by omega)
      go_wp2_with fail
      clear l0 l1 l2 l3 lf' lz
      go_loopw [8, 9, 10] (fun s a v wr => ∃ (i : Nat) (S : Int) (at_ : Nat), s = .int .i64 S ∧ a = .int .i64 at_ ∧ v = .int .i64 i ∧ i ≤ n ∧ Hid (S = gsum o b gm j i) ∧ at_ = off b i ∧ -(10000000000 * at_) ≤ S ∧ S ≤ 10000000000 * at_ ∧ Below V.heap.size V wr) (fun _ _ v _ => n - (intOf v).toNat)
      case atStart => exact ⟨0, 0, 0, rfl, rfl, rfl, by omega, rfl, rfl, by omega, by omega, hBe⟩
      case round =>
        clear hBe
        obtain ⟨i, S, at_, rfl, rfl, rfl, hi, hS, hat, hs1, hs2, hBe⟩ := hrel
        by_cases hin : i < n
        · have hil : i < o.bs.length := by rw [HB.out]; exact hin
          obtain ⟨ba, G, bc', rfl, hba, -, p1, -, -, -⟩ := HO.out.bs.at_ hil
          rw [Od.bn_eq hil] at p1
          have hiL : i < L.length := by rw [HLL.out]; exact hin
          obtain ⟨sa, rfl, hsa, hsc⟩ := inr_at HS.out hiL
          have hLi : L[i] = b i := by rw [← HBB.out]; unfold lf; rw [List.getD_eq_getElem?_getD, List.getElem?_eq_getElem hiL]; rfl
          rw [hLi] at hsc
          have hwb := (HOK.out.ok.bn hil).w1
          have hwb2 := (HOK.out.ok.bn hil).w2
          obtain ⟨wi, hwi⟩ : ∃ x, (o.bn i).w = x := ⟨_, rfl⟩
          rw [hwi] at p1 hwb hwb2
          have HWI := Lib.hid hwi
          have hb6 := HSIX.out i
          obtain ⟨bi, hbi⟩ : ∃ x, b i = x := ⟨_, rfl⟩
          rw [hbi] at hsc hb6
          have HBI := Lib.hid hbi
          have o6 := off_six HSIX.out i
          have h24 : at_ ≤ 24 := by omega
          clear hwi hbi hLi
          have hiw : IntKind.i64.wrap ((i : Int) + 1) = (i : Int) + 1 := IntWalk.i64_in _ (by omega)
          go_wp2_with fail
          go_loopw [8, 9, 11] (fun s a v wr => ∃ (k : Nat) (S2 : Int), s = .int .i64 S2 ∧ a = .int .i64 (at_ + k : Nat) ∧ v = .int .i64 k ∧ (k : Int) ≤ bi ∧ Hid (S2 = gsum o b gm j i + sm (grab o b gm j i) k) ∧ -(10000000000 * (at_ + k)) ≤ S2 ∧ S2 ≤ 10000000000 * (at_ + k) ∧ Below V.heap.size V wr) (fun _ _ v _ => bi.toNat - (intOf v).toNat)
          case atStart => exact ⟨0, S, rfl, rfl, rfl, by omega, by unfold Hid; simp only [sm, Int.add_zero]; exact hS, by omega, by omega, hBe⟩
          case round =>
            clear hBe hS hs1 hs2
            obtain ⟨k, S, rfl, rfl, rfl, hk, hSS, hs1, hs2, hBe⟩ := hrel
            have sc := cellC hBe hsc
            by_cases hkb : (k : Int) < bi
            · have hag : at_ + k < gn := by rw [← HGO.out, hat]; exact off_lt b hin (by rw [HBI.out]; omega)
              have hag' : at_ + k < GM.length := by rw [HGN.out]; exact hag
              obtain ⟨ga, R, rc, rfl, hga, hgc, hgs⟩ := HG.out _ _ (List.getElem?_eq_getElem hag')
              obtain ⟨hrl, hrb⟩ := HGR.out _ (List.getElem_mem hag')
              obtain ⟨row, hrow⟩ : ∃ x, GM[at_ + k] = x := ⟨_, rfl⟩
              rw [hrow] at hgc hgs hrl hrb
              have hjr : j < row.length := by omega
              obtain ⟨ra, rfl, hra, hrc⟩ := inr_at hgs hjr
              have hxb := hrb _ (List.getElem_mem hjr)
              have hgv : gm (at_ + k) j = row[j] := by rw [← HGM.out]; exact gmOf_at (by rw [List.getElem?_eq_getElem hag', hrow]) hjr
              obtain ⟨x, hx⟩ : ∃ x, row[j] = x := ⟨_, rfl⟩
              rw [hx] at hrc hxb hgv
              rw [hrl] at hgc
              have HGV := Lib.hid hgv
              clear hgv hx hrow hgs hrb
              have hmb := mul_bd2 (show (0 : Int) ≤ wi by omega) hwb2 (y := x - lj) (b := 1000000) (by omega) (by omega)
              obtain ⟨P, hP⟩ : ∃ P, wi * (x - lj) = P := ⟨_, rfl⟩
              have HP := Lib.hid hP
              rw [hP] at hmb
              have w1 : IntKind.i64.wrap (x - lj) = x - lj := IntWalk.i64_in _ (by omega)
              have w2 : IntKind.i64.wrap P = P := IntWalk.i64_in _ (by omega)
              have w3 : IntKind.i64.wrap (S + P) = S + P := IntWalk.i64_in _ (by omega)
              have w4 : IntKind.i64.wrap ((at_ + k : Nat) + 1) = ((at_ + k : Nat) : Int) + 1 := IntWalk.i64_in _ (by omega)
              have w5 : IntKind.i64.wrap ((k : Int) + 1) = (k : Int) + 1 := IntWalk.i64_in _ (by omega)
              obtain ⟨y, hy⟩ : ∃ y, at_ + k = y := ⟨_, rfl⟩
              rw [hy] at hag hgc w4 ⊢
              have HY := Lib.hid hy
              clear hag' hrl hjr
              go_wp2_with fail
              refine AnyG.startC (by kernel_rfl) ?_
              refine AnyG.takeP (i := 0) (v := ?_) rfl (by kernel_rfl) (fun _ _ _ h => h) rfl ?_ ?_
              rotate_left
              · (intro w'; go_simp; try with_reducible rfl)
              try simp only [Act.put, List.getElem_toArray, List.getElem_cons_succ, List.getElem_cons_zero, List.setIfInBounds_toArray, List.set_cons_zero, List.set_cons_succ]
              refine AnyG.takeP (i := 1) (v := ?_) rfl (by kernel_rfl) (fun _ _ _ h => h) rfl ?_ ?_
              rotate_left
              · (intro w'; go_simp; try with_reducible rfl)
              try simp only [Act.put, List.getElem_toArray, List.getElem_cons_succ, List.getElem_cons_zero, List.setIfInBounds_toArray, List.set_cons_zero, List.set_cons_succ]
              refine AnyG.takeP (i := 3) (v := ?_) rfl (by kernel_rfl) (fun _ _ _ h => h) rfl ?_ ?_
              rotate_left
              · (intro w'; go_simp; try with_reducible rfl)
              try simp only [Act.put, List.getElem_toArray, List.getElem_cons_succ, List.getElem_cons_zero, List.setIfInBounds_toArray, List.set_cons_zero, List.set_cons_succ]
              refine AnyG.takeP (i := 7) (v := ?_) rfl (by kernel_rfl) (fun _ _ _ h => h) rfl ?_ ?_
              rotate_left
              · (intro w'; go_simp; try with_reducible rfl)
              try simp only [Act.put, List.getElem_toArray, List.getElem_cons_succ, List.getElem_cons_zero, List.setIfInBounds_toArray, List.set_cons_zero, List.set_cons_succ]
              refine AnyG.takeP (i := 8) (v := ?_) rfl (by kernel_rfl) (fun _ _ _ h => h) rfl ?_ ?_
              rotate_left
              · (intro w'; go_simp; try with_reducible rfl)
              try simp only [Act.put, List.getElem_toArray, List.getElem_cons_succ, List.getElem_cons_zero, List.setIfInBounds_toArray, List.set_cons_zero, List.set_cons_succ]
              refine AnyG.takeP (i := 9) (v := ?_) rfl (by kernel_rfl) (fun _ _ _ h => h) rfl ?_ ?_
              rotate_left
              · (intro w'; go_simp; try with_reducible rfl)
              try simp only [Act.put, List.getElem_toArray, List.getElem_cons_succ, List.getElem_cons_zero, List.setIfInBounds_toArray, List.set_cons_zero, List.set_cons_succ]
              refine AnyG.takeP (i := 11) (v := ?_) rfl (by kernel_rfl) (fun _ _ _ h => h) rfl ?_ ?_
              rotate_left
              · (intro w'; go_simp; try with_reducible rfl)
              try simp only [Act.put, List.getElem_toArray, List.getElem_cons_succ, List.getElem_cons_zero, List.setIfInBounds_toArray, List.set_cons_zero, List.set_cons_succ]
              refine AnyG.takeP (i := 14) (v := ?_) rfl (by kernel_rfl) (fun _ _ _ h => h) rfl ?_ ?_
              rotate_left
              · (intro w'; go_simp; try with_reducible rfl)
              try simp only [Act.put, List.getElem_toArray, List.getElem_cons_succ, List.getElem_cons_zero, List.setIfInBounds_toArray, List.set_cons_zero, List.set_cons_succ]
              refine AnyG.takeP (i := 16) (v := ?_) rfl (by kernel_rfl) (fun _ _ _ h => h) rfl ?_ ?_
              rotate_left
              · (intro w'; go_simp; try with_reducible rfl)
              try simp only [Act.put, List.getElem_toArray, List.getElem_cons_succ, List.getElem_cons_zero, List.setIfInBounds_toArray, List.set_cons_zero, List.set_cons_succ]
              refine AnyG.takeP (i := 22) (v := ?_) rfl (by kernel_rfl) (fun _ _ _ h => h) rfl ?_ ?_
              rotate_left
              · (intro w'; go_simp; try with_reducible rfl)
              try simp only [Act.put, List.getElem_toArray, List.getElem_cons_succ, List.getElem_cons_zero, List.setIfInBounds_toArray, List.set_cons_zero, List.set_cons_succ]
              refine AnyG.takeP (i := 23) (v := ?_) rfl (by kernel_rfl) (fun _ _ _ h => h) rfl ?_ ?_
              rotate_left
              · (intro w'; go_simp; try with_reducible rfl)
              try simp only [Act.put, List.getElem_toArray, List.getElem_cons_succ, List.getElem_cons_zero, List.setIfInBounds_toArray, List.set_cons_zero, List.set_cons_succ]
              refine AnyG.enter (fun w' : World => Below wr.heap.size wr w') (fun i => true) ?_
              have hS : (fun w' : World => Below wr.heap.size wr w') (World.drew _) := ((Below.refl _ _).drew)
              refine AnyG.takeC (i := 2) (v := ?_) rfl (by kernel_rfl) (fun _ _ _ h => h) rfl ?_ hS ?_
              rotate_left
              · (intro w' hSw; (try dsimp only at hSw); obtain ⟨l0, l1, l2, l3, lf2, lz⟩ := (kB.call (hBe.trans (hSw.mono hBe.size))).four; go_simp; try with_reducible rfl)
              try simp only [Act.put, List.getElem_toArray, List.getElem_cons_succ, List.getElem_cons_zero, List.setIfInBounds_toArray, List.set_cons_zero, List.set_cons_succ]
              refine AnyG.takeC (i := 4) (v := ?_) rfl (by kernel_rfl) (fun _ _ _ h => h) rfl ?_ hS ?_
              rotate_left
              · (intro w' hSw; (try dsimp only at hSw); go_simp; try with_reducible rfl)
              try simp only [Act.put, List.getElem_toArray, List.getElem_cons_succ, List.getElem_cons_zero, List.setIfInBounds_toArray, List.set_cons_zero, List.set_cons_succ]
              refine AnyG.takeC (i := 5) (v := ?_) rfl (by kernel_rfl) (fun _ _ _ h => h) rfl ?_ hS ?_
              rotate_left
              · (intro w' hSw; (try dsimp only at hSw); go_simp; try with_reducible rfl)
              try simp only [Act.put, List.getElem_toArray, List.getElem_cons_succ, List.getElem_cons_zero, List.setIfInBounds_toArray, List.set_cons_zero, List.set_cons_succ]
              refine AnyG.takeC (i := 6) (v := ?_) rfl (by kernel_rfl) (fun _ _ _ h => h) rfl ?_ hS ?_
              rotate_left
              · (intro w' hSw; (try dsimp only at hSw); have q := cellC (hBe.trans (hSw.mono hBe.size)) p1; go_simp; try with_reducible rfl)
              try simp only [Act.put, List.getElem_toArray, List.getElem_cons_succ, List.getElem_cons_zero, List.setIfInBounds_toArray, List.set_cons_zero, List.set_cons_succ]
              refine AnyG.takeC (i := 10) (v := ?_) rfl (by kernel_rfl) (fun _ _ _ h => h) rfl ?_ hS ?_
              rotate_left
              · (intro w' hSw; (try dsimp only at hSw); have q := cellC (hBe.trans (hSw.mono hBe.size)) hgc; go_simp; try with_reducible rfl)
              try simp only [Act.put, List.getElem_toArray, List.getElem_cons_succ, List.getElem_cons_zero, List.setIfInBounds_toArray, List.set_cons_zero, List.set_cons_succ]
              refine AnyG.takeC (i := 12) (v := ?_) rfl (by kernel_rfl) (fun _ _ _ h => h) rfl ?_ hS ?_
              rotate_left
              · (intro w' hSw; (try dsimp only at hSw); go_simp; try with_reducible rfl)
              try simp only [Act.put, List.getElem_toArray, List.getElem_cons_succ, List.getElem_cons_zero, List.setIfInBounds_toArray, List.set_cons_zero, List.set_cons_succ]
              refine AnyG.takeC (i := 13) (v := ?_) rfl (by kernel_rfl) (fun _ _ _ h => h) rfl ?_ hS ?_
              rotate_left
              · (intro w' hSw; (try dsimp only at hSw); have q := cellC (hBe.trans (hSw.mono hBe.size)) hrc; go_simp; try with_reducible rfl)
              try simp only [Act.put, List.getElem_toArray, List.getElem_cons_succ, List.getElem_cons_zero, List.setIfInBounds_toArray, List.set_cons_zero, List.set_cons_succ]
              refine AnyG.takeC (i := 15) (v := ?_) rfl (by kernel_rfl) (fun _ _ _ h => h) rfl ?_ hS ?_
              rotate_left
              · (intro w' hSw; (try dsimp only at hSw); obtain ⟨l0, l1, l2, l3, lf2, lz⟩ := (kB.call (hBe.trans (hSw.mono hBe.size))).four; go_simp; try with_reducible rfl)
              try simp only [Act.put, List.getElem_toArray, List.getElem_cons_succ, List.getElem_cons_zero, List.setIfInBounds_toArray, List.set_cons_zero, List.set_cons_succ]
              refine AnyG.takeC (i := 17) (v := ?_) rfl (by kernel_rfl) (fun _ _ _ h => h) rfl ?_ hS ?_
              rotate_left
              · (intro w' hSw; (try dsimp only at hSw); go_simp; try with_reducible rfl)
              try simp only [Act.put, List.getElem_toArray, List.getElem_cons_succ, List.getElem_cons_zero, List.setIfInBounds_toArray, List.set_cons_zero, List.set_cons_succ]
              refine AnyG.takeC (i := 18) (v := ?_) rfl (by kernel_rfl) (fun _ _ _ h => h) rfl ?_ hS ?_
              rotate_left
              · (intro w' hSw; (try dsimp only at hSw); have q := cellC (hBe.trans (hSw.mono hBe.size)) hlc; go_simp; try with_reducible rfl)
              try simp only [Act.put, List.getElem_toArray, List.getElem_cons_succ, List.getElem_cons_zero, List.setIfInBounds_toArray, List.set_cons_zero, List.set_cons_succ]
              refine AnyG.takeC (i := 19) (v := ?_) rfl (by kernel_rfl) (fun _ _ _ h => h) rfl ?_ hS ?_
              rotate_left
              · (intro w' hSw; (try dsimp only at hSw); go_simp; try with_reducible rfl)
              try simp only [Act.put, List.getElem_toArray, List.getElem_cons_succ, List.getElem_cons_zero, List.setIfInBounds_toArray, List.set_cons_zero, List.set_cons_succ]
              refine AnyG.takeC (i := 20) (v := ?_) rfl (by kernel_rfl) (fun _ _ _ h => h) rfl ?_ hS ?_
              rotate_left
              · (intro w' hSw; (try dsimp only at hSw); go_simp; try with_reducible rfl)
              try simp only [Act.put, List.getElem_toArray, List.getElem_cons_succ, List.getElem_cons_zero, List.setIfInBounds_toArray, List.set_cons_zero, List.set_cons_succ]
              refine AnyG.takeC (i := 21) (v := ?_) rfl (by kernel_rfl) (fun _ _ _ h => h) rfl ?_ hS ?_
              rotate_left
              · (intro w' hSw; (try dsimp only at hSw); go_simp; try with_reducible rfl)
              try simp only [Act.put, List.getElem_toArray, List.getElem_cons_succ, List.getElem_cons_zero, List.setIfInBounds_toArray, List.set_cons_zero, List.set_cons_succ]
              refine AnyG.takeC (i := 24) (v := ?_) rfl (by kernel_rfl) (fun _ _ _ h => h) rfl ?_ hS ?_
              rotate_left
              · (intro w' hSw; (try dsimp only at hSw); go_simp; try with_reducible rfl)
              try simp only [Act.put, List.getElem_toArray, List.getElem_cons_succ, List.getElem_cons_zero, List.setIfInBounds_toArray, List.set_cons_zero, List.set_cons_succ]
              refine AnyG.takeC (i := 25) (v := ?_) rfl (by kernel_rfl) (fun _ _ _ h => h) rfl ?_ hS ?_
              rotate_left
              · (intro w' hSw; (try dsimp only at hSw); go_simp; try with_reducible rfl)
              try simp only [Act.put, List.getElem_toArray, List.getElem_cons_succ, List.getElem_cons_zero, List.setIfInBounds_toArray, List.set_cons_zero, List.set_cons_succ]
              refine AnyG.done (by kernel_rfl) ?_ _
              go_simp
              go_wp2_with fail
              go_roundw
              case rel =>
                refine ⟨k + 1, S + P, by go_num, by rw [← Nat.add_assoc, HY.out]; go_num, by go_num, by omega, ?_, by push_cast; omega, by push_cast; omega, (hBe.trans ((Below.refl wr.heap.size wr).drew.mono hBe.size))⟩
                unfold Hid at hSS ⊢
                rw [hSS, sm, Int.add_assoc]
                unfold grab
                rw [← hat, HGV.out, HLJ.out, HWI.out, HP.out]
              case measure => simp [intOf]; omega
            · go_wp2_with fail
              go_roundw
              case rel =>
                obtain rfl : bi = k := by omega
                refine ⟨i + 1, S, at_ + k, rfl, rfl, by go_num, by omega, ?_, ?_, by push_cast; omega, by push_cast; omega, hBe⟩
                · unfold Hid at hSS ⊢
                  rw [hSS, gsum_succ, HBI.out]
                  simp
                · simp only [off]; rw [HBI.out, hat]; simp
              case measure => simp [intOf]; omega
        · obtain rfl : i = n := by omega
          by_cases hS0 : 0 < S
          · go_wp2_with fail
            go_ret
            refine ⟨ret_bool ?_, ?_⟩
            · rw [kept_no hjl]; rw [HB.out, ← hS]; exact hS0
            · exact B0.trans (hBe.mono B0.size)
          · go_wp2_with fail
            go_roundw
            case rel => exact ⟨j + 1, by go_num, by omega, fun j' hj' => by
                by_cases h : j' < j
                · exact hle j' h
                · obtain rfl : j' = j := by omega
                  rw [← hS]; omega, hBe⟩
            case measure => simp [intOf]; omega
    · obtain rfl : j = ln := by omega
      go_wp2_with fail
      go_ret
      refine ⟨ret_bool ?_, B0.trans (hBe.mono B0.size)⟩
      exact Eq.symm <| kept_yes fun j' hj' => by rw [HB.out]; exact hle j' hj'
end Go.Proofs.Ytmemcopfeabcgaa
