/- spread 43: all lists with a number of each of some ranges. -/
import Derived.Test.YtfcpjkofbejleaaAma
import Derived.Test.YtfcpjkofbejleaaCvaM
set_option linter.unusedSimpArgs false
set_option linter.unusedVariables false
namespace Go.Proofs.Ytfcpjkofbejleaa
open Go Go.RowKit
theorem sprS_take (L : List (List Int)) (r : Int × Int) {k : Nat} (hk : k < L.length) : sprS (L.take (k + 1)) r = sprS (L.take k) r ++ (seqI r.1 r.2).map fun n => L[k] ++ [n] := by
  unfold sprS
  rw [List.take_succ_eq_append_getElem hk, List.map_append, List.flatten_append]
  simp
theorem seqI_take {a b : Int} {j : Nat} (hj : a + (j : Int) ≤ b) : (seqI a b).take (j + 1) = (seqI a b).take j ++ [a + (j : Int)] := by
  have hl : j < (seqI a b).length := by rw [seqI_len]; omega
  rw [List.take_succ_eq_append_getElem hl]
  congr 2
  simp [seqI]
theorem spr_small {R : List (Int × Int)} (h : ∀ r ∈ R, r.2 ≤ r.1 + 2) (hR : R.length ≤ 8) (i : Nat) : (spr (R.take i)).length ≤ 6561 := by
  have a := spr_len (R := R.take i) fun r hr => h r (List.mem_of_mem_take hr)
  have b : 3 ^ (R.take i).length ≤ 3 ^ 8 := Nat.pow_le_pow_right (by omega) (by rw [List.length_take]; omega)
  omega
/-- Rows of rows of numbers, each with room for its own. -/
def LsCap (w : World) (B : Nat) (A : Option Addr) (Ls : List (List Int)) : Prop :=
  ∀ (k : Nat) (l : List Int), Ls[k]? = some l → ∃ (ad : Addr) (G : Option Addr) (c : Nat), A = some ad ∧ ad.block < B ∧ w.cell? (ad.add k) = some (.slice G l.length c) ∧ l.length ≤ c ∧ Sl w B 1 G (inr l)
theorem LsCap.call {w w' : World} {A : Option Addr} {Ls : List (List Int)} (h : LsCap w w.heap.size A Ls) (hb : Below w.heap.size w w') : LsCap w' w'.heap.size A Ls := fun k l hk => by
  obtain ⟨ad, G, c, h1, h2, h3, h5, h4⟩ := h k l hk
  have := hb.size
  exact ⟨ad, G, c, h1, by omega, (hb.cell (by rw [add_block]; exact h2)).trans h3, h5, (h4.below hb).more hb.size⟩
theorem LsOwn.cap {w : World} {base : Nat} {vs : List Value} {Ls : List (List Int)} (h : LsOwn w base vs Ls) {b c n : Nat} {A : Option Addr} (ho : w.ownsRow b 27 1 (.slice A n c) n vs) : LsCap w w.heap.size A Ls := fun k l hk => by
  obtain ⟨ad, G, cc, h1, h2, h3, h4⟩ := h.at_ ho k l hk
  have hlt : k < vs.length := by rw [h.len]; exact (List.getElem?_eq_some_iff.1 hk).1
  obtain ⟨A2, c2, e, o⟩ := h.row k _ l (List.getElem?_eq_getElem hlt) hk
  have hc := own_cells ho k _ (List.getElem?_eq_getElem hlt)
  have e3 : w.cell? (ad.add k) = some vs[k] := by
    subst h1
    obtain ⟨a2, e0, hc⟩ := hc
    simp only [Option.some.injEq] at e0
    subst e0
    exact hc
  rw [e] at o
  rw [h3, e, Option.some.injEq, Value.slice.injEq] at e3
  obtain ⟨rfl, _, rfl⟩ := e3
  exact ⟨ad, G, cc, h1, h2, h3, own_capc o, h4⟩
def SprP (w : World) (L : List (List Int)) (e : Ending) (w' : World) : Prop :=
  (∃ (A : Option Addr) (c : Nat), e = .returned (.slice A L.length c) ∧ LsCap w' w'.heap.size A L) ∧ Below w.heap.size w w'
set_option maxRecDepth 100000 in
set_option maxHeartbeats 8000000 in
theorem spread_any (A : Option Addr) (n c : Nat) (R : List (Int × Int)) (w : World) (hn : n ≤ 8) (hl : R.length = n) (hA : Sl w w.heap.size 2 A (gnr R)) (hb : ∀ r ∈ R, -1000000 ≤ r.1 ∧ r.1 ≤ r.2 ∧ r.2 ≤ 1000000 ∧ r.2 ≤ r.1 + 2) :
    Calls Try.prog 43 #[.slice A n c] w (SprP w (spr R)) := by
  have HL := Lib.hid hl
  have HB := Lib.hid hb
  clear hl hb
  obtain ⟨i3, hi3, hz3, hs3, iy3⟩ := info_parts info3'
  obtain ⟨i27, hi27, hz27, hs27, iy27⟩ := info_parts info27b
  have how : (w.alloc (.cells #[.slice none 0 0] 27)).ownsRow w.heap.size 27 1 (.slice (some ⟨w.heap.size, 0, none⟩) 1 1) 1 [.slice none 0 0] := ⟨rfl, .inr ⟨w.heap.size, 1, #[.slice none 0 0], rfl, by omega, Bx.new w 27 #[.slice none 0 0], by omega, by unfold maxLen; omega, rfl, rfl⟩⟩
  have hLo : LsCap (w.alloc (.cells #[.slice none 0 0] 27)) (w.alloc (.cells #[.slice none 0 0] 27)).heap.size (some ⟨w.heap.size, 0, none⟩) [[]] := LsOwn.cap (base := w.heap.size) ((LsOwn.nil _ _).snoc (n := 0) rfl (World.ownsRow_nil _ _ _ _)) how
  have B0 := (Below.refl w.heap.size w).alloc (Nat.le_refl _) (.cells #[.slice none 0 0] 27)
  clear how
  go_enter Try.func43, Try.ntmps43
  go_wp2_with fail
  go_loopw [3, 4] (fun ov iv wr => ∃ (i nl : Nat) (VA : Option Addr) (vc : Nat) (L : List (List Int)), iv = .int .i64 i ∧ i ≤ n ∧ ov = .slice VA nl vc ∧ Hid (L.length = nl ∧ L = spr (R.take i)) ∧ LsCap wr wr.heap.size VA L ∧ Below w.heap.size w wr) (fun _ iv _ => n - (intOf iv).toNat)
  case atStart => exact ⟨0, 1, _, 1, [[]], rfl, by omega, rfl, Lib.hid ⟨rfl, rfl⟩, hLo, B0⟩
  case round =>
    clear hLo B0
    obtain ⟨i, nl, VA, vc, L, rfl, hi, rfl, HLL, hLs, hBr⟩ := hrel
    by_cases hin : i < n
    · have hir : i < R.length := by rw [HL.out]; exact hin
      obtain ⟨ad, hAe, _, g0, g1⟩ := gnr_at (hA.call hBr) hir
      have hbr := HB.out _ (List.getElem_mem hir)
      have HST := Lib.hid (spr_take R hir)
      have hsm := spr_small (R := R) (fun r hr => (HB.out r hr).2.2.2) (by rw [HL.out]; exact hn) i
      rw [← HLL.out.2, HLL.out.1] at hsm
      have hLk : ∀ x ∈ L, x.length ≤ 8 := fun x hx => by
        have hx2 := HLL.out.2 ▸ hx
        have := InR.le hx2
        have := HL.out
        omega
      have HLK := Lib.hid hLk
      generalize R[i] = r at *
      obtain ⟨ra, rb⟩ := r
      dsimp only at g0 g1 hbr
      have hr1 := hbr.1
      have hr2 := hbr.2.1
      have hr3 := hbr.2.2.1
      have hr4 := hbr.2.2.2
      have hiw : IntKind.i64.wrap ((i : Int) + 1) = (i : Int) + 1 := IntWalk.i64_in _ (by omega)
      have HAE := Lib.hid hAe
      clear hAe hir hbr hLk
      obtain ⟨U, rfl⟩ : ∃ U, U = wr := ⟨_, rfl⟩
      go_wp2_with fail
      go_loopw [5, 6] (fun nv kv wr => ∃ (k nx : Nat) (NA : Option Addr) (nc : Nat) (vs : List Value) (N : List (List Int)), kv = .int .i64 k ∧ k ≤ nl ∧ nv = .slice NA nx nc ∧ Hid (N.length = nx ∧ N = sprS (L.take k) (ra, rb)) ∧ nx ≤ 3 * k ∧ wr.ownsRow U.heap.size 27 1 (.slice NA nx nc) nx vs ∧ LsOwn wr U.heap.size vs N ∧ Below U.heap.size U wr) (fun _ kv _ => nl - (intOf kv).toNat)
      case atStart => exact ⟨0, 0, none, 0, [], [], rfl, by omega, rfl, Lib.hid ⟨rfl, rfl⟩, by omega, World.ownsRow_nil _ _ _ _, .nil _ _, Below.refl _ _⟩
      case round =>
        obtain ⟨k, nx, NA, nc, vs, N, rfl, hk, rfl, HN, hnx, oN, LN, hBk⟩ := hrel
        by_cases hkn : k < nl
        · have hkl : k < L.length := by rw [HLL.out.1]; exact hkn
          have hkw : IntKind.i64.wrap ((k : Int) + 1) = (k : Int) + 1 := IntWalk.i64_in _ (by omega)
          have HTK := Lib.hid (sprS_take L (ra, rb) hkl)
          have hl8 := HLK.out _ (List.getElem_mem hkl)
          obtain ⟨vd, G, gc, hVA, hvb, hcell, _, hG⟩ := hLs k _ (List.getElem?_eq_getElem hkl)
          generalize L[k] = l at *
          obtain ⟨lk, hlk⟩ : ∃ x, l.length = x := ⟨_, rfl⟩
          rw [hlk] at hcell hl8
          have HLK2 := Lib.hid hlk
          have hAe := HAE.out
          obtain ⟨m, hm⟩ : ∃ m : Nat, (m : Int) = rb + 1 - ra := ⟨(rb + 1 - ra).toNat, by omega⟩
          have HM := Lib.hid hm
          have hm3 : m ≤ 3 := by omega
          have hmr : rb = ra + m - 1 := by omega
          clear hlk hkl hm
          obtain ⟨W, rfl⟩ : ∃ W, W = wr := ⟨_, rfl⟩
          have g0' := cellC hBk g0
          subst hAe hVA
          go_wp2_with fail
          clear g0'
          go_loopw [5, 7] (fun nv mv wr => ∃ (j ny : Nat) (NA : Option Addr) (nc : Nat) (vs : List Value) (N' : List (List Int)), mv = .int .i64 (ra + j) ∧ j ≤ m ∧ nv = .slice NA ny nc ∧ Hid (N'.length = ny ∧ N' = N ++ ((seqI ra rb).take j).map fun z => l ++ [z]) ∧ ny ≤ 3 * k + j ∧ wr.ownsRow U.heap.size 27 1 (.slice NA ny nc) ny vs ∧ LsOwn wr U.heap.size vs N' ∧ Below U.heap.size U wr) (fun _ mv _ => (rb + 1 - intOf mv).toNat)
          case atStart => exact ⟨0, nx, NA, nc, vs, N, by go_num, by omega, rfl, Lib.hid ⟨HN.out.1, by simp⟩, by omega, oN, LN, hBk⟩
          case round =>
            clear oN LN hBk
            obtain ⟨j, ny, NA, nc, vs, N', rfl, hj, rfl, HN', hny, oN, LN, hBj⟩ := hrel
            obtain ⟨X, rfl⟩ : ∃ X, X = wr := ⟨_, rfl⟩
            have g1' := cellC hBj g1
            by_cases hjm : j < m
            · have hle : ra + (j : Int) ≤ rb := by omega
              have c' := cellC hBj hcell
              have hG' := hG.call hBj
              have hjw : IntKind.i64.wrap (ra + (j : Int) + 1) = ra + (j : Int) + 1 := IntWalk.i64_in _ (by omega)
              go_wp2_with (first
                | (go_at_call 20; refine (ints20_any G lk gc l _ (by omega) HLK2.out hG').mono ?_; rintro e w1 ⟨⟨A1, c1, rfl, o1⟩, hb1⟩; have o1' := o1.alloc (.cells #[.int .i64 (ra + j)] 3); have kn1 := Bx.new w1 3 #[.int .i64 (ra + j)]; have hb1s := hb1.size; have hb2 := hb1.alloc hb1.size (.cells #[.int .i64 (ra + j)] 3))
                | (at_builtin; refine wpList_append_own _ rfl (.tmp 40) (.tmp 42) 27 rfl X.heap.size 3 i3 _ 1 8 Try.underlying27 hi3 hz3 hs3 iy3 rfl (by decide) (.slice A1 lk c1) lk (inr l).flatten rfl o1' ⟨w1.heap.size, 0, none⟩ 1 1 [.int .i64 (ra + j)] rfl rfl (bx_news kn1) (by simp [Value.oneCell']) (by unfold maxLen; omega) (by omega) (by simp; omega) ?_; intro v' w2 q1 q2 q3; have hb3 := hb2.grown q2 hb2.size (fun k e => (o1'.lt k e).1); obtain ⟨A2, c2, rfl⟩ := own_shape q1; have kn2 := Bx.new w2 27 #[.slice A2 (lk + 1) c2]; have q1' := q1.alloc (.cells #[.slice A2 (lk + 1) c2] 27); have hb4 := hb3.alloc hb3.size (.cells #[.slice A2 (lk + 1) c2] 27); have oN4 := own_bel oN hb4; have LN4 := LN.bel hb4; have hXb := hBj.size; have hb4s := hb4.size)
                | (at_builtin; refine wpList_append_own _ rfl (.tmp 35) (.tmp 44) 38 rfl U.heap.size 27 i27 _ 1 24 Try.underlying38 hi27 hz27 hs27 iy27 rfl (by decide) (.slice NA ny nc) ny vs rfl oN4 ⟨w2.heap.size, 0, none⟩ 1 1 [.slice A2 (lk + 1) c2] rfl rfl (bx_news kn2) (by simp [Value.oneCell']) (by unfold maxLen; omega) (by omega) (by omega) ?_; intro v' w5 r1 r2 r3; obtain ⟨A5, c5, rfl⟩ := own_shape r1)
                | fail)
              have LN5 := (LN4.own oN4 r2 (by decide)).snoc (l := l ++ [ra + (j : Int)]) (n := lk + 1) (by rw [List.length_append, HLK2.out]; rfl) (by
                have := own_down (q1'.kept r2 (own_ne q1' oN4 (by decide))) hXb
                rwa [inr_snoc] )
              have hB5 := (hBj.trans (hb4.mono hBj.size)).grown r2 (by have := hBj.size; have := hb4.size; omega) (fun k e => (oN4.lt k e).1)
              have hN1 := HN'.out.1
              have hN2 := HN'.out.2
              have hst := seqI_take (a := ra) (b := rb) (j := j) hle
              have HX := Lib.hid (show (N' ++ [l ++ [ra + (j : Int)]]).length = ny + 1 ∧ N' ++ [l ++ [ra + (j : Int)]] = N ++ ((seqI ra rb).take (j + 1)).map fun z => l ++ [z] by
                refine ⟨by rw [List.length_append, hN1]; rfl, ?_⟩
                rw [hst, List.map_append, hN2, List.append_assoc]
                rfl)
              clear hN1 hN2 hst
              go_roundw
              case rel => exact ⟨j + 1, ny + 1, A5, c5, _, _, by go_num, by omega, rfl, HX, by omega, r1, LN5, hB5⟩
              case measure => simp [intOf]; omega
            · obtain rfl : j = m := by omega
              have hle : (ra + (j : Int) ≤ rb) = False := eq_false (by omega)
              have hN1 := HN'.out.1
              have hN2 := HN'.out.2
              have HX := Lib.hid (show N'.length = ny ∧ N' = sprS (L.take (k + 1)) (ra, rb) by
                refine ⟨hN1, ?_⟩
                have hj := HM.out
                have : (seqI ra rb).take j = seqI ra rb := List.take_of_length_le (by rw [seqI_len]; omega)
                rw [HTK.out, ← HN.out.2, hN2, this])
              clear hN1 hN2
              go_wp2_with fail
              go_roundw
              case rel => exact ⟨k + 1, ny, NA, nc, vs, N', by go_num, by omega, rfl, HX, by omega, oN, LN, hBj⟩
              case measure => simp [intOf]; omega
        · obtain rfl : k = nl := by omega
          have hLA := LN.cap oN
          have hN2 := HN.out.2
          have HX := Lib.hid (show N.length = nx ∧ N = spr (R.take (i + 1)) by
            refine ⟨HN.out.1, ?_⟩
            rw [HST.out, ← HLL.out.2, hN2, ← HLL.out.1, List.take_length])
          have hB6 := hBr.trans (hBk.mono hBr.size)
          clear hN2
          go_wp2_with fail
          go_roundw
          case rel => exact ⟨i + 1, nx, NA, nc, N, by go_num, by omega, rfl, HX, hLA, hB6⟩
          case measure => simp [intOf]; omega
    · obtain rfl : i = n := by omega
      have hRt : R.take i = R := by rw [← HL.out]; exact List.take_length
      have e := HLL.out.2
      rw [hRt] at e
      have e1 := HLL.out.1
      go_wp2_with fail
      go_ret
      rw [← e]
      exact ⟨⟨VA, vc, by rw [e1]; rfl, hLs⟩, hBr⟩
end Go.Proofs.Ytfcpjkofbejleaa
