/- swarflaw06.gramsOf: what each grab of a blend truly has. -/
import Derived.Test.YtmemcopfeabcgaaLi
set_option linter.unusedSimpArgs false
set_option linter.unusedVariables false
namespace Go.Proofs.Ytmemcopfeabcgaa
open Go Go.RowKit
/-- The bins of the grabs, grab by grab. -/
def ixOf (b : Nat → Int) : Nat → List Nat
  | 0 => []
  | i + 1 => ixOf b i ++ List.replicate (b i).toNat i
theorem ixOf_len (b : Nat → Int) : ∀ i : Nat, (ixOf b i).length = off b i
  | 0 => rfl
  | i + 1 => by simp only [ixOf, List.length_append, List.length_replicate, ixOf_len b i, off]
theorem ixOf_at (b : Nat → Int) : ∀ {k i t : Nat}, i < k → t < (b i).toNat → (ixOf b k)[off b i + t]? = some i
  | 0, i, t, h, _ => by omega
  | k + 1, i, t, h, ht => by
    simp only [ixOf]
    by_cases hi : i < k
    · rw [List.getElem?_append_left (by rw [ixOf_len]; exact off_lt b hi ht)]
      exact ixOf_at b hi ht
    · obtain rfl : i = k := by omega
      rw [List.getElem?_append_right (by rw [ixOf_len]; omega), ixOf_len, Nat.add_sub_cancel_left, List.getElem?_replicate, if_pos ht]
theorem ixOf_mem (b : Nat → Int) {r : Nat} : ∀ {k : Nat}, r ∈ ixOf b k → r < k
  | 0, h => by simp [ixOf] at h
  | k + 1, h => by
    simp only [ixOf, List.mem_append, List.mem_replicate] at h
    rcases h with h | ⟨_, rfl⟩
    · have := ixOf_mem b h; omega
    · omega
/-- A row of what a grab of bin i may have. -/
def RowIn (o : Od) (i : Nat) (r : List Int) : Prop := ∀ j, j < r.length → (o.bn i).g1 j ≤ r.getD j 0 ∧ r.getD j 0 ≤ (o.bn i).g2 j
structure GmOk (o : Od) (ln : Nat) (ix : List Nat) (GM : List (List Int)) : Prop where
  len : GM.length = ix.length
  row : ∀ (k i : Nat) (r : List Int), ix[k]? = some i → GM[k]? = some r → r.length = ln ∧ RowIn o i r
theorem GmOk.snoc {o : Od} {ln i : Nat} {ix : List Nat} {GM : List (List Int)} {l : List Int} (h : GmOk o ln ix GM) (h1 : l.length = ln) (h2 : RowIn o i l) : GmOk o ln (ix ++ [i]) (GM ++ [l]) := by
  refine ⟨by simp [h.len], fun k i' r e1 e2 => ?_⟩
  by_cases hk : k < ix.length
  · rw [List.getElem?_append_left hk] at e1
    rw [List.getElem?_append_left (by rw [h.len]; exact hk)] at e2
    exact h.row k i' r e1 e2
  · have hk2 : k < (ix ++ [i]).length := (List.getElem?_eq_some_iff.1 e1).1
    obtain rfl : k = ix.length := by simp at hk2; omega
    rw [List.getElem?_concat_length] at e1
    rw [← h.len, List.getElem?_concat_length] at e2
    simp only [Option.some.injEq] at e1 e2
    subst e1 e2
    exact ⟨h1, h2⟩
theorem RowIn.snoc {o : Od} {i : Nat} {l : List Int} {x : Int} (h : RowIn o i l) (h1 : (o.bn i).g1 l.length ≤ x) (h2 : x ≤ (o.bn i).g2 l.length) : RowIn o i (l ++ [x]) := fun j hj => by
  rw [getD_snoc]
  by_cases hj2 : j < l.length
  · rw [if_pos hj2]; exact h j hj2
  · rw [if_neg hj2, if_pos (by simp at hj; omega)]
    obtain rfl : j = l.length := by simp at hj; omega
    exact ⟨h1, h2⟩
/-- What the lists of a truth say to kept. -/
theorem GmOk.gm {o : Od} {ln bn : Nat} {b : Nat → Int} {GM : List (List Int)} (h : GmOk o ln (ixOf b bn) GM) {i t j : Nat} (hi : i < bn) (ht : t < (b i).toNat) (hj : j < ln) : (o.bn i).g1 j ≤ gmOf GM (off b i + t) j ∧ gmOf GM (off b i + t) j ≤ (o.bn i).g2 j := by
  have h1 := ixOf_at b hi ht
  have hk : off b i + t < GM.length := by rw [h.len]; exact (List.getElem?_eq_some_iff.1 h1).1
  obtain ⟨e1, e2⟩ := h.row _ _ GM[off b i + t] h1 (List.getElem?_eq_getElem hk)
  have := e2 j (by omega)
  unfold gmOf
  rw [show GM.getD (off b i + t) [] = GM[off b i + t] by rw [List.getD_eq_getElem?_getD, List.getElem?_eq_getElem hk]; rfl]
  exact this
theorem GmOk.all {o : Od} {ln bn : Nat} {b : Nat → Int} {GM : List (List Int)} (h : GmOk o ln (ixOf b bn) GM) (ho : o.Ok) (hbn : bn ≤ o.bs.length) : ∀ r ∈ GM, r.length = ln ∧ ∀ x ∈ r, 0 ≤ x ∧ x ≤ 1000000 := fun r hr => by
  obtain ⟨k, hk⟩ := List.getElem?_of_mem hr
  have hk2 : k < (ixOf b bn).length := by rw [← h.len]; exact (List.getElem?_eq_some_iff.1 hk).1
  obtain ⟨e1, e2⟩ := h.row k _ r (List.getElem?_eq_getElem hk2) hk
  refine ⟨e1, fun x hx => ?_⟩
  obtain ⟨j, hj⟩ := List.getElem?_of_mem hx
  have := e2 j (List.getElem?_eq_some_iff.1 hj).1
  rw [List.getD_eq_getElem?_getD, hj] at this
  have := (ho.bn (i := (ixOf b bn)[k]) (by have := ixOf_mem b (List.getElem_mem hk2); omega)).gj j
  simp only [Option.getD_some] at *
  omega
set_option maxRecDepth 100000 in
set_option maxHeartbeats 8000000 in
theorem gramsOf_any (g : Nat) (LA : Option Addr) (ln lc : Nat) (BA : Option Addr) (bn bc : Nat) (o : Od) (SA : Option Addr) (sc : Nat) (BL : List Int) (w : World) (h : Fd g w) (hl : o.lm.length = ln) (hb' : o.bs.length = bn) (hA : OrdAt w w.heap.size LA BA o) (hL : BL.length = bn) (hS0 : Sl w w.heap.size 1 SA (inr BL)) (hz : ckBl o BL = 0) :
    Calls Try.prog 18 #[.pointer (some ⟨g, 0, none⟩), .agg #[.slice LA ln lc, .int .i64 o.le, .int .i64 o.mo, .slice BA bn bc], .slice SA bn sc] w fun e w' => (∃ (OA : Option Addr) (oc : Nat) (GM : List (List Int)), e = .returned (.slice OA GM.length oc) ∧ GmOk o ln (ixOf (lf BL) bn) GM ∧ LsAt w' w'.heap.size OA GM) ∧ Fd g w' ∧ w.grownBy w' (some g) := by
  have hok := ckBl_zero hz
  have hsix := hok.six
  obtain ⟨i3, hi3, hz3, hs3, iy3⟩ := info_parts info3'
  obtain ⟨i22, hi22, hz22, hs22, iy22⟩ := info_parts info22
  have B0 := (Below.refl w.heap.size w).alloc (Nat.le_refl _) (.cells #[.slice LA ln lc, .int .i64 o.le, .int .i64 o.mo, .slice BA bn bc] 27)
  have kB := Bx.new w 27 #[.slice LA ln lc, .int .i64 o.le, .int .i64 o.mo, .slice BA bn bc]
  have hO := hA.call B0
  have hS := hS0.call B0
  have hF := h.alloc (.cells #[.slice LA ln lc, .int .i64 o.le, .int .i64 o.mo, .slice BA bn bc] 27)
  have hG := grown_alloc (grown_refl w (some g)) (.cells #[.slice LA ln lc, .int .i64 o.le, .int .i64 o.mo, .slice BA bn bc] 27)
  have hbn4 : bn ≤ 4 := by rw [← hb']; exact hok.ok.b2
  have hln3 : ln ≤ 3 := by rw [← hl]; exact hok.ok.lm
  obtain ⟨b, hb⟩ : ∃ b, lf BL = b := ⟨_, rfl⟩
  rw [hb] at hsix ⊢
  have HLN := Lib.hid hl
  have HBN := Lib.hid hb'
  have HBL := Lib.hid hL
  have HOK := Lib.hid hok.ok
  have HSIX := Lib.hid hsix
  have HB := Lib.hid hb
  have hgl := h.lt
  clear hA hS0 hl hb' hL hok hz hsix hb B0 h
  go_enter Try.func18, Try.ntmps18
  go_wp2_with fail
  have hne : w.heap.size ≠ g := by omega
  obtain ⟨V, hV⟩ : ∃ V, w.alloc (.cells #[.slice LA ln lc, .int .i64 o.le, .int .i64 o.mo, .slice BA bn bc] 27) = V := ⟨_, rfl⟩
  rw [hV] at hO hS hF hG kB ⊢
  obtain ⟨bO, hbO⟩ : ∃ b, w.heap.size = b := ⟨_, rfl⟩
  rw [hbO] at kB hne ⊢
  have HG := Lib.hid hG
  clear hV hbO hG
  go_loopw [7, 8] (fun ov v wr => ∃ (i : Nat) (vs : List Value) (GM : List (List Int)), v = .int .i64 i ∧ i ≤ bn ∧ GmOk o ln (ixOf b i) GM ∧ FT g V wr ∧ wr.ownsRow V.heap.size 22 1 ov GM.length vs ∧ LsOwn wr V.heap.size vs GM) (fun _ v _ => bn - (intOf v).toNat)
  case atStart => exact ⟨0, [], [], rfl, by omega, ⟨rfl, fun k i r e => by simp [ixOf] at e⟩, .self hF, World.ownsRow_nil _ _ _ _, .nil _ _⟩
  case round =>
    obtain ⟨i, vs, GM, rfl, hi, hgm, hT, hov, hls⟩ := hrel
    by_cases hin : i < bn
    · have hil : i < o.bs.length := by rw [HBN.out]; exact hin
      have hiL : i < BL.length := by rw [HBL.out]; exact hin
      obtain ⟨sa, rfl, -, -⟩ := inr_at hS hiL
      have hLi : BL[i] = b i := by rw [← HB.out]; unfold lf; rw [List.getD_eq_getElem?_getD, List.getElem?_eq_getElem hiL]; rfl
      have hb6 := HSIX.out i
      obtain ⟨bi, hbi⟩ : ∃ x, b i = x := ⟨_, rfl⟩
      rw [hbi] at hLi hb6
      have HBI := Lib.hid hbi
      have HLI := Lib.hid hLi
      have hbo := HOK.out.bn hil
      rw [HLN.out] at hbo
      have HBO := Lib.hid hbo
      have o6 := off_six HSIX.out i
      clear hbi hLi hbo
      have hiw : IntKind.i64.wrap ((i : Int) + 1) = (i : Int) + 1 := IntWalk.i64_in _ (by omega)
      go_wp2_with fail
      go_loopw [7, 9] (fun ov v wr => ∃ (k : Nat) (vs : List Value) (GM : List (List Int)), v = .int .i64 k ∧ (k : Int) ≤ bi ∧ GmOk o ln (ixOf b i ++ List.replicate k i) GM ∧ FT g V wr ∧ wr.ownsRow V.heap.size 22 1 ov GM.length vs ∧ LsOwn wr V.heap.size vs GM) (fun _ v _ => bi.toNat - (intOf v).toNat)
      case atStart => exact ⟨0, vs, GM, rfl, by omega, by simpa using hgm, hT, hov, hls⟩
      case round =>
        clear hgm hT hov hls vs
        obtain ⟨k, vs, GM, rfl, hk, hgm, hT, hov, hls⟩ := hrel
        obtain ⟨OA, OC, rfl⟩ := own_shape hov
        obtain ⟨gl, hgl2⟩ : ∃ x, GM.length = x := ⟨_, rfl⟩
        rw [hgl2] at hov ⊢
        have HGL := Lib.hid hgl2
        have hgl30 : gl ≤ 30 := by rw [← hgl2, hgm.len, List.length_append, ixOf_len, List.length_replicate]; omega
        clear hgl2
        obtain ⟨sa', e1, -, sc⟩ := inr_at (hT.sl hF hS (inr_no _)) hiL
        simp only [Option.some.injEq] at e1
        subst e1
        rw [HLI.out] at sc
        by_cases hkb : (k : Int) < bi
        · obtain ⟨U, rfl⟩ : ∃ U, U = wr := ⟨_, rfl⟩
          have hFU := hT.2
          have hVU := hT.size
          have hkw : IntKind.i64.wrap ((k : Int) + 1) = (k : Int) + 1 := IntWalk.i64_in _ (by omega)
          go_wp2_with fail
          clear sc
          go_loopw [10, 11] (fun lv v wr => ∃ (j : Nat) (l : List Int), v = .int .i64 j ∧ j ≤ ln ∧ l.length = j ∧ RowIn o i l ∧ FT g U wr ∧ wr.ownsRow U.heap.size 3 1 lv j (inr l).flatten) (fun _ v _ => ln - (intOf v).toNat)
          case atStart => exact ⟨0, [], rfl, by omega, rfl, fun j hj => by simp at hj, .self hFU, World.ownsRow_nil _ _ _ _⟩
          case round =>
            obtain ⟨j, l, rfl, hj, hll, hin2, hT2, hlv⟩ := hrel
            obtain ⟨RA, RC, rfl⟩ := own_shape hlv
            have hTV : FT g V wr := ⟨grownF_trans hT.1 hT2.1, hT2.2⟩
            obtain ⟨l0, l1, l2, l3, lf', lz⟩ := (hTV.bx kB hne).four
            by_cases hjl : j < ln
            · obtain ⟨ba, G, gc, rfl, -, p0, -, -, -, hgs⟩ := (hTV.ord hF hO).bs.at_ hil
              rw [Od.bn_eq hil] at p0 hgs
              rw [HBO.out.len] at p0
              have hjg : j < (o.bn i).gr.length := by rw [HBO.out.len]; exact hjl
              obtain ⟨ga, rfl, -, g0, g1⟩ := gnr_at hgs hjg
              rw [Bn.g_eq hjg] at g0 g1
              dsimp only at g0 g1
              have hgj := HBO.out.gj j
              have hjw : IntKind.i64.wrap ((j : Int) + 1) = (j : Int) + 1 := IntWalk.i64_in _ (by omega)
              obtain ⟨x1, hx1⟩ : ∃ x, (o.bn i).g1 j = x := ⟨_, rfl⟩
              obtain ⟨x2, hx2⟩ : ∃ x, (o.bn i).g2 j = x := ⟨_, rfl⟩
              rw [hx1] at g0 hgj
              rw [hx2] at g1 hgj
              have HX := Lib.hid (And.intro hx1 hx2)
              have HLL := Lib.hid hll
              clear hx1 hx2 hgs hll
              go_wp2_with (first
                | (go_at_call 51; refine (in_any g x1 x2 _ hT2.2 (by omega) (by omega) (by omega)).mono ?_; rintro e y ⟨⟨r, rfl, r1, r2⟩, hf, hg⟩; have hR2 := (own_fd hlv hT2.2 hg (by decide)).alloc (.cells #[.int .i64 r] 3); have kb := Bx.new y 3 #[.int .i64 r]; have hT3 := (hT2.call hg hf).alloc (.cells #[.int .i64 r] 3); have hVs := hT3.size)
                | (at_builtin; refine wpList_app2 rfl (.tmp 33) (.tmp 45) 22 rfl U.heap.size 3 i3 _ 1 8 Try.underlying22 hi3 hz3 hs3 iy3 rfl (by decide) (.slice RA j RC) j (inr l).flatten rfl hR2 ⟨y.heap.size, 0, none⟩ 1 1 [.int .i64 r] rfl rfl (bx_news kb) (by simp [Value.oneCell']) (by unfold maxLen; omega) (by omega) hVs ?_; intro v' w' o1 o2 o3; obtain ⟨NA, NC, rfl⟩ := own_shape o1; have hT4 := hT3.own hR2 o2 (Nat.le_refl _) (by decide))
                | fail)
              go_roundw
              case rel => exact ⟨j + 1, l ++ [r], by go_num, by omega, by simp; exact HLL.out, hin2.snoc (by rw [HLL.out, HX.out.1]; exact r1) (by rw [HLL.out, HX.out.2]; exact r2), hT4, by rw [inr_snoc]; exact o1⟩
              case measure => simp [intOf]; omega
            · obtain rfl : j = ln := by omega
              have hov2 := (own_fd hov hFU hT2.1 (by decide)).alloc (.cells #[.slice RA j RC] 22)
              have hls2 : LsOwn (wr.alloc (.cells #[.slice RA j RC] 22)) V.heap.size vs GM := (hls.ft hFU hT2.1).bel ((Below.refl _ _).alloc (Nat.le_refl _) _)
              have hT3 := hTV.alloc (.cells #[.slice RA j RC] 22)
              have kb := Bx.new wr 22 #[.slice RA j RC]
              have hr := ownsRow_up (b' := V.heap.size) (hlv.alloc (.cells #[.slice RA j RC] 22)) (fun q e => Nat.le_trans hVU (hlv.lt q e).1)
              have hVs := hT3.size
              have HLL := Lib.hid hll
              clear hll
              go_wp2_with (first
                | (at_builtin; refine wpList_app2 rfl (.tmp 47) (.tmp 49) 34 rfl V.heap.size 22 i22 _ 1 24 Try.underlying34 hi22 hz22 hs22 iy22 rfl (by decide) (.slice OA gl OC) gl vs rfl hov2 ⟨wr.heap.size, 0, none⟩ 1 1 [.slice RA j RC] rfl rfl (bx_news kb) (by simp [Value.oneCell']) (by unfold maxLen; omega) (by omega) hVs ?_; intro v' w' o1 o2 o3; obtain ⟨NA, NC, rfl⟩ := own_shape o1)
                | fail)
              go_roundw
              case rel =>
                refine ⟨k + 1, vs ++ [.slice RA j RC], GM ++ [l], by go_num, by omega, ?_, hT3.own hov2 o2 (Nat.le_refl _) (by decide), ?_, (hls2.snoc HLL.out hr).own hov2 o2 (by decide)⟩
                · rw [rep_snoc, ← List.append_assoc]; exact hgm.snoc HLL.out hin2
                · rw [List.length_append, HGL.out]; exact o1
              case measure => simp [intOf]; omega
        · obtain rfl : bi = k := by omega
          go_wp2_with fail
          go_roundw
          case rel =>
            refine ⟨i + 1, vs, GM, by go_num, by omega, ?_, hT, by rw [HGL.out]; exact hov, hls⟩
            have e : (b i).toNat = k := by rw [HBI.out]; simp
            simp only [ixOf, e]
            exact hgm
          case measure => simp [intOf]; omega
    · obtain rfl : i = bn := by omega
      obtain ⟨OA, OC, rfl⟩ := own_shape hov
      go_wp2_with fail
      go_ret
      exact ⟨⟨OA, OC, GM, rfl, hgm, hls.at_ hov⟩, hT.2, grownF_trans HG.out hT.1⟩
end Go.Proofs.Ytmemcopfeabcgaa
