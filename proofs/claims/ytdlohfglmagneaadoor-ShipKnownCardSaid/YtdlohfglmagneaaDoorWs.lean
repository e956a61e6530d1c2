/- ship.writeSill. -/
import Derived.Test.YtdlohfglmagneaaDoorWrM
import Derived.Test.YtdlohfglmagneaaDoorBsM
set_option linter.unusedSimpArgs false
set_option linter.unusedVariables false
namespace Go.Proofs.YtdlohfglmagneaaDoor
open Go Go.RowKit
theorem bel1 (w : World) (o : Obj) : Below w.heap.size w (w.alloc o) := (Below.refl _ _).alloc (Nat.le_refl _) _
theorem Sl.of_flat {w : World} {g t s : Nat} {cs : Array Value} {xs : List (List Value)} (h : Bx w g t cs) (hs : ∀ r ∈ xs, r.length = s) (hc : cs = xs.flatten.toArray) : Sl w w.heap.size s (some ⟨g, 0, none⟩) xs :=
  Sl.of_bx h fun k r hr j u hu => by
    rw [hc]
    simpa using flat_at xs hs k r hr j u hu
def nlB : ByteArray := ⟨#[10]⟩
def txt (b : ByteArray) (L : List Int) : ByteArray := rowB b L ++ nlB
def bargeB : ByteArray := ⟨#[98, 97, 114, 103, 101]⟩
def holdB : ByteArray := ⟨#[104, 111, 108, 100]⟩
def sillB : ByteArray := ⟨#[115, 105, 108, 108]⟩
def levelB : ByteArray := ⟨#[108, 101, 118, 101, 108]⟩
def lotB : ByteArray := ⟨#[108, 111, 116]⟩
def endB : ByteArray := ⟨#[101, 110, 100]⟩
def lvT (l : Lv) : ByteArray := txt levelB [l.fr, l.d0, l.d1]
def sillP (s : Si) (L : List Lv) : ByteArray := L.foldl (fun r l => r ++ lvT l) (txt sillB [s.t0, s.t1])
theorem sillP_snoc (s : Si) (L : List Lv) (l : Lv) : sillP s (L ++ [l]) = sillP s L ++ lvT l := by simp [sillP]
theorem txt_size {b : ByteArray} {L : List Int} (h : ∀ x ∈ L, -9223372036854775808 ≤ x ∧ x ≤ 9223372036854775807) : (txt b L).size ≤ b.size + 22 * L.length + 1 := by
  unfold txt
  rw [ByteArray.size_append, show nlB.size = 1 from rfl]
  have := rowB_size b h
  omega
theorem small3 {a b c : Int} (ha : 0 ≤ a ∧ a ≤ 1000000) (hb : 0 ≤ b ∧ b ≤ 1000000) (hc : 0 ≤ c ∧ c ≤ 1000000) : ∀ x ∈ [a, b, c], -9223372036854775808 ≤ x ∧ x ≤ 9223372036854775807 := by
  intro x hx
  simp at hx
  rcases hx with rfl | rfl | rfl <;> omega
theorem small2 {a b : Int} (ha : 0 ≤ a ∧ a ≤ 1000000) (hb : 0 ≤ b ∧ b ≤ 1000000) : ∀ x ∈ [a, b], -9223372036854775808 ≤ x ∧ x ≤ 9223372036854775807 := by
  intro x hx
  simp at hx
  rcases hx with rfl | rfl <;> omega
theorem lvT_size {l : Lv} (h : l.Ok) : (lvT l).size ≤ 100 := by
  have h1 := h.fr; have h2 := h.d0; have h3 := h.d01; have h4 := h.d1
  have := txt_size (b := levelB) (small3 (a := l.fr) (b := l.d0) (c := l.d1) (by omega) (by omega) (by omega))
  have e : levelB.size = 5 := rfl
  simp only [List.length_cons, List.length_nil] at this
  unfold lvT
  omega
theorem sillF_size : ∀ {L : List Lv} (r : ByteArray), (∀ l ∈ L, l.Ok) → (L.foldl (fun r l => r ++ lvT l) r).size ≤ r.size + 100 * L.length
  | [], r, _ => by simp
  | l :: L, r, h => by
    have h1 := sillF_size (L := L) (r ++ lvT l) (fun x hx => h x (by simp [hx]))
    have h2 := lvT_size (h l (by simp))
    rw [ByteArray.size_append] at h1
    simp only [List.foldl_cons, List.length_cons]
    omega
theorem sillP_size {s : Si} (h : s.Ok) {L : List Lv} (hL : ∀ l ∈ L, l.Ok) : (sillP s L).size ≤ 100 + 100 * L.length := by
  have h1 := h.t0; have h2 := h.t01; have h3 := h.t1
  have := txt_size (b := sillB) (small2 (a := s.t0) (b := s.t1) (by omega) (by omega))
  have e : sillB.size = 4 := rfl
  simp only [List.length_cons, List.length_nil] at this
  have h9 := sillF_size (L := L) (txt sillB [s.t0, s.t1]) hL
  unfold sillP
  omega
theorem ints_new {w : World} {g : Nat} {L : List Int} {cs : Array Value} (k : Bx w g 3 cs) (h : cs = ((L.map fun a => [Value.int .i64 a])).flatten.toArray) : Sl w w.heap.size 1 (some ⟨g, 0, none⟩) (inr L) :=
  Sl.of_flat k (fun r hr => by obtain ⟨y, _, rfl⟩ := List.mem_map.1 hr; rfl) h
set_option maxRecDepth 100000 in
set_option maxHeartbeats 2000000 in
theorem writeSill_any (s : Si) (G : Option Addr) (gn gc : Nat) (w : World) (hT : Tab w.heap.size w) (ho : s.Ok) (hl : s.lv.length = gn) (hG0 : Sl w w.heap.size 3 G (s.lv.map lvr)) :
    Calls Tryd.prog 28 #[.agg #[.int .i64 s.t0, .int .i64 s.t1, .slice G gn gc]] w fun e w' => e = .returned (.string (sillP s s.lv)) ∧ Below w.heap.size w w' := by
  have h_0 := ho.t0; have h_1 := ho.t01; have h_2 := ho.t1
  have hgn6 : gn ≤ 6 := by rw [← hl]; exact ho.l6
  have k1 := (Bx.new w 35 #[.int .i64 s.t0, .int .i64 s.t1, .slice G gn gc])
  have B0 := (Below.refl w.heap.size w).alloc (Nat.le_refl _) (.cells #[.int .i64 s.t0, .int .i64 s.t1, .slice G gn gc] 35)
  obtain ⟨V, hV⟩ : ∃ V, w.alloc (.cells #[.int .i64 s.t0, .int .i64 s.t1, .slice G gn gc] 35) = V := ⟨_, rfl⟩
  have hG := (hG0.below B0).more B0.size
  have hTV := hT.call B0
  rw [hV] at k1 B0 hG hTV
  have HV := Lib.hid hV
  have HL := Lib.hid hl
  have HO := Lib.hid ho
  clear hV hG0 hl ho
  have BV := bel1 V (.cells #[.int .i64 s.t0, .int .i64 s.t1] 3)
  have hTW := hTV.call BV
  have sW := ints_new (L := [s.t0, s.t1]) (Bx.new V 3 #[.int .i64 s.t0, .int .i64 s.t1]) rfl
  obtain ⟨x0, x1, x2, xf, xz⟩ := k1.three'
  go_enter Tryd.func28, Tryd.ntmps28
  go_upto_region 1 with fail
  rw [HV.out]
  go_upto_region 2 with (first
    | (go_at_call 27; refine (rowsWrite_any sillB _ 2 2 [s.t0, s.t1] _ hTW rfl (by omega) sW (by decide) (small2 (by omega) (by omega))).mono ?_; rintro e w1 ⟨rfl, hb1⟩)
    | fail)
  have BW := BV.trans (hb1.mono BV.size)
  have k2 := k1.call BW
  have hG2 := (hG.below BW).more BW.size
  have hT2 := hTV.call BW
  have B2 := B0.trans (BW.mono B0.size)
  clear x0 x1 x2 xf xz k1 hG hTV hTW sW BV hb1 BW B0
  obtain ⟨x0, x1, x2, xf, xz⟩ := k2.three'
  go_wp2_with fail
  clear x0 x1 x2 xf xz
  go_loopw [3, 5, 17] (fun tv _ iv wr => ∃ k : Nat, iv = .int .i64 k ∧ k ≤ gn ∧ tv = .string (sillP s (s.lv.take k)) ∧ Below w1.heap.size w1 wr) (fun _ _ iv _ => gn - (intOf iv).toNat)
  case atStart => exact ⟨0, rfl, by omega, rfl, Below.refl _ _⟩
  case round =>
    obtain ⟨k, rfl, hk, rfl, hB⟩ := hrel
    by_cases hkn : k < gn
    · have hkl : k < s.lv.length := by rw [HL.out]; exact hkn
      obtain ⟨ad, rfl, _, p0, p1, p2⟩ := lv_at ((hG2.below hB).more hB.size) hkl
      have hbo := HO.out.lv _ (List.getElem_mem hkl)
      have hz9 := sillP_size HO.out (L := s.lv.take k) (fun x hx => HO.out.lv x (List.mem_of_mem_take hx))
      have hz8 : (s.lv.take k).length ≤ 6 := by simp; omega
      have HTK := Lib.hid (List.take_succ_eq_append_getElem hkl)
      generalize s.lv[k] = b at *
      have h_3 := hbo.fr; have h_4 := hbo.d0; have h_5 := hbo.d01; have h_6 := hbo.d1
      have hkw : IntKind.i64.wrap ((k : Int) + 1) = (k : Int) + 1 := IntWalk.i64_in _ (by omega)
      have hz7 := lvT_size hbo
      have hz1 : ¬ 9223372036854775807 < (sillP s (List.take k s.lv)).size + (lvT b).size := by omega
      have BX := (bel1 wr (.cells #[.int .i64 b.fr, .int .i64 b.d0, .int .i64 b.d1] 32)).trans ((bel1 (wr.alloc (.cells #[.int .i64 b.fr, .int .i64 b.d0, .int .i64 b.d1] 32)) (.cells #[.int .i64 b.fr, .int .i64 b.d0, .int .i64 b.d1] 3)).mono (bel1 wr _).size)
      have hTX := (hT2.call hB).call BX
      have sX := ints_new (L := [b.fr, b.d0, b.d1]) (Bx.at (wr.alloc (.cells #[.int .i64 b.fr, .int .i64 b.d0, .int .i64 b.d1] 32)) 3 #[.int .i64 b.fr, .int .i64 b.d0, .int .i64 b.d1] (n := wr.heap.size + 1) (by simp)) rfl
      clear hkl hz9 hz8 hz7 hbo
      go_wp2_with (first
        | (go_at_call 27; refine (rowsWrite_any levelB _ 3 3 [b.fr, b.d0, b.d1] _ hTX rfl (by omega) sX (by decide) (small3 (by omega) (by omega) (by omega))).mono ?_; rintro e w2 ⟨rfl, hb2⟩; rw [show rowB levelB [b.fr, b.d0, b.d1] ++ ⟨#[10]⟩ = lvT b from rfl])
        | fail)
      exact ⟨⟨k + 1, by go_num, by omega, by rw [HTK.out, sillP_snoc], hB.trans ((BX.trans (hb2.mono BX.size)).mono hB.size)⟩, by simp [intOf]; omega⟩
    · obtain rfl : k = gn := by omega
      rw [List.take_of_length_le (by rw [HL.out]; exact Nat.le_refl _)]
      go_wp2_with fail
      go_ret
      exact ⟨rfl, B2.trans (hB.mono B2.size)⟩
def barT (v : Vg) : ByteArray := txt bargeB [v.li, v.un, v.tr, v.le]
def hdT (h : Hd) : ByteArray := txt holdB [h.rm, h.bw, h.st]
def cgT (c : Cg) : ByteArray := txt lotB [c.t0, c.t1, c.wo]
def hsP (v : Vg) (L : List Hd) : ByteArray := L.foldl (fun r h => r ++ hdT h) (barT v)
def ssP (v : Vg) (L : List Si) : ByteArray := L.foldl (fun r s => r ++ sillP s s.lv) (hsP v v.hs)
def lsP (v : Vg) (L : List Cg) : ByteArray := L.foldl (fun r c => r ++ cgT c) (ssP v v.ss)
def billT (v : Vg) : ByteArray := lsP v v.ls ++ txt endB [(v.ls.length : Int)]
theorem hsP_snoc (v : Vg) (L : List Hd) (x : Hd) : hsP v (L ++ [x]) = hsP v L ++ hdT x := by simp [hsP]
theorem ssP_snoc (v : Vg) (L : List Si) (x : Si) : ssP v (L ++ [x]) = ssP v L ++ sillP x x.lv := by simp [ssP]
theorem lsP_snoc (v : Vg) (L : List Cg) (x : Cg) : lsP v (L ++ [x]) = lsP v L ++ cgT x := by simp [lsP]
theorem fold_size {α : Type} {f : α → ByteArray} {m : Nat} : ∀ {L : List α} (r : ByteArray), (∀ l ∈ L, (f l).size ≤ m) → (L.foldl (fun r l => r ++ f l) r).size ≤ r.size + m * L.length
  | [], r, _ => by simp
  | l :: L, r, h => by
    have h1 := fold_size (L := L) (r ++ f l) (fun x hx => h x (by simp [hx]))
    have h2 := h l (by simp)
    rw [ByteArray.size_append] at h1
    simp only [List.foldl_cons, List.length_cons, Nat.mul_succ]
    omega
theorem small4 {a b c d : Int} (ha : 0 ≤ a ∧ a ≤ 1000000) (hb : 0 ≤ b ∧ b ≤ 1000000) (hc : 0 ≤ c ∧ c ≤ 1000000) (hd : 0 ≤ d ∧ d ≤ 1000000) : ∀ x ∈ [a, b, c, d], -9223372036854775808 ≤ x ∧ x ≤ 9223372036854775807 := by
  intro x hx
  simp at hx
  rcases hx with rfl | rfl | rfl | rfl <;> omega
theorem hdT_size {h : Hd} (ho : h.Ok) : (hdT h).size ≤ 100 := by
  have h1 := ho.rm; have h2 := ho.bw; have h3 := ho.st
  have := txt_size (b := holdB) (small3 (a := h.rm) (b := h.bw) (c := h.st) (by omega) (by omega) (by omega))
  have e : holdB.size = 4 := rfl
  simp only [List.length_cons, List.length_nil] at this
  unfold hdT
  omega
theorem cgT_size {c : Cg} (ho : c.Ok) : (cgT c).size ≤ 100 := by
  have h1 := ho.t0; have h2 := ho.t01; have h3 := ho.t1; have h4 := ho.wo
  have := txt_size (b := lotB) (small3 (a := c.t0) (b := c.t1) (c := c.wo) (by omega) (by omega) (by omega))
  have e : lotB.size = 3 := rfl
  simp only [List.length_cons, List.length_nil] at this
  unfold cgT
  omega
theorem sillQ_size {s : Si} (ho : s.Ok) : (sillP s s.lv).size ≤ 700 := by
  have := sillP_size ho ho.lv
  have := ho.l6
  omega
theorem barT_size {v : Vg} (ho : v.Ok) : (barT v).size ≤ 100 := by
  have h1 := ho.li; have h2 := ho.un; have h3 := ho.tr; have h4 := ho.le
  have := txt_size (b := bargeB) (small4 (a := v.li) (b := v.un) (c := v.tr) (d := v.le) (by omega) (by omega) (by omega) (by omega))
  have e : bargeB.size = 5 := rfl
  simp only [List.length_cons, List.length_nil] at this
  unfold barT
  omega
theorem hsP_size {v : Vg} (ho : v.Ok) {L : List Hd} (hL : ∀ h ∈ L, h.Ok) : (hsP v L).size ≤ 100 + 100 * L.length := by
  have := fold_size (f := hdT) (L := L) (barT v) (fun h hh => hdT_size (hL h hh))
  have := barT_size ho
  unfold hsP
  omega
theorem ssP_size {v : Vg} (ho : v.Ok) {L : List Si} (hL : ∀ h ∈ L, h.Ok) : (ssP v L).size ≤ 400 + 700 * L.length := by
  have := fold_size (f := fun s : Si => sillP s s.lv) (L := L) (hsP v v.hs) (fun h hh => sillQ_size (hL h hh))
  have := hsP_size ho ho.hs
  have := ho.h3
  unfold ssP
  omega
theorem lsP_size {v : Vg} (ho : v.Ok) {L : List Cg} (hL : ∀ h ∈ L, h.Ok) : (lsP v L).size ≤ 3200 + 100 * L.length := by
  have := fold_size (f := cgT) (L := L) (ssP v v.ss) (fun h hh => cgT_size (hL h hh))
  have := ssP_size ho ho.ss
  have := ho.s4
  unfold lsP
  omega
set_option maxRecDepth 100000 in
set_option maxHeartbeats 4000000 in
theorem write_any (v : Vg) (p : Vp) (w : World) (hT : Tab w.heap.size w) (hF : p.Fit) (hLF : LvFit v) (hV0 : VoyAt w w.heap.size v p) :
    Calls Tryd.prog 11 #[.agg (vcs v p)] w fun e w' => e = .returned (if ckV v = 0 then .tuple #[.string (billT v), .int .i64 0] else .tuple #[.string ⟨#[]⟩, .int .i64 (ckV v)]) ∧ Below w.heap.size w w' := by
  have k0 := Bx.new w 26 (vcs v p)
  have B0 := (Below.refl w.heap.size w).alloc (Nat.le_refl _) (.cells (vcs v p) 26)
  have hV := hV0.call B0
  have hTV := hT.call B0
  rw [vcs_def] at k0 B0 hV hTV ⊢
  obtain ⟨V, hVV⟩ : ∃ V, w.alloc (.cells #[.int .i64 v.li, .int .i64 v.un, .int .i64 v.tr, .slice p.HA p.hn p.hc, .int .i64 v.le, .slice p.SA p.sn p.sc, .slice p.LA p.ln p.lc] 26) = V := ⟨_, rfl⟩
  rw [hVV] at k0 B0 hV hTV
  have HVV := Lib.hid hVV
  obtain ⟨E, hE⟩ : ∃ E, ckV v = E := ⟨_, rfl⟩
  have HE := Lib.hid hE
  rw [hE]
  obtain ⟨l0, l1, l2, l3, l4, l5, l6, lf', lz⟩ := k0.seven
  by_cases hz : E = 0
  case neg =>
    have hz1 : (E != 0) = true := by simpa using hz
    simp only [if_neg hz]
    clear hE hVV
    go_enter Tryd.func11, Tryd.ntmps11
    go_wp2_with (first
      | (go_at_call 7; rw [HVV.out]; refine (check_any v p V hF hLF hV).mono ?_; rintro e w_1 ⟨rfl, hb_1⟩; rw [HE.out]; have B_1 := B0.trans (hb_1.mono B0.size))
      | fail)
    exact bodyPost_ret (v := .tuple #[.string ⟨#[]⟩, .int .i64 E]) (by simp [results, Tryd.results11, go_sem]) rfl ⟨rfl, B_1⟩
  subst hz
  have ho := ckV_ok hE
  simp only [if_pos (rfl : (0 : Int) = 0)]
  have hhn3 : p.hn ≤ 3 := by rw [← hV.hl]; exact ho.h3
  have hsn4 : p.sn ≤ 4 := by rw [← hV.sl]; exact ho.s4
  have hln6 : p.ln ≤ 6 := by rw [← hV.ll]; exact ho.l6
  have HO := Lib.hid ho
  have HHL := Lib.hid hV.hl
  have HSL := Lib.hid hV.sl
  have HLL := Lib.hid hV.ll
  have h1 := ho.li; have h2 := ho.un; have h3 := ho.tr; have h4 := ho.le
  clear hE hVV ho
  go_enter Tryd.func11, Tryd.ntmps11
  go_upto_region 4 with (first
    | (go_at_call 7; rw [HVV.out]; refine (check_any v p V hF hLF hV).mono ?_; rintro e w_1 ⟨rfl, hb_1⟩; rw [HE.out]; have B_1 := B0.trans (hb_1.mono B0.size); have k_1 := k0.call hb_1; have hV_1 := hV.call hb_1; have hT_1 := hTV.call hb_1)
    | fail)
  clear l0 l1 l2 l3 l4 l5 l6 lf' lz k0 hV hTV hb_1
  have BW := bel1 w_1 (.cells #[.int .i64 v.li, .int .i64 v.un, .int .i64 v.tr, .int .i64 v.le] 3)
  have hTW := hT_1.call BW
  have sW := ints_new (L := [v.li, v.un, v.tr, v.le]) (Bx.new w_1 3 #[.int .i64 v.li, .int .i64 v.un, .int .i64 v.tr, .int .i64 v.le]) rfl
  obtain ⟨l0, l1, l2, l3, l4, l5, l6, lf', lz⟩ := k_1.seven
  go_upto_region 5 with (first
    | (go_at_call 27; refine (rowsWrite_any bargeB _ 4 4 [v.li, v.un, v.tr, v.le] _ hTW rfl (by omega) sW (by decide) (small4 (by omega) (by omega) (by omega) (by omega))).mono ?_; rintro e w2 ⟨rfl, hb2⟩; rw [show rowB bargeB [v.li, v.un, v.tr, v.le] ++ ⟨#[10]⟩ = barT v from rfl])
    | fail)
  have B2' := BW.trans (hb2.mono BW.size)
  have k2 := k_1.call B2'
  have hV2 := hV_1.call B2'
  have hT2 := hT_1.call B2'
  have B2 := B_1.trans (B2'.mono B_1.size)
  clear l0 l1 l2 l3 l4 l5 l6 lf' lz BW hTW sW hb2 B2' k_1 hV_1 hT_1 B_1
  obtain ⟨l0, l1, l2, l3, l4, l5, l6, lf', lz⟩ := k2.seven
  go_wp2_with fail
  clear l0 l1 l2 l3 l4 l5 l6 lf' lz
  go_loopw [5, 7, 30] (fun tv _ iv wr => ∃ k : Nat, iv = .int .i64 k ∧ k ≤ p.hn ∧ tv = .string (hsP v (v.hs.take k)) ∧ Below w2.heap.size w2 wr) (fun _ _ iv _ => p.hn - (intOf iv).toNat)
  case atStart => exact ⟨0, rfl, by omega, rfl, Below.refl _ _⟩
  case round =>
    obtain ⟨k, rfl, hk, rfl, hB⟩ := hrel
    have hVr := hV2.call hB
    by_cases hkn : k < p.hn
    · have hkl : k < v.hs.length := by rw [HHL.out]; exact hkn
      obtain ⟨ad, hA, _, p0, p1, p2⟩ := hd_at hVr.hs hkl
      have hbo := HO.out.hs _ (List.getElem_mem hkl)
      have hz9 := hsP_size HO.out (L := v.hs.take k) (fun x hx => HO.out.hs x (List.mem_of_mem_take hx))
      have hz8 : (v.hs.take k).length ≤ 3 := by simp; omega
      have HTK := Lib.hid (List.take_succ_eq_append_getElem hkl)
      generalize v.hs[k] = b at *
      have h_3 := hbo.rm; have h_4 := hbo.bw; have h_5 := hbo.st
      have hkw : IntKind.i64.wrap ((k : Int) + 1) = (k : Int) + 1 := IntWalk.i64_in _ (by omega)
      have hz7 := hdT_size hbo
      have hz1 : ¬ 9223372036854775807 < (hsP v (List.take k v.hs)).size + (hdT b).size := by omega
      have BX := (bel1 wr (.cells #[.int .i64 b.rm, .int .i64 b.bw, .int .i64 b.st] 51)).trans ((bel1 (wr.alloc (.cells #[.int .i64 b.rm, .int .i64 b.bw, .int .i64 b.st] 51)) (.cells #[.int .i64 b.rm, .int .i64 b.bw, .int .i64 b.st] 3)).mono (bel1 wr _).size)
      have hTX := (hT2.call hB).call BX
      have sX := ints_new (L := [b.rm, b.bw, b.st]) (Bx.at (wr.alloc (.cells #[.int .i64 b.rm, .int .i64 b.bw, .int .i64 b.st] 51)) 3 #[.int .i64 b.rm, .int .i64 b.bw, .int .i64 b.st] (n := wr.heap.size + 1) (by simp)) rfl
      rw [hA]
      have HA := Lib.hid hA
      clear hkl hz9 hz8 hz7 hbo hA
      go_wp2_with (first
        | (go_at_call 27; refine (rowsWrite_any holdB _ 3 3 [b.rm, b.bw, b.st] _ hTX rfl (by omega) sX (by decide) (small3 (by omega) (by omega) (by omega))).mono ?_; rintro e w3 ⟨rfl, hb3⟩; rw [show rowB holdB [b.rm, b.bw, b.st] ++ ⟨#[10]⟩ = hdT b from rfl])
        | fail)
      exact ⟨⟨k + 1, by go_num, by omega, by rw [HTK.out, hsP_snoc], hB.trans ((BX.trans (hb3.mono BX.size)).mono hB.size)⟩, by simp [intOf]; omega⟩
    · obtain rfl : k = p.hn := by omega
      rw [List.take_of_length_le (by rw [HHL.out]; exact Nat.le_refl _)]
      have k2 := k2.call hB
      have hT2 := hT2.call hB
      have B2 := B2.trans (hB.mono B2.size)
      have hV2 := hVr
      clear hB hVr
      obtain ⟨w2, hw2⟩ : ∃ x, x = wr := ⟨_, rfl⟩
      subst hw2
      obtain ⟨l0, l1, l2, l3, l4, l5, l6, lf', lz⟩ := k2.seven
      go_wp2_with fail
      clear l0 l1 l2 l3 l4 l5 l6 lf' lz
      go_loopw [5, 9, 48] (fun tv _ iv wr => ∃ k : Nat, iv = .int .i64 k ∧ k ≤ p.sn ∧ tv = .string (ssP v (v.ss.take k)) ∧ Below w2.heap.size w2 wr) (fun _ _ iv _ => p.sn - (intOf iv).toNat)
      case atStart => exact ⟨0, rfl, by omega, rfl, Below.refl _ _⟩
      case round =>
        obtain ⟨k, rfl, hk, rfl, hB⟩ := hrel
        have hVr := hV2.call hB
        by_cases hkn : k < p.sn
        · have hkl : k < v.ss.length := by rw [HSL.out]; exact hkn
          obtain ⟨ad, G, gc, hA, _, p0, p1, p2, _, hG⟩ := hVr.ss.at_ hkl
          have hbo := HO.out.ss _ (List.getElem_mem hkl)
          have hz9 := ssP_size HO.out (L := v.ss.take k) (fun x hx => HO.out.ss x (List.mem_of_mem_take hx))
          have hz8 : (v.ss.take k).length ≤ 4 := by simp; omega
          have HTK := Lib.hid (List.take_succ_eq_append_getElem hkl)
          generalize v.ss[k] = b at *
          have hkw : IntKind.i64.wrap ((k : Int) + 1) = (k : Int) + 1 := IntWalk.i64_in _ (by omega)
          have hz7 := sillQ_size hbo
          have hz1 : ¬ 9223372036854775807 < (ssP v (List.take k v.ss)).size + (sillP b b.lv).size := by omega
          obtain ⟨gn, hgn⟩ : ∃ x, b.lv.length = x := ⟨_, rfl⟩
          rw [hgn] at p2
          have HGN := Lib.hid hgn
          have BX := bel1 wr (.cells #[.int .i64 b.t0, .int .i64 b.t1, .slice G gn gc] 35)
          have hTX := (hT2.call hB).call BX
          have hGX := (hG.below BX).more BX.size
          rw [hA]
          have HA := Lib.hid hA
          have HBO := Lib.hid hbo
          clear hkl hz9 hz8 hz7 hA hbo hgn
          go_wp2_with (first
            | (go_at_call 28; refine (writeSill_any b G gn gc _ hTX HBO.out HGN.out hGX).mono ?_; rintro e w3 ⟨rfl, hb3⟩)
            | fail)
          exact ⟨⟨k + 1, by go_num, by omega, by rw [HTK.out, ssP_snoc], hB.trans ((BX.trans (hb3.mono BX.size)).mono hB.size)⟩, by simp [intOf]; omega⟩
        · obtain rfl : k = p.sn := by omega
          rw [List.take_of_length_le (by rw [HSL.out]; exact Nat.le_refl _)]
          have k2 := k2.call hB
          have hT2 := hT2.call hB
          have B2 := B2.trans (hB.mono B2.size)
          have hV2 := hVr
          clear hB hVr
          obtain ⟨w2, hw2⟩ : ∃ x, x = wr := ⟨_, rfl⟩
          subst hw2
          obtain ⟨l0, l1, l2, l3, l4, l5, l6, lf', lz⟩ := k2.seven
          go_wp2_with fail
          clear l0 l1 l2 l3 l4 l5 l6 lf' lz
          go_loopw [5, 11, 60] (fun tv _ iv wr => ∃ k : Nat, iv = .int .i64 k ∧ k ≤ p.ln ∧ tv = .string (lsP v (v.ls.take k)) ∧ Below w2.heap.size w2 wr) (fun _ _ iv _ => p.ln - (intOf iv).toNat)
          case atStart => exact ⟨0, rfl, by omega, rfl, Below.refl _ _⟩
          case round =>
            obtain ⟨k, rfl, hk, rfl, hB⟩ := hrel
            have hVr := hV2.call hB
            by_cases hkn : k < p.ln
            · have hkl : k < v.ls.length := by rw [HLL.out]; exact hkn
              obtain ⟨ad, hA, _, p0, p1, p2⟩ := cg_at hVr.ls hkl
              have hbo := HO.out.ls _ (List.getElem_mem hkl)
              have hz9 := lsP_size HO.out (L := v.ls.take k) (fun x hx => HO.out.ls x (List.mem_of_mem_take hx))
              have hz8 : (v.ls.take k).length ≤ 6 := by simp; omega
              have HTK := Lib.hid (List.take_succ_eq_append_getElem hkl)
              generalize v.ls[k] = b at *
              have h_3 := hbo.t0; have h_4 := hbo.t01; have h_5 := hbo.t1; have h_6 := hbo.wo
              have hkw : IntKind.i64.wrap ((k : Int) + 1) = (k : Int) + 1 := IntWalk.i64_in _ (by omega)
              have hz7 := cgT_size hbo
              have hz1 : ¬ 9223372036854775807 < (lsP v (List.take k v.ls)).size + (cgT b).size := by omega
              have BX := (bel1 wr (.cells #[.int .i64 b.t0, .int .i64 b.t1, .int .i64 b.wo] 53)).trans ((bel1 (wr.alloc (.cells #[.int .i64 b.t0, .int .i64 b.t1, .int .i64 b.wo] 53)) (.cells #[.int .i64 b.t0, .int .i64 b.t1, .int .i64 b.wo] 3)).mono (bel1 wr _).size)
              have hTX := (hT2.call hB).call BX
              have sX := ints_new (L := [b.t0, b.t1, b.wo]) (Bx.at (wr.alloc (.cells #[.int .i64 b.t0, .int .i64 b.t1, .int .i64 b.wo] 53)) 3 #[.int .i64 b.t0, .int .i64 b.t1, .int .i64 b.wo] (n := wr.heap.size + 1) (by simp)) rfl
              rw [hA]
              have HA := Lib.hid hA
              clear hkl hz9 hz8 hz7 hbo hA
              go_wp2_with (first
                | (go_at_call 27; refine (rowsWrite_any lotB _ 3 3 [b.t0, b.t1, b.wo] _ hTX rfl (by omega) sX (by decide) (small3 (by omega) (by omega) (by omega))).mono ?_; rintro e w3 ⟨rfl, hb3⟩; rw [show rowB lotB [b.t0, b.t1, b.wo] ++ ⟨#[10]⟩ = cgT b from rfl])
                | fail)
              exact ⟨⟨k + 1, by go_num, by omega, by rw [HTK.out, lsP_snoc], hB.trans ((BX.trans (hb3.mono BX.size)).mono hB.size)⟩, by simp [intOf]; omega⟩
            · obtain rfl : k = p.ln := by omega
              rw [List.take_of_length_le (by rw [HLL.out]; exact Nat.le_refl _)]
              have k2 := k2.call hB
              have hT2 := hT2.call hB
              have B2 := B2.trans (hB.mono B2.size)
              obtain ⟨l0, l1, l2, l3, l4, l5, l6, lf', lz⟩ := k2.seven
              have BX := bel1 wr (.cells #[.int .i64 p.ln] 3)
              have hTX := hT2.call BX
              have sX := ints_new (L := [(p.ln : Int)]) (Bx.new wr 3 #[.int .i64 p.ln]) rfl
              have hz9 := lsP_size HO.out (L := v.ls) HO.out.ls
              have hz6 := txt_size (b := endB) (L := [(p.ln : Int)]) (by intro x hx; simp at hx; omega)
              have hz5 : endB.size = 3 := rfl
              have hz4 := HLL.out
              have hz1 : ¬ 9223372036854775807 < (lsP v v.ls).size + (txt endB [(p.ln : Int)]).size := by simp only [List.length_cons, List.length_nil] at hz6; omega
              clear hz9 hz6 hz5 hz4
              go_wp2_with (first
                | (go_at_call 27; refine (rowsWrite_any endB _ 1 1 [(p.ln : Int)] _ hTX rfl (by omega) sX (by decide) (by intro x hx; simp at hx; omega)).mono ?_; rintro e w3 ⟨rfl, hb3⟩; rw [show rowB endB [(p.ln : Int)] ++ ⟨#[10]⟩ = txt endB [(p.ln : Int)] from rfl])
                | fail)
              exact bodyPost_ret (v := .tuple #[.string (lsP v v.ls ++ txt endB [(p.ln : Int)]), .int .i64 0]) (by simp [results, Tryd.results11, go_sem]) rfl ⟨by unfold billT; rw [HLL.out], B2.trans ((BX.trans (hb3.mono BX.size)).mono B2.size)⟩
end Go.Proofs.YtdlohfglmagneaaDoor
