/- swarflaw06.anyProof: proofs of a box, made in some way. -/
import Derived.Test.YtmemcopfeabcgaaVa
import Derived.Test.YtmemcopfeabcgaaBs
import Derived.Test.YtmemcopfeabcgaaEz
import Derived.Test.YtmemcopfeabcgaaEx
import Derived.Test.YtmemcopfeabcgaaKt
import Derived.Test.YtmemcopfeabcgaaCopy
set_option linter.unusedSimpArgs false
set_option linter.unusedVariables false
namespace Go.Proofs.Ytmemcopfeabcgaa
open Go Go.RowKit
/-- A proof that has the form of one, whatever its reasons say. -/
inductive PTree (o : Od) : (Nat → Int) → (Nat → Int) → List Bd → Prop
  | leaf {lo hi : Nat → Int} {r : Bd} (h1 : 2 ≤ r.rs) (h2 : r.rs ≤ 5) : PTree o lo hi [r]
  | cut {lo hi : Nat → Int} {m : Nat} {c : Int} {X Y : List Bd} (hm : m < o.bs.length) (h1 : lo m ≤ c) (h2 : c < hi m) (hX : PTree o lo (up1 hi m c) X) (hY : PTree o (up1 lo m (c + 1)) hi Y) : PTree o lo hi (⟨1, m, c⟩ :: (X ++ Y))
theorem PTree.vfy {o : Od} {p : Int} (ho : o.Ok) {lo hi : Nat → Int} {X : List Bd} (h : PTree o lo hi X) : ∀ (n : Nat) (R : List Bd), wid lo hi < n → ((vfy o p n lo hi (X ++ R)).2 = 0 → (vfy o p n lo hi (X ++ R)).1 = R) ∧ ((vfy o p n lo hi (X ++ R)).2 = 0 ∨ (vfy o p n lo hi (X ++ R)).2 = 9 ∨ (vfy o p n lo hi (X ++ R)).2 = 3) := by
  induction h with
  | @leaf lo hi r h1 h2 =>
    intro n R hn
    obtain ⟨n, rfl⟩ : ∃ k, n = k + 1 := ⟨n - 1, by omega⟩
    have hc : ckBd o p lo hi r = 0 ∨ ckBd o p lo hi r = 9 ∨ ckBd o p lo hi r = 3 := by
      unfold ckBd
      rw [if_neg (by omega)]
      split
      · exact .inr (.inr rfl)
      · rw [if_neg (by omega)]
        split
        · exact .inl rfl
        · exact .inr (.inl rfl)
    simp only [List.cons_append, List.nil_append]
    unfold Go.Proofs.Ytmemcopfeabcgaa.vfy
    by_cases h0 : ckBd o p lo hi r = 0
    · rw [if_neg (fun h => h h0), if_pos (by omega)]
      exact ⟨fun _ => rfl, .inl rfl⟩
    · rw [if_pos h0]
      exact ⟨fun h => absurd h h0, hc⟩
  | @cut lo hi m c X Y hm h1 h2 hX hY ihX ihY =>
    intro n R hn
    obtain ⟨n, rfl⟩ : ∃ k, n = k + 1 := ⟨n - 1, by omega⟩
    have hm4 : m < 4 := by have := ho.b2; omega
    have hwl := wid_lower hm4 h1 h2
    have hwu := wid_upper hm4 h1 h2
    obtain ⟨a1, a2⟩ := ihX n (Y ++ R) (by omega)
    obtain ⟨b1, b2⟩ := ihY n R (by omega)
    have hc : ckBd o p lo hi ⟨1, m, c⟩ = 0 := by
      unfold ckBd
      dsimp only
      rw [if_pos rfl, if_neg (by omega), Int.toNat_natCast, if_neg (by omega)]
    simp only [List.cons_append, List.append_assoc]
    unfold Go.Proofs.Ytmemcopfeabcgaa.vfy
    rw [if_neg (fun h => h hc), if_neg (fun h => h rfl)]
    dsimp only
    rw [Int.toNat_natCast]
    by_cases h0 : (Go.Proofs.Ytmemcopfeabcgaa.vfy o p n lo (up1 hi m c) (X ++ (Y ++ R))).2 = 0
    · rw [if_neg (fun h => h h0), a1 h0]
      exact ⟨b1, b2⟩
    · rw [if_pos h0]
      exact ⟨fun h => absurd h h0, a2⟩
theorem PTree.len {o : Od} (hb : o.bs.length ≤ 4) {lo hi : Nat → Int} {X : List Bd} (h : PTree o lo hi X) : ∀ n : Nat, wid lo hi ≤ n → X.length + 1 ≤ 2 ^ (n + 1) := by
  induction h with
  | leaf _ _ => intro n _; have := Nat.one_le_two_pow (n := n); rw [Nat.pow_succ]; simp; omega
  | @cut lo hi m c X Y hm h1 h2 _ _ ihX ihY =>
    intro n hn
    have hm4 : m < 4 := by omega
    have hwl := wid_lower hm4 h1 h2
    have hwu := wid_upper hm4 h1 h2
    obtain ⟨n, rfl⟩ : ∃ k, n = k + 1 := ⟨n - 1, by omega⟩
    have a := ihX n (by omega)
    have b := ihY n (by omega)
    rw [Nat.pow_succ]
    simp
    omega
theorem PTree.vrf {o : Od} {p : Int} (ho : o.Ok) {X : List Bd} (h : PTree o zer o.mx X) (hl : X.length ≤ 6000) : vrf o p X = 0 ∨ vrf o p X = 9 ∨ vrf o p X = 3 := by
  obtain ⟨a, b⟩ := h.vfy (p := p) ho 25 [] (wid_mx ho)
  rw [List.append_nil] at a b
  unfold Go.Proofs.Ytmemcopfeabcgaa.vrf
  rw [if_neg (by omega)]
  by_cases h0 : (Go.Proofs.Ytmemcopfeabcgaa.vfy o p 25 zer o.mx X).2 = 0
  · rw [if_neg (fun h => h h0), a h0]; simp
  · rw [if_pos h0]; exact b
theorem lf_set {L : List Int} {m : Nat} (h : m < L.length) (c : Int) : lf (L.set m c) = up1 (lf L) m c := by
  funext i
  show (L.set m c).getD i 0 = if i = m then c else L.getD i 0
  rw [List.getD_eq_getElem?_getD, List.getD_eq_getElem?_getD]
  by_cases e : i = m
  · subst e; rw [if_pos rfl, List.getElem?_set_self h]; rfl
  · rw [if_neg e, List.getElem?_set_ne (Ne.symm e)]
theorem inr_set {lm : List Int} {i : Nat} (hi : i < lm.length) (z : Int) : (inr lm).flatten.set i (.int .i64 z) = (inr (lm.set i z)).flatten := by
  have := flatten_set (s := 1) (inr lm) (inr_one lm) i 0 [.int .i64 lm[i]] (.int .i64 z) (by simp [inr, List.getElem?_eq_getElem hi]) (by omega)
  rw [Nat.mul_one, Nat.add_zero] at this
  rw [this]
  simp [inr, List.map_set]
theorem bdrs_cut (r : Bd) (X Y : List Bd) : bdrs (r :: (X ++ Y)) = bdr r ++ bdrs X ++ bdrs Y := by simp [bdrs]
theorem bdrs_len (L : List Bd) : (bdrs L).length = L.length * 3 := by
  induction L with
  | nil => rfl
  | cons r L ih => simp only [bdrs, List.map_cons, List.flatten_cons, List.length_append, List.length_cons] at ih ⊢; rw [ih]; simp [bdr]; omega
theorem bdrs_cell (L : List Bd) : ∀ u ∈ bdrs L, u.oneCell' = true := by
  intro u hu
  unfold bdrs at hu
  obtain ⟨r, hr, hu⟩ := List.mem_flatten.1 hu
  obtain ⟨b, _, rfl⟩ := List.mem_map.1 hr
  exact bd_one b u hu
theorem info69 : (Try.prog.info? 69).map (fun i => (i.zero, i.size, i.bytes)) = some (some (.agg #[.int .i64 0, .int .i64 0, .int .i64 0]), 3, 24) := by kernel_rfl
/-- What anyProof gives. -/
def AnyP (g : Nat) (o : Od) (lo hi : Nat → Int) (w : World) (e : Ending) (w' : World) : Prop :=
  ∃ (A : Option Addr) (c : Nat) (X : List Bd), e = .returned (.slice A X.length c) ∧ PTree o lo hi X ∧ w'.ownsRow w.heap.size 69 3 (.slice A X.length c) X.length (bdrs X) ∧ FT g w w'
theorem made69 {w : World} {b : Nat} (r : Bd) (hb : b ≤ w.heap.size) : (w.alloc (.cells #[.int .i64 r.rs, .int .i64 r.at_, .int .i64 r.ct] 69)).ownsRow b 69 3 (.slice (some ⟨w.heap.size, 0, none⟩) 1 1) 1 (bdr r) :=
  ⟨rfl, .inr ⟨w.heap.size, 1, #[.int .i64 r.rs, .int .i64 r.at_, .int .i64 r.ct], rfl, hb, Bx.new _ _ _, by omega, by unfold maxLen; omega, rfl, rfl⟩⟩
set_option maxRecDepth 100000 in
set_option maxHeartbeats 8000000 in
theorem anyProof_any (LA : Option Addr) (ln lc : Nat) (BA : Option Addr) (bn bc : Nat) (o : Od) (p : Int) (g : Nat) (hl : o.lm.length = ln) (hb' : o.bs.length = bn) (ho : o.Ok) : ∀ (fuel : Nat) (Lo Hi : List Int) (SA TA : Option Addr) (sc tc : Nat) (w : World), wid (lf Lo) (lf Hi) < fuel → BoxOk (lf Lo) (lf Hi) → Lo.length = bn → Hi.length = bn → OrdAt w w.heap.size LA BA o → Sl w w.heap.size 1 SA (inr Lo) → Sl w w.heap.size 1 TA (inr Hi) → Fd g w → wid (lf Lo) (lf Hi) ≤ 24 →
    Calls Try.prog 30 #[.pointer (some ⟨g, 0, none⟩), .agg #[.slice LA ln lc, .int .i64 o.le, .int .i64 o.mo, .slice BA bn bc], .slice SA bn sc, .slice TA bn tc, .int .i64 p] w (AnyP g o (lf Lo) (lf Hi) w) := by
  have HB := Lib.hid hb'
  have HL := Lib.hid hl
  have HO := Lib.hid ho
  have hbn4 : bn ≤ 4 := by rw [← hb']; exact ho.b2
  have hbn1 : 1 ≤ bn := by rw [← hb']; exact ho.b1
  have hln3 : ln ≤ 3 := by rw [← hl]; exact ho.lm
  obtain ⟨i69, hi69, hz69, hs69, iy69⟩ := info_parts info69
  clear hb' hl ho
  intro fuel
  induction fuel with
  | zero => intro Lo Hi SA TA sc tc w hw; omega
  | succ fuel ih =>
    intro Lo Hi SA TA sc tc w hw hbx hlo hhi hA hSL hSH hF hw24
    have IH := Lib.hid ih
    have HX := Lib.hid hbx
    have HLO := Lib.hid hlo
    have HHI := Lib.hid hhi
    clear ih hbx hlo hhi
    have k1 := Bx.new w 27 #[.slice LA ln lc, .int .i64 o.le, .int .i64 o.mo, .slice BA bn bc]
    have hT := (FT.self hF).alloc (.cells #[.slice LA ln lc, .int .i64 o.le, .int .i64 o.mo, .slice BA bn bc] 27)
    have hgl := hF.lt
    obtain ⟨V, hV⟩ : ∃ V, w.alloc (.cells #[.slice LA ln lc, .int .i64 o.le, .int .i64 o.mo, .slice BA bn bc] 27) = V := ⟨_, rfl⟩
    rw [hV] at k1 hT
    have HV := Lib.hid hV
    obtain ⟨b0, hb0⟩ : ∃ b, w.heap.size = b := ⟨_, rfl⟩
    have hgb : b0 ≠ g := by omega
    have hwb : w.heap.size ≤ b0 := by omega
    have hb0l := k1.lt
    rw [hb0] at k1 hb0l
    have HB0 := Lib.hid hb0
    clear hV hb0
    obtain ⟨l0, l1, l2, l3, lf', lz⟩ := k1.four
    go_enter Try.func30, Try.ntmps30
    go_upto_region 1 with fail
    rw [HV.out, HB0.out]
    go_upto_region 2 with (first | (go_at_call 25; refine (below_any g bn _ hT.2 (by omega) (by omega)).mono ?_; rintro e y1 ⟨⟨r, rfl, r1, r2⟩, hf1, hg1⟩) | fail)
    have hT1 := hT.call hg1 hf1
    have k2 := k1.grown hg1 (by simpa using hgb)
    obtain ⟨at_, rfl⟩ : ∃ a : Nat, r = a := ⟨r.toNat, by omega⟩
    have hab : at_ < bn := by omega
    clear l0 l1 l2 l3 lf' lz k1 hT hg1 hf1 r1 r2 HV
    have hA1 := FT.ord hT1 hF hA
    have hL1 := FT.sl hT1 hF hSL (inr_no _)
    have hH1 := FT.sl hT1 hF hSH (inr_no _)
    obtain ⟨sa, rfl, hsa, hx⟩ := inr_at hL1 (by rw [HLO.out]; exact hab)
    obtain ⟨ta, rfl, hta, hy⟩ := inr_at hH1 (by rw [HHI.out]; exact hab)
    have elo : Lo[at_]'(by rw [HLO.out]; exact hab) = lf Lo at_ := by unfold lf; rw [List.getD_eq_getElem?_getD, List.getElem?_eq_getElem (by rw [HLO.out]; exact hab)]; rfl
    have ehi : Hi[at_]'(by rw [HHI.out]; exact hab) = lf Hi at_ := by unfold lf; rw [List.getD_eq_getElem?_getD, List.getElem?_eq_getElem (by rw [HHI.out]; exact hab)]; rfl
    rw [elo] at hx
    rw [ehi] at hy
    clear elo ehi
    have x6 := HX.out.six at_
    have y6 := HX.out.six2 at_
    have xy := HX.out.le at_ (by omega)
    obtain ⟨x, hxe⟩ : ∃ x, lf Lo at_ = x := ⟨_, rfl⟩
    obtain ⟨y, hye⟩ : ∃ x, lf Hi at_ = x := ⟨_, rfl⟩
    rw [hxe] at hx x6 xy
    rw [hye] at hy y6 xy
    have HXY := Lib.hid (And.intro hxe hye)
    clear hxe hye
    have hF1 := hT1.2
    have CX : ∀ z, FT g y1 z → z.cell? (sa.add at_) = some (.int .i64 x) := fun z hz => by
      obtain ⟨s2, e1, _, q⟩ := inr_at (hz.sl hF1 hL1 (inr_no _)) (by rw [HLO.out]; exact hab)
      simp only [Option.some.injEq] at e1
      subst e1
      rw [q, ← HXY.out.1]; unfold lf; rw [List.getD_eq_getElem?_getD, List.getElem?_eq_getElem (by rw [HLO.out]; exact hab)]; rfl
    have CY : ∀ z, FT g y1 z → z.cell? (ta.add at_) = some (.int .i64 y) := fun z hz => by
      obtain ⟨s2, e1, _, q⟩ := inr_at (hz.sl hF1 hH1 (inr_no _)) (by rw [HHI.out]; exact hab)
      simp only [Option.some.injEq] at e1
      subst e1
      rw [q, ← HXY.out.2]; unfold lf; rw [List.getD_eq_getElem?_getD, List.getElem?_eq_getElem (by rw [HHI.out]; exact hab)]; rfl
    have HCX := Lib.hid CX
    have HCY := Lib.hid CY
    clear CX CY hx hy
    by_cases hxy : x = y
    · subst hxy
      go_wp2_with fail
      refine AnyG.startC (by kernel_rfl) ?_
      refine AnyG.takeP (i := 0) (v := ?_) rfl (by kernel_rfl) (fun _ _ _ h => h) rfl ?_ ?_
      rotate_left
      · (intro w'; go_simp; try with_reducible rfl)
      try simp only [Act.put, List.getElem_toArray, List.getElem_cons_succ, List.getElem_cons_zero, List.setIfInBounds_toArray, List.set_cons_zero, List.set_cons_succ]
      refine AnyG.takeP (i := 1) (v := ?_) rfl (by kernel_rfl) (fun _ _ _ h => h) rfl ?_ ?_
      rotate_left
      · (intro w'; go_simp; try with_reducible rfl)
      try simp only [Act.put, List.getElem_toArray, List.getElem_cons_succ, List.getElem_cons_zero, List.setIfInBounds_toArray, List.set_cons_zero, List.set_cons_succ]
      refine AnyG.takeP (i := 2) (v := ?_) rfl (by kernel_rfl) (fun _ _ _ h => h) rfl ?_ ?_
      rotate_left
      · (intro w'; go_simp; try with_reducible rfl)
      try simp only [Act.put, List.getElem_toArray, List.getElem_cons_succ, List.getElem_cons_zero, List.setIfInBounds_toArray, List.set_cons_zero, List.set_cons_succ]
      refine AnyG.takeP (i := 4) (v := ?_) rfl (by kernel_rfl) (fun _ _ _ h => h) rfl ?_ ?_
      rotate_left
      · (intro w'; go_simp; try with_reducible rfl)
      try simp only [Act.put, List.getElem_toArray, List.getElem_cons_succ, List.getElem_cons_zero, List.setIfInBounds_toArray, List.set_cons_zero, List.set_cons_succ]
      refine AnyG.takeP (i := 5) (v := ?_) rfl (by kernel_rfl) (fun _ _ _ h => h) rfl ?_ ?_
      rotate_left
      · (intro w'; go_simp; try with_reducible rfl)
      try simp only [Act.put, List.getElem_toArray, List.getElem_cons_succ, List.getElem_cons_zero, List.setIfInBounds_toArray, List.set_cons_zero, List.set_cons_succ]
      refine AnyG.takeP (i := 6) (v := ?_) rfl (by kernel_rfl) (fun _ _ _ h => h) rfl ?_ ?_
      rotate_left
      · (intro w'; go_simp; try with_reducible rfl)
      try simp only [Act.put, List.getElem_toArray, List.getElem_cons_succ, List.getElem_cons_zero, List.setIfInBounds_toArray, List.set_cons_zero, List.set_cons_succ]
      refine AnyG.enter (fun w' : World => FT g y1 w') (fun i => true) ?_
      have hS : (fun w' : World => FT g y1 w') (World.drew _) := (FT.self hF1).drew
      refine AnyG.takeC (i := 3) (v := ?_) rfl (by kernel_rfl) (fun _ _ _ h => h) rfl ?_ hS ?_
      rotate_left
      · (intro w' hSw; (try dsimp only at hSw); have q := HCX.out _ hSw; go_simp; try with_reducible rfl)
      try simp only [Act.put, List.getElem_toArray, List.getElem_cons_succ, List.getElem_cons_zero, List.setIfInBounds_toArray, List.set_cons_zero, List.set_cons_succ]
      refine AnyG.takeC (i := 7) (v := ?_) rfl (by kernel_rfl) (fun _ _ _ h => h) rfl ?_ hS ?_
      rotate_left
      · (intro w' hSw; (try dsimp only at hSw); have q := HCY.out _ hSw; go_simp; try with_reducible rfl)
      try simp only [Act.put, List.getElem_toArray, List.getElem_cons_succ, List.getElem_cons_zero, List.setIfInBounds_toArray, List.set_cons_zero, List.set_cons_succ]
      refine AnyG.takeC (i := 8) (v := ?_) rfl (by kernel_rfl) (fun _ _ _ h => h) rfl ?_ hS ?_
      rotate_left
      · (intro w' hSw; (try dsimp only at hSw); go_simp; try with_reducible rfl)
      try simp only [Act.put, List.getElem_toArray, List.getElem_cons_succ, List.getElem_cons_zero, List.setIfInBounds_toArray, List.set_cons_zero, List.set_cons_succ]
      refine AnyG.takeC (i := 9) (v := ?_) rfl (by kernel_rfl) (fun _ _ _ h => h) rfl ?_ hS ?_
      rotate_left
      · (intro w' hSw; (try dsimp only at hSw); go_simp; try with_reducible rfl)
      try simp only [Act.put, List.getElem_toArray, List.getElem_cons_succ, List.getElem_cons_zero, List.setIfInBounds_toArray, List.set_cons_zero, List.set_cons_succ]
      refine AnyG.takeNC (i := 10) rfl (by kernel_rfl) (fun _ _ _ h => h) (by first | (simp [Region.wanted, yielded]; done) | simp [Region.wanted, yielded, undef]) hS ?_
      try simp only [Act.put, List.getElem_toArray, List.getElem_cons_succ, List.getElem_cons_zero, List.setIfInBounds_toArray, List.set_cons_zero, List.set_cons_succ]
      refine AnyG.takeNC (i := 11) rfl (by kernel_rfl) (fun _ _ _ h => h) (by first | (simp [Region.wanted, yielded]; done) | simp [Region.wanted, yielded, undef]) hS ?_
      try simp only [Act.put, List.getElem_toArray, List.getElem_cons_succ, List.getElem_cons_zero, List.setIfInBounds_toArray, List.set_cons_zero, List.set_cons_succ]
      refine AnyG.takeC (i := 12) (v := ?_) rfl (by kernel_rfl) (fun _ _ _ h => h) rfl ?_ hS ?_
      rotate_left
      · (intro w' hSw; (try dsimp only at hSw); go_simp; try with_reducible rfl)
      try simp only [Act.put, List.getElem_toArray, List.getElem_cons_succ, List.getElem_cons_zero, List.setIfInBounds_toArray, List.set_cons_zero, List.set_cons_succ]
      refine AnyG.done (by kernel_rfl) ?_ _
      have hT2 := hT1.drew
      go_simp
      go_upto_region 4 with (first | (go_at_call 32; refine (between_any g 2 5 _ hT2.2 (by omega) (by omega) (by omega) (by omega)).mono ?_; rintro e y3 ⟨⟨rr, rfl, rr1, rr2⟩, hf3, hg3⟩) | fail)
      have hT3 := hT2.call hg3 hf3
      have k3 := (k2.drew.grown hg3 (by simpa using hgb)).alloc (.cells #[.int .i64 rr, .int .i64 0, .int .i64 0] 69)
      have hTe := hT3.alloc (.cells #[.int .i64 rr, .int .i64 0, .int .i64 0] 69)
      have kb := Bx.new y3 69 #[.int .i64 rr, .int .i64 0, .int .i64 0]
      have hys := hT3.2.lt
      have hyw := hT3.size
      obtain ⟨V3, hV3⟩ : ∃ X, y3.alloc (.cells #[.int .i64 rr, .int .i64 0, .int .i64 0] 69) = X := ⟨_, rfl⟩
      rw [hV3] at k3 hTe kb ⊢
      obtain ⟨b12, hb12⟩ : ∃ b, y3.heap.size = b := ⟨_, rfl⟩
      rw [hb12] at kb hys hyw ⊢
      have hgb2 : g ≠ b12 := by omega
      clear hV3 hb12 hT3 hg3 hf3
      obtain ⟨q0, q1, q2, qf, qz⟩ := kb.three
      by_cases h4 : rr = 4
      · subst h4
        obtain ⟨l0, l1, l2, l3, lf', lz⟩ := k3.four
        go_upto_region 6 with (first | (go_at_call 25; refine (below_any g ln _ hTe.2 (by omega) (by omega)).mono ?_; rintro e y5 ⟨⟨mm, rfl, mm1, mm2⟩, hf5, hg5⟩; have kb5 := kb.grown hg5 (by simpa using Ne.symm hgb2); clear q0 q1 q2 qf qz; obtain ⟨q0, q1, q2, qf, qz⟩ := kb5.three) | fail)
        clear l0 l1 l2 l3 lf' lz q0 q1 q2 qf qz
        replace hTe := (hTe.call hg5 hf5).set_ hyw hgb2 1 (.int .i64 mm)
        replace kb := kb5.set_ 1 (.int .i64 mm)
        have kb6 : Bx (y5.setCell ⟨b12, 1, none⟩ (.int .i64 mm)) b12 69 #[.int .i64 4, .int .i64 mm, .int .i64 0] := by simpa using kb
        obtain ⟨V5, hV5⟩ : ∃ X, y5.setCell ⟨b12, 1, none⟩ (.int .i64 mm) = X := ⟨_, rfl⟩
        rw [hV5] at hTe kb6 ⊢
        clear hV5 kb5 kb
        obtain ⟨q0, q1, q2, qf, qz⟩ := kb6.three
        go_wp2_with fail
        go_ret
        have oR := made69 (w := V5) (b := w.heap.size) ⟨4, mm, 0⟩ (by have := hTe.size; omega)
        exact ⟨_, _, [⟨4, mm, 0⟩], rfl, .leaf (by dsimp only; omega) (by dsimp only; omega), by rw [bdrs_one]; exact oR, hTe.alloc _⟩
      · have d4 : (rr == 4) = false := by simp; exact h4
        go_wp2_with fail
        go_ret
        have oR := made69 (w := V3) (b := w.heap.size) ⟨rr, 0, 0⟩ (by have := hTe.size; omega)
        exact ⟨_, _, [⟨rr, 0, 0⟩], rfl, .leaf (by dsimp only; omega) (by dsimp only; omega), by rw [bdrs_one]; exact oR, hTe.alloc _⟩
    · have dxy : (x == y) = false := by simp; exact hxy
      have hlt : x < y := by omega
      clear hxy
      go_wp2_with fail
      refine AnyG.startC (by kernel_rfl) ?_
      refine AnyG.takeP (i := 0) (v := ?_) rfl (by kernel_rfl) (fun _ _ _ h => h) rfl ?_ ?_
      rotate_left
      · (intro w'; go_simp; try with_reducible rfl)
      try simp only [Act.put, List.getElem_toArray, List.getElem_cons_succ, List.getElem_cons_zero, List.setIfInBounds_toArray, List.set_cons_zero, List.set_cons_succ]
      refine AnyG.takeP (i := 1) (v := ?_) rfl (by kernel_rfl) (fun _ _ _ h => h) rfl ?_ ?_
      rotate_left
      · (intro w'; go_simp; try with_reducible rfl)
      try simp only [Act.put, List.getElem_toArray, List.getElem_cons_succ, List.getElem_cons_zero, List.setIfInBounds_toArray, List.set_cons_zero, List.set_cons_succ]
      refine AnyG.takeP (i := 2) (v := ?_) rfl (by kernel_rfl) (fun _ _ _ h => h) rfl ?_ ?_
      rotate_left
      · (intro w'; go_simp; try with_reducible rfl)
      try simp only [Act.put, List.getElem_toArray, List.getElem_cons_succ, List.getElem_cons_zero, List.setIfInBounds_toArray, List.set_cons_zero, List.set_cons_succ]
      refine AnyG.takeP (i := 4) (v := ?_) rfl (by kernel_rfl) (fun _ _ _ h => h) rfl ?_ ?_
      rotate_left
      · (intro w'; go_simp; try with_reducible rfl)
      try simp only [Act.put, List.getElem_toArray, List.getElem_cons_succ, List.getElem_cons_zero, List.setIfInBounds_toArray, List.set_cons_zero, List.set_cons_succ]
      refine AnyG.takeP (i := 5) (v := ?_) rfl (by kernel_rfl) (fun _ _ _ h => h) rfl ?_ ?_
      rotate_left
      · (intro w'; go_simp; try with_reducible rfl)
      try simp only [Act.put, List.getElem_toArray, List.getElem_cons_succ, List.getElem_cons_zero, List.setIfInBounds_toArray, List.set_cons_zero, List.set_cons_succ]
      refine AnyG.takeP (i := 6) (v := ?_) rfl (by kernel_rfl) (fun _ _ _ h => h) rfl ?_ ?_
      rotate_left
      · (intro w'; go_simp; try with_reducible rfl)
      try simp only [Act.put, List.getElem_toArray, List.getElem_cons_succ, List.getElem_cons_zero, List.setIfInBounds_toArray, List.set_cons_zero, List.set_cons_succ]
      refine AnyG.enter (fun w' : World => FT g y1 w') (fun i => true) ?_
      have hS : (fun w' : World => FT g y1 w') (World.drew _) := (FT.self hF1).drew
      refine AnyG.takeC (i := 3) (v := ?_) rfl (by kernel_rfl) (fun _ _ _ h => h) rfl ?_ hS ?_
      rotate_left
      · (intro w' hSw; (try dsimp only at hSw); have q := HCX.out _ hSw; go_simp; try with_reducible rfl)
      try simp only [Act.put, List.getElem_toArray, List.getElem_cons_succ, List.getElem_cons_zero, List.setIfInBounds_toArray, List.set_cons_zero, List.set_cons_succ]
      refine AnyG.takeC (i := 7) (v := ?_) rfl (by kernel_rfl) (fun _ _ _ h => h) rfl ?_ hS ?_
      rotate_left
      · (intro w' hSw; (try dsimp only at hSw); have q := HCY.out _ hSw; go_simp; try with_reducible rfl)
      try simp only [Act.put, List.getElem_toArray, List.getElem_cons_succ, List.getElem_cons_zero, List.setIfInBounds_toArray, List.set_cons_zero, List.set_cons_succ]
      refine AnyG.takeC (i := 8) (v := ?_) rfl (by kernel_rfl) (fun _ _ _ h => h) rfl ?_ hS ?_
      rotate_left
      · (intro w' hSw; (try dsimp only at hSw); go_simp; try with_reducible rfl)
      try simp only [Act.put, List.getElem_toArray, List.getElem_cons_succ, List.getElem_cons_zero, List.setIfInBounds_toArray, List.set_cons_zero, List.set_cons_succ]
      refine AnyG.takeC (i := 9) (v := ?_) rfl (by kernel_rfl) (fun _ _ _ h => h) rfl ?_ hS ?_
      rotate_left
      · (intro w' hSw; (try dsimp only at hSw); go_simp; try with_reducible rfl)
      try simp only [Act.put, List.getElem_toArray, List.getElem_cons_succ, List.getElem_cons_zero, List.setIfInBounds_toArray, List.set_cons_zero, List.set_cons_succ]
      refine AnyG.takeGC (i := 10) (v := ?_) rfl (by kernel_rfl) (fun _ _ _ h => h) (by first | (simp [Region.wanted, yielded]; done) | simp [Region.wanted, yielded, undef]) ?_ hS ?_
      rotate_left
      · (intro w' hSw; (try dsimp only at hSw); go_simp; try with_reducible rfl)
      try simp only [Act.put, List.getElem_toArray, List.getElem_cons_succ, List.getElem_cons_zero, List.setIfInBounds_toArray, List.set_cons_zero, List.set_cons_succ]
      refine AnyG.oneC (i := 11) (by kernel_rfl) rfl (by first | (simp [Region.wanted, yielded]; done) | simp [Region.wanted, yielded, undef]) ?_
      go_simp
      refine (often_any g 2 5 _ hS.2 (by omega) (by omega)).mono ?_
      rintro eo yo ⟨⟨ob, rfl⟩, hfo, hgo⟩
      refine Onward.on (hS.call hgo hfo) (fun hS2 => ?_)
      clear hS
      have hS := hS2
      clear hS2
      try simp only [Act.put, List.getElem_toArray, List.getElem_cons_succ, List.getElem_cons_zero, List.setIfInBounds_toArray, List.set_cons_zero, List.set_cons_succ]
      refine AnyG.takeC (i := 12) (v := ?_) rfl (by kernel_rfl) (fun _ _ _ h => h) rfl ?_ hS ?_
      rotate_left
      · (intro w' hSw; (try dsimp only at hSw); go_simp; try with_reducible rfl)
      try simp only [Act.put, List.getElem_toArray, List.getElem_cons_succ, List.getElem_cons_zero, List.setIfInBounds_toArray, List.set_cons_zero, List.set_cons_succ]
      refine AnyG.done (by kernel_rfl) ?_ _
      have hSo : FT g y1 yo := hS
      clear hS
      go_simp
      have hTo := hT1.call hSo.1 hSo.2
      have ko := hSo.bx k2 hgb
      cases ob
      · have hyw1 : IntKind.i64.wrap (y - 1) = y - 1 := IntWalk.i64_in _ (by omega)
        go_upto_region 7 with fail
        go_wp2_with fail
        refine AnyG.startC (by kernel_rfl) ?_
        refine AnyG.takeP (i := 0) (v := ?_) rfl (by kernel_rfl) (fun _ _ _ h => h) rfl ?_ ?_
        rotate_left
        · (intro w'; go_simp; try with_reducible rfl)
        try simp only [Act.put, List.getElem_toArray, List.getElem_cons_succ, List.getElem_cons_zero, List.setIfInBounds_toArray, List.set_cons_zero, List.set_cons_succ]
        refine AnyG.takeP (i := 1) (v := ?_) rfl (by kernel_rfl) (fun _ _ _ h => h) rfl ?_ ?_
        rotate_left
        · (intro w'; go_simp; try with_reducible rfl)
        try simp only [Act.put, List.getElem_toArray, List.getElem_cons_succ, List.getElem_cons_zero, List.setIfInBounds_toArray, List.set_cons_zero, List.set_cons_succ]
        refine AnyG.takeP (i := 2) (v := ?_) rfl (by kernel_rfl) (fun _ _ _ h => h) rfl ?_ ?_
        rotate_left
        · (intro w'; go_simp; try with_reducible rfl)
        try simp only [Act.put, List.getElem_toArray, List.getElem_cons_succ, List.getElem_cons_zero, List.setIfInBounds_toArray, List.set_cons_zero, List.set_cons_succ]
        refine AnyG.takeP (i := 3) (v := ?_) rfl (by kernel_rfl) (fun _ _ _ h => h) rfl ?_ ?_
        rotate_left
        · (intro w'; go_simp; try with_reducible rfl)
        try simp only [Act.put, List.getElem_toArray, List.getElem_cons_succ, List.getElem_cons_zero, List.setIfInBounds_toArray, List.set_cons_zero, List.set_cons_succ]
        refine AnyG.takeP (i := 5) (v := ?_) rfl (by kernel_rfl) (fun _ _ _ h => h) rfl ?_ ?_
        rotate_left
        · (intro w'; go_simp; try with_reducible rfl)
        try simp only [Act.put, List.getElem_toArray, List.getElem_cons_succ, List.getElem_cons_zero, List.setIfInBounds_toArray, List.set_cons_zero, List.set_cons_succ]
        refine AnyG.takeP (i := 6) (v := ?_) rfl (by kernel_rfl) (fun _ _ _ h => h) rfl ?_ ?_
        rotate_left
        · (intro w'; go_simp; try with_reducible rfl)
        try simp only [Act.put, List.getElem_toArray, List.getElem_cons_succ, List.getElem_cons_zero, List.setIfInBounds_toArray, List.set_cons_zero, List.set_cons_succ]
        refine AnyG.takeP (i := 7) (v := ?_) rfl (by kernel_rfl) (fun _ _ _ h => h) rfl ?_ ?_
        rotate_left
        · (intro w'; go_simp; try with_reducible rfl)
        try simp only [Act.put, List.getElem_toArray, List.getElem_cons_succ, List.getElem_cons_zero, List.setIfInBounds_toArray, List.set_cons_zero, List.set_cons_succ]
        refine AnyG.enter (fun w' : World => FT g y1 w') (fun i => true) ?_
        have hS : (fun w' : World => FT g y1 w') (World.drew _) := hSo.drew
        refine AnyG.takeC (i := 4) (v := ?_) rfl (by kernel_rfl) (fun _ _ _ h => h) rfl ?_ hS ?_
        rotate_left
        · (intro w' hSw; (try dsimp only at hSw); have q := HCX.out _ hSw; go_simp; try with_reducible rfl)
        try simp only [Act.put, List.getElem_toArray, List.getElem_cons_succ, List.getElem_cons_zero, List.setIfInBounds_toArray, List.set_cons_zero, List.set_cons_succ]
        refine AnyG.takeC (i := 8) (v := ?_) rfl (by kernel_rfl) (fun _ _ _ h => h) rfl ?_ hS ?_
        rotate_left
        · (intro w' hSw; (try dsimp only at hSw); have q := HCY.out _ hSw; go_simp; try with_reducible rfl)
        try simp only [Act.put, List.getElem_toArray, List.getElem_cons_succ, List.getElem_cons_zero, List.setIfInBounds_toArray, List.set_cons_zero, List.set_cons_succ]
        refine AnyG.takeC (i := 9) (v := ?_) rfl (by kernel_rfl) (fun _ _ _ h => h) rfl ?_ hS ?_
        rotate_left
        · (intro w' hSw; (try dsimp only at hSw); go_simp; try with_reducible rfl)
        try simp only [Act.put, List.getElem_toArray, List.getElem_cons_succ, List.getElem_cons_zero, List.setIfInBounds_toArray, List.set_cons_zero, List.set_cons_succ]
        refine AnyG.one (i := 10) (by kernel_rfl) rfl rfl ?_
        go_simp
        refine (between_any g x (y - 1) _ hS.2 (by omega) (by omega) (by omega) (by omega)).mono ?_
        rintro e10 y10 ⟨⟨up, rfl, up1_, up2_⟩, hf10, hg10⟩
        refine Onward.on (hS.call hg10 hf10) (fun hS2 => ?_)
        clear hS
        have hS := hS2
        clear hS2
        try simp only [Act.put, List.getElem_toArray, List.getElem_cons_succ, List.getElem_cons_zero, List.setIfInBounds_toArray, List.set_cons_zero, List.set_cons_succ]
        refine AnyG.takeC (i := 11) (v := ?_) rfl (by kernel_rfl) (fun _ _ _ h => h) rfl ?_ hS ?_
        rotate_left
        · (intro w' hSw; (try dsimp only at hSw); go_simp; try with_reducible rfl)
        try simp only [Act.put, List.getElem_toArray, List.getElem_cons_succ, List.getElem_cons_zero, List.setIfInBounds_toArray, List.set_cons_zero, List.set_cons_succ]
        refine AnyG.done (by kernel_rfl) ?_ _
        have hS7 : FT g y1 y10 := hS
        clear hS
        go_simp
        have hT7 := hT1.call hS7.1 hS7.2
        have k7 := hS7.bx k2 hgb
        have hL7 := FT.sl hT7 hF hSL (inr_no _)
        have hH7 := FT.sl hT7 hF hSH (inr_no _)
        have hup : x ≤ up ∧ up < y := by omega
        go_upto_region 9 with (first
          | (have _t := o60; clear _t; go_at_call 34; refine (ints34_any (some sa) bn sc Lo _ (by omega) HLO.out (hL7.call hb60)).mono ?_; rintro e z2 ⟨⟨A62, c62, rfl, o62⟩, hb62⟩)
          | (go_at_call 34; refine (ints34_any (some ta) bn tc Hi _ (by omega) HHI.out hH7).mono ?_; rintro e z1 ⟨⟨A60, c60, rfl, o60⟩, hb60⟩)
          | fail)
        obtain ⟨q60, rfl⟩ := own_some o60 (by omega)
        obtain ⟨q62, rfl⟩ := own_some o62 (by omega)
        have n60 := o60.lt q60 rfl
        have n62 := o62.lt q62 rfl
        have s60 := hb60.size
        have s62 := hb62.size
        have s7 := hT7.size
        have hgl7 := hT7.2.lt
        have hne : some q60 ≠ (Value.slice (some ⟨q62, 0, none⟩) bn c62).ownBlock := fun h => by simp [Value.ownBlock] at h; omega
        have hne2 : some q62 ≠ (Value.slice (some ⟨q60, 0, none⟩) bn c60).ownBlock := fun h => by simp [Value.ownBlock] at h; omega
        have o60b := own_bel o60 hb62
        have o62s := own_set o62 hne (o := at_) (.int .i64 up)
        have p60 := own_num o60b HHI.out (by rw [HHI.out]; exact hab)
        have f60 := own_free o60b
        have p62 := own_num o62s HLO.out (by rw [HLO.out]; exact hab)
        have f62 := own_free o62s
        have hupw : IntKind.i64.wrap (up + 1) = up + 1 := IntWalk.i64_in _ (by omega)
        go_upto_region 10 with fail
        clear p60 f60 p62 f62
        have o60s := own_store o60b at_ (.int .i64 up) (by omega)
        rw [inr_set (by rw [HHI.out]; exact hab)] at o60s
        have o62t := own_store o62s at_ (.int .i64 (up + 1)) (by omega)
        rw [inr_set (by rw [HLO.out]; exact hab)] at o62t
        have o60t := own_set o60s hne2 (o := at_) (.int .i64 (up + 1))
        have hT9 := ((hT7.bel (hb60.trans (hb62.mono hb60.size))).set_ (b := q60) (by omega) (by omega) at_ (.int .i64 up)).set_ (b := q62) (by omega) (by omega) at_ (.int .i64 (up + 1))
        have k9 := ((k7.call (hb60.trans (hb62.mono hb60.size))).far (p := ⟨q60, at_, none⟩) (by have := k7.lt; simp; omega) (.int .i64 up)).far (p := ⟨q62, at_, none⟩) (by have := k7.lt; simp; omega) (.int .i64 (up + 1))
        obtain ⟨V9, hV9⟩ : ∃ X, (z2.setCell ⟨q60, at_, none⟩ (.int .i64 up)).setCell ⟨q62, at_, none⟩ (.int .i64 (up + 1)) = X := ⟨_, rfl⟩
        rw [hV9] at o60t o62t hT9 k9 ⊢
        have hF9 := hT9.2
        have hA9 := FT.ord hT9 hF hA
        have hL9 := FT.sl hT9 hF hSL (inr_no _)
        have hH9 := FT.sl hT9 hF hSH (inr_no _)
        have s9 := hT9.size
        clear hV9 o60b o62s o60s o60 o62 hb60 hb62 hL7 hH7 k7 hT7 hne hne2 n60 n62 s60 s62 s7 hgl7 hS7
        have hm4 : at_ < 4 := by omega
        have hmo : at_ < o.bs.length := by rw [HB.out]; exact hab
        have c1 : lf Lo at_ ≤ up := by rw [HXY.out.1]; exact hup.1
        have c2 : up < lf Hi at_ := by rw [HXY.out.2]; exact hup.2
        have elo := lf_set (L := Hi) (m := at_) (by rw [HHI.out]; exact hab) up
        have ehi := lf_set (L := Lo) (m := at_) (by rw [HLO.out]; exact hab) (up + 1)
        have wl := wid_lower hm4 c1 c2
        have wu := wid_upper hm4 c1 c2
        have XL := HX.out.lower hm4 c1 c2
        have XU := HX.out.upper hm4 c1 c2
        rw [← elo] at wl XL
        rw [← ehi] at wu XU
        have HXL := Lib.hid XL
        have HXU := Lib.hid XU
        have HE := Lib.hid (And.intro elo ehi)
        have HC := Lib.hid (And.intro c1 c2)
        have HMO := Lib.hid hmo
        have hl1 : (Hi.set at_ up).length = bn := by rw [List.length_set]; exact HHI.out
        have hl2 : (Lo.set at_ (up + 1)).length = bn := by rw [List.length_set]; exact HLO.out
        have HL1 := Lib.hid hl1
        have HL2 := Lib.hid hl2
        have wl24 : wid (lf Lo) (lf (Hi.set at_ up)) < fuel ∧ wid (lf Lo) (lf (Hi.set at_ up)) ≤ 24 := ⟨by omega, by omega⟩
        have wu24 : wid (lf (Lo.set at_ (up + 1))) (lf Hi) < fuel ∧ wid (lf (Lo.set at_ (up + 1))) (lf Hi) ≤ 24 := ⟨by omega, by omega⟩
        clear XL XU elo ehi c1 c2 hmo hl1 hl2 wl wu hw hw24
        obtain ⟨HiS, hHiS⟩ : ∃ l, Hi.set at_ up = l := ⟨_, rfl⟩
        obtain ⟨LoS, hLoS⟩ : ∃ l, Lo.set at_ (up + 1) = l := ⟨_, rfl⟩
        rw [hHiS] at HXL HE HL1 wl24 o60t
        rw [hLoS] at HXU HE HL2 wu24 o62t
        clear hHiS hLoS
        go_wp2_with fail
        refine AnyG.startC (by kernel_rfl) ?_
        refine AnyG.takeP (i := 0) (v := ?_) rfl (by kernel_rfl) (fun _ _ _ h => h) rfl ?_ ?_
        rotate_left
        · (intro w'; go_simp; try with_reducible rfl)
        try simp only [Act.put, List.getElem_toArray, List.getElem_cons_succ, List.getElem_cons_zero, List.setIfInBounds_toArray, List.set_cons_zero, List.set_cons_succ]
        refine AnyG.takeP (i := 1) (v := ?_) rfl (by kernel_rfl) (fun _ _ _ h => h) rfl ?_ ?_
        rotate_left
        · (intro w'; go_simp; try with_reducible rfl)
        try simp only [Act.put, List.getElem_toArray, List.getElem_cons_succ, List.getElem_cons_zero, List.setIfInBounds_toArray, List.set_cons_zero, List.set_cons_succ]
        refine AnyG.takeP (i := 4) (v := ?_) rfl (by kernel_rfl) (fun _ _ _ h => h) rfl ?_ ?_
        rotate_left
        · (intro w'; go_simp; try with_reducible rfl)
        try simp only [Act.put, List.getElem_toArray, List.getElem_cons_succ, List.getElem_cons_zero, List.setIfInBounds_toArray, List.set_cons_zero, List.set_cons_succ]
        refine AnyG.takeP (i := 6) (v := ?_) rfl (by kernel_rfl) (fun _ _ _ h => h) rfl ?_ ?_
        rotate_left
        · (intro w'; go_simp; try with_reducible rfl)
        try simp only [Act.put, List.getElem_toArray, List.getElem_cons_succ, List.getElem_cons_zero, List.setIfInBounds_toArray, List.set_cons_zero, List.set_cons_succ]
        refine AnyG.takeP (i := 7) (v := ?_) rfl (by kernel_rfl) (fun _ _ _ h => h) rfl ?_ ?_
        rotate_left
        · (intro w'; go_simp; try with_reducible rfl)
        try simp only [Act.put, List.getElem_toArray, List.getElem_cons_succ, List.getElem_cons_zero, List.setIfInBounds_toArray, List.set_cons_zero, List.set_cons_succ]
        refine AnyG.takeP (i := 8) (v := ?_) rfl (by kernel_rfl) (fun _ _ _ h => h) rfl ?_ ?_
        rotate_left
        · (intro w'; go_simp; try with_reducible rfl)
        try simp only [Act.put, List.getElem_toArray, List.getElem_cons_succ, List.getElem_cons_zero, List.setIfInBounds_toArray, List.set_cons_zero, List.set_cons_succ]
        refine AnyG.takeP (i := 11) (v := ?_) rfl (by kernel_rfl) (fun _ _ _ h => h) rfl ?_ ?_
        rotate_left
        · (intro w'; go_simp; try with_reducible rfl)
        try simp only [Act.put, List.getElem_toArray, List.getElem_cons_succ, List.getElem_cons_zero, List.setIfInBounds_toArray, List.set_cons_zero, List.set_cons_succ]
        refine AnyG.takeP (i := 13) (v := ?_) rfl (by kernel_rfl) (fun _ _ _ h => h) rfl ?_ ?_
        rotate_left
        · (intro w'; go_simp; try with_reducible rfl)
        try simp only [Act.put, List.getElem_toArray, List.getElem_cons_succ, List.getElem_cons_zero, List.setIfInBounds_toArray, List.set_cons_zero, List.set_cons_succ]
        refine AnyG.takeP (i := 14) (v := ?_) rfl (by kernel_rfl) (fun _ _ _ h => h) rfl ?_ ?_
        rotate_left
        · (intro w'; go_simp; try with_reducible rfl)
        try simp only [Act.put, List.getElem_toArray, List.getElem_cons_succ, List.getElem_cons_zero, List.setIfInBounds_toArray, List.set_cons_zero, List.set_cons_succ]
        refine AnyG.takeP (i := 15) (v := ?_) rfl (by kernel_rfl) (fun _ _ _ h => h) rfl ?_ ?_
        rotate_left
        · (intro w'; go_simp; try with_reducible rfl)
        try simp only [Act.put, List.getElem_toArray, List.getElem_cons_succ, List.getElem_cons_zero, List.setIfInBounds_toArray, List.set_cons_zero, List.set_cons_succ]
        refine AnyG.enter (fun w' : World => FT g V9 w') (fun i => true) ?_
        have hS : (fun w' : World => FT g V9 w') (V9.drew) := (FT.self hF9).drew
        try dsimp only at hS
        obtain ⟨y0, hy0⟩ : ∃ y, V9.drew = y := ⟨_, rfl⟩
        rw [hy0] at hS ⊢
        clear hy0
        refine AnyG.takeC (i := 5) (v := ?_) rfl (by kernel_rfl) (fun _ _ _ h => h) rfl ?_ hS ?_
        rotate_left
        · (intro w' hSw; (try dsimp only at hSw); obtain ⟨l0, l1, l2, l3, lf2, lz⟩ := (hSw.bx k9 hgb).four; go_simp; try with_reducible rfl)
        try simp only [Act.put, List.getElem_toArray, List.getElem_cons_succ, List.getElem_cons_zero, List.setIfInBounds_toArray, List.set_cons_zero, List.set_cons_succ]
        refine AnyG.takeC (i := 12) (v := ?_) rfl (by kernel_rfl) (fun _ _ _ h => h) rfl ?_ hS ?_
        rotate_left
        · (intro w' hSw; (try dsimp only at hSw); obtain ⟨l0, l1, l2, l3, lf2, lz⟩ := (hSw.bx k9 hgb).four; go_simp; try with_reducible rfl)
        try simp only [Act.put, List.getElem_toArray, List.getElem_cons_succ, List.getElem_cons_zero, List.setIfInBounds_toArray, List.set_cons_zero, List.set_cons_succ]
        refine AnyG.one (i := 2) (by kernel_rfl) rfl rfl ?_
        go_simp
        refine (bcut_any (at_ : Int) up _).mono ?_
        rintro e2 x2 ⟨rfl, hbc⟩
        have hSn := hS.bel hbc
        clear hS
        refine Onward.on hSn (fun hS => ?_)
        try dsimp only at hS
        clear hSn
        try simp only [Act.put, List.getElem_toArray, List.getElem_cons_succ, List.getElem_cons_zero, List.setIfInBounds_toArray, List.set_cons_zero, List.set_cons_succ]
        refine AnyG.all (rs := [3, 9]) (by kernel_rfl) (by simp) ?_
        intro ii hii
        simp only [List.mem_cons, List.not_mem_nil, or_false] at hii
        rcases hii with rfl | rfl
        · refine ⟨_, rfl, rfl, ?_⟩
          go_simp
          have o75 := made69 (w := x2) (b := V9.heap.size) ⟨1, (at_ : Int), up⟩ hS.size
          have hT3 := hS.alloc (.cells #[.int .i64 1, .int .i64 (at_ : Int), .int .i64 up] 69)
          obtain ⟨x3, hy⟩ : ∃ x, x2.alloc (.cells #[.int .i64 1, .int .i64 (at_ : Int), .int .i64 up] 69) = x := ⟨_, rfl⟩
          dsimp only at o75
          rw [hy] at o75 hT3 ⊢
          obtain ⟨b75, hbq⟩ : ∃ p, x2.heap.size = p := ⟨_, rfl⟩
          rw [hbq] at o75 ⊢
          clear hy hbq
          have hSn := hT3
          clear hS
          refine Onward.on hSn (fun hS => ?_)
          try dsimp only at hS
          clear hSn
          try simp only [Act.put, List.getElem_toArray, List.getElem_cons_succ, List.getElem_cons_zero, List.setIfInBounds_toArray, List.set_cons_zero, List.set_cons_succ]
          refine AnyG.one (i := 9) (by kernel_rfl) rfl rfl ?_
          go_simp
          refine (IH.out Lo HiS (some sa) (some ⟨q60, 0, none⟩) sc c60 _ wl24.1 HXL.out HLO.out HL1.out (FT.ord hS hF9 hA9) (FT.sl hS hF9 hL9 (inr_no _)) (own_inr (hS.row hF9 o60t (by decide)) HL1.out) hS.2 wl24.2).mono ?_
          rintro e9 x9 ⟨RA, ra, X, rfl, hPX, o81, hT81⟩
          rw [HE.out.1] at hPX
          replace o75 := hT81.row hS.2 o75 (by decide)
          have hSn := hS.call hT81.1 hT81.2
          clear hS
          refine Onward.on hSn (fun hS => ?_)
          try dsimp only at hS
          clear hSn
          try simp only [Act.put, List.getElem_toArray, List.getElem_cons_succ, List.getElem_cons_zero, List.setIfInBounds_toArray, List.set_cons_zero, List.set_cons_succ]
          refine AnyG.one (i := 10) (by kernel_rfl) rfl rfl ?_
          have hX9 := hPX.len (by rw [HB.out]; exact hbn4) 24 (by rw [← HE.out.1]; exact wl24.2)
          refine wp_app3 (.tmp 75) (.tmp 81) 51 rfl V9.heap.size 69 i69 _ 3 24 Try.underlying51 hi69 hz69 hs69 iy69 rfl (by decide) (.slice (some ⟨b75, 0, none⟩) 1 1) 1 (bdr ⟨1, (at_ : Int), up⟩) (by simp [Act.eval]) o75 RA X.length ra (bdrs X) (by simp [Act.eval]) (bdrs_len X) (own_cells o81) (bdrs_cell X) (by unfold maxLen; omega) (by omega) hS.size ?_
          intro v82 x10 o82 g10 x10b r10
          obtain ⟨A82, c82, rfl⟩ := own_shape o82
          have hT10 := hS.own o75 g10 (Nat.le_refl _) (by decide)
          have hSn := hT10
          clear hS
          refine Onward.on hSn (fun hS => ?_)
          try dsimp only at hS
          clear hSn
          try simp only [Act.put, List.getElem_toArray, List.getElem_cons_succ, List.getElem_cons_zero, List.setIfInBounds_toArray, List.set_cons_zero, List.set_cons_succ]
          refine AnyG.one (i := 16) (by kernel_rfl) rfl rfl ?_
          go_simp
          refine (IH.out LoS Hi (some ⟨q62, 0, none⟩) (some ta) c62 tc _ wu24.1 HXU.out HL2.out HHI.out (FT.ord hS hF9 hA9) (own_inr (hS.row hF9 o62t (by decide)) HL2.out) (FT.sl hS hF9 hH9 (inr_no _)) hS.2 wu24.2).mono ?_
          rintro e16 x16 ⟨RB, rb, Y, rfl, hPY, o88, hT88⟩
          rw [HE.out.2] at hPY
          replace o82 := hT88.row hS.2 o82 (by decide)
          have hSn := hS.call hT88.1 hT88.2
          clear hS
          refine Onward.on hSn (fun hS => ?_)
          try dsimp only at hS
          clear hSn
          try simp only [Act.put, List.getElem_toArray, List.getElem_cons_succ, List.getElem_cons_zero, List.setIfInBounds_toArray, List.set_cons_zero, List.set_cons_succ]
          refine AnyG.one (i := 17) (by kernel_rfl) rfl rfl ?_
          have hY9 := hPY.len (by rw [HB.out]; exact hbn4) 24 (by rw [← HE.out.2]; exact wu24.2)
          refine wp_app3 (.tmp 82) (.tmp 88) 51 rfl V9.heap.size 69 i69 _ 3 24 Try.underlying51 hi69 hz69 hs69 iy69 rfl (by decide) (.slice A82 (1 + X.length) c82) (1 + X.length) (bdr ⟨1, (at_ : Int), up⟩ ++ bdrs X) (by simp [Act.eval]) o82 RB Y.length rb (bdrs Y) (by simp [Act.eval]) (bdrs_len Y) (own_cells o88) (bdrs_cell Y) (by unfold maxLen; omega) (by omega) hS.size ?_
          intro v89 x17 o89 g17 x17b r17
          obtain ⟨A89, c89, rfl⟩ := own_shape o89
          have hT17 := hS.own o82 g17 (Nat.le_refl _) (by decide)
          have hSn := hT17
          clear hS
          refine Onward.on hSn (fun hS => ?_)
          try dsimp only at hS
          clear hSn
          try simp only [Act.put, List.getElem_toArray, List.getElem_cons_succ, List.getElem_cons_zero, List.setIfInBounds_toArray, List.set_cons_zero, List.set_cons_succ]
          refine AnyG.one (i := 18) (by kernel_rfl) rfl rfl ?_
          go_simp
          refine Onward.on hS (fun hS2 => ?_)
          clear hS2
          try simp only [Act.put, List.getElem_toArray, List.getElem_cons_succ, List.getElem_cons_zero, List.setIfInBounds_toArray, List.set_cons_zero, List.set_cons_succ]
          refine AnyG.done (by kernel_rfl) ?_ _
          go_simp
          go_wp2_with fail
          go_ret
          have e : 1 + X.length + Y.length = (⟨1, (at_ : Int), up⟩ :: (X ++ Y) : List Bd).length := by simp; omega
          rw [e] at o89
          rw [← bdrs_cut] at o89
          refine ⟨A89, c89, ⟨1, (at_ : Int), up⟩ :: (X ++ Y), by rw [← e]; rfl, .cut HMO.out HC.out.1 HC.out.2 hPX hPY, ownsRow_up o89 (fun q hq => Nat.le_trans s9 (o89.lt q hq).1), hT9.call hT17.1 hT17.2⟩
        · refine ⟨_, rfl, rfl, ?_⟩
          go_simp
          refine (IH.out Lo HiS (some sa) (some ⟨q60, 0, none⟩) sc c60 _ wl24.1 HXL.out HLO.out HL1.out (FT.ord hS hF9 hA9) (FT.sl hS hF9 hL9 (inr_no _)) (own_inr (hS.row hF9 o60t (by decide)) HL1.out) hS.2 wl24.2).mono ?_
          rintro e9 x9 ⟨RA, ra, X, rfl, hPX, o81, hT81⟩
          rw [HE.out.1] at hPX
          have hSn := hS.call hT81.1 hT81.2
          clear hS
          refine Onward.on hSn (fun hS => ?_)
          try dsimp only at hS
          clear hSn
          try simp only [Act.put, List.getElem_toArray, List.getElem_cons_succ, List.getElem_cons_zero, List.setIfInBounds_toArray, List.set_cons_zero, List.set_cons_succ]
          refine AnyG.one (i := 3) (by kernel_rfl) rfl rfl ?_
          go_simp
          have o75 := made69 (w := x9) (b := V9.heap.size) ⟨1, (at_ : Int), up⟩ hS.size
          replace o81 := o81.alloc (.cells #[.int .i64 1, .int .i64 (at_ : Int), .int .i64 up] 69)
          have hT3 := hS.alloc (.cells #[.int .i64 1, .int .i64 (at_ : Int), .int .i64 up] 69)
          obtain ⟨x3, hy⟩ : ∃ x, x9.alloc (.cells #[.int .i64 1, .int .i64 (at_ : Int), .int .i64 up] 69) = x := ⟨_, rfl⟩
          dsimp only at o75
          rw [hy] at o81 o75 hT3 ⊢
          obtain ⟨b75, hbq⟩ : ∃ p, x9.heap.size = p := ⟨_, rfl⟩
          rw [hbq] at o75 ⊢
          clear hy hbq
          have hSn := hT3
          clear hS
          refine Onward.on hSn (fun hS => ?_)
          try dsimp only at hS
          clear hSn
          try simp only [Act.put, List.getElem_toArray, List.getElem_cons_succ, List.getElem_cons_zero, List.setIfInBounds_toArray, List.set_cons_zero, List.set_cons_succ]
          refine AnyG.one (i := 10) (by kernel_rfl) rfl rfl ?_
          have hX9 := hPX.len (by rw [HB.out]; exact hbn4) 24 (by rw [← HE.out.1]; exact wl24.2)
          refine wp_app3 (.tmp 75) (.tmp 81) 51 rfl V9.heap.size 69 i69 _ 3 24 Try.underlying51 hi69 hz69 hs69 iy69 rfl (by decide) (.slice (some ⟨b75, 0, none⟩) 1 1) 1 (bdr ⟨1, (at_ : Int), up⟩) (by simp [Act.eval]) o75 RA X.length ra (bdrs X) (by simp [Act.eval]) (bdrs_len X) (own_cells o81) (bdrs_cell X) (by unfold maxLen; omega) (by omega) hS.size ?_
          intro v82 x10 o82 g10 x10b r10
          obtain ⟨A82, c82, rfl⟩ := own_shape o82
          have hT10 := hS.own o75 g10 (Nat.le_refl _) (by decide)
          have hSn := hT10
          clear hS
          refine Onward.on hSn (fun hS => ?_)
          try dsimp only at hS
          clear hSn
          try simp only [Act.put, List.getElem_toArray, List.getElem_cons_succ, List.getElem_cons_zero, List.setIfInBounds_toArray, List.set_cons_zero, List.set_cons_succ]
          refine AnyG.one (i := 16) (by kernel_rfl) rfl rfl ?_
          go_simp
          refine (IH.out LoS Hi (some ⟨q62, 0, none⟩) (some ta) c62 tc _ wu24.1 HXU.out HL2.out HHI.out (FT.ord hS hF9 hA9) (own_inr (hS.row hF9 o62t (by decide)) HL2.out) (FT.sl hS hF9 hH9 (inr_no _)) hS.2 wu24.2).mono ?_
          rintro e16 x16 ⟨RB, rb, Y, rfl, hPY, o88, hT88⟩
          rw [HE.out.2] at hPY
          replace o82 := hT88.row hS.2 o82 (by decide)
          have hSn := hS.call hT88.1 hT88.2
          clear hS
          refine Onward.on hSn (fun hS => ?_)
          try dsimp only at hS
          clear hSn
          try simp only [Act.put, List.getElem_toArray, List.getElem_cons_succ, List.getElem_cons_zero, List.setIfInBounds_toArray, List.set_cons_zero, List.set_cons_succ]
          refine AnyG.one (i := 17) (by kernel_rfl) rfl rfl ?_
          have hY9 := hPY.len (by rw [HB.out]; exact hbn4) 24 (by rw [← HE.out.2]; exact wu24.2)
          refine wp_app3 (.tmp 82) (.tmp 88) 51 rfl V9.heap.size 69 i69 _ 3 24 Try.underlying51 hi69 hz69 hs69 iy69 rfl (by decide) (.slice A82 (1 + X.length) c82) (1 + X.length) (bdr ⟨1, (at_ : Int), up⟩ ++ bdrs X) (by simp [Act.eval]) o82 RB Y.length rb (bdrs Y) (by simp [Act.eval]) (bdrs_len Y) (own_cells o88) (bdrs_cell Y) (by unfold maxLen; omega) (by omega) hS.size ?_
          intro v89 x17 o89 g17 x17b r17
          obtain ⟨A89, c89, rfl⟩ := own_shape o89
          have hT17 := hS.own o82 g17 (Nat.le_refl _) (by decide)
          have hSn := hT17
          clear hS
          refine Onward.on hSn (fun hS => ?_)
          try dsimp only at hS
          clear hSn
          try simp only [Act.put, List.getElem_toArray, List.getElem_cons_succ, List.getElem_cons_zero, List.setIfInBounds_toArray, List.set_cons_zero, List.set_cons_succ]
          refine AnyG.one (i := 18) (by kernel_rfl) rfl rfl ?_
          go_simp
          refine Onward.on hS (fun hS2 => ?_)
          clear hS2
          try simp only [Act.put, List.getElem_toArray, List.getElem_cons_succ, List.getElem_cons_zero, List.setIfInBounds_toArray, List.set_cons_zero, List.set_cons_succ]
          refine AnyG.done (by kernel_rfl) ?_ _
          go_simp
          go_wp2_with fail
          go_ret
          have e : 1 + X.length + Y.length = (⟨1, (at_ : Int), up⟩ :: (X ++ Y) : List Bd).length := by simp; omega
          rw [e] at o89
          rw [← bdrs_cut] at o89
          refine ⟨A89, c89, ⟨1, (at_ : Int), up⟩ :: (X ++ Y), by rw [← e]; rfl, .cut HMO.out HC.out.1 HC.out.2 hPX hPY, ownsRow_up o89 (fun q hq => Nat.le_trans s9 (o89.lt q hq).1), hT9.call hT17.1 hT17.2⟩
      · go_upto_region 4 with (first | (go_at_call 32; refine (between_any g 2 5 _ hTo.2 (by omega) (by omega) (by omega) (by omega)).mono ?_; rintro e y3 ⟨⟨rr, rfl, rr1, rr2⟩, hf3, hg3⟩) | fail)
        have hT3 := hTo.call hg3 hf3
        have k3 := (ko.grown hg3 (by simpa using hgb)).alloc (.cells #[.int .i64 rr, .int .i64 0, .int .i64 0] 69)
        have hTe := hT3.alloc (.cells #[.int .i64 rr, .int .i64 0, .int .i64 0] 69)
        have kb := Bx.new y3 69 #[.int .i64 rr, .int .i64 0, .int .i64 0]
        have hys := hT3.2.lt
        have hyw := hT3.size
        obtain ⟨V3, hV3⟩ : ∃ X, y3.alloc (.cells #[.int .i64 rr, .int .i64 0, .int .i64 0] 69) = X := ⟨_, rfl⟩
        rw [hV3] at k3 hTe kb ⊢
        obtain ⟨b12, hb12⟩ : ∃ b, y3.heap.size = b := ⟨_, rfl⟩
        rw [hb12] at kb hys hyw ⊢
        have hgb2 : g ≠ b12 := by omega
        clear hV3 hb12 hT3 hg3 hf3
        obtain ⟨q0, q1, q2, qf, qz⟩ := kb.three
        by_cases h4 : rr = 4
        · subst h4
          obtain ⟨l0, l1, l2, l3, lf', lz⟩ := k3.four
          go_upto_region 6 with (first | (go_at_call 25; refine (below_any g ln _ hTe.2 (by omega) (by omega)).mono ?_; rintro e y5 ⟨⟨mm, rfl, mm1, mm2⟩, hf5, hg5⟩; have kb5 := kb.grown hg5 (by simpa using Ne.symm hgb2); clear q0 q1 q2 qf qz; obtain ⟨q0, q1, q2, qf, qz⟩ := kb5.three) | fail)
          clear l0 l1 l2 l3 lf' lz q0 q1 q2 qf qz
          replace hTe := (hTe.call hg5 hf5).set_ hyw hgb2 1 (.int .i64 mm)
          replace kb := kb5.set_ 1 (.int .i64 mm)
          have kb6 : Bx (y5.setCell ⟨b12, 1, none⟩ (.int .i64 mm)) b12 69 #[.int .i64 4, .int .i64 mm, .int .i64 0] := by simpa using kb
          obtain ⟨V5, hV5⟩ : ∃ X, y5.setCell ⟨b12, 1, none⟩ (.int .i64 mm) = X := ⟨_, rfl⟩
          rw [hV5] at hTe kb6 ⊢
          clear hV5 kb5 kb
          obtain ⟨q0, q1, q2, qf, qz⟩ := kb6.three
          go_wp2_with fail
          go_ret
          have oR := made69 (w := V5) (b := w.heap.size) ⟨4, mm, 0⟩ (by have := hTe.size; omega)
          exact ⟨_, _, [⟨4, mm, 0⟩], rfl, .leaf (by dsimp only; omega) (by dsimp only; omega), by rw [bdrs_one]; exact oR, hTe.alloc _⟩
        · have d4 : (rr == 4) = false := by simp; exact h4
          go_wp2_with fail
          go_ret
          have oR := made69 (w := V3) (b := w.heap.size) ⟨rr, 0, 0⟩ (by have := hTe.size; omega)
          exact ⟨_, _, [⟨rr, 0, 0⟩], rfl, .leaf (by dsimp only; omega) (by dsimp only; omega), by rw [bdrs_one]; exact oR, hTe.alloc _⟩
end Go.Proofs.Ytmemcopfeabcgaa
set_option linter.unusedSimpArgs false
set_option linter.unusedVariables false
namespace Go.Proofs.Ytmemcopfeabcgaa
open Go Go.RowKit
theorem from65_any (n lo hi : Int) (w : World) : Calls Try.prog 65 #[.int .i64 n, .int .i64 lo, .int .i64 hi] w fun e w' => e = .returned (.bool (decide (lo ≤ n ∧ n ≤ hi))) ∧ Below w.heap.size w w' := by
  by_cases h1 : lo ≤ n
  · by_cases h2 : n ≤ hi
    · have d1 : decide (lo ≤ n) = true := decide_eq_true h1
      have d2 : decide (n ≤ hi) = true := decide_eq_true h2
      have e : decide (lo ≤ n ∧ n ≤ hi) = true := decide_eq_true ⟨h1, h2⟩
      rw [e]
      clear h1 h2 e
      go_enter Try.func65, Try.ntmps65
      go_wp2_with fail
      go_ret
      exact ⟨rfl, Below.refl _ _⟩
    · have d1 : decide (lo ≤ n) = true := decide_eq_true h1
      have d2 : decide (n ≤ hi) = false := decide_eq_false h2
      have e : decide (lo ≤ n ∧ n ≤ hi) = false := decide_eq_false fun h => h2 h.2
      rw [e]
      clear h1 h2 e
      go_enter Try.func65, Try.ntmps65
      go_wp2_with fail
      go_ret
      exact ⟨rfl, Below.refl _ _⟩
  · have d1 : decide (lo ≤ n) = false := decide_eq_false h1
    have e : decide (lo ≤ n ∧ n ≤ hi) = false := decide_eq_false fun h => h1 h.1
    rw [e]
    clear h1 e
    go_enter Try.func65, Try.ntmps65
    go_wp2_with fail
    go_ret
    exact ⟨rfl, Below.refl _ _⟩
theorem lf_at {BL : List Int} {i : Nat} (h : i < BL.length) : BL[i] = lf BL i := by unfold lf; rw [List.getD_eq_getElem?_getD, List.getElem?_eq_getElem h]; rfl
set_option maxRecDepth 100000 in
set_option maxHeartbeats 4000000 in
theorem refKilos_any (LA : Option Addr) (ln lc : Nat) (BA : Option Addr) (bn bc : Nat) (o : Od) (SA : Option Addr) (n sc : Nat) (BL : List Int) (w : World) (hb' : o.bs.length = bn) (hA : OrdAt w w.heap.size LA BA o) (ho : o.Ok) (hL : BL.length = n) (hn : n ≤ bn) (hS : Sl w w.heap.size 1 SA (inr BL)) (h6 : Six (lf BL)) :
    Calls Try.prog 66 #[.agg #[.slice LA ln lc, .int .i64 o.le, .int .i64 o.mo, .slice BA bn bc], .slice SA n sc] w fun e w' => e = .returned (.int .i64 (kil o (lf BL) n)) ∧ Below w.heap.size w w' := by
  have hbn4 : bn ≤ 4 := by rw [← hb']; exact ho.b2
  have k1 := Bx.new w 27 #[.slice LA ln lc, .int .i64 o.le, .int .i64 o.mo, .slice BA bn bc]
  have B0 := (Below.refl w.heap.size w).alloc (Nat.le_refl _) (.cells #[.slice LA ln lc, .int .i64 o.le, .int .i64 o.mo, .slice BA bn bc] 27)
  obtain ⟨V, hV⟩ : ∃ V, w.alloc (.cells #[.slice LA ln lc, .int .i64 o.le, .int .i64 o.mo, .slice BA bn bc] 27) = V := ⟨_, rfl⟩
  have hA1 := hA.call B0
  have hS1 := hS.call B0
  rw [hV] at k1 B0 hA1 hS1
  have HB := Lib.hid hb'
  have HO := Lib.hid ho
  have HL := Lib.hid hL
  have H6 := Lib.hid h6
  have HV := Lib.hid hV
  clear hV hb' ho hL hA hS h6
  go_enter Try.func66, Try.ntmps66
  go_upto_region 1 with fail
  rw [HV.out]
  go_wp2_with fail
  go_loopw [5, 6] (fun s v wr => ∃ (i : Nat), v = .int .i64 i ∧ i ≤ n ∧ s = .int .i64 (kil o (lf BL) i) ∧ Below V.heap.size V wr) (fun _ v _ => n - (intOf v).toNat)
  case atStart => exact ⟨0, rfl, by omega, rfl, Below.refl _ _⟩
  case round =>
    obtain ⟨i, rfl, hi, rfl, hBr⟩ := hrel
    by_cases hin : i < n
    · have hil : i < BL.length := by rw [HL.out]; exact hin
      have hio : i < o.bs.length := by rw [HB.out]; omega
      have hib : i < bn := by omega
      obtain ⟨sa, rfl, hsa, hsc⟩ := inr_at hS1 hil
      rw [lf_at hil] at hsc
      obtain ⟨ba, G, gc, rfl, hba, p0, p1, p2, p3, -⟩ := hA1.bs.at_ hio
      rw [Od.bn_eq hio] at p0 p1 p2 p3
      have hbd := w_bd HO.out H6.out hio
      have hsb := kil_bd HO.out H6.out (k := i) (by omega)
      have hiw : IntKind.i64.wrap ((i : Int) + 1) = (i : Int) + 1 := IntWalk.i64_in _ (by omega)
      obtain ⟨sv, hsv⟩ : ∃ x, kil o (lf BL) i = x := ⟨_, rfl⟩
      have hnx : kil o (lf BL) (i + 1) = sv + lf BL i * (o.bn i).w := by rw [← hsv]; rfl
      rw [hsv] at hsb ⊢
      have HNX := Lib.hid hnx
      obtain ⟨x, hx⟩ : ∃ x, lf BL i = x := ⟨_, rfl⟩
      obtain ⟨y, hy⟩ : ∃ x, (o.bn i).w = x := ⟨_, rfl⟩
      rw [hx] at hsc hbd HNX
      rw [hy] at hbd HNX p1
      obtain ⟨P, hP⟩ : ∃ P, x * y = P := ⟨_, rfl⟩
      rw [hP] at hbd HNX
      have hPw : IntKind.i64.wrap P = P := IntWalk.i64_in _ (by omega)
      have hsw : IntKind.i64.wrap (sv + P) = sv + P := IntWalk.i64_in _ (by omega)
      clear hnx hsv hx hy
      obtain ⟨l0, l1, l2, l3, lf', lz⟩ := (k1.call hBr).four
      go_wp2_with fail
      clear l0 l1 l2 l3 lf' lz
      refine AnyG.startC (by kernel_rfl) ?_
      refine AnyG.takeP (i := 0) (v := ?_) rfl (by kernel_rfl) (fun _ _ _ h => h) rfl ?_ ?_
      rotate_left
      · (intro w'; go_simp; try with_reducible rfl)
      try simp only [Act.put, List.getElem_toArray, List.getElem_cons_succ, List.getElem_cons_zero, List.setIfInBounds_toArray, List.set_cons_zero, List.set_cons_succ]
      refine AnyG.takeP (i := 1) (v := ?_) rfl (by kernel_rfl) (fun _ _ _ h => h) rfl ?_ ?_
      rotate_left
      · (intro w'; go_simp; try with_reducible rfl)
      try simp only [Act.put, List.getElem_toArray, List.getElem_cons_succ, List.getElem_cons_zero, List.setIfInBounds_toArray, List.set_cons_zero, List.set_cons_succ]
      refine AnyG.takeP (i := 2) (v := ?_) rfl (by kernel_rfl) (fun _ _ _ h => h) rfl ?_ ?_
      rotate_left
      · (intro w'; go_simp; try with_reducible rfl)
      try simp only [Act.put, List.getElem_toArray, List.getElem_cons_succ, List.getElem_cons_zero, List.setIfInBounds_toArray, List.set_cons_zero, List.set_cons_succ]
      refine AnyG.takeP (i := 3) (v := ?_) rfl (by kernel_rfl) (fun _ _ _ h => h) rfl ?_ ?_
      rotate_left
      · (intro w'; go_simp; try with_reducible rfl)
      try simp only [Act.put, List.getElem_toArray, List.getElem_cons_succ, List.getElem_cons_zero, List.setIfInBounds_toArray, List.set_cons_zero, List.set_cons_succ]
      refine AnyG.takeP (i := 5) (v := ?_) rfl (by kernel_rfl) (fun _ _ _ h => h) rfl ?_ ?_
      rotate_left
      · (intro w'; go_simp; try with_reducible rfl)
      try simp only [Act.put, List.getElem_toArray, List.getElem_cons_succ, List.getElem_cons_zero, List.setIfInBounds_toArray, List.set_cons_zero, List.set_cons_succ]
      refine AnyG.takeP (i := 7) (v := ?_) rfl (by kernel_rfl) (fun _ _ _ h => h) rfl ?_ ?_
      rotate_left
      · (intro w'; go_simp; try with_reducible rfl)
      try simp only [Act.put, List.getElem_toArray, List.getElem_cons_succ, List.getElem_cons_zero, List.setIfInBounds_toArray, List.set_cons_zero, List.set_cons_succ]
      refine AnyG.enter (fun w' : World => Below V.heap.size V w') (fun i => true) ?_
      have hS : (fun w' : World => Below V.heap.size V w') (World.drew _) := hBr.drew
      refine AnyG.takeC (i := 4) (v := ?_) rfl (by kernel_rfl) (fun _ _ _ h => h) rfl ?_ hS ?_
      rotate_left
      · (intro w' hSw; (try dsimp only at hSw); have q := cellC hSw hsc; go_simp; try with_reducible rfl)
      try simp only [Act.put, List.getElem_toArray, List.getElem_cons_succ, List.getElem_cons_zero, List.setIfInBounds_toArray, List.set_cons_zero, List.set_cons_succ]
      refine AnyG.takeC (i := 6) (v := ?_) rfl (by kernel_rfl) (fun _ _ _ h => h) rfl ?_ hS ?_
      rotate_left
      · (intro w' hSw; (try dsimp only at hSw); obtain ⟨l0, l1, l2, l3, lf2, lz⟩ := (k1.call hSw).four; go_simp; try with_reducible rfl)
      try simp only [Act.put, List.getElem_toArray, List.getElem_cons_succ, List.getElem_cons_zero, List.setIfInBounds_toArray, List.set_cons_zero, List.set_cons_succ]
      refine AnyG.takeC (i := 8) (v := ?_) rfl (by kernel_rfl) (fun _ _ _ h => h) rfl ?_ hS ?_
      rotate_left
      · (intro w' hSw; (try dsimp only at hSw); go_simp; try with_reducible rfl)
      try simp only [Act.put, List.getElem_toArray, List.getElem_cons_succ, List.getElem_cons_zero, List.setIfInBounds_toArray, List.set_cons_zero, List.set_cons_succ]
      refine AnyG.takeC (i := 9) (v := ?_) rfl (by kernel_rfl) (fun _ _ _ h => h) rfl ?_ hS ?_
      rotate_left
      · (intro w' hSw; (try dsimp only at hSw); go_simp; try with_reducible rfl)
      try simp only [Act.put, List.getElem_toArray, List.getElem_cons_succ, List.getElem_cons_zero, List.setIfInBounds_toArray, List.set_cons_zero, List.set_cons_succ]
      refine AnyG.takeC (i := 10) (v := ?_) rfl (by kernel_rfl) (fun _ _ _ h => h) rfl ?_ hS ?_
      rotate_left
      · (intro w' hSw; (try dsimp only at hSw); have q := cellC hSw p1; go_simp; try with_reducible rfl)
      try simp only [Act.put, List.getElem_toArray, List.getElem_cons_succ, List.getElem_cons_zero, List.setIfInBounds_toArray, List.set_cons_zero, List.set_cons_succ]
      refine AnyG.takeC (i := 11) (v := ?_) rfl (by kernel_rfl) (fun _ _ _ h => h) rfl ?_ hS ?_
      rotate_left
      · (intro w' hSw; (try dsimp only at hSw); go_simp; try with_reducible rfl)
      try simp only [Act.put, List.getElem_toArray, List.getElem_cons_succ, List.getElem_cons_zero, List.setIfInBounds_toArray, List.set_cons_zero, List.set_cons_succ]
      refine AnyG.takeC (i := 12) (v := ?_) rfl (by kernel_rfl) (fun _ _ _ h => h) rfl ?_ hS ?_
      rotate_left
      · (intro w' hSw; (try dsimp only at hSw); go_simp; try with_reducible rfl)
      try simp only [Act.put, List.getElem_toArray, List.getElem_cons_succ, List.getElem_cons_zero, List.setIfInBounds_toArray, List.set_cons_zero, List.set_cons_succ]
      refine AnyG.takeC (i := 13) (v := ?_) rfl (by kernel_rfl) (fun _ _ _ h => h) rfl ?_ hS ?_
      rotate_left
      · (intro w' hSw; (try dsimp only at hSw); go_simp; try with_reducible rfl)
      try simp only [Act.put, List.getElem_toArray, List.getElem_cons_succ, List.getElem_cons_zero, List.setIfInBounds_toArray, List.set_cons_zero, List.set_cons_succ]
      refine AnyG.done (by kernel_rfl) ?_ _
      go_simp
      go_wp2_with fail
      go_roundw
      case rel => exact ⟨i + 1, by go_num, by omega, by rw [HNX.out], hBr.drew⟩
      case measure => simp [intOf]; omega
    · obtain rfl : i = n := by omega
      go_wp2_with fail
      go_ret
      exact ⟨rfl, B0.trans (hBr.mono B0.size)⟩
set_option maxRecDepth 100000 in
set_option maxHeartbeats 4000000 in
theorem refCost_any (LA : Option Addr) (ln lc : Nat) (BA : Option Addr) (bn bc : Nat) (o : Od) (SA : Option Addr) (n sc : Nat) (BL : List Int) (w : World) (hb' : o.bs.length = bn) (hA : OrdAt w w.heap.size LA BA o) (ho : o.Ok) (hL : BL.length = n) (hn : n ≤ bn) (hS : Sl w w.heap.size 1 SA (inr BL)) (h6 : Six (lf BL)) :
    Calls Try.prog 29 #[.agg #[.slice LA ln lc, .int .i64 o.le, .int .i64 o.mo, .slice BA bn bc], .slice SA n sc] w fun e w' => e = .returned (.int .i64 (cst o (lf BL) n)) ∧ Below w.heap.size w w' := by
  have hbn4 : bn ≤ 4 := by rw [← hb']; exact ho.b2
  have k1 := Bx.new w 27 #[.slice LA ln lc, .int .i64 o.le, .int .i64 o.mo, .slice BA bn bc]
  have B0 := (Below.refl w.heap.size w).alloc (Nat.le_refl _) (.cells #[.slice LA ln lc, .int .i64 o.le, .int .i64 o.mo, .slice BA bn bc] 27)
  obtain ⟨V, hV⟩ : ∃ V, w.alloc (.cells #[.slice LA ln lc, .int .i64 o.le, .int .i64 o.mo, .slice BA bn bc] 27) = V := ⟨_, rfl⟩
  have hA1 := hA.call B0
  have hS1 := hS.call B0
  rw [hV] at k1 B0 hA1 hS1
  have HB := Lib.hid hb'
  have HO := Lib.hid ho
  have HL := Lib.hid hL
  have H6 := Lib.hid h6
  have HV := Lib.hid hV
  clear hV hb' ho hL hA hS h6
  go_enter Try.func29, Try.ntmps29
  go_upto_region 1 with fail
  rw [HV.out]
  go_wp2_with fail
  go_loopw [5, 6] (fun s v wr => ∃ (i : Nat), v = .int .i64 i ∧ i ≤ n ∧ s = .int .i64 (cst o (lf BL) i) ∧ Below V.heap.size V wr) (fun _ v _ => n - (intOf v).toNat)
  case atStart => exact ⟨0, rfl, by omega, rfl, Below.refl _ _⟩
  case round =>
    obtain ⟨i, rfl, hi, rfl, hBr⟩ := hrel
    by_cases hin : i < n
    · have hil : i < BL.length := by rw [HL.out]; exact hin
      have hio : i < o.bs.length := by rw [HB.out]; omega
      have hib : i < bn := by omega
      obtain ⟨sa, rfl, hsa, hsc⟩ := inr_at hS1 hil
      rw [lf_at hil] at hsc
      obtain ⟨ba, G, gc, rfl, hba, p0, p1, p2, p3, -⟩ := hA1.bs.at_ hio
      rw [Od.bn_eq hio] at p0 p1 p2 p3
      have hbd := c_bd HO.out H6.out hio
      have hsb := cst_bd HO.out H6.out (k := i) (by omega)
      have hiw : IntKind.i64.wrap ((i : Int) + 1) = (i : Int) + 1 := IntWalk.i64_in _ (by omega)
      obtain ⟨sv, hsv⟩ : ∃ x, cst o (lf BL) i = x := ⟨_, rfl⟩
      have hnx : cst o (lf BL) (i + 1) = sv + lf BL i * (o.bn i).c := by rw [← hsv]; rfl
      rw [hsv] at hsb ⊢
      have HNX := Lib.hid hnx
      obtain ⟨x, hx⟩ : ∃ x, lf BL i = x := ⟨_, rfl⟩
      obtain ⟨y, hy⟩ : ∃ x, (o.bn i).c = x := ⟨_, rfl⟩
      rw [hx] at hsc hbd HNX
      rw [hy] at hbd HNX p2
      obtain ⟨P, hP⟩ : ∃ P, x * y = P := ⟨_, rfl⟩
      rw [hP] at hbd HNX
      have hPw : IntKind.i64.wrap P = P := IntWalk.i64_in _ (by omega)
      have hsw : IntKind.i64.wrap (sv + P) = sv + P := IntWalk.i64_in _ (by omega)
      clear hnx hsv hx hy
      obtain ⟨l0, l1, l2, l3, lf', lz⟩ := (k1.call hBr).four
      go_wp2_with fail
      clear l0 l1 l2 l3 lf' lz
      refine AnyG.startC (by kernel_rfl) ?_
      refine AnyG.takeP (i := 0) (v := ?_) rfl (by kernel_rfl) (fun _ _ _ h => h) rfl ?_ ?_
      rotate_left
      · (intro w'; go_simp; try with_reducible rfl)
      try simp only [Act.put, List.getElem_toArray, List.getElem_cons_succ, List.getElem_cons_zero, List.setIfInBounds_toArray, List.set_cons_zero, List.set_cons_succ]
      refine AnyG.takeP (i := 1) (v := ?_) rfl (by kernel_rfl) (fun _ _ _ h => h) rfl ?_ ?_
      rotate_left
      · (intro w'; go_simp; try with_reducible rfl)
      try simp only [Act.put, List.getElem_toArray, List.getElem_cons_succ, List.getElem_cons_zero, List.setIfInBounds_toArray, List.set_cons_zero, List.set_cons_succ]
      refine AnyG.takeP (i := 2) (v := ?_) rfl (by kernel_rfl) (fun _ _ _ h => h) rfl ?_ ?_
      rotate_left
      · (intro w'; go_simp; try with_reducible rfl)
      try simp only [Act.put, List.getElem_toArray, List.getElem_cons_succ, List.getElem_cons_zero, List.setIfInBounds_toArray, List.set_cons_zero, List.set_cons_succ]
      refine AnyG.takeP (i := 3) (v := ?_) rfl (by kernel_rfl) (fun _ _ _ h => h) rfl ?_ ?_
      rotate_left
      · (intro w'; go_simp; try with_reducible rfl)
      try simp only [Act.put, List.getElem_toArray, List.getElem_cons_succ, List.getElem_cons_zero, List.setIfInBounds_toArray, List.set_cons_zero, List.set_cons_succ]
      refine AnyG.takeP (i := 5) (v := ?_) rfl (by kernel_rfl) (fun _ _ _ h => h) rfl ?_ ?_
      rotate_left
      · (intro w'; go_simp; try with_reducible rfl)
      try simp only [Act.put, List.getElem_toArray, List.getElem_cons_succ, List.getElem_cons_zero, List.setIfInBounds_toArray, List.set_cons_zero, List.set_cons_succ]
      refine AnyG.takeP (i := 7) (v := ?_) rfl (by kernel_rfl) (fun _ _ _ h => h) rfl ?_ ?_
      rotate_left
      · (intro w'; go_simp; try with_reducible rfl)
      try simp only [Act.put, List.getElem_toArray, List.getElem_cons_succ, List.getElem_cons_zero, List.setIfInBounds_toArray, List.set_cons_zero, List.set_cons_succ]
      refine AnyG.enter (fun w' : World => Below V.heap.size V w') (fun i => true) ?_
      have hS : (fun w' : World => Below V.heap.size V w') (World.drew _) := hBr.drew
      refine AnyG.takeC (i := 4) (v := ?_) rfl (by kernel_rfl) (fun _ _ _ h => h) rfl ?_ hS ?_
      rotate_left
      · (intro w' hSw; (try dsimp only at hSw); have q := cellC hSw hsc; go_simp; try with_reducible rfl)
      try simp only [Act.put, List.getElem_toArray, List.getElem_cons_succ, List.getElem_cons_zero, List.setIfInBounds_toArray, List.set_cons_zero, List.set_cons_succ]
      refine AnyG.takeC (i := 6) (v := ?_) rfl (by kernel_rfl) (fun _ _ _ h => h) rfl ?_ hS ?_
      rotate_left
      · (intro w' hSw; (try dsimp only at hSw); obtain ⟨l0, l1, l2, l3, lf2, lz⟩ := (k1.call hSw).four; go_simp; try with_reducible rfl)
      try simp only [Act.put, List.getElem_toArray, List.getElem_cons_succ, List.getElem_cons_zero, List.setIfInBounds_toArray, List.set_cons_zero, List.set_cons_succ]
      refine AnyG.takeC (i := 8) (v := ?_) rfl (by kernel_rfl) (fun _ _ _ h => h) rfl ?_ hS ?_
      rotate_left
      · (intro w' hSw; (try dsimp only at hSw); go_simp; try with_reducible rfl)
      try simp only [Act.put, List.getElem_toArray, List.getElem_cons_succ, List.getElem_cons_zero, List.setIfInBounds_toArray, List.set_cons_zero, List.set_cons_succ]
      refine AnyG.takeC (i := 9) (v := ?_) rfl (by kernel_rfl) (fun _ _ _ h => h) rfl ?_ hS ?_
      rotate_left
      · (intro w' hSw; (try dsimp only at hSw); go_simp; try with_reducible rfl)
      try simp only [Act.put, List.getElem_toArray, List.getElem_cons_succ, List.getElem_cons_zero, List.setIfInBounds_toArray, List.set_cons_zero, List.set_cons_succ]
      refine AnyG.takeC (i := 10) (v := ?_) rfl (by kernel_rfl) (fun _ _ _ h => h) rfl ?_ hS ?_
      rotate_left
      · (intro w' hSw; (try dsimp only at hSw); have q := cellC hSw p2; go_simp; try with_reducible rfl)
      try simp only [Act.put, List.getElem_toArray, List.getElem_cons_succ, List.getElem_cons_zero, List.setIfInBounds_toArray, List.set_cons_zero, List.set_cons_succ]
      refine AnyG.takeC (i := 11) (v := ?_) rfl (by kernel_rfl) (fun _ _ _ h => h) rfl ?_ hS ?_
      rotate_left
      · (intro w' hSw; (try dsimp only at hSw); go_simp; try with_reducible rfl)
      try simp only [Act.put, List.getElem_toArray, List.getElem_cons_succ, List.getElem_cons_zero, List.setIfInBounds_toArray, List.set_cons_zero, List.set_cons_succ]
      refine AnyG.takeC (i := 12) (v := ?_) rfl (by kernel_rfl) (fun _ _ _ h => h) rfl ?_ hS ?_
      rotate_left
      · (intro w' hSw; (try dsimp only at hSw); go_simp; try with_reducible rfl)
      try simp only [Act.put, List.getElem_toArray, List.getElem_cons_succ, List.getElem_cons_zero, List.setIfInBounds_toArray, List.set_cons_zero, List.set_cons_succ]
      refine AnyG.takeC (i := 13) (v := ?_) rfl (by kernel_rfl) (fun _ _ _ h => h) rfl ?_ hS ?_
      rotate_left
      · (intro w' hSw; (try dsimp only at hSw); go_simp; try with_reducible rfl)
      try simp only [Act.put, List.getElem_toArray, List.getElem_cons_succ, List.getElem_cons_zero, List.setIfInBounds_toArray, List.set_cons_zero, List.set_cons_succ]
      refine AnyG.done (by kernel_rfl) ?_ _
      go_simp
      go_wp2_with fail
      go_roundw
      case rel => exact ⟨i + 1, by go_num, by omega, by rw [HNX.out], hBr.drew⟩
      case measure => simp [intOf]; omega
    · obtain rfl : i = n := by omega
      go_wp2_with fail
      go_ret
      exact ⟨rfl, B0.trans (hBr.mono B0.size)⟩
/-- The limits are kept, with the greatest or the least. -/
def hld (o : Od) (b : Nat → Int) (m : Bool) (k : Nat) : Bool := if m = true then !xk o b k else !nk o b k
def exM (o : Od) (b : Nat → Int) (m : Bool) (j k : Nat) : Int := if m = true then exX o b j k else exN o b j k
theorem hld_succ (o : Od) (b : Nat → Int) (m : Bool) (k : Nat) : hld o b m (k + 1) = (hld o b m k && decide (exM o b m k o.bs.length ≤ 0)) := by
  unfold hld exM
  cases m
  · simp only [Bool.false_eq_true, if_false, nk_succ, Bool.not_or]
    by_cases h : 0 < exN o b k o.bs.length <;> simp [h] <;> omega
  · simp only [if_true, xk_succ, Bool.not_or]
    by_cases h : 0 < exX o b k o.bs.length <;> simp [h] <;> omega
theorem hld_no {o : Od} {b : Nat → Int} {m : Bool} {j k : Nat} (hj : j < k) (h : 0 < exM o b m j o.bs.length) : hld o b m k = false := by
  induction k with
  | zero => omega
  | succ k ih =>
    rw [hld_succ]
    by_cases e : j = k
    · subst e; rw [decide_eq_false (by omega)]; simp
    · rw [ih (by omega)]; rfl
set_option maxRecDepth 100000 in
set_option maxHeartbeats 8000000 in
theorem refHolds_any (LA : Option Addr) (ln lc : Nat) (BA : Option Addr) (bn bc : Nat) (o : Od) (SA : Option Addr) (sc : Nat) (BL : List Int) (m : Bool) (w : World) (hl : o.lm.length = ln) (hb' : o.bs.length = bn) (hA : OrdAt w w.heap.size LA BA o) (ho : o.Ok) (hL : BL.length = bn) (hS : Sl w w.heap.size 1 SA (inr BL)) (h6 : Six (lf BL)) :
    Calls Try.prog 67 #[.agg #[.slice LA ln lc, .int .i64 o.le, .int .i64 o.mo, .slice BA bn bc], .slice SA bn sc, .bool m] w fun e w' => e = .returned (.bool (hld o (lf BL) m ln)) ∧ Below w.heap.size w w' := by
  have hbn4 : bn ≤ 4 := by rw [← hb']; exact ho.b2
  have hln3 : ln ≤ 3 := by rw [← hl]; exact ho.lm
  have k1 := Bx.new w 27 #[.slice LA ln lc, .int .i64 o.le, .int .i64 o.mo, .slice BA bn bc]
  have B0 := (Below.refl w.heap.size w).alloc (Nat.le_refl _) (.cells #[.slice LA ln lc, .int .i64 o.le, .int .i64 o.mo, .slice BA bn bc] 27)
  obtain ⟨V, hV⟩ : ∃ V, w.alloc (.cells #[.slice LA ln lc, .int .i64 o.le, .int .i64 o.mo, .slice BA bn bc] 27) = V := ⟨_, rfl⟩
  have hA1 := hA.call B0
  have hS1 := hS.call B0
  rw [hV] at k1 B0 hA1 hS1
  have HB := Lib.hid hb'
  have HLN := Lib.hid hl
  have HO := Lib.hid ho
  have HL := Lib.hid hL
  have H6 := Lib.hid h6
  have HV := Lib.hid hV
  clear hV hb' hl ho hL hA hS h6
  go_enter Try.func67, Try.ntmps67
  go_upto_region 1 with fail
  rw [HV.out]
  go_wp2_with fail
  go_loopw [7, 8, 9, 10] (fun v _ _ _ wr => ∃ (j : Nat), v = .int .i64 j ∧ j ≤ ln ∧ Hid (hld o (lf BL) m j = true) ∧ Below V.heap.size V wr) (fun v _ _ _ _ => ln - (intOf v).toNat)
  case atStart => exact ⟨0, rfl, by omega, Lib.hid (by cases m <;> rfl), Below.refl _ _⟩
  case round =>
    obtain ⟨j, rfl, hj, hh, hBr⟩ := hrel
    by_cases hjn : j < ln
    · have hjl : j < o.lm.length := by rw [HLN.out]; exact hjn
      have hjw : IntKind.i64.wrap ((j : Int) + 1) = (j : Int) + 1 := IntWalk.i64_in _ (by omega)
      obtain ⟨la, rfl, hla, hlj⟩ := inr_at hA1.lm hjl
      rw [Od.li_eq hjl] at hlj
      have hlb := HO.out.li (j := j)
      obtain ⟨lj, hljv⟩ : ∃ x, o.li j = x := ⟨_, rfl⟩
      rw [hljv] at hlj hlb
      have HLJ := Lib.hid hljv
      clear hljv
      obtain ⟨l0, l1, l2, l3, lf', lz⟩ := (k1.call hBr).four
      go_upto_region 5 with fail
      clear l0 l1 l2 l3 lf' lz
      go_wp2_with fail
      go_loopw [8, 9, 10] (fun s v _ wr => ∃ (i : Nat), v = .int .i64 i ∧ i ≤ bn ∧ s = .int .i64 (exM o (lf BL) m j i) ∧ Below V.heap.size V wr) (fun _ v _ _ => bn - (intOf v).toNat)
      case atStart => exact ⟨0, rfl, by omega, by cases m <;> rfl, hBr⟩
      case round =>
        clear hBr
        obtain ⟨i, rfl, hi, rfl, hBr⟩ := hrel
        obtain ⟨l0, l1, l2, l3, lf', lz⟩ := (k1.call hBr).four
        by_cases hin : i < bn
        · have hil : i < BL.length := by rw [HL.out]; exact hin
          have hio : i < o.bs.length := by rw [HB.out]; omega
          obtain ⟨sa, rfl, hsa, hsc⟩ := inr_at hS1 hil
          rw [lf_at hil] at hsc
          obtain ⟨ba, G, gc, rfl, hba, p0, p1, p2, p3, hgs⟩ := hA1.bs.at_ hio
          have hbo := HO.out.bn hio
          rw [HLN.out] at hbo
          rw [Od.bn_eq hio] at p0 p1 p2 p3 hgs
          rw [hbo.len] at p0
          obtain ⟨ga, rfl, hga, g0, g1⟩ := gnr_at hgs (by rw [hbo.len]; exact hjn)
          rw [Bn.g_eq (by rw [hbo.len]; exact hjn)] at g0 g1
          dsimp only at g0 g1
          have hgj := hbo.gj j
          have hwb := w_bd HO.out H6.out hio
          have hnb := n_bd HO.out H6.out hio j
          have hxb := x_bd HO.out H6.out hio j
          have hns := exN_bd HO.out H6.out (j := j) (k := i) (by omega)
          have hxs := exX_bd HO.out H6.out (j := j) (k := i) (by omega)
          have hiw : IntKind.i64.wrap ((i : Int) + 1) = (i : Int) + 1 := IntWalk.i64_in _ (by omega)
          rw [HLJ.out] at hnb hxb
          have hnx : exM o (lf BL) m j (i + 1) = exM o (lf BL) m j i + lf BL i * (o.bn i).w * ((if m = true then (o.bn i).g2 j else (o.bn i).g1 j) - lj) := by rw [← HLJ.out]; cases m <;> rfl
          have hes : -240000000000 ≤ exM o (lf BL) m j i ∧ exM o (lf BL) m j i ≤ 240000000000 := by unfold exM; split <;> assumption
          have heb : -60000000000 ≤ lf BL i * (o.bn i).w * ((if m = true then (o.bn i).g2 j else (o.bn i).g1 j) - lj) ∧ lf BL i * (o.bn i).w * ((if m = true then (o.bn i).g2 j else (o.bn i).g1 j) - lj) ≤ 60000000000 := by split <;> assumption
          clear hnb hxb hns hxs
          obtain ⟨sv, hsv⟩ : ∃ x, exM o (lf BL) m j i = x := ⟨_, rfl⟩
          rw [hsv] at hnx hes ⊢
          obtain ⟨x, hx⟩ : ∃ x, lf BL i = x := ⟨_, rfl⟩
          obtain ⟨y, hy⟩ : ∃ x, (o.bn i).w = x := ⟨_, rfl⟩
          obtain ⟨a1, ha1⟩ : ∃ x, (o.bn i).g1 j = x := ⟨_, rfl⟩
          obtain ⟨a2, ha2⟩ : ∃ x, (o.bn i).g2 j = x := ⟨_, rfl⟩
          rw [hx] at hsc hwb hnx heb
          rw [hy] at hwb hnx heb p1
          rw [ha1] at g0 hnx heb hgj
          rw [ha2] at g1 hnx heb hgj
          obtain ⟨P, hP⟩ : ∃ P, x * y = P := ⟨_, rfl⟩
          rw [hP] at hwb hnx heb
          have hPw : IntKind.i64.wrap P = P := IntWalk.i64_in _ (by omega)
          have HNX := Lib.hid hnx
          clear hnx hsv hx hy ha1 ha2 hbo
          cases m
          · rw [if_neg (by simp)] at heb
            have hnx2 : exM o (lf BL) false j (i + 1) = sv + P * (a1 - lj) := by rw [HNX.out]; simp
            clear HNX
            have HNX := Lib.hid hnx2
            clear hnx2
            obtain ⟨D, hD⟩ : ∃ D, a1 - lj = D := ⟨_, rfl⟩
            have hDw : IntKind.i64.wrap (a1 - lj) = D := by rw [IntWalk.i64_in _ (by omega)]; exact hD
            rw [hD] at heb HNX
            obtain ⟨E, hE⟩ : ∃ E, P * D = E := ⟨_, rfl⟩
            rw [hE] at heb HNX
            have hEw : IntKind.i64.wrap E = E := IntWalk.i64_in _ (by omega)
            have hsw : IntKind.i64.wrap (sv + E) = sv + E := IntWalk.i64_in _ (by omega)
            have HE := Lib.hid hD
            clear hD
            have q0 := cellC hBr p0
            have r0 := cellC hBr g0
            go_wp2_with fail
            clear l0 l1 l2 l3 lf' lz q0 r0
            refine AnyG.startC (by kernel_rfl) ?_
            refine AnyG.takeP (i := 0) (v := ?_) rfl (by kernel_rfl) (fun _ _ _ h => h) rfl ?_ ?_
            rotate_left
            · (intro w'; go_simp; try with_reducible rfl)
            try simp only [Act.put, List.getElem_toArray, List.getElem_cons_succ, List.getElem_cons_zero, List.setIfInBounds_toArray, List.set_cons_zero, List.set_cons_succ]
            refine AnyG.takeP (i := 1) (v := ?_) rfl (by kernel_rfl) (fun _ _ _ h => h) rfl ?_ ?_
            rotate_left
            · (intro w'; go_simp; try with_reducible rfl)
            try simp only [Act.put, List.getElem_toArray, List.getElem_cons_succ, List.getElem_cons_zero, List.setIfInBounds_toArray, List.set_cons_zero, List.set_cons_succ]
            refine AnyG.takeP (i := 2) (v := ?_) rfl (by kernel_rfl) (fun _ _ _ h => h) rfl ?_ ?_
            rotate_left
            · (intro w'; go_simp; try with_reducible rfl)
            try simp only [Act.put, List.getElem_toArray, List.getElem_cons_succ, List.getElem_cons_zero, List.setIfInBounds_toArray, List.set_cons_zero, List.set_cons_succ]
            refine AnyG.takeP (i := 3) (v := ?_) rfl (by kernel_rfl) (fun _ _ _ h => h) rfl ?_ ?_
            rotate_left
            · (intro w'; go_simp; try with_reducible rfl)
            try simp only [Act.put, List.getElem_toArray, List.getElem_cons_succ, List.getElem_cons_zero, List.setIfInBounds_toArray, List.set_cons_zero, List.set_cons_succ]
            refine AnyG.takeP (i := 5) (v := ?_) rfl (by kernel_rfl) (fun _ _ _ h => h) rfl ?_ ?_
            rotate_left
            · (intro w'; go_simp; try with_reducible rfl)
            try simp only [Act.put, List.getElem_toArray, List.getElem_cons_succ, List.getElem_cons_zero, List.setIfInBounds_toArray, List.set_cons_zero, List.set_cons_succ]
            refine AnyG.takeP (i := 7) (v := ?_) rfl (by kernel_rfl) (fun _ _ _ h => h) rfl ?_ ?_
            rotate_left
            · (intro w'; go_simp; try with_reducible rfl)
            try simp only [Act.put, List.getElem_toArray, List.getElem_cons_succ, List.getElem_cons_zero, List.setIfInBounds_toArray, List.set_cons_zero, List.set_cons_succ]
            refine AnyG.takeP (i := 12) (v := ?_) rfl (by kernel_rfl) (fun _ _ _ h => h) rfl ?_ ?_
            rotate_left
            · (intro w'; go_simp; try with_reducible rfl)
            try simp only [Act.put, List.getElem_toArray, List.getElem_cons_succ, List.getElem_cons_zero, List.setIfInBounds_toArray, List.set_cons_zero, List.set_cons_succ]
            refine AnyG.takeP (i := 13) (v := ?_) rfl (by kernel_rfl) (fun _ _ _ h => h) rfl ?_ ?_
            rotate_left
            · (intro w'; go_simp; try with_reducible rfl)
            try simp only [Act.put, List.getElem_toArray, List.getElem_cons_succ, List.getElem_cons_zero, List.setIfInBounds_toArray, List.set_cons_zero, List.set_cons_succ]
            refine AnyG.takeP (i := 15) (v := ?_) rfl (by kernel_rfl) (fun _ _ _ h => h) rfl ?_ ?_
            rotate_left
            · (intro w'; go_simp; try with_reducible rfl)
            try simp only [Act.put, List.getElem_toArray, List.getElem_cons_succ, List.getElem_cons_zero, List.setIfInBounds_toArray, List.set_cons_zero, List.set_cons_succ]
            refine AnyG.enter (fun w' : World => Below V.heap.size V w') (fun i => true) ?_
            have hS : (fun w' : World => Below V.heap.size V w') (World.drew _) := hBr.drew
            refine AnyG.takeC (i := 4) (v := ?_) rfl (by kernel_rfl) (fun _ _ _ h => h) rfl ?_ hS ?_
            rotate_left
            · (intro w' hSw; (try dsimp only at hSw); have q := cellC hSw hsc; go_simp; try with_reducible rfl)
            try simp only [Act.put, List.getElem_toArray, List.getElem_cons_succ, List.getElem_cons_zero, List.setIfInBounds_toArray, List.set_cons_zero, List.set_cons_succ]
            refine AnyG.takeC (i := 6) (v := ?_) rfl (by kernel_rfl) (fun _ _ _ h => h) rfl ?_ hS ?_
            rotate_left
            · (intro w' hSw; (try dsimp only at hSw); obtain ⟨l0, l1, l2, l3, lf2, lz⟩ := (k1.call hSw).four; go_simp; try with_reducible rfl)
            try simp only [Act.put, List.getElem_toArray, List.getElem_cons_succ, List.getElem_cons_zero, List.setIfInBounds_toArray, List.set_cons_zero, List.set_cons_succ]
            refine AnyG.takeC (i := 8) (v := ?_) rfl (by kernel_rfl) (fun _ _ _ h => h) rfl ?_ hS ?_
            rotate_left
            · (intro w' hSw; (try dsimp only at hSw); go_simp; try with_reducible rfl)
            try simp only [Act.put, List.getElem_toArray, List.getElem_cons_succ, List.getElem_cons_zero, List.setIfInBounds_toArray, List.set_cons_zero, List.set_cons_succ]
            refine AnyG.takeC (i := 9) (v := ?_) rfl (by kernel_rfl) (fun _ _ _ h => h) rfl ?_ hS ?_
            rotate_left
            · (intro w' hSw; (try dsimp only at hSw); go_simp; try with_reducible rfl)
            try simp only [Act.put, List.getElem_toArray, List.getElem_cons_succ, List.getElem_cons_zero, List.setIfInBounds_toArray, List.set_cons_zero, List.set_cons_succ]
            refine AnyG.takeC (i := 10) (v := ?_) rfl (by kernel_rfl) (fun _ _ _ h => h) rfl ?_ hS ?_
            rotate_left
            · (intro w' hSw; (try dsimp only at hSw); have q := cellC hSw p1; go_simp; try with_reducible rfl)
            try simp only [Act.put, List.getElem_toArray, List.getElem_cons_succ, List.getElem_cons_zero, List.setIfInBounds_toArray, List.set_cons_zero, List.set_cons_succ]
            refine AnyG.takeC (i := 11) (v := ?_) rfl (by kernel_rfl) (fun _ _ _ h => h) rfl ?_ hS ?_
            rotate_left
            · (intro w' hSw; (try dsimp only at hSw); go_simp; try with_reducible rfl)
            try simp only [Act.put, List.getElem_toArray, List.getElem_cons_succ, List.getElem_cons_zero, List.setIfInBounds_toArray, List.set_cons_zero, List.set_cons_succ]
            refine AnyG.takeC (i := 14) (v := ?_) rfl (by kernel_rfl) (fun _ _ _ h => h) rfl ?_ hS ?_
            rotate_left
            · (intro w' hSw; (try dsimp only at hSw); obtain ⟨l0, l1, l2, l3, lf2, lz⟩ := (k1.call hSw).four; go_simp; try with_reducible rfl)
            try simp only [Act.put, List.getElem_toArray, List.getElem_cons_succ, List.getElem_cons_zero, List.setIfInBounds_toArray, List.set_cons_zero, List.set_cons_succ]
            refine AnyG.takeC (i := 16) (v := ?_) rfl (by kernel_rfl) (fun _ _ _ h => h) rfl ?_ hS ?_
            rotate_left
            · (intro w' hSw; (try dsimp only at hSw); go_simp; try with_reducible rfl)
            try simp only [Act.put, List.getElem_toArray, List.getElem_cons_succ, List.getElem_cons_zero, List.setIfInBounds_toArray, List.set_cons_zero, List.set_cons_succ]
            refine AnyG.takeC (i := 17) (v := ?_) rfl (by kernel_rfl) (fun _ _ _ h => h) rfl ?_ hS ?_
            rotate_left
            · (intro w' hSw; (try dsimp only at hSw); have q := cellC hSw hlj; go_simp; try with_reducible rfl)
            try simp only [Act.put, List.getElem_toArray, List.getElem_cons_succ, List.getElem_cons_zero, List.setIfInBounds_toArray, List.set_cons_zero, List.set_cons_succ]
            refine AnyG.takeC (i := 18) (v := ?_) rfl (by kernel_rfl) (fun _ _ _ h => h) rfl ?_ hS ?_
            rotate_left
            · (intro w' hSw; (try dsimp only at hSw); go_simp; try with_reducible rfl)
            try simp only [Act.put, List.getElem_toArray, List.getElem_cons_succ, List.getElem_cons_zero, List.setIfInBounds_toArray, List.set_cons_zero, List.set_cons_succ]
            refine AnyG.takeC (i := 19) (v := ?_) rfl (by kernel_rfl) (fun _ _ _ h => h) rfl ?_ hS ?_
            rotate_left
            · (intro w' hSw; (try dsimp only at hSw); go_simp; try with_reducible rfl)
            try simp only [Act.put, List.getElem_toArray, List.getElem_cons_succ, List.getElem_cons_zero, List.setIfInBounds_toArray, List.set_cons_zero, List.set_cons_succ]
            refine AnyG.takeC (i := 20) (v := ?_) rfl (by kernel_rfl) (fun _ _ _ h => h) rfl ?_ hS ?_
            rotate_left
            · (intro w' hSw; (try dsimp only at hSw); go_simp; try with_reducible rfl)
            try simp only [Act.put, List.getElem_toArray, List.getElem_cons_succ, List.getElem_cons_zero, List.setIfInBounds_toArray, List.set_cons_zero, List.set_cons_succ]
            refine AnyG.takeC (i := 21) (v := ?_) rfl (by kernel_rfl) (fun _ _ _ h => h) rfl ?_ hS ?_
            rotate_left
            · (intro w' hSw; (try dsimp only at hSw); go_simp; try with_reducible rfl)
            try simp only [Act.put, List.getElem_toArray, List.getElem_cons_succ, List.getElem_cons_zero, List.setIfInBounds_toArray, List.set_cons_zero, List.set_cons_succ]
            refine AnyG.done (by kernel_rfl) ?_ _
            go_simp
            go_wp2_with fail
            go_roundw
            case rel => exact ⟨i + 1, by go_num, by omega, by rw [HNX.out], hBr.drew⟩
            case measure => simp [intOf]; omega
          · rw [if_pos rfl] at heb
            have hnx2 : exM o (lf BL) true j (i + 1) = sv + P * (a2 - lj) := by rw [HNX.out]; simp
            clear HNX
            have HNX := Lib.hid hnx2
            clear hnx2
            obtain ⟨D, hD⟩ : ∃ D, a2 - lj = D := ⟨_, rfl⟩
            have hDw : IntKind.i64.wrap (a2 - lj) = D := by rw [IntWalk.i64_in _ (by omega)]; exact hD
            rw [hD] at heb HNX
            obtain ⟨E, hE⟩ : ∃ E, P * D = E := ⟨_, rfl⟩
            rw [hE] at heb HNX
            have hEw : IntKind.i64.wrap E = E := IntWalk.i64_in _ (by omega)
            have hsw : IntKind.i64.wrap (sv + E) = sv + E := IntWalk.i64_in _ (by omega)
            have HE := Lib.hid hD
            clear hD
            have q0 := cellC hBr p0
            have r0 := cellC hBr g0
            have r1 := cellC hBr g1
            go_wp2_with fail
            clear l0 l1 l2 l3 lf' lz q0 r0 r1
            refine AnyG.startC (by kernel_rfl) ?_
            refine AnyG.takeP (i := 0) (v := ?_) rfl (by kernel_rfl) (fun _ _ _ h => h) rfl ?_ ?_
            rotate_left
            · (intro w'; go_simp; try with_reducible rfl)
            try simp only [Act.put, List.getElem_toArray, List.getElem_cons_succ, List.getElem_cons_zero, List.setIfInBounds_toArray, List.set_cons_zero, List.set_cons_succ]
            refine AnyG.takeP (i := 1) (v := ?_) rfl (by kernel_rfl) (fun _ _ _ h => h) rfl ?_ ?_
            rotate_left
            · (intro w'; go_simp; try with_reducible rfl)
            try simp only [Act.put, List.getElem_toArray, List.getElem_cons_succ, List.getElem_cons_zero, List.setIfInBounds_toArray, List.set_cons_zero, List.set_cons_succ]
            refine AnyG.takeP (i := 2) (v := ?_) rfl (by kernel_rfl) (fun _ _ _ h => h) rfl ?_ ?_
            rotate_left
            · (intro w'; go_simp; try with_reducible rfl)
            try simp only [Act.put, List.getElem_toArray, List.getElem_cons_succ, List.getElem_cons_zero, List.setIfInBounds_toArray, List.set_cons_zero, List.set_cons_succ]
            refine AnyG.takeP (i := 3) (v := ?_) rfl (by kernel_rfl) (fun _ _ _ h => h) rfl ?_ ?_
            rotate_left
            · (intro w'; go_simp; try with_reducible rfl)
            try simp only [Act.put, List.getElem_toArray, List.getElem_cons_succ, List.getElem_cons_zero, List.setIfInBounds_toArray, List.set_cons_zero, List.set_cons_succ]
            refine AnyG.takeP (i := 5) (v := ?_) rfl (by kernel_rfl) (fun _ _ _ h => h) rfl ?_ ?_
            rotate_left
            · (intro w'; go_simp; try with_reducible rfl)
            try simp only [Act.put, List.getElem_toArray, List.getElem_cons_succ, List.getElem_cons_zero, List.setIfInBounds_toArray, List.set_cons_zero, List.set_cons_succ]
            refine AnyG.takeP (i := 7) (v := ?_) rfl (by kernel_rfl) (fun _ _ _ h => h) rfl ?_ ?_
            rotate_left
            · (intro w'; go_simp; try with_reducible rfl)
            try simp only [Act.put, List.getElem_toArray, List.getElem_cons_succ, List.getElem_cons_zero, List.setIfInBounds_toArray, List.set_cons_zero, List.set_cons_succ]
            refine AnyG.takeP (i := 12) (v := ?_) rfl (by kernel_rfl) (fun _ _ _ h => h) rfl ?_ ?_
            rotate_left
            · (intro w'; go_simp; try with_reducible rfl)
            try simp only [Act.put, List.getElem_toArray, List.getElem_cons_succ, List.getElem_cons_zero, List.setIfInBounds_toArray, List.set_cons_zero, List.set_cons_succ]
            refine AnyG.takeP (i := 13) (v := ?_) rfl (by kernel_rfl) (fun _ _ _ h => h) rfl ?_ ?_
            rotate_left
            · (intro w'; go_simp; try with_reducible rfl)
            try simp only [Act.put, List.getElem_toArray, List.getElem_cons_succ, List.getElem_cons_zero, List.setIfInBounds_toArray, List.set_cons_zero, List.set_cons_succ]
            refine AnyG.takeP (i := 15) (v := ?_) rfl (by kernel_rfl) (fun _ _ _ h => h) rfl ?_ ?_
            rotate_left
            · (intro w'; go_simp; try with_reducible rfl)
            try simp only [Act.put, List.getElem_toArray, List.getElem_cons_succ, List.getElem_cons_zero, List.setIfInBounds_toArray, List.set_cons_zero, List.set_cons_succ]
            refine AnyG.enter (fun w' : World => Below V.heap.size V w') (fun i => true) ?_
            have hS : (fun w' : World => Below V.heap.size V w') (World.drew _) := hBr.drew
            refine AnyG.takeC (i := 4) (v := ?_) rfl (by kernel_rfl) (fun _ _ _ h => h) rfl ?_ hS ?_
            rotate_left
            · (intro w' hSw; (try dsimp only at hSw); have q := cellC hSw hsc; go_simp; try with_reducible rfl)
            try simp only [Act.put, List.getElem_toArray, List.getElem_cons_succ, List.getElem_cons_zero, List.setIfInBounds_toArray, List.set_cons_zero, List.set_cons_succ]
            refine AnyG.takeC (i := 6) (v := ?_) rfl (by kernel_rfl) (fun _ _ _ h => h) rfl ?_ hS ?_
            rotate_left
            · (intro w' hSw; (try dsimp only at hSw); obtain ⟨l0, l1, l2, l3, lf2, lz⟩ := (k1.call hSw).four; go_simp; try with_reducible rfl)
            try simp only [Act.put, List.getElem_toArray, List.getElem_cons_succ, List.getElem_cons_zero, List.setIfInBounds_toArray, List.set_cons_zero, List.set_cons_succ]
            refine AnyG.takeC (i := 8) (v := ?_) rfl (by kernel_rfl) (fun _ _ _ h => h) rfl ?_ hS ?_
            rotate_left
            · (intro w' hSw; (try dsimp only at hSw); go_simp; try with_reducible rfl)
            try simp only [Act.put, List.getElem_toArray, List.getElem_cons_succ, List.getElem_cons_zero, List.setIfInBounds_toArray, List.set_cons_zero, List.set_cons_succ]
            refine AnyG.takeC (i := 9) (v := ?_) rfl (by kernel_rfl) (fun _ _ _ h => h) rfl ?_ hS ?_
            rotate_left
            · (intro w' hSw; (try dsimp only at hSw); go_simp; try with_reducible rfl)
            try simp only [Act.put, List.getElem_toArray, List.getElem_cons_succ, List.getElem_cons_zero, List.setIfInBounds_toArray, List.set_cons_zero, List.set_cons_succ]
            refine AnyG.takeC (i := 10) (v := ?_) rfl (by kernel_rfl) (fun _ _ _ h => h) rfl ?_ hS ?_
            rotate_left
            · (intro w' hSw; (try dsimp only at hSw); have q := cellC hSw p1; go_simp; try with_reducible rfl)
            try simp only [Act.put, List.getElem_toArray, List.getElem_cons_succ, List.getElem_cons_zero, List.setIfInBounds_toArray, List.set_cons_zero, List.set_cons_succ]
            refine AnyG.takeC (i := 11) (v := ?_) rfl (by kernel_rfl) (fun _ _ _ h => h) rfl ?_ hS ?_
            rotate_left
            · (intro w' hSw; (try dsimp only at hSw); go_simp; try with_reducible rfl)
            try simp only [Act.put, List.getElem_toArray, List.getElem_cons_succ, List.getElem_cons_zero, List.setIfInBounds_toArray, List.set_cons_zero, List.set_cons_succ]
            refine AnyG.takeC (i := 14) (v := ?_) rfl (by kernel_rfl) (fun _ _ _ h => h) rfl ?_ hS ?_
            rotate_left
            · (intro w' hSw; (try dsimp only at hSw); obtain ⟨l0, l1, l2, l3, lf2, lz⟩ := (k1.call hSw).four; go_simp; try with_reducible rfl)
            try simp only [Act.put, List.getElem_toArray, List.getElem_cons_succ, List.getElem_cons_zero, List.setIfInBounds_toArray, List.set_cons_zero, List.set_cons_succ]
            refine AnyG.takeC (i := 16) (v := ?_) rfl (by kernel_rfl) (fun _ _ _ h => h) rfl ?_ hS ?_
            rotate_left
            · (intro w' hSw; (try dsimp only at hSw); go_simp; try with_reducible rfl)
            try simp only [Act.put, List.getElem_toArray, List.getElem_cons_succ, List.getElem_cons_zero, List.setIfInBounds_toArray, List.set_cons_zero, List.set_cons_succ]
            refine AnyG.takeC (i := 17) (v := ?_) rfl (by kernel_rfl) (fun _ _ _ h => h) rfl ?_ hS ?_
            rotate_left
            · (intro w' hSw; (try dsimp only at hSw); have q := cellC hSw hlj; go_simp; try with_reducible rfl)
            try simp only [Act.put, List.getElem_toArray, List.getElem_cons_succ, List.getElem_cons_zero, List.setIfInBounds_toArray, List.set_cons_zero, List.set_cons_succ]
            refine AnyG.takeC (i := 18) (v := ?_) rfl (by kernel_rfl) (fun _ _ _ h => h) rfl ?_ hS ?_
            rotate_left
            · (intro w' hSw; (try dsimp only at hSw); go_simp; try with_reducible rfl)
            try simp only [Act.put, List.getElem_toArray, List.getElem_cons_succ, List.getElem_cons_zero, List.setIfInBounds_toArray, List.set_cons_zero, List.set_cons_succ]
            refine AnyG.takeC (i := 19) (v := ?_) rfl (by kernel_rfl) (fun _ _ _ h => h) rfl ?_ hS ?_
            rotate_left
            · (intro w' hSw; (try dsimp only at hSw); go_simp; try with_reducible rfl)
            try simp only [Act.put, List.getElem_toArray, List.getElem_cons_succ, List.getElem_cons_zero, List.setIfInBounds_toArray, List.set_cons_zero, List.set_cons_succ]
            refine AnyG.takeC (i := 20) (v := ?_) rfl (by kernel_rfl) (fun _ _ _ h => h) rfl ?_ hS ?_
            rotate_left
            · (intro w' hSw; (try dsimp only at hSw); go_simp; try with_reducible rfl)
            try simp only [Act.put, List.getElem_toArray, List.getElem_cons_succ, List.getElem_cons_zero, List.setIfInBounds_toArray, List.set_cons_zero, List.set_cons_succ]
            refine AnyG.takeC (i := 21) (v := ?_) rfl (by kernel_rfl) (fun _ _ _ h => h) rfl ?_ hS ?_
            rotate_left
            · (intro w' hSw; (try dsimp only at hSw); go_simp; try with_reducible rfl)
            try simp only [Act.put, List.getElem_toArray, List.getElem_cons_succ, List.getElem_cons_zero, List.setIfInBounds_toArray, List.set_cons_zero, List.set_cons_succ]
            refine AnyG.done (by kernel_rfl) ?_ _
            go_simp
            go_wp2_with fail
            go_roundw
            case rel => exact ⟨i + 1, by go_num, by omega, by rw [HNX.out], hBr.drew⟩
            case measure => simp [intOf]; omega
        · obtain rfl : i = bn := by omega
          by_cases hp : 0 < exM o (lf BL) m j i
          · have d : decide (0 < exM o (lf BL) m j i) = true := decide_eq_true hp
            have hno : hld o (lf BL) m ln = false := hld_no hjn (by rw [HB.out]; exact hp)
            have HNO := Lib.hid hno
            clear hp hno
            go_wp2_with fail
            go_ret
            rw [HNO.out]
            exact ⟨rfl, B0.trans (hBr.mono B0.size)⟩
          · have d : decide (0 < exM o (lf BL) m j i) = false := decide_eq_false hp
            have hyes : hld o (lf BL) m (j + 1) = true := by rw [hld_succ, hh.out, HB.out, decide_eq_true (by omega)]; rfl
            have HY := Lib.hid hyes
            clear hp hyes
            go_wp2_with fail
            go_roundw
            case rel => exact ⟨j + 1, by go_num, by omega, HY, hBr⟩
            case measure => simp [intOf]; omega
    · obtain rfl : j = ln := by omega
      obtain ⟨l0, l1, l2, l3, lf', lz⟩ := (k1.call hBr).four
      go_wp2_with fail
      go_ret
      rw [hh.out]
      exact ⟨rfl, B0.trans (hBr.mono B0.size)⟩
theorem good_dec {o : Od} (ho : o.Ok) {b : Nat → Int} (hb : Six b) : decide (Good o b) = (decide (o.le ≤ kil o b o.bs.length ∧ kil o b o.bs.length ≤ o.mo) && hld o b true o.lm.length) := by
  have e : hld o b true o.lm.length = decide (kv o b = 1) := by
    unfold hld kv
    rw [if_pos rfl]
    by_cases hx : xk o b o.lm.length = true
    · rw [hx]; split <;> simp
    · have hn : ¬ nk o b o.lm.length = true := by
        intro hn
        apply hx
        simp only [nk, xk, List.any_eq_true, List.mem_range, decide_eq_true_eq] at hn ⊢
        obtain ⟨j, hj, h⟩ := hn
        exact ⟨j, hj, Int.lt_of_lt_of_le h (exN_exX ho hb (Nat.le_refl _))⟩
      rw [if_neg hn, if_neg hx]; simp at hx; simp [hx]
  rw [e]
  unfold Good
  by_cases h1 : o.le ≤ kil o b o.bs.length <;> by_cases h2 : kil o b o.bs.length ≤ o.mo <;> by_cases h3 : kv o b = 1 <;> simp [h1, h2, h3]
set_option maxRecDepth 100000 in
set_option maxHeartbeats 4000000 in
theorem refGood_any (LA : Option Addr) (ln lc : Nat) (BA : Option Addr) (bn bc : Nat) (o : Od) (SA : Option Addr) (sc : Nat) (BL : List Int) (w : World) (hl : o.lm.length = ln) (hb' : o.bs.length = bn) (hA : OrdAt w w.heap.size LA BA o) (ho : o.Ok) (hL : BL.length = bn) (hS : Sl w w.heap.size 1 SA (inr BL)) (h6 : Six (lf BL)) :
    Calls Try.prog 28 #[.agg #[.slice LA ln lc, .int .i64 o.le, .int .i64 o.mo, .slice BA bn bc], .slice SA bn sc] w fun e w' => e = .returned (.bool (decide (Good o (lf BL)))) ∧ Below w.heap.size w w' := by
  have k1 := Bx.new w 27 #[.slice LA ln lc, .int .i64 o.le, .int .i64 o.mo, .slice BA bn bc]
  have B0 := (Below.refl w.heap.size w).alloc (Nat.le_refl _) (.cells #[.slice LA ln lc, .int .i64 o.le, .int .i64 o.mo, .slice BA bn bc] 27)
  obtain ⟨V, hV⟩ : ∃ V, w.alloc (.cells #[.slice LA ln lc, .int .i64 o.le, .int .i64 o.mo, .slice BA bn bc] 27) = V := ⟨_, rfl⟩
  have hA1 := hA.call B0
  have hS1 := hS.call B0
  have hgd := good_dec ho h6
  rw [hl, hb'] at hgd
  rw [hV] at k1 B0 hA1 hS1
  have HB := Lib.hid hb'
  have HLN := Lib.hid hl
  have HO := Lib.hid ho
  have HL := Lib.hid hL
  have H6 := Lib.hid h6
  have HV := Lib.hid hV
  clear hV hb' hl ho hL hA hS h6
  cases hf : decide (o.le ≤ kil o (lf BL) bn ∧ kil o (lf BL) bn ≤ o.mo) with
  | false =>
    rw [hf] at hgd
    rw [hgd]
    have HF := Lib.hid hf
    clear hf hgd
    go_enter Try.func28, Try.ntmps28
    go_upto_region 1 with fail
    rw [HV.out]
    go_wp2_with fail
    refine AnyG.startC (by kernel_rfl) ?_
    refine AnyG.takeP (i := 1) (v := ?_) rfl (by kernel_rfl) (fun _ _ _ h => h) rfl ?_ ?_
    rotate_left
    · (intro w'; go_simp; try with_reducible rfl)
    try simp only [Act.put, List.getElem_toArray, List.getElem_cons_succ, List.getElem_cons_zero, List.setIfInBounds_toArray, List.set_cons_zero, List.set_cons_succ]
    refine AnyG.takeP (i := 3) (v := ?_) rfl (by kernel_rfl) (fun _ _ _ h => h) rfl ?_ ?_
    rotate_left
    · (intro w'; go_simp; try with_reducible rfl)
    try simp only [Act.put, List.getElem_toArray, List.getElem_cons_succ, List.getElem_cons_zero, List.setIfInBounds_toArray, List.set_cons_zero, List.set_cons_succ]
    refine AnyG.takeP (i := 5) (v := ?_) rfl (by kernel_rfl) (fun _ _ _ h => h) rfl ?_ ?_
    rotate_left
    · (intro w'; go_simp; try with_reducible rfl)
    try simp only [Act.put, List.getElem_toArray, List.getElem_cons_succ, List.getElem_cons_zero, List.setIfInBounds_toArray, List.set_cons_zero, List.set_cons_succ]
    refine AnyG.enter (fun w' : World => Below V.heap.size V w') (fun i => i != 13) ?_
    have hS : (fun w' : World => Below V.heap.size V w') (World.drew _) := (Below.refl _ _).drew
    refine AnyG.takeC (i := 0) (v := ?_) rfl (by kernel_rfl) (fun _ _ _ h => h) rfl ?_ hS ?_
    rotate_left
    · (intro w' hSw; (try dsimp only at hSw); obtain ⟨l0, l1, l2, l3, lf2, lz⟩ := (k1.call hSw).four; go_simp; try with_reducible rfl)
    try simp only [Act.put, List.getElem_toArray, List.getElem_cons_succ, List.getElem_cons_zero, List.setIfInBounds_toArray, List.set_cons_zero, List.set_cons_succ]
    refine AnyG.takeC (i := 4) (v := ?_) rfl (by kernel_rfl) (fun _ _ _ h => h) rfl ?_ hS ?_
    rotate_left
    · (intro w' hSw; (try dsimp only at hSw); obtain ⟨l0, l1, l2, l3, lf2, lz⟩ := (k1.call hSw).four; go_simp; try with_reducible rfl)
    try simp only [Act.put, List.getElem_toArray, List.getElem_cons_succ, List.getElem_cons_zero, List.setIfInBounds_toArray, List.set_cons_zero, List.set_cons_succ]
    refine AnyG.takeC (i := 6) (v := ?_) rfl (by kernel_rfl) (fun _ _ _ h => h) rfl ?_ hS ?_
    rotate_left
    · (intro w' hSw; (try dsimp only at hSw); obtain ⟨l0, l1, l2, l3, lf2, lz⟩ := (k1.call hSw).four; go_simp; try with_reducible rfl)
    try simp only [Act.put, List.getElem_toArray, List.getElem_cons_succ, List.getElem_cons_zero, List.setIfInBounds_toArray, List.set_cons_zero, List.set_cons_succ]
    refine AnyG.one (i := 2) (by kernel_rfl) rfl rfl ?_
    go_simp
    refine (refKilos_any LA ln lc BA bn bc o SA bn sc BL _ HB.out (hA1.call hS) HO.out HL.out (Nat.le_refl _) (hS1.call hS) H6.out).mono ?_
    rintro e2 y2 ⟨rfl, hb2⟩
    refine Onward.on (hS.trans (hb2.mono hS.size)) (fun hS2 => ?_)
    clear hS
    have hS := hS2
    clear hS2
    try simp only [Act.put, List.getElem_toArray, List.getElem_cons_succ, List.getElem_cons_zero, List.setIfInBounds_toArray, List.set_cons_zero, List.set_cons_succ]
    refine AnyG.one (i := 7) (by kernel_rfl) rfl rfl ?_
    go_simp
    refine (from65_any _ _ _ _).mono ?_
    rintro e7 y7 ⟨rfl, hb7⟩
    rw [HF.out]
    refine Onward.on (hS.trans (hb7.mono hS.size)) (fun hS2 => ?_)
    clear hS
    have hS := hS2
    clear hS2
    try simp only [Act.put, List.getElem_toArray, List.getElem_cons_succ, List.getElem_cons_zero, List.setIfInBounds_toArray, List.set_cons_zero, List.set_cons_succ]
    refine AnyG.takeC (i := 8) (v := ?_) rfl (by kernel_rfl) (fun _ _ _ h => h) rfl ?_ hS ?_
    rotate_left
    · (intro w' hSw; (try dsimp only at hSw); go_simp; try with_reducible rfl)
    try simp only [Act.put, List.getElem_toArray, List.getElem_cons_succ, List.getElem_cons_zero, List.setIfInBounds_toArray, List.set_cons_zero, List.set_cons_succ]
    refine AnyG.takeNC (i := 9) rfl (by kernel_rfl) (fun _ _ _ h => h) (by first | (simp [Region.wanted, yielded]; done) | simp [Region.wanted, yielded, undef]) hS ?_
    try simp only [Act.put, List.getElem_toArray, List.getElem_cons_succ, List.getElem_cons_zero, List.setIfInBounds_toArray, List.set_cons_zero, List.set_cons_succ]
    refine AnyG.takeNC (i := 10) rfl (by kernel_rfl) (fun _ _ _ h => h) (by first | (simp [Region.wanted, yielded]; done) | simp [Region.wanted, yielded, undef]) hS ?_
    try simp only [Act.put, List.getElem_toArray, List.getElem_cons_succ, List.getElem_cons_zero, List.setIfInBounds_toArray, List.set_cons_zero, List.set_cons_succ]
    refine AnyG.takeNC (i := 11) rfl (by kernel_rfl) (fun _ _ _ h => h) (by first | (simp [Region.wanted, yielded]; done) | simp [Region.wanted, yielded, undef]) hS ?_
    try simp only [Act.put, List.getElem_toArray, List.getElem_cons_succ, List.getElem_cons_zero, List.setIfInBounds_toArray, List.set_cons_zero, List.set_cons_succ]
    refine AnyG.takeC (i := 12) (v := ?_) rfl (by kernel_rfl) (fun _ _ _ h => h) rfl ?_ hS ?_
    rotate_left
    · (intro w' hSw; (try dsimp only at hSw); go_simp; try with_reducible rfl)
    try simp only [Act.put, List.getElem_toArray, List.getElem_cons_succ, List.getElem_cons_zero, List.setIfInBounds_toArray, List.set_cons_zero, List.set_cons_succ]
    refine AnyG.takeC (i := 13) (v := ?_) rfl (by kernel_rfl) (fun _ _ _ h => h) rfl ?_ hS ?_
    rotate_left
    · (intro w' hSw; (try dsimp only at hSw); go_simp; try with_reducible rfl)
    try simp only [Act.put, List.getElem_toArray, List.getElem_cons_succ, List.getElem_cons_zero, List.setIfInBounds_toArray, List.set_cons_zero, List.set_cons_succ]
    refine AnyG.done (by kernel_rfl) ?_ _
    go_simp
    go_wp2_with fail
    go_ret
    exact ⟨by simp, B0.trans (hS.mono B0.size)⟩
  | true =>
    rw [hf] at hgd
    rw [hgd]
    have HF := Lib.hid hf
    clear hf hgd
    go_enter Try.func28, Try.ntmps28
    go_upto_region 1 with fail
    rw [HV.out]
    go_wp2_with fail
    refine AnyG.startC (by kernel_rfl) ?_
    refine AnyG.takeP (i := 1) (v := ?_) rfl (by kernel_rfl) (fun _ _ _ h => h) rfl ?_ ?_
    rotate_left
    · (intro w'; go_simp; try with_reducible rfl)
    try simp only [Act.put, List.getElem_toArray, List.getElem_cons_succ, List.getElem_cons_zero, List.setIfInBounds_toArray, List.set_cons_zero, List.set_cons_succ]
    refine AnyG.takeP (i := 3) (v := ?_) rfl (by kernel_rfl) (fun _ _ _ h => h) rfl ?_ ?_
    rotate_left
    · (intro w'; go_simp; try with_reducible rfl)
    try simp only [Act.put, List.getElem_toArray, List.getElem_cons_succ, List.getElem_cons_zero, List.setIfInBounds_toArray, List.set_cons_zero, List.set_cons_succ]
    refine AnyG.takeP (i := 5) (v := ?_) rfl (by kernel_rfl) (fun _ _ _ h => h) rfl ?_ ?_
    rotate_left
    · (intro w'; go_simp; try with_reducible rfl)
    try simp only [Act.put, List.getElem_toArray, List.getElem_cons_succ, List.getElem_cons_zero, List.setIfInBounds_toArray, List.set_cons_zero, List.set_cons_succ]
    refine AnyG.enter (fun w' : World => Below V.heap.size V w') (fun i => i != 13) ?_
    have hS : (fun w' : World => Below V.heap.size V w') (World.drew _) := (Below.refl _ _).drew
    refine AnyG.takeC (i := 0) (v := ?_) rfl (by kernel_rfl) (fun _ _ _ h => h) rfl ?_ hS ?_
    rotate_left
    · (intro w' hSw; (try dsimp only at hSw); obtain ⟨l0, l1, l2, l3, lf2, lz⟩ := (k1.call hSw).four; go_simp; try with_reducible rfl)
    try simp only [Act.put, List.getElem_toArray, List.getElem_cons_succ, List.getElem_cons_zero, List.setIfInBounds_toArray, List.set_cons_zero, List.set_cons_succ]
    refine AnyG.takeC (i := 4) (v := ?_) rfl (by kernel_rfl) (fun _ _ _ h => h) rfl ?_ hS ?_
    rotate_left
    · (intro w' hSw; (try dsimp only at hSw); obtain ⟨l0, l1, l2, l3, lf2, lz⟩ := (k1.call hSw).four; go_simp; try with_reducible rfl)
    try simp only [Act.put, List.getElem_toArray, List.getElem_cons_succ, List.getElem_cons_zero, List.setIfInBounds_toArray, List.set_cons_zero, List.set_cons_succ]
    refine AnyG.takeC (i := 6) (v := ?_) rfl (by kernel_rfl) (fun _ _ _ h => h) rfl ?_ hS ?_
    rotate_left
    · (intro w' hSw; (try dsimp only at hSw); obtain ⟨l0, l1, l2, l3, lf2, lz⟩ := (k1.call hSw).four; go_simp; try with_reducible rfl)
    try simp only [Act.put, List.getElem_toArray, List.getElem_cons_succ, List.getElem_cons_zero, List.setIfInBounds_toArray, List.set_cons_zero, List.set_cons_succ]
    refine AnyG.one (i := 2) (by kernel_rfl) rfl rfl ?_
    go_simp
    refine (refKilos_any LA ln lc BA bn bc o SA bn sc BL _ HB.out (hA1.call hS) HO.out HL.out (Nat.le_refl _) (hS1.call hS) H6.out).mono ?_
    rintro e2 y2 ⟨rfl, hb2⟩
    refine Onward.on (hS.trans (hb2.mono hS.size)) (fun hS2 => ?_)
    clear hS
    have hS := hS2
    clear hS2
    try simp only [Act.put, List.getElem_toArray, List.getElem_cons_succ, List.getElem_cons_zero, List.setIfInBounds_toArray, List.set_cons_zero, List.set_cons_succ]
    refine AnyG.one (i := 7) (by kernel_rfl) rfl rfl ?_
    go_simp
    refine (from65_any _ _ _ _).mono ?_
    rintro e7 y7 ⟨rfl, hb7⟩
    rw [HF.out]
    refine Onward.on (hS.trans (hb7.mono hS.size)) (fun hS2 => ?_)
    clear hS
    have hS := hS2
    clear hS2
    try simp only [Act.put, List.getElem_toArray, List.getElem_cons_succ, List.getElem_cons_zero, List.setIfInBounds_toArray, List.set_cons_zero, List.set_cons_succ]
    refine AnyG.takeC (i := 8) (v := ?_) rfl (by kernel_rfl) (fun _ _ _ h => h) rfl ?_ hS ?_
    rotate_left
    · (intro w' hSw; (try dsimp only at hSw); go_simp; try with_reducible rfl)
    try simp only [Act.put, List.getElem_toArray, List.getElem_cons_succ, List.getElem_cons_zero, List.setIfInBounds_toArray, List.set_cons_zero, List.set_cons_succ]
    refine AnyG.takeGC (i := 9) (v := ?_) rfl (by kernel_rfl) (fun _ _ _ h => h) (by first | (simp [Region.wanted, yielded]; done) | simp [Region.wanted, yielded, undef]) ?_ hS ?_
    rotate_left
    · (intro w' hSw; (try dsimp only at hSw); obtain ⟨l0, l1, l2, l3, lf2, lz⟩ := (k1.call hSw).four; go_simp; try with_reducible rfl)
    try simp only [Act.put, List.getElem_toArray, List.getElem_cons_succ, List.getElem_cons_zero, List.setIfInBounds_toArray, List.set_cons_zero, List.set_cons_succ]
    refine AnyG.takeGC (i := 10) (v := ?_) rfl (by kernel_rfl) (fun _ _ _ h => h) (by first | (simp [Region.wanted, yielded]; done) | simp [Region.wanted, yielded, undef]) ?_ hS ?_
    rotate_left
    · (intro w' hSw; (try dsimp only at hSw); go_simp; try with_reducible rfl)
    try simp only [Act.put, List.getElem_toArray, List.getElem_cons_succ, List.getElem_cons_zero, List.setIfInBounds_toArray, List.set_cons_zero, List.set_cons_succ]
    refine AnyG.oneC (i := 11) (by kernel_rfl) rfl (by first | (simp [Region.wanted, yielded]; done) | simp [Region.wanted, yielded, undef]) ?_
    go_simp
    refine (refHolds_any LA ln lc BA bn bc o SA sc BL true _ HLN.out HB.out (hA1.call hS) HO.out HL.out (hS1.call hS) H6.out).mono ?_
    rintro e11 y11 ⟨rfl, hb11⟩
    refine Onward.on (hS.trans (hb11.mono hS.size)) (fun hS2 => ?_)
    clear hS
    have hS := hS2
    clear hS2
    try simp only [Act.put, List.getElem_toArray, List.getElem_cons_succ, List.getElem_cons_zero, List.setIfInBounds_toArray, List.set_cons_zero, List.set_cons_succ]
    refine AnyG.takeC (i := 12) (v := ?_) rfl (by kernel_rfl) (fun _ _ _ h => h) rfl ?_ hS ?_
    rotate_left
    · (intro w' hSw; (try dsimp only at hSw); go_simp; try with_reducible rfl)
    try simp only [Act.put, List.getElem_toArray, List.getElem_cons_succ, List.getElem_cons_zero, List.setIfInBounds_toArray, List.set_cons_zero, List.set_cons_succ]
    refine AnyG.takeC (i := 13) (v := ?_) rfl (by kernel_rfl) (fun _ _ _ h => h) rfl ?_ hS ?_
    rotate_left
    · (intro w' hSw; (try dsimp only at hSw); go_simp; try with_reducible rfl)
    try simp only [Act.put, List.getElem_toArray, List.getElem_cons_succ, List.getElem_cons_zero, List.setIfInBounds_toArray, List.set_cons_zero, List.set_cons_succ]
    refine AnyG.done (by kernel_rfl) ?_ _
    go_simp
    go_wp2_with fail
    go_ret
    exact ⟨by simp, B0.trans (hS.mono B0.size)⟩
end Go.Proofs.Ytmemcopfeabcgaa
set_option linter.unusedSimpArgs false
set_option linter.unusedVariables false
namespace Go.Proofs.Ytmemcopfeabcgaa
open Go Go.RowKit
theorem Fit.ck2 {o : Od} (ho : o.Ok) {x : List Int} (h : Fit o.gs x) : ckBl o x = 0 := by
  refine ckBl_ok ho (by rw [h.len, gs_len]) fun j hj => ?_
  rw [← gs_at]
  exact h.at_ j (by rw [gs_len]; exact hj)
theorem allB_small2 {o : Od} {b m q : Int} (h : Small o b m q) (hb : b ≤ 3) (hq : q ≤ 4) : (allB o.gs).length ≤ 125 := by
  have h1 := allB_len o.gs (fun g hg => by
    unfold Od.gs at hg
    obtain ⟨b, hb, rfl⟩ := List.mem_map.1 hg
    have := (h.bn b hb).2.2.2.2.2.2.2
    omega)
  have h2 := h.bs
  rw [gs_len] at h1
  exact Nat.le_trans h1 (Nat.pow_le_pow_right (by omega) (by omega : o.bs.length ≤ 3))
theorem lf_mx (o : Od) : lf (rowOf o.mx o.bs.length) = o.mx := by
  funext i
  by_cases h : i < o.bs.length
  · exact lf_row o.mx h
  · unfold lf
    rw [List.getD_eq_getElem?_getD, List.getElem?_eq_none (by rw [rowOf_len]; omega), mx_at]
    unfold Od.bn
    rw [List.getD_eq_getElem?_getD, List.getElem?_eq_none (by omega)]
    rfl
theorem lf_rep (n : Nat) : lf (List.replicate n 0) = zer := by
  funext i
  unfold lf zer
  rw [List.getD_eq_getElem?_getD, List.getElem?_replicate]
  split <;> rfl
theorem wid_two {o : Od} {m : Int} (h : Small o 2 m 3) (ho : o.Ok) : wid zer o.mx ≤ 6 := by
  have h3 : ∀ i, o.mx i ≤ 3 := fun i => by
    rw [mx_at]
    by_cases hi : i < o.bs.length
    · rw [← Od.bn_eq hi]; exact (h.bn _ (List.getElem_mem hi)).2.2.2.2.2.2.2
    · unfold Od.bn; rw [List.getD_eq_getElem?_getD, List.getElem?_eq_none (by omega)]; simp [bn0]
  have h0 : ∀ i, 2 ≤ i → o.mx i = 0 := fun i hi => by
    have := h.bs
    rw [mx_at]; unfold Od.bn; rw [List.getD_eq_getElem?_getD, List.getElem?_eq_none (by omega)]; rfl
  have := h3 0
  have := h3 1
  have := h0 2 (by omega)
  have := h0 3 (by omega)
  unfold wid
  simp only [zer]
  omega
theorem wid_small {o : Od} {b m : Int} (h : Small o b m 3) (ho : o.Ok) : wid zer o.mx ≤ 24 := by
  have := wid_mx ho
  omega
def z22 (n : Nat) : Array Value := if n = 1 then #[.int .i64 0] else #[.int .i64 0, .int .i64 0]
theorem make22 (n : Nat) (hn : n = 1 ∨ n = 2) (w : World) : (Instr.makeSlice 22 (.int .i64 (n : Int)) (.int .i64 (n : Int))).run Try.prog w = .ok (.slice (some ⟨w.heap.size, 0, none⟩) n n) (w.alloc (.cells (z22 n) 3)) := by
  obtain ⟨i0, hi, hz0, hz1, hz2⟩ := info_parts info3'
  have h := run_make_n (P := Try.prog) 22 3 i0 _ Try.underlying22 hi hz0 n (by rw [hz2]; omega) (by omega) w
  rw [h]
  have e : madeCells (Value.cells (.int .i64 0)) (n * i0.size) = z22 n := by
    rw [hz1]
    rcases hn with rfl | rfl <;> kernel_rfl
  rw [e]
theorem z22_sl {w : World} {b n : Nat} (hn : n = 1 ∨ n = 2) (h : Bx w b 3 (z22 n)) : Sl w w.heap.size 1 (some ⟨b, 0, none⟩) (inr (List.replicate n 0)) := by
  refine Sl.of_flat h (inr_one _) ?_
  rcases hn with rfl | rfl <;> rfl
set_option maxRecDepth 100000 in
set_option maxHeartbeats 8000000 in
theorem meltSound_run (A : Option Addr) (n c : Nat) (L : List Int) (w : World) (hn : n ≤ 9000000000000000000) (hl : L.length = n) (hA : Sl w w.heap.size 1 A (ints L)) : Calls Try.prog 7 #[.slice A n c] w fun e w' => e = .returned (.bool true) ∧ Below w.heap.size w w' := by
  have HL := Lib.hid hl
  clear hl
  obtain ⟨i3, hi3, hz3, hs3, iy3⟩ := info_parts info3'
  obtain ⟨i22, hi22, hz22, hs22, iy22⟩ := info_parts info22
  go_enter Try.func7, Try.ntmps7
  go_upto_region 3 with (first
    | (go_at_call 13; refine (feedOf_any A n c L _ hn HL.out hA).mono ?_; rintro e w1 ⟨⟨g, rfl, hg0, hfd⟩, hb1⟩)
    | (go_at_call 14; refine (orderOf_any g 2 1 3 _ hfd (by omega) (by omega) (by omega) (by omega) (by omega) (by omega)).mono ?_; rintro e w2 ⟨o, LA, BA, lc, bc, rfl, hsm, hO0, hfd2, hgr2⟩)
    | fail)
  have hok := hsm.ok (by omega) (by omega) (by omega)
  have HSM := Lib.hid hsm
  obtain ⟨ln, hln⟩ : ∃ k, o.lm.length = k := ⟨_, rfl⟩
  obtain ⟨bn, hbn⟩ : ∃ k, o.bs.length = k := ⟨_, rfl⟩
  have hln3 : ln ≤ 3 := by rw [← hln]; exact hok.lm
  have hbn4 : bn ≤ 4 := by rw [← hbn]; exact hok.b2
  have hbn1 : 1 ≤ bn := by rw [← hbn]; exact hok.b1
  rw [hln, hbn]
  have hBw : Below w.heap.size w w2 := hb1.grown hgr2 hb1.size (fun k e => by cases e; exact hg0)
  have B1 := (Below.refl w2.heap.size w2).alloc (Nat.le_refl _) (.cells #[.slice LA ln lc, .int .i64 o.le, .int .i64 o.mo, .slice BA bn bc] 27)
  have kO := Bx.new w2 27 #[.slice LA ln lc, .int .i64 o.le, .int .i64 o.mo, .slice BA bn bc]
  have hO := hO0.call B1
  have hF := hfd2.alloc (.cells #[.slice LA ln lc, .int .i64 o.le, .int .i64 o.mo, .slice BA bn bc] 27)
  have hB := hBw.alloc hBw.size (.cells #[.slice LA ln lc, .int .i64 o.le, .int .i64 o.mo, .slice BA bn bc] 27)
  have hgl := hfd2.lt
  obtain ⟨V1, hV⟩ : ∃ V, w2.alloc (.cells #[.slice LA ln lc, .int .i64 o.le, .int .i64 o.mo, .slice BA bn bc] 27) = V := ⟨_, rfl⟩
  rw [hV] at kO hO hF hB ⊢
  obtain ⟨bO, hbO⟩ : ∃ b, w2.heap.size = b := ⟨_, rfl⟩
  rw [hbO] at kO ⊢
  have hgO : bO ≠ g := by omega
  have HLN := Lib.hid hln
  have HBN := Lib.hid hbn
  have HOK := Lib.hid hok
  have hwg := hg0
  clear hV hbO B1 hO0 hfd2 hgr2 hb1 hfd hln hbn hok hBw hsm hgl
  obtain ⟨l0, l1, l2, l3, lf', lz⟩ := kO.four
  have hcap := allB_small2 HSM.out (by omega) (by omega)
  have hb12 : bn = 1 ∨ bn = 2 := by have := HSM.out.bs; rw [HBN.out] at this; omega
  go_upto_region 4 with (first
    | (go_at_call 25; refine (below_any g 120 _ hF (by omega) (by omega)).mono ?_; rintro e Y ⟨⟨p, rfl, p1, p2⟩, hFY, hgY⟩)
    | fail)
  have kOY := kO.grown hgY (by simpa using hgO)
  have hOY := FT.ord ⟨hgY, hFY⟩ hF hO
  have hBY := hB.grown hgY hB.size (fun k e => by cases e; exact hwg)
  have hp : 0 ≤ p ∧ p ≤ 300000000 := by omega
  clear l0 l1 l2 l3 lf' lz kO hO hB hF hgY p1 p2
  go_wp2_with fail
  go_loopw [6, 7] (fun mv v wr => ∃ (i : Nat) (MA : Option Addr) (mc : Nat), v = .int .i64 i ∧ i ≤ bn ∧ mv = .slice MA i mc ∧ wr.ownsRow Y.heap.size 3 1 (.slice MA i mc) i (inr (rowOf o.mx i)).flatten ∧ Below Y.heap.size Y wr) (fun _ v _ => bn - (intOf v).toNat)
  case atStart => exact ⟨0, none, 0, rfl, by omega, rfl, World.ownsRow_nil _ _ _ _, Below.refl _ _⟩
  case round =>
    obtain ⟨i, MA, mc, rfl, hi, rfl, oM, hBr⟩ := hrel
    obtain ⟨l0, l1, l2, l3, lf', lz⟩ := (kOY.call hBr).four
    by_cases hin : i < bn
    · have hio : i < o.bs.length := by rw [HBN.out]; exact hin
      obtain ⟨ba, G, gc, rfl, hba, -, -, -, p3, -⟩ := (hOY.call hBr).bs.at_ hio
      rw [Od.bn_eq hio] at p3
      obtain ⟨gx, hgx⟩ : ∃ x, (o.bn i).g = x := ⟨_, rfl⟩
      rw [hgx] at p3
      have HGX := Lib.hid hgx
      clear hgx
      have hiw : IntKind.i64.wrap ((i : Int) + 1) = (i : Int) + 1 := IntWalk.i64_in _ (by omega)
      have kb := Bx.new wr 3 #[.int .i64 gx]
      have oM2 := oM.alloc (.cells #[.int .i64 gx] 3)
      have hB2 := hBr.alloc hBr.size (.cells #[.int .i64 gx] 3)
      obtain ⟨xs, hxs⟩ : ∃ x, (inr (rowOf o.mx i)).flatten = x := ⟨_, rfl⟩
      rw [hxs] at oM2
      have HXS := Lib.hid hxs
      clear hxs
      go_wp2_with (first
        | (at_builtin; refine wpList_app2 rfl (.tmp 26) (.tmp 33) 22 rfl Y.heap.size 3 i3 _ 1 8 Try.underlying22 hi3 hz3 hs3 iy3 rfl (by decide) (.slice MA i mc) i xs rfl oM2 ⟨wr.heap.size, 0, none⟩ 1 1 [.int .i64 gx] rfl rfl (bx_news kb) (by simp [Value.oneCell']) (by unfold maxLen; omega) (by omega) hB2.size ?_; intro v' w' o1 o2 o3; obtain ⟨NA, NC, rfl⟩ := own_shape o1; have kO3 := ((kOY.call hBr).alloc (.cells #[.int .i64 gx] 3)).grown o2 (own_bx oM2 ((kOY.call hBr).alloc (.cells #[.int .i64 gx] 3)) (by decide)); clear l0 l1 l2 l3 lf' lz; obtain ⟨l0, l1, l2, l3, lf', lz⟩ := kO3.four)
        | fail)
      go_roundw
      case rel =>
        refine ⟨i + 1, NA, NC, by go_num, by omega, rfl, ?_, hB2.grown o2 hB2.size (fun q e => (oM2.lt q e).1)⟩
        rw [rowOf_succ, inr_snoc, HXS.out, mx_at, HGX.out]; exact o1
      case measure => simp [intOf]; omega
    · obtain rfl : i = bn := by omega
      obtain ⟨U0, hU0⟩ : ∃ U, U = wr := ⟨_, rfl⟩
      subst hU0
      have hO3 := hOY.call hBr
      have kO3 := kOY.call hBr
      have hB3 := hBY.trans (hBr.mono hBY.size)
      have hF3 := Fd.below hFY hBr
      have hYs := hBr.size
      clear hOY kOY hBY hFY hBr
      go_upto_region 11 with (first
        | (go_at_call 21; refine (refBlends_any LA ln lc BA i bc o HLN.out HBN.out HOK.out i 0 [] none 0 U0.heap.size U0 (by omega) rfl hO3 (World.ownsRow_nil _ _ _ _) (Nat.le_refl _) (by rw [List.drop_zero]; omega)).mono ?_; rintro e V4 ⟨RA, rc, vs, rfl, oR, LR, hq4⟩)
        | fail)
      have el : ((allB (o.gs.drop 0)).map fun l => [] ++ l) = allB o.gs := by simp
      rw [el] at oR LR
      have AT := LR.at_ oR
      have oM4 := own_bel oM hq4
      have hO4 := hO3.call hq4
      have kO4 := kO3.call hq4
      have hB4 := hB3.trans (hq4.mono hB3.size)
      have hF4 := Fd.below hF3 hq4
      clear l0 l1 l2 l3 lf' lz hO3 kO3 hB3 hF3 hq4 el oR LR vs oM
      have HFIT := Lib.hid (fun x (hx : x ∈ allB o.gs) => mem_allB.1 hx)
      obtain ⟨all, hall⟩ : ∃ a, allB o.gs = a := ⟨_, rfl⟩
      obtain ⟨nn, hnn⟩ : ∃ k, all.length = k := ⟨_, rfl⟩
      rw [hall, hnn] at hcap
      rw [hall] at AT HFIT ⊢
      rw [hnn]
      have HALL := Lib.hid (And.intro hall hnn)
      clear hall hnn
      obtain ⟨U, hU⟩ : ∃ U, U = V4 := ⟨_, rfl⟩
      subst hU
      go_wp2_with fail
      go_loopw [8, 10] (fun cv v wr => ∃ (j : Nat) (cb : Bool), v = .int .i64 j ∧ j ≤ nn ∧ cv = .bool cb ∧ Hid (cb = true → ∃ x ∈ all, Good o (lf x) ∧ cst o (lf x) i < p) ∧ Below U.heap.size U wr) (fun _ v _ => nn - (intOf v).toNat)
      case atStart => exact ⟨0, false, rfl, by omega, rfl, Lib.hid (fun h => by cases h), Below.refl _ _⟩
      case round =>
        obtain ⟨j, cb, rfl, hj, rfl, hcb, hUr⟩ := hrel
        by_cases hjn : j < nn
        · have hjl : j < all.length := by rw [HALL.out.2]; exact hjn
          obtain ⟨x, hx⟩ : ∃ x, all[j]? = some x := ⟨_, List.getElem?_eq_getElem hjl⟩
          have hxm := List.mem_of_getElem? hx
          have hxf := HFIT.out x hxm
          have hxl : x.length = i := by rw [hxf.len, gs_len, HBN.out]
          have hz := hxf.ck2 HOK.out
          have h6 := (ckBl_zero hz).six
          obtain ⟨ad, G, gc, rfl, hab, gx, gs⟩ := AT j x hx
          rw [hxl] at gx
          have hiw : IntKind.i64.wrap ((j : Int) + 1) = (j : Int) + 1 := IntWalk.i64_in _ (by omega)
          have HXM := Lib.hid hxm
          have HXL := Lib.hid hxl
          have H6 := Lib.hid h6
          clear hx hxm hxf hxl hz h6
          cases cb
          · cases hgd : decide (Good o (lf x))
            · have HG := Lib.hid hgd
              clear hgd
              go_wp2_with fail
              refine AnyG.startC (by kernel_rfl) ?_
              refine AnyG.takeP (i := 0) (v := ?_) rfl (by kernel_rfl) (fun _ _ _ h => h) rfl ?_ ?_
              rotate_left
              · (intro w'; go_simp; try with_reducible rfl)
              try simp only [Act.put, List.getElem_toArray, List.getElem_cons_succ, List.getElem_cons_zero, List.setIfInBounds_toArray, List.set_cons_zero, List.set_cons_succ]
              refine AnyG.takeP (i := 1) (v := ?_) rfl (by kernel_rfl) (fun _ _ _ h => h) rfl ?_ ?_
              rotate_left
              · (intro w'; go_simp; try with_reducible rfl)
              try simp only [Act.put, List.getElem_toArray, List.getElem_cons_succ, List.getElem_cons_zero, List.setIfInBounds_toArray, List.set_cons_zero, List.set_cons_succ]
              refine AnyG.enter (fun w' : World => Below U.heap.size U w') (fun i => i != 19) ?_
              have hS : (fun w' : World => Below U.heap.size U w') (World.drew _) := hUr.drew
              refine AnyG.takeGC (i := 2) (v := ?_) rfl (by kernel_rfl) (fun _ _ _ h => h) (by first | (simp [Region.wanted, yielded]; done) | simp [Region.wanted, yielded, undef]) ?_ hS ?_
              rotate_left
              · (intro w' hSw; (try dsimp only at hSw); obtain ⟨l0, l1, l2, l3, lf2, lz⟩ := (kO4.call hSw).four; go_simp; try with_reducible rfl)
              try simp only [Act.put, List.getElem_toArray, List.getElem_cons_succ, List.getElem_cons_zero, List.setIfInBounds_toArray, List.set_cons_zero, List.set_cons_succ]
              refine AnyG.takeGC (i := 3) (v := ?_) rfl (by kernel_rfl) (fun _ _ _ h => h) (by first | (simp [Region.wanted, yielded]; done) | simp [Region.wanted, yielded, undef]) ?_ hS ?_
              rotate_left
              · (intro w' hSw; (try dsimp only at hSw); go_simp; try with_reducible rfl)
              try simp only [Act.put, List.getElem_toArray, List.getElem_cons_succ, List.getElem_cons_zero, List.setIfInBounds_toArray, List.set_cons_zero, List.set_cons_succ]
              refine AnyG.takeGC (i := 4) (v := ?_) rfl (by kernel_rfl) (fun _ _ _ h => h) (by first | (simp [Region.wanted, yielded]; done) | simp [Region.wanted, yielded, undef]) ?_ hS ?_
              rotate_left
              · (intro w' hSw; (try dsimp only at hSw); go_simp; try with_reducible rfl)
              try simp only [Act.put, List.getElem_toArray, List.getElem_cons_succ, List.getElem_cons_zero, List.setIfInBounds_toArray, List.set_cons_zero, List.set_cons_succ]
              refine AnyG.takeGC (i := 5) (v := ?_) rfl (by kernel_rfl) (fun _ _ _ h => h) (by first | (simp [Region.wanted, yielded]; done) | simp [Region.wanted, yielded, undef]) ?_ hS ?_
              rotate_left
              · (intro w' hSw; (try dsimp only at hSw); go_simp; try with_reducible rfl)
              try simp only [Act.put, List.getElem_toArray, List.getElem_cons_succ, List.getElem_cons_zero, List.setIfInBounds_toArray, List.set_cons_zero, List.set_cons_succ]
              refine AnyG.takeGC (i := 6) (v := ?_) rfl (by kernel_rfl) (fun _ _ _ h => h) (by first | (simp [Region.wanted, yielded]; done) | simp [Region.wanted, yielded, undef]) ?_ hS ?_
              rotate_left
              · (intro w' hSw; (try dsimp only at hSw); have gx2 := cellC hSw gx; go_simp; try with_reducible rfl)
              try simp only [Act.put, List.getElem_toArray, List.getElem_cons_succ, List.getElem_cons_zero, List.setIfInBounds_toArray, List.set_cons_zero, List.set_cons_succ]
              refine AnyG.oneC (i := 7) (by kernel_rfl) rfl (by first | (simp [Region.wanted, yielded]; done) | simp [Region.wanted, yielded, undef]) ?_
              go_simp
              refine (refGood_any LA ln lc BA i bc o G gc x _ HLN.out HBN.out (hO4.call hS) HOK.out HXL.out (gs.call hS) H6.out).mono ?_
              rintro e7 y7 ⟨rfl, hb7⟩
              rw [HG.out]
              refine Onward.on (hS.trans (hb7.mono hS.size)) (fun hS2 => ?_)
              clear hS
              have hS := hS2
              clear hS2
              try simp only [Act.put, List.getElem_toArray, List.getElem_cons_succ, List.getElem_cons_zero, List.setIfInBounds_toArray, List.set_cons_zero, List.set_cons_succ]
              refine AnyG.takeGC (i := 8) (v := ?_) rfl (by kernel_rfl) (fun _ _ _ h => h) (by first | (simp [Region.wanted, yielded]; done) | simp [Region.wanted, yielded, undef]) ?_ hS ?_
              rotate_left
              · (intro w' hSw; (try dsimp only at hSw); go_simp; try with_reducible rfl)
              try simp only [Act.put, List.getElem_toArray, List.getElem_cons_succ, List.getElem_cons_zero, List.setIfInBounds_toArray, List.set_cons_zero, List.set_cons_succ]
              refine AnyG.takeNC (i := 9) rfl (by kernel_rfl) (fun _ _ _ h => h) (by first | (simp [Region.wanted, yielded]; done) | simp [Region.wanted, yielded, undef]) hS ?_
              try simp only [Act.put, List.getElem_toArray, List.getElem_cons_succ, List.getElem_cons_zero, List.setIfInBounds_toArray, List.set_cons_zero, List.set_cons_succ]
              refine AnyG.takeNC (i := 10) rfl (by kernel_rfl) (fun _ _ _ h => h) (by first | (simp [Region.wanted, yielded]; done) | simp [Region.wanted, yielded, undef]) hS ?_
              try simp only [Act.put, List.getElem_toArray, List.getElem_cons_succ, List.getElem_cons_zero, List.setIfInBounds_toArray, List.set_cons_zero, List.set_cons_succ]
              refine AnyG.takeNC (i := 11) rfl (by kernel_rfl) (fun _ _ _ h => h) (by first | (simp [Region.wanted, yielded]; done) | simp [Region.wanted, yielded, undef]) hS ?_
              try simp only [Act.put, List.getElem_toArray, List.getElem_cons_succ, List.getElem_cons_zero, List.setIfInBounds_toArray, List.set_cons_zero, List.set_cons_succ]
              refine AnyG.takeNC (i := 12) rfl (by kernel_rfl) (fun _ _ _ h => h) (by first | (simp [Region.wanted, yielded]; done) | simp [Region.wanted, yielded, undef]) hS ?_
              try simp only [Act.put, List.getElem_toArray, List.getElem_cons_succ, List.getElem_cons_zero, List.setIfInBounds_toArray, List.set_cons_zero, List.set_cons_succ]
              refine AnyG.takeNC (i := 13) rfl (by kernel_rfl) (fun _ _ _ h => h) (by first | (simp [Region.wanted, yielded]; done) | simp [Region.wanted, yielded, undef]) hS ?_
              try simp only [Act.put, List.getElem_toArray, List.getElem_cons_succ, List.getElem_cons_zero, List.setIfInBounds_toArray, List.set_cons_zero, List.set_cons_succ]
              refine AnyG.takeNC (i := 14) rfl (by kernel_rfl) (fun _ _ _ h => h) (by first | (simp [Region.wanted, yielded]; done) | simp [Region.wanted, yielded, undef]) hS ?_
              try simp only [Act.put, List.getElem_toArray, List.getElem_cons_succ, List.getElem_cons_zero, List.setIfInBounds_toArray, List.set_cons_zero, List.set_cons_succ]
              refine AnyG.takeNC (i := 15) rfl (by kernel_rfl) (fun _ _ _ h => h) (by first | (simp [Region.wanted, yielded]; done) | simp [Region.wanted, yielded, undef]) hS ?_
              try simp only [Act.put, List.getElem_toArray, List.getElem_cons_succ, List.getElem_cons_zero, List.setIfInBounds_toArray, List.set_cons_zero, List.set_cons_succ]
              refine AnyG.takeNC (i := 16) rfl (by kernel_rfl) (fun _ _ _ h => h) (by first | (simp [Region.wanted, yielded]; done) | simp [Region.wanted, yielded, undef]) hS ?_
              try simp only [Act.put, List.getElem_toArray, List.getElem_cons_succ, List.getElem_cons_zero, List.setIfInBounds_toArray, List.set_cons_zero, List.set_cons_succ]
              refine AnyG.takeGC (i := 17) (v := ?_) rfl (by kernel_rfl) (fun _ _ _ h => h) (by first | (simp [Region.wanted, yielded]; done) | simp [Region.wanted, yielded, undef]) ?_ hS ?_
              rotate_left
              · (intro w' hSw; (try dsimp only at hSw); go_simp; try with_reducible rfl)
              try simp only [Act.put, List.getElem_toArray, List.getElem_cons_succ, List.getElem_cons_zero, List.setIfInBounds_toArray, List.set_cons_zero, List.set_cons_succ]
              refine AnyG.takeC (i := 18) (v := ?_) rfl (by kernel_rfl) (fun _ _ _ h => h) rfl ?_ hS ?_
              rotate_left
              · (intro w' hSw; (try dsimp only at hSw); go_simp; try with_reducible rfl)
              try simp only [Act.put, List.getElem_toArray, List.getElem_cons_succ, List.getElem_cons_zero, List.setIfInBounds_toArray, List.set_cons_zero, List.set_cons_succ]
              refine AnyG.takeC (i := 19) (v := ?_) rfl (by kernel_rfl) (fun _ _ _ h => h) rfl ?_ hS ?_
              rotate_left
              · (intro w' hSw; (try dsimp only at hSw); go_simp; try with_reducible rfl)
              try simp only [Act.put, List.getElem_toArray, List.getElem_cons_succ, List.getElem_cons_zero, List.setIfInBounds_toArray, List.set_cons_zero, List.set_cons_succ]
              refine AnyG.done (by kernel_rfl) ?_ _
              have hSE : Below U.heap.size U _ := hS
              clear hS
              go_simp
              go_wp2_with fail
              go_roundw
              case rel => exact ⟨j + 1, _, by go_num, by omega, rfl, Lib.hid (fun h => by cases h), hSE⟩
              case measure => simp [intOf]; omega
            · have HG := Lib.hid hgd
              clear hgd
              go_wp2_with fail
              refine AnyG.startC (by kernel_rfl) ?_
              refine AnyG.takeP (i := 0) (v := ?_) rfl (by kernel_rfl) (fun _ _ _ h => h) rfl ?_ ?_
              rotate_left
              · (intro w'; go_simp; try with_reducible rfl)
              try simp only [Act.put, List.getElem_toArray, List.getElem_cons_succ, List.getElem_cons_zero, List.setIfInBounds_toArray, List.set_cons_zero, List.set_cons_succ]
              refine AnyG.takeP (i := 1) (v := ?_) rfl (by kernel_rfl) (fun _ _ _ h => h) rfl ?_ ?_
              rotate_left
              · (intro w'; go_simp; try with_reducible rfl)
              try simp only [Act.put, List.getElem_toArray, List.getElem_cons_succ, List.getElem_cons_zero, List.setIfInBounds_toArray, List.set_cons_zero, List.set_cons_succ]
              refine AnyG.enter (fun w' : World => Below U.heap.size U w') (fun i => i != 19) ?_
              have hS : (fun w' : World => Below U.heap.size U w') (World.drew _) := hUr.drew
              refine AnyG.takeGC (i := 2) (v := ?_) rfl (by kernel_rfl) (fun _ _ _ h => h) (by first | (simp [Region.wanted, yielded]; done) | simp [Region.wanted, yielded, undef]) ?_ hS ?_
              rotate_left
              · (intro w' hSw; (try dsimp only at hSw); obtain ⟨l0, l1, l2, l3, lf2, lz⟩ := (kO4.call hSw).four; go_simp; try with_reducible rfl)
              try simp only [Act.put, List.getElem_toArray, List.getElem_cons_succ, List.getElem_cons_zero, List.setIfInBounds_toArray, List.set_cons_zero, List.set_cons_succ]
              refine AnyG.takeGC (i := 3) (v := ?_) rfl (by kernel_rfl) (fun _ _ _ h => h) (by first | (simp [Region.wanted, yielded]; done) | simp [Region.wanted, yielded, undef]) ?_ hS ?_
              rotate_left
              · (intro w' hSw; (try dsimp only at hSw); go_simp; try with_reducible rfl)
              try simp only [Act.put, List.getElem_toArray, List.getElem_cons_succ, List.getElem_cons_zero, List.setIfInBounds_toArray, List.set_cons_zero, List.set_cons_succ]
              refine AnyG.takeGC (i := 4) (v := ?_) rfl (by kernel_rfl) (fun _ _ _ h => h) (by first | (simp [Region.wanted, yielded]; done) | simp [Region.wanted, yielded, undef]) ?_ hS ?_
              rotate_left
              · (intro w' hSw; (try dsimp only at hSw); go_simp; try with_reducible rfl)
              try simp only [Act.put, List.getElem_toArray, List.getElem_cons_succ, List.getElem_cons_zero, List.setIfInBounds_toArray, List.set_cons_zero, List.set_cons_succ]
              refine AnyG.takeGC (i := 5) (v := ?_) rfl (by kernel_rfl) (fun _ _ _ h => h) (by first | (simp [Region.wanted, yielded]; done) | simp [Region.wanted, yielded, undef]) ?_ hS ?_
              rotate_left
              · (intro w' hSw; (try dsimp only at hSw); go_simp; try with_reducible rfl)
              try simp only [Act.put, List.getElem_toArray, List.getElem_cons_succ, List.getElem_cons_zero, List.setIfInBounds_toArray, List.set_cons_zero, List.set_cons_succ]
              refine AnyG.takeGC (i := 6) (v := ?_) rfl (by kernel_rfl) (fun _ _ _ h => h) (by first | (simp [Region.wanted, yielded]; done) | simp [Region.wanted, yielded, undef]) ?_ hS ?_
              rotate_left
              · (intro w' hSw; (try dsimp only at hSw); have gx2 := cellC hSw gx; go_simp; try with_reducible rfl)
              try simp only [Act.put, List.getElem_toArray, List.getElem_cons_succ, List.getElem_cons_zero, List.setIfInBounds_toArray, List.set_cons_zero, List.set_cons_succ]
              refine AnyG.oneC (i := 7) (by kernel_rfl) rfl (by first | (simp [Region.wanted, yielded]; done) | simp [Region.wanted, yielded, undef]) ?_
              go_simp
              refine (refGood_any LA ln lc BA i bc o G gc x _ HLN.out HBN.out (hO4.call hS) HOK.out HXL.out (gs.call hS) H6.out).mono ?_
              rintro e7 y7 ⟨rfl, hb7⟩
              rw [HG.out]
              refine Onward.on (hS.trans (hb7.mono hS.size)) (fun hS2 => ?_)
              clear hS
              have hS := hS2
              clear hS2
              try simp only [Act.put, List.getElem_toArray, List.getElem_cons_succ, List.getElem_cons_zero, List.setIfInBounds_toArray, List.set_cons_zero, List.set_cons_succ]
              refine AnyG.takeGC (i := 8) (v := ?_) rfl (by kernel_rfl) (fun _ _ _ h => h) (by first | (simp [Region.wanted, yielded]; done) | simp [Region.wanted, yielded, undef]) ?_ hS ?_
              rotate_left
              · (intro w' hSw; (try dsimp only at hSw); go_simp; try with_reducible rfl)
              try simp only [Act.put, List.getElem_toArray, List.getElem_cons_succ, List.getElem_cons_zero, List.setIfInBounds_toArray, List.set_cons_zero, List.set_cons_succ]
              refine AnyG.takeGC (i := 9) (v := ?_) rfl (by kernel_rfl) (fun _ _ _ h => h) (by first | (simp [Region.wanted, yielded]; done) | simp [Region.wanted, yielded, undef]) ?_ hS ?_
              rotate_left
              · (intro w' hSw; (try dsimp only at hSw); obtain ⟨l0, l1, l2, l3, lf2, lz⟩ := (kO4.call hSw).four; go_simp; try with_reducible rfl)
              try simp only [Act.put, List.getElem_toArray, List.getElem_cons_succ, List.getElem_cons_zero, List.setIfInBounds_toArray, List.set_cons_zero, List.set_cons_succ]
              refine AnyG.takeGC (i := 10) (v := ?_) rfl (by kernel_rfl) (fun _ _ _ h => h) (by first | (simp [Region.wanted, yielded]; done) | simp [Region.wanted, yielded, undef]) ?_ hS ?_
              rotate_left
              · (intro w' hSw; (try dsimp only at hSw); go_simp; try with_reducible rfl)
              try simp only [Act.put, List.getElem_toArray, List.getElem_cons_succ, List.getElem_cons_zero, List.setIfInBounds_toArray, List.set_cons_zero, List.set_cons_succ]
              refine AnyG.takeGC (i := 11) (v := ?_) rfl (by kernel_rfl) (fun _ _ _ h => h) (by first | (simp [Region.wanted, yielded]; done) | simp [Region.wanted, yielded, undef]) ?_ hS ?_
              rotate_left
              · (intro w' hSw; (try dsimp only at hSw); go_simp; try with_reducible rfl)
              try simp only [Act.put, List.getElem_toArray, List.getElem_cons_succ, List.getElem_cons_zero, List.setIfInBounds_toArray, List.set_cons_zero, List.set_cons_succ]
              refine AnyG.takeGC (i := 12) (v := ?_) rfl (by kernel_rfl) (fun _ _ _ h => h) (by first | (simp [Region.wanted, yielded]; done) | simp [Region.wanted, yielded, undef]) ?_ hS ?_
              rotate_left
              · (intro w' hSw; (try dsimp only at hSw); go_simp; try with_reducible rfl)
              try simp only [Act.put, List.getElem_toArray, List.getElem_cons_succ, List.getElem_cons_zero, List.setIfInBounds_toArray, List.set_cons_zero, List.set_cons_succ]
              refine AnyG.takeGC (i := 13) (v := ?_) rfl (by kernel_rfl) (fun _ _ _ h => h) (by first | (simp [Region.wanted, yielded]; done) | simp [Region.wanted, yielded, undef]) ?_ hS ?_
              rotate_left
              · (intro w' hSw; (try dsimp only at hSw); have gx2 := cellC hSw gx; go_simp; try with_reducible rfl)
              try simp only [Act.put, List.getElem_toArray, List.getElem_cons_succ, List.getElem_cons_zero, List.setIfInBounds_toArray, List.set_cons_zero, List.set_cons_succ]
              refine AnyG.takeGC (i := 15) (v := ?_) rfl (by kernel_rfl) (fun _ _ _ h => h) (by first | (simp [Region.wanted, yielded]; done) | simp [Region.wanted, yielded, undef]) ?_ hS ?_
              rotate_left
              · (intro w' hSw; (try dsimp only at hSw); go_simp; try with_reducible rfl)
              try simp only [Act.put, List.getElem_toArray, List.getElem_cons_succ, List.getElem_cons_zero, List.setIfInBounds_toArray, List.set_cons_zero, List.set_cons_succ]
              refine AnyG.oneC (i := 14) (by kernel_rfl) rfl (by first | (simp [Region.wanted, yielded]; done) | simp [Region.wanted, yielded, undef]) ?_
              go_simp
              refine (refCost_any LA ln lc BA i bc o G i gc x _ HBN.out (hO4.call hS) HOK.out HXL.out (Nat.le_refl _) (gs.call hS) H6.out).mono ?_
              rintro e14 y14 ⟨rfl, hb14⟩
              refine Onward.on (hS.trans (hb14.mono hS.size)) (fun hS2 => ?_)
              clear hS
              have hS := hS2
              clear hS2
              try simp only [Act.put, List.getElem_toArray, List.getElem_cons_succ, List.getElem_cons_zero, List.setIfInBounds_toArray, List.set_cons_zero, List.set_cons_succ]
              refine AnyG.takeGC (i := 16) (v := ?_) rfl (by kernel_rfl) (fun _ _ _ h => h) (by first | (simp [Region.wanted, yielded]; done) | simp [Region.wanted, yielded, undef]) ?_ hS ?_
              rotate_left
              · (intro w' hSw; (try dsimp only at hSw); go_simp; try with_reducible rfl)
              try simp only [Act.put, List.getElem_toArray, List.getElem_cons_succ, List.getElem_cons_zero, List.setIfInBounds_toArray, List.set_cons_zero, List.set_cons_succ]
              refine AnyG.takeGC (i := 17) (v := ?_) rfl (by kernel_rfl) (fun _ _ _ h => h) (by first | (simp [Region.wanted, yielded]; done) | simp [Region.wanted, yielded, undef]) ?_ hS ?_
              rotate_left
              · (intro w' hSw; (try dsimp only at hSw); go_simp; try with_reducible rfl)
              try simp only [Act.put, List.getElem_toArray, List.getElem_cons_succ, List.getElem_cons_zero, List.setIfInBounds_toArray, List.set_cons_zero, List.set_cons_succ]
              refine AnyG.takeC (i := 18) (v := ?_) rfl (by kernel_rfl) (fun _ _ _ h => h) rfl ?_ hS ?_
              rotate_left
              · (intro w' hSw; (try dsimp only at hSw); go_simp; try with_reducible rfl)
              try simp only [Act.put, List.getElem_toArray, List.getElem_cons_succ, List.getElem_cons_zero, List.setIfInBounds_toArray, List.set_cons_zero, List.set_cons_succ]
              refine AnyG.takeC (i := 19) (v := ?_) rfl (by kernel_rfl) (fun _ _ _ h => h) rfl ?_ hS ?_
              rotate_left
              · (intro w' hSw; (try dsimp only at hSw); go_simp; try with_reducible rfl)
              try simp only [Act.put, List.getElem_toArray, List.getElem_cons_succ, List.getElem_cons_zero, List.setIfInBounds_toArray, List.set_cons_zero, List.set_cons_succ]
              refine AnyG.done (by kernel_rfl) ?_ _
              have hSE : Below U.heap.size U _ := hS
              clear hS
              go_simp
              go_wp2_with fail
              go_roundw
              case rel => exact ⟨j + 1, _, by go_num, by omega, rfl, Lib.hid (fun h => ⟨x, HXM.out, of_decide_eq_true HG.out, of_decide_eq_true h⟩), hSE⟩
              case measure => simp [intOf]; omega
          · go_wp2_with fail
            refine AnyG.startC (by kernel_rfl) ?_
            refine AnyG.takeP (i := 0) (v := ?_) rfl (by kernel_rfl) (fun _ _ _ h => h) rfl ?_ ?_
            rotate_left
            · (intro w'; go_simp; try with_reducible rfl)
            try simp only [Act.put, List.getElem_toArray, List.getElem_cons_succ, List.getElem_cons_zero, List.setIfInBounds_toArray, List.set_cons_zero, List.set_cons_succ]
            refine AnyG.takeP (i := 1) (v := ?_) rfl (by kernel_rfl) (fun _ _ _ h => h) rfl ?_ ?_
            rotate_left
            · (intro w'; go_simp; try with_reducible rfl)
            try simp only [Act.put, List.getElem_toArray, List.getElem_cons_succ, List.getElem_cons_zero, List.setIfInBounds_toArray, List.set_cons_zero, List.set_cons_succ]
            refine AnyG.enter (fun w' : World => Below U.heap.size U w') (fun i => i != 19) ?_
            have hS : (fun w' : World => Below U.heap.size U w') (World.drew _) := hUr.drew
            refine AnyG.takeNC (i := 2) rfl (by kernel_rfl) (fun _ _ _ h => h) (by first | (simp [Region.wanted, yielded]; done) | simp [Region.wanted, yielded, undef]) hS ?_
            try simp only [Act.put, List.getElem_toArray, List.getElem_cons_succ, List.getElem_cons_zero, List.setIfInBounds_toArray, List.set_cons_zero, List.set_cons_succ]
            refine AnyG.takeNC (i := 3) rfl (by kernel_rfl) (fun _ _ _ h => h) (by first | (simp [Region.wanted, yielded]; done) | simp [Region.wanted, yielded, undef]) hS ?_
            try simp only [Act.put, List.getElem_toArray, List.getElem_cons_succ, List.getElem_cons_zero, List.setIfInBounds_toArray, List.set_cons_zero, List.set_cons_succ]
            refine AnyG.takeNC (i := 4) rfl (by kernel_rfl) (fun _ _ _ h => h) (by first | (simp [Region.wanted, yielded]; done) | simp [Region.wanted, yielded, undef]) hS ?_
            try simp only [Act.put, List.getElem_toArray, List.getElem_cons_succ, List.getElem_cons_zero, List.setIfInBounds_toArray, List.set_cons_zero, List.set_cons_succ]
            refine AnyG.takeNC (i := 5) rfl (by kernel_rfl) (fun _ _ _ h => h) (by first | (simp [Region.wanted, yielded]; done) | simp [Region.wanted, yielded, undef]) hS ?_
            try simp only [Act.put, List.getElem_toArray, List.getElem_cons_succ, List.getElem_cons_zero, List.setIfInBounds_toArray, List.set_cons_zero, List.set_cons_succ]
            refine AnyG.takeNC (i := 6) rfl (by kernel_rfl) (fun _ _ _ h => h) (by first | (simp [Region.wanted, yielded]; done) | simp [Region.wanted, yielded, undef]) hS ?_
            try simp only [Act.put, List.getElem_toArray, List.getElem_cons_succ, List.getElem_cons_zero, List.setIfInBounds_toArray, List.set_cons_zero, List.set_cons_succ]
            refine AnyG.takeNC (i := 7) rfl (by kernel_rfl) (fun _ _ _ h => h) (by first | (simp [Region.wanted, yielded]; done) | simp [Region.wanted, yielded, undef]) hS ?_
            try simp only [Act.put, List.getElem_toArray, List.getElem_cons_succ, List.getElem_cons_zero, List.setIfInBounds_toArray, List.set_cons_zero, List.set_cons_succ]
            refine AnyG.takeNC (i := 8) rfl (by kernel_rfl) (fun _ _ _ h => h) (by first | (simp [Region.wanted, yielded]; done) | simp [Region.wanted, yielded, undef]) hS ?_
            try simp only [Act.put, List.getElem_toArray, List.getElem_cons_succ, List.getElem_cons_zero, List.setIfInBounds_toArray, List.set_cons_zero, List.set_cons_succ]
            refine AnyG.takeNC (i := 9) rfl (by kernel_rfl) (fun _ _ _ h => h) (by first | (simp [Region.wanted, yielded]; done) | simp [Region.wanted, yielded, undef]) hS ?_
            try simp only [Act.put, List.getElem_toArray, List.getElem_cons_succ, List.getElem_cons_zero, List.setIfInBounds_toArray, List.set_cons_zero, List.set_cons_succ]
            refine AnyG.takeNC (i := 10) rfl (by kernel_rfl) (fun _ _ _ h => h) (by first | (simp [Region.wanted, yielded]; done) | simp [Region.wanted, yielded, undef]) hS ?_
            try simp only [Act.put, List.getElem_toArray, List.getElem_cons_succ, List.getElem_cons_zero, List.setIfInBounds_toArray, List.set_cons_zero, List.set_cons_succ]
            refine AnyG.takeNC (i := 11) rfl (by kernel_rfl) (fun _ _ _ h => h) (by first | (simp [Region.wanted, yielded]; done) | simp [Region.wanted, yielded, undef]) hS ?_
            try simp only [Act.put, List.getElem_toArray, List.getElem_cons_succ, List.getElem_cons_zero, List.setIfInBounds_toArray, List.set_cons_zero, List.set_cons_succ]
            refine AnyG.takeNC (i := 12) rfl (by kernel_rfl) (fun _ _ _ h => h) (by first | (simp [Region.wanted, yielded]; done) | simp [Region.wanted, yielded, undef]) hS ?_
            try simp only [Act.put, List.getElem_toArray, List.getElem_cons_succ, List.getElem_cons_zero, List.setIfInBounds_toArray, List.set_cons_zero, List.set_cons_succ]
            refine AnyG.takeNC (i := 13) rfl (by kernel_rfl) (fun _ _ _ h => h) (by first | (simp [Region.wanted, yielded]; done) | simp [Region.wanted, yielded, undef]) hS ?_
            try simp only [Act.put, List.getElem_toArray, List.getElem_cons_succ, List.getElem_cons_zero, List.setIfInBounds_toArray, List.set_cons_zero, List.set_cons_succ]
            refine AnyG.takeNC (i := 14) rfl (by kernel_rfl) (fun _ _ _ h => h) (by first | (simp [Region.wanted, yielded]; done) | simp [Region.wanted, yielded, undef]) hS ?_
            try simp only [Act.put, List.getElem_toArray, List.getElem_cons_succ, List.getElem_cons_zero, List.setIfInBounds_toArray, List.set_cons_zero, List.set_cons_succ]
            refine AnyG.takeNC (i := 15) rfl (by kernel_rfl) (fun _ _ _ h => h) (by first | (simp [Region.wanted, yielded]; done) | simp [Region.wanted, yielded, undef]) hS ?_
            try simp only [Act.put, List.getElem_toArray, List.getElem_cons_succ, List.getElem_cons_zero, List.setIfInBounds_toArray, List.set_cons_zero, List.set_cons_succ]
            refine AnyG.takeNC (i := 16) rfl (by kernel_rfl) (fun _ _ _ h => h) (by first | (simp [Region.wanted, yielded]; done) | simp [Region.wanted, yielded, undef]) hS ?_
            try simp only [Act.put, List.getElem_toArray, List.getElem_cons_succ, List.getElem_cons_zero, List.setIfInBounds_toArray, List.set_cons_zero, List.set_cons_succ]
            refine AnyG.takeNC (i := 17) rfl (by kernel_rfl) (fun _ _ _ h => h) (by first | (simp [Region.wanted, yielded]; done) | simp [Region.wanted, yielded, undef]) hS ?_
            try simp only [Act.put, List.getElem_toArray, List.getElem_cons_succ, List.getElem_cons_zero, List.setIfInBounds_toArray, List.set_cons_zero, List.set_cons_succ]
            refine AnyG.takeC (i := 18) (v := ?_) rfl (by kernel_rfl) (fun _ _ _ h => h) rfl ?_ hS ?_
            rotate_left
            · (intro w' hSw; (try dsimp only at hSw); go_simp; try with_reducible rfl)
            try simp only [Act.put, List.getElem_toArray, List.getElem_cons_succ, List.getElem_cons_zero, List.setIfInBounds_toArray, List.set_cons_zero, List.set_cons_succ]
            refine AnyG.takeC (i := 19) (v := ?_) rfl (by kernel_rfl) (fun _ _ _ h => h) rfl ?_ hS ?_
            rotate_left
            · (intro w' hSw; (try dsimp only at hSw); go_simp; try with_reducible rfl)
            try simp only [Act.put, List.getElem_toArray, List.getElem_cons_succ, List.getElem_cons_zero, List.setIfInBounds_toArray, List.set_cons_zero, List.set_cons_succ]
            refine AnyG.done (by kernel_rfl) ?_ _
            have hSE : Below U.heap.size U _ := hS
            clear hS
            go_simp
            go_wp2_with fail
            go_roundw
            case rel => exact ⟨j + 1, _, by go_num, by omega, rfl, Lib.hid (fun _ => hcb.out (by simp)), hSE⟩
            case measure => simp [intOf]; omega
        · obtain rfl : j = nn := by omega
          obtain ⟨V, hV⟩ : ∃ V, V = wr := ⟨_, rfl⟩
          subst hV
          have hO5 := hO4.call hUr
          have kO5 := kO4.call hUr
          have hB5 := hB4.trans (hUr.mono hB4.size)
          have hF5 := Fd.below hF4 hUr
          have oM5 := own_bel oM4 hUr
          clear hO4 kO4 hB4 hF4 oM4 hUr AT
          have hmk := make22 i hb12
          go_wp2_with fail
          go_loopw [11, 12] (fun v _ wr => ∃ (k : Nat), v = .int .i64 k ∧ k ≤ 12 ∧ FT g V wr) (fun v _ _ => 12 - (intOf v).toNat)
          case atStart => exact ⟨0, rfl, by omega, FT.self hF5⟩
          case round =>
            obtain ⟨k, rfl, hk, hT⟩ := hrel
            by_cases hk12 : k < 12
            · have hk12i : (k : Int) < 12 := by omega
              have hiw : IntKind.i64.wrap ((k : Int) + 1) = (k : Int) + 1 := IntWalk.i64_in _ (by omega)
              have hFr := hT.2
              have kOr := hT.bx kO5 hgO
              have hOr := FT.ord hT hF5 hO5
              have oMr := hT.row hF5 oM5 (by decide)
              go_wp2_with fail
              have hlm : lf (rowOf o.mx i) = o.mx := by have := lf_mx o; rw [HBN.out] at this; exact this
              refine AnyG.startC (by kernel_rfl) ?_
              refine AnyG.takeP (i := 1) (v := ?_) rfl (by kernel_rfl) (fun _ _ _ h => h) rfl ?_ ?_
              rotate_left
              · (intro w'; go_simp; try with_reducible rfl)
              try simp only [Act.put, List.getElem_toArray, List.getElem_cons_succ, List.getElem_cons_zero, List.setIfInBounds_toArray, List.set_cons_zero, List.set_cons_succ]
              refine AnyG.takeP (i := 2) (v := ?_) rfl (by kernel_rfl) (fun _ _ _ h => h) rfl ?_ ?_
              rotate_left
              · (intro w'; go_simp; try with_reducible rfl)
              try simp only [Act.put, List.getElem_toArray, List.getElem_cons_succ, List.getElem_cons_zero, List.setIfInBounds_toArray, List.set_cons_zero, List.set_cons_succ]
              refine AnyG.takeP (i := 4) (v := ?_) rfl (by kernel_rfl) (fun _ _ _ h => h) rfl ?_ ?_
              rotate_left
              · (intro w'; go_simp; try with_reducible rfl)
              try simp only [Act.put, List.getElem_toArray, List.getElem_cons_succ, List.getElem_cons_zero, List.setIfInBounds_toArray, List.set_cons_zero, List.set_cons_succ]
              refine AnyG.takeP (i := 5) (v := ?_) rfl (by kernel_rfl) (fun _ _ _ h => h) rfl ?_ ?_
              rotate_left
              · (intro w'; go_simp; try with_reducible rfl)
              try simp only [Act.put, List.getElem_toArray, List.getElem_cons_succ, List.getElem_cons_zero, List.setIfInBounds_toArray, List.set_cons_zero, List.set_cons_succ]
              refine AnyG.takeP (i := 7) (v := ?_) rfl (by kernel_rfl) (fun _ _ _ h => h) rfl ?_ ?_
              rotate_left
              · (intro w'; go_simp; try with_reducible rfl)
              try simp only [Act.put, List.getElem_toArray, List.getElem_cons_succ, List.getElem_cons_zero, List.setIfInBounds_toArray, List.set_cons_zero, List.set_cons_succ]
              refine AnyG.takeP (i := 8) (v := ?_) rfl (by kernel_rfl) (fun _ _ _ h => h) rfl ?_ ?_
              rotate_left
              · (intro w'; go_simp; try with_reducible rfl)
              try simp only [Act.put, List.getElem_toArray, List.getElem_cons_succ, List.getElem_cons_zero, List.setIfInBounds_toArray, List.set_cons_zero, List.set_cons_succ]
              refine AnyG.enter (fun w' : World => FT g wr w') (fun i => true) ?_
              have hS : (fun w' : World => FT g wr w') (World.drew _) := (FT.self hFr).drew
              refine AnyG.takeC (i := 0) (v := ?_) rfl (by kernel_rfl) (fun _ _ _ h => h) rfl ?_ hS ?_
              rotate_left
              · (intro w' hSw; (try dsimp only at hSw); obtain ⟨l0, l1, l2, l3, lf2, lz⟩ := (hSw.bx kOr hgO).four; go_simp; try with_reducible rfl)
              try simp only [Act.put, List.getElem_toArray, List.getElem_cons_succ, List.getElem_cons_zero, List.setIfInBounds_toArray, List.set_cons_zero, List.set_cons_succ]
              refine AnyG.takeC (i := 3) (v := ?_) rfl (by kernel_rfl) (fun _ _ _ h => h) rfl ?_ hS ?_
              rotate_left
              · (intro w' hSw; (try dsimp only at hSw); obtain ⟨l0, l1, l2, l3, lf2, lz⟩ := (hSw.bx kOr hgO).four; go_simp; try with_reducible rfl)
              try simp only [Act.put, List.getElem_toArray, List.getElem_cons_succ, List.getElem_cons_zero, List.setIfInBounds_toArray, List.set_cons_zero, List.set_cons_succ]
              refine AnyG.one (i := 6) (by kernel_rfl) rfl rfl ?_
              go_simp
              skip
              have hT6 := hS.alloc (.cells (z22 i) 3)
              have kz : Bx _ wr.heap.size 3 (z22 i) := Bx.new wr.drew 3 (z22 i)
              refine Onward.on hT6 (fun hS2 => ?_)
              clear hS
              have hS := hS2
              clear hS2
              try simp only [Act.put, List.getElem_toArray, List.getElem_cons_succ, List.getElem_cons_zero, List.setIfInBounds_toArray, List.set_cons_zero, List.set_cons_succ]
              refine AnyG.one (i := 9) (by kernel_rfl) rfl rfl ?_
              go_simp
              have hz9 := hT6.2
              refine (anyProof_any LA ln lc BA i bc o p g HLN.out HBN.out HOK.out 25 (List.replicate i 0) (rowOf o.mx i) (some ⟨wr.heap.size, 0, none⟩) MA i mc _ (by rw [lf_rep, hlm]; exact wid_mx HOK.out) (by rw [lf_rep, hlm]; exact HOK.out.mx) (by simp) (rowOf_len _ _) (FT.ord hS hFr hOr) (z22_sl hb12 kz) (own_inr (hS.row hFr oMr (by decide)) (rowOf_len _ _)) hS.2 (by rw [lf_rep, hlm]; exact wid_small HSM.out HOK.out)).mono ?_
              rintro e9 y9 ⟨PA, pc, X, rfl, hPX, oX, hTX⟩
              rw [lf_rep, hlm] at hPX
              refine Onward.on (hS.call hTX.1 hTX.2) (fun hS2 => ?_)
              clear hS
              have hS := hS2
              clear hS2
              try simp only [Act.put, List.getElem_toArray, List.getElem_cons_succ, List.getElem_cons_zero, List.setIfInBounds_toArray, List.set_cons_zero, List.set_cons_succ]
              refine AnyG.one (i := 10) (by kernel_rfl) rfl rfl ?_
              have hX9 := hPX.len HOK.out.b2 6 (wid_two HSM.out HOK.out)
              have hpc : X.length ≤ pc := by obtain ⟨A9, c9, e9, h9⟩ := own_cap oX; simp at e9; omega
              go_simp
              refine (verify_ok LA ln lc BA i bc o p PA X.length pc X _ (by omega) (by omega) HLN.out HBN.out (FT.ord hS hFr hOr) HOK.out hp rfl (own_bds oX) hpc (by omega)).mono ?_
              rintro e10 y10 ⟨rfl, hb10⟩
              refine Onward.on (hS.bel hb10) (fun hS2 => ?_)
              clear hS
              have hS := hS2
              clear hS2
              try simp only [Act.put, List.getElem_toArray, List.getElem_cons_succ, List.getElem_cons_zero, List.setIfInBounds_toArray, List.set_cons_zero, List.set_cons_succ]
              refine AnyG.takeC (i := 11) (v := ?_) rfl (by kernel_rfl) (fun _ _ _ h => h) rfl ?_ hS ?_
              rotate_left
              · (intro w' hSw; (try dsimp only at hSw); go_simp; try with_reducible rfl)
              try simp only [Act.put, List.getElem_toArray, List.getElem_cons_succ, List.getElem_cons_zero, List.setIfInBounds_toArray, List.set_cons_zero, List.set_cons_succ]
              refine AnyG.done (by kernel_rfl) ?_ _
              have hTE := hT.call hS.1 hS.2
              clear hS
              go_simp
              have hv := hPX.vrf (p := p) HOK.out (by omega)
              have hz := vrf_zero (p := p) (L := X) HOK.out
              obtain ⟨rv, hrv⟩ : ∃ z, vrf o p X = z := ⟨_, rfl⟩
              rw [hrv] at hv hz ⊢
              clear hrv
              rcases hv with rfl | rfl | rfl
              · have hcf : cb = false := by
                  cases hcc : cb with
                  | false => rfl
                  | true =>
                    exfalso
                    obtain ⟨x, hxm, hxg, hxc⟩ := hcb.out hcc
                    have h9 := hz rfl (lf x) (HFIT.out x hxm).inb hxg
                    rw [HBN.out] at h9
                    omega
                subst hcf
                clear hz
                go_wp2_with fail
                go_roundw
                case rel => exact ⟨k + 1, by go_num, by omega, hTE⟩
                case measure => simp [intOf]; omega
              · clear hz
                go_wp2_with fail
                go_roundw
                case rel => exact ⟨k + 1, by go_num, by omega, hTE⟩
                case measure => simp [intOf]; omega
              · clear hz
                go_wp2_with fail
                go_roundw
                case rel => exact ⟨k + 1, by go_num, by omega, hTE⟩
                case measure => simp [intOf]; omega
            · obtain rfl : k = 12 := by omega
              go_wp2_with (first | (go_at_call 19; refine (alive_any _).mono ?_; rintro e V9 ⟨rfl, hq9⟩) | fail)
              go_ret
              have hB6 := hT.be hB5 hwg
              exact ⟨rfl, hB6.trans (hq9.mono hB6.size)⟩
end Go.Proofs.Ytmemcopfeabcgaa
