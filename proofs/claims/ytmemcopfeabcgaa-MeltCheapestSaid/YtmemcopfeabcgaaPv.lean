/- melt.claim.prove: the plain proof, where there is one. -/
import Derived.Test.YtmemcopfeabcgaaAp
import Derived.Test.YtmemcopfeabcgaaMi
set_option linter.unusedSimpArgs false
set_option linter.unusedVariables false
namespace Go.Proofs.Ytmemcopfeabcgaa
open Go Go.RowKit
def bdr (r : Bd) : List Value := [.int .i64 r.rs, .int .i64 r.at_, .int .i64 r.ct]
def bdrs (L : List Bd) : List Value := (L.map bdr).flatten
theorem bdrs_append (L M : List Bd) : bdrs (L ++ M) = bdrs L ++ bdrs M := by simp [bdrs]
theorem bdrs_one (r : Bd) : bdrs [r] = bdr r := by simp [bdrs]
theorem info69' : (Try.prog.info? 69).map (fun i => (i.zero, i.size, i.bytes)) = some (some (.agg #[.int .i64 0, .int .i64 0, .int .i64 0]), 3, 24) := by kernel_rfl
theorem bd_cells (w : World) (r : Bd) : ∀ j u, (bdr r)[j]? = some u → (w.alloc (.cells #[.int .i64 r.rs, .int .i64 r.at_, .int .i64 r.ct] 69)).cell? ((⟨w.heap.size, 0, none⟩ : Addr).add j) = some u := by
  intro j u hu
  have hj : j < 3 := by simpa [bdr] using (List.getElem?_eq_some_iff.1 hu).1
  have e : (⟨w.heap.size, 0, none⟩ : Addr).add j = ⟨w.heap.size, j, none⟩ := by unfold Addr.add; split <;> simp_all
  rw [e, (Bx.new w 69 #[.int .i64 r.rs, .int .i64 r.at_, .int .i64 r.ct]).cell j]
  simpa [bdr] using hu
theorem bd_one (r : Bd) : ∀ u ∈ bdr r, u.oneCell' = true := by intro u hu; simp [bdr] at hu; rcases hu with rfl | rfl | rfl <;> rfl
/-- What prove gives back: the proof that came, and L behind it. -/
def ProveP (B : Nat) (w : World) (v : Value) (n : Nat) (xs : List Value) (L : List Bd) (e : Ending) (w' : World) : Prop :=
  ∃ v', e = .returned v' ∧ w'.ownsRow B 69 3 v' (n + L.length) (xs ++ bdrs L) ∧ w.grownBy w' v.ownBlock ∧ (v'.ownBlock = v.ownBlock ∨ ∀ k, v'.ownBlock = some k → w.heap.size ≤ k)
theorem alt_low {a b : Option Nat} {x y : Nat} (h : a = b ∨ ∀ k, a = some k → y ≤ k) (hxy : x ≤ y) : a = b ∨ ∀ k, a = some k → x ≤ k := by
  rcases h with h | h
  · exact .inl h
  · exact .inr fun k hk => Nat.le_trans hxy (h k hk)
theorem alt_trans {a b c : Option Nat} {x y : Nat} (h : a = b ∨ ∀ k, a = some k → x ≤ k) (h' : c = a ∨ ∀ k, c = some k → y ≤ k) (hxy : x ≤ y) : c = b ∨ ∀ k, c = some k → x ≤ k := by
  rcases h' with rfl | h'
  · exact h
  · exact .inr fun k hk => Nat.le_trans hxy (h' k hk)
theorem grown_trans {a b c : World} {r s : Option Nat} (h : a.grownBy b r) (k : b.grownBy c s) (hs : s = r ∨ ∀ i, s = some i → a.heap.size ≤ i) : a.grownBy c r :=
  ⟨k.os.trans h.os, k.tape.trans h.tape, k.output.trans h.output, Nat.le_trans h.size k.size, fun i hi hne => (k.block i (by have := h.size; omega) (fun e => by
    rcases hs with rfl | hs
    · exact hne e
    · have := hs i e.symm; omega)).trans (h.block i hi hne)⟩
set_option maxRecDepth 100000 in
set_option maxHeartbeats 4000000 in
theorem prove_some (LA : Option Addr) (ln lc : Nat) (BA : Option Addr) (bn bc : Nat) (o : Od) (p : Int) (B : Nat) (ho : o.Ok) (hl : o.lm.length = ln) (hb' : o.bs.length = bn) : ∀ (fuel : Nat) (lo hi : Nat → Int) (L : List Bd) (v : Value) (n : Nat) (xs : List Value) (w : World), BoxOk lo hi → prf o p fuel lo hi = some L → OrdAt w B LA BA o → w.ownsRow B 69 3 v n xs → B ≤ w.heap.size → n + L.length ≤ 100000 →
    Calls Try.prog 89 #[.agg #[.slice LA ln lc, .int .i64 o.le, .int .i64 o.mo, .slice BA bn bc, .int .i64 p], v, .agg (xarr lo hi)] w fun e w' => ProveP B w v n xs L e w' := by
  have HB := Lib.hid hb'
  have HL := Lib.hid hl
  have HO := Lib.hid ho
  clear hb' hl ho
  obtain ⟨i69, hi69, hz69, hs69, iy69⟩ := info_parts info69'
  intro fuel
  induction fuel with
  | zero => intro lo hi L v n xs w _ h; simp [prf] at h
  | succ fuel ih =>
    intro lo hi L v n xs w hbx hp hA how hBw hnL
    have IH := Lib.hid ih
    have HX := Lib.hid hbx
    have k1 := (Bx.new w 100 #[.slice LA ln lc, .int .i64 o.le, .int .i64 o.mo, .slice BA bn bc, .int .i64 p]).alloc (.cells (xarr lo hi) 91)
    have k2 := Bx.at (w.alloc (.cells #[.slice LA ln lc, .int .i64 o.le, .int .i64 o.mo, .slice BA bn bc, .int .i64 p] 100)) 91 (xarr lo hi) (n := w.heap.size + 1) (by simp)
    have B0 := ((Below.refl w.heap.size w).alloc (Nat.le_refl _) (.cells #[.slice LA ln lc, .int .i64 o.le, .int .i64 o.mo, .slice BA bn bc, .int .i64 p] 100)).alloc (by simp) (.cells (xarr lo hi) 91)
    clear ih hbx
    obtain ⟨c0, c1, c2, c3, c4, cf, cz⟩ := k1.five
    obtain ⟨p0, p1, p2, p3, p4, p5, p6, p7, pf, pz⟩ := k2.xarr
    unfold prf at hp
    cases hr : reason o p lo hi with
    | some r =>
      rw [hr] at hp
      simp only [Option.some.injEq] at hp
      subst hp
      have HR : Hid (reasonV o p lo hi = .tuple #[.agg #[.int .i64 r.rs, .int .i64 r.at_, .int .i64 r.ct], .bool true]) := by unfold Hid reasonV; rw [hr]
      clear hr
      have h1c := bd_one r
      go_enter Try.func89, Try.ntmps89
      go_wp2_with (first
        | (go_at_call 97; rw [← xarr_def lo hi]; refine (firstReason_any LA ln lc BA bn bc o p lo hi _ HL.out HB.out ((hA.below (B0.mono hBw)).more (Nat.le_trans hBw B0.size)) HO.out HX.out).mono ?_; rintro e w1 ⟨rfl, hb1⟩; rw [HR.out]; have B1 := B0.trans (hb1.mono B0.size))
        | (at_builtin; have how' := own_bel how ((B1.alloc B1.size (.cells #[.int .i64 r.rs, .int .i64 r.at_, .int .i64 r.ct] 69)).alloc (by have := B1.size; simp; omega) (.cells #[.int .i64 r.rs, .int .i64 r.at_, .int .i64 r.ct] 69)); have hcs := bd_cells (w1.alloc (.cells #[.int .i64 r.rs, .int .i64 r.at_, .int .i64 r.ct] 69)) r; rw [World.size_alloc] at hcs; refine wpList_app2 rfl (.tmp 20) (.tmp 22) 51 rfl B 69 i69 _ 3 24 Try.underlying51 hi69 hz69 hs69 iy69 rfl (by decide) v n xs rfl how' ⟨w1.heap.size + 1, 0, none⟩ 1 1 (bdr r) rfl rfl hcs h1c (by unfold maxLen; simp at hnL; omega) (by simp at hnL; omega) (by have := B1.size; simp; omega) ?_; intro v' w' o1 o2 o3))
      have hW2 : Below w.heap.size w ((w1.alloc (.cells #[.int .i64 r.rs, .int .i64 r.at_, .int .i64 r.ct] 69)).alloc (.cells #[.int .i64 r.rs, .int .i64 r.at_, .int .i64 r.ct] 69)) := (B1.alloc B1.size _).alloc (by have := B1.size; simp; omega) _
      go_ret
      refine ⟨v', rfl, by rw [bdrs_one]; exact o1, grown_trans (grown_below (row := v.ownBlock) hW2) o2 (.inl rfl), ?_⟩
      rcases o3 with h | h
      · exact .inl h
      · exact .inr fun k hk => Nat.le_trans hW2.size (h k hk)
    | none =>
      rw [hr] at hp
      have HR : Hid (reasonV o p lo hi = .tuple #[.agg #[.int .i64 0, .int .i64 0, .int .i64 0], .bool false]) := by unfold Hid reasonV; rw [hr]
      clear hr
      cases h1 : one4 lo hi with
      | true => rw [h1] at hp; simp at hp
      | false =>
        rw [h1] at hp
        simp only [Bool.false_eq_true, if_false] at hp
        obtain ⟨hm4, _⟩ := mid_lt h1
        obtain ⟨cc1, cc2⟩ := cutAt_bd HX.out h1
        have hc6 : 0 ≤ cutAt lo hi ∧ cutAt lo hi ≤ 6 := by
          have := HX.out.six (mid lo hi)
          have := HX.out.six2 (mid lo hi)
          omega
        have HXL := Lib.hid (HX.out.lower hm4 cc1 cc2)
        have HXU := Lib.hid (HX.out.upper hm4 cc1 cc2)
        have HONE := Lib.hid h1
        split at hp
        · rename_i X Y hX hY
          simp only [Option.some.injEq] at hp
          subst hp
          generalize hm : mid lo hi = m at *
          generalize hc : cutAt lo hi = c at *
          have HM := Lib.hid hm
          have HC := Lib.hid hc
          have HPX := Lib.hid hX
          have HPY := Lib.hid hY
          have hlen : n + (1 + X.length + Y.length) ≤ 100000 := by simp at hnL; omega
          have h1c := bd_one ⟨1, m, c⟩
          clear h1 cc1 cc2 hX hY hm hc hnL
          go_enter Try.func89, Try.ntmps89
          go_wp2_with (first
            | (go_at_call 97; rw [← xarr_def lo hi]; refine (firstReason_any LA ln lc BA bn bc o p lo hi _ HL.out HB.out ((hA.below (B0.mono hBw)).more (Nat.le_trans hBw B0.size)) HO.out HX.out).mono ?_; rintro e w1 ⟨rfl, hb1⟩; rw [HR.out]; replace k1 := (k1.call hb1).alloc (.cells #[.int .i64 0, .int .i64 0, .int .i64 0] 69); replace k2 := (k2.call hb1).alloc (.cells #[.int .i64 0, .int .i64 0, .int .i64 0] 69); have B1 := (B0.trans (hb1.mono B0.size)).alloc (B0.trans (hb1.mono B0.size)).size (.cells #[.int .i64 0, .int .i64 0, .int .i64 0] 69); clear c0 c1 c2 c3 c4 cf cz p0 p1 p2 p3 p4 p5 p6 p7 pf pz; obtain ⟨c0, c1, c2, c3, c4, cf, cz⟩ := k1.five; obtain ⟨p0, p1, p2, p3, p4, p5, p6, p7, pf, pz⟩ := k2.xarr)
            | (go_at_call 98; rw [← xarr_def lo hi]; refine (isOne_any lo hi _ HX.out).mono ?_; rintro e w2 ⟨rfl, hb2⟩; rw [HONE.out]; replace k1 := k1.call hb2; replace k2 := k2.call hb2; have B2 := B1.trans (hb2.mono B1.size); clear c0 c1 c2 c3 c4 cf cz p0 p1 p2 p3 p4 p5 p6 p7 pf pz; obtain ⟨c0, c1, c2, c3, c4, cf, cz⟩ := k1.five; obtain ⟨p0, p1, p2, p3, p4, p5, p6, p7, pf, pz⟩ := k2.xarr)
            | (go_at_call 99; rw [← xarr_def lo hi]; refine (middle_any lo hi _ HX.out HONE.out).mono ?_; rintro e w3 ⟨rfl, hb3⟩; rw [HM.out, HC.out]; replace k1 := k1.call hb3; replace k2 := k2.call hb3; have B3 := B2.trans (hb3.mono B2.size); clear c0 c1 c2 c3 c4 cf cz p0 p1 p2 p3 p4 p5 p6 p7 pf pz; obtain ⟨c0, c1, c2, c3, c4, cf, cz⟩ := k1.five; obtain ⟨p0, p1, p2, p3, p4, p5, p6, p7, pf, pz⟩ := k2.xarr)
            | (go_at_call 91; rw [← xarr_def lo hi]; refine (cut_any lo hi m c _ hm4 hc6).mono ?_; rintro e w4 ⟨rfl, hb4⟩; replace k1 := k1.call hb4; have B4 := B3.trans (hb4.mono B3.size); rw [xarr_def lo (up1 hi m c), xarr_def (up1 lo m (c + 1)) hi])
            | (at_builtin; have k1' := ((k1.alloc (.cells #[.int .i64 (lo 0), .int .i64 (up1 hi m c 0), .int .i64 (lo 1), .int .i64 (up1 hi m c 1), .int .i64 (lo 2), .int .i64 (up1 hi m c 2), .int .i64 (lo 3), .int .i64 (up1 hi m c 3)] 91)).alloc (.cells #[.int .i64 (up1 lo m (c + 1) 0), .int .i64 (hi 0), .int .i64 (up1 lo m (c + 1) 1), .int .i64 (hi 1), .int .i64 (up1 lo m (c + 1) 2), .int .i64 (hi 2), .int .i64 (up1 lo m (c + 1) 3), .int .i64 (hi 3)] 91)).alloc (.cells #[.int .i64 1, .int .i64 (m : Int), .int .i64 c] 69); have kl := ((Bx.new w4 91 #[.int .i64 (lo 0), .int .i64 (up1 hi m c 0), .int .i64 (lo 1), .int .i64 (up1 hi m c 1), .int .i64 (lo 2), .int .i64 (up1 hi m c 2), .int .i64 (lo 3), .int .i64 (up1 hi m c 3)]).alloc (.cells #[.int .i64 (up1 lo m (c + 1) 0), .int .i64 (hi 0), .int .i64 (up1 lo m (c + 1) 1), .int .i64 (hi 1), .int .i64 (up1 lo m (c + 1) 2), .int .i64 (hi 2), .int .i64 (up1 lo m (c + 1) 3), .int .i64 (hi 3)] 91)).alloc (.cells #[.int .i64 1, .int .i64 (m : Int), .int .i64 c] 69); have ku := (Bx.at (w4.alloc (.cells #[.int .i64 (lo 0), .int .i64 (up1 hi m c 0), .int .i64 (lo 1), .int .i64 (up1 hi m c 1), .int .i64 (lo 2), .int .i64 (up1 hi m c 2), .int .i64 (lo 3), .int .i64 (up1 hi m c 3)] 91)) 91 #[.int .i64 (up1 lo m (c + 1) 0), .int .i64 (hi 0), .int .i64 (up1 lo m (c + 1) 1), .int .i64 (hi 1), .int .i64 (up1 lo m (c + 1) 2), .int .i64 (hi 2), .int .i64 (up1 lo m (c + 1) 3), .int .i64 (hi 3)] (n := w4.heap.size + 1) (by simp)).alloc (.cells #[.int .i64 1, .int .i64 (m : Int), .int .i64 c] 69); have B5 := ((B4.alloc B4.size (.cells #[.int .i64 (lo 0), .int .i64 (up1 hi m c 0), .int .i64 (lo 1), .int .i64 (up1 hi m c 1), .int .i64 (lo 2), .int .i64 (up1 hi m c 2), .int .i64 (lo 3), .int .i64 (up1 hi m c 3)] 91)).alloc (by have := B4.size; simp; omega) (.cells #[.int .i64 (up1 lo m (c + 1) 0), .int .i64 (hi 0), .int .i64 (up1 lo m (c + 1) 1), .int .i64 (hi 1), .int .i64 (up1 lo m (c + 1) 2), .int .i64 (hi 2), .int .i64 (up1 lo m (c + 1) 3), .int .i64 (hi 3)] 91)).alloc (by have := B4.size; simp; omega) (.cells #[.int .i64 1, .int .i64 (m : Int), .int .i64 c] 69); have how' := own_bel how B5; have hcs := bd_cells ((w4.alloc (.cells #[.int .i64 (lo 0), .int .i64 (up1 hi m c 0), .int .i64 (lo 1), .int .i64 (up1 hi m c 1), .int .i64 (lo 2), .int .i64 (up1 hi m c 2), .int .i64 (lo 3), .int .i64 (up1 hi m c 3)] 91)).alloc (.cells #[.int .i64 (up1 lo m (c + 1) 0), .int .i64 (hi 0), .int .i64 (up1 lo m (c + 1) 1), .int .i64 (hi 1), .int .i64 (up1 lo m (c + 1) 2), .int .i64 (hi 2), .int .i64 (up1 lo m (c + 1) 3), .int .i64 (hi 3)] 91)) ⟨1, m, c⟩; simp only [World.size_alloc] at hcs; refine wpList_app2 rfl (.tmp 41) (.tmp 45) 51 rfl B 69 i69 _ 3 24 Try.underlying51 hi69 hz69 hs69 iy69 rfl (by decide) v n xs rfl how' ⟨w4.heap.size + 1 + 1, 0, none⟩ 1 1 (bdr ⟨1, m, c⟩) rfl rfl hcs h1c (by unfold maxLen; omega) (by omega) (Nat.le_trans hBw B5.size) ?_; intro v5 w5 o1 o2 o3; have j1 := k1'.grown o2 (own_bx how' k1' (by decide)); have jl := kl.grown o2 (own_bx how' kl (by decide)); have ju := ku.grown o2 (own_bx how' ku (by decide)); have BB := (B5.mono hBw).grown o2 (Nat.le_trans hBw B5.size) (fun k e => (how'.lt k e).1); have GG := grown_trans (grown_below (row := v.ownBlock) B5) o2 (.inl rfl); rw [← xarr_def lo (up1 hi m c)] at jl; rw [← xarr_def (up1 lo m (c + 1)) hi] at ju; clear k1 k2 kl ku k1' c0 c1 c2 c3 c4 cf cz p0 p1 p2 p3 p4 p5 p6 p7 pf pz hcs; obtain ⟨c0, c1, c2, c3, c4, cf, cz⟩ := j1.five; obtain ⟨p0, p1, p2, p3, p4, p5, p6, p7, pf, pz⟩ := jl.xarr; obtain ⟨y0, y1, y2, y3, y4, y5, y6, y7, yf, yz⟩ := ju.xarr)
            | (have _t := q1; clear _t; go_at_call 89; rw [← xarr_def (up1 lo m (c + 1)) hi]; refine (IH.out (up1 lo m (c + 1)) hi Y v6 (n + 1 + X.length) (xs ++ bdr ⟨1, m, c⟩ ++ bdrs X) _ HXU.out HPY.out (hA.below BB6) q1 (Nat.le_trans hBw BB6.size) (by omega)).mono ?_; rintro e w7 ⟨v7, rfl, r1, r2, r3⟩)
            | (go_at_call 89; rw [← xarr_def lo (up1 hi m c)]; refine (IH.out lo (up1 hi m c) X v5 (n + 1) (xs ++ bdr ⟨1, m, c⟩) _ HXL.out HPX.out (hA.below BB) o1 (Nat.le_trans hBw BB.size) (by omega)).mono ?_; rintro e w6 ⟨v6, rfl, q1, q2, q3⟩; have i1 := j1.grown q2 (own_bx o1 j1 (by decide)); have iu := ju.grown q2 (own_bx o1 ju (by decide)); have BB6 := BB.grown q2 (Nat.le_trans hBw BB.size) (fun k e => (o1.lt k e).1); clear c0 c1 c2 c3 c4 cf cz p0 p1 p2 p3 p4 p5 p6 p7 pf pz y0 y1 y2 y3 y4 y5 y6 y7 yf yz; obtain ⟨c0, c1, c2, c3, c4, cf, cz⟩ := i1.five; obtain ⟨y0, y1, y2, y3, y4, y5, y6, y7, yf, yz⟩ := iu.xarr)
            | fail)
          go_ret
          have hz6 := GG.size
          refine ⟨v7, rfl, ?_, ?_, ?_⟩
          · have e1 : n + 1 + X.length + Y.length = n + ((⟨1, (m : Int), c⟩ :: (X ++ Y) : List Bd)).length := by simp; omega
            have e2 : xs ++ bdr ⟨1, m, c⟩ ++ bdrs X ++ bdrs Y = xs ++ bdrs (⟨1, (m : Int), c⟩ :: (X ++ Y)) := by simp [bdrs]
            rw [← e1, ← e2]; exact r1
          · refine grown_trans (grown_trans GG q2 ?_) r2 ?_
            · rcases o3 with h | h
              · exact .inl h
              · exact .inr fun k hk => Nat.le_trans B5.size (h k hk)
            · exact alt_trans (alt_low o3 B5.size) q3 (Nat.le_trans B5.size o2.size)
          · exact alt_trans (alt_trans (alt_low o3 B5.size) q3 (Nat.le_trans B5.size o2.size)) r3 (Nat.le_trans (Nat.le_trans B5.size o2.size) q2.size)
        · cases hp
end Go.Proofs.Ytmemcopfeabcgaa
