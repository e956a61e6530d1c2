/- VoyageOf. -/
import Derived.Test.YtfcpjkofbejleaaFsM
set_option linter.unusedSimpArgs false
set_option linter.unusedVariables false
namespace Go.Proofs.Ytfcpjkofbejleaa
open Go Go.RowKit
def VoyPost (g : Nat) (H S L T : Int) (w : World) (e : Ending) (w' : World) : Prop :=
  (∃ (v : Vg) (p : Vp), SmallV v H S L T ∧ p.Fit ∧ e = .returned (.agg (vcs v p)) ∧ VoyAt w' w'.heap.size v p) ∧ FT g w w'
set_option maxRecDepth 100000 in
set_option maxHeartbeats 8000000 in
theorem voyageOf_any (g : Nat) (H S L T : Int) (w : World) (h : Fd g w) (hH1 : 1 ≤ H) (hH : H ≤ 3) (hS0 : 0 ≤ S) (hS : S ≤ 4) (hL0 : 0 ≤ L) (hL : L ≤ 6) (hT0 : 1 ≤ T) (hT : T ≤ 900) :
    Calls Try.prog 17 #[.pointer (some ⟨g, 0, none⟩), .int .i64 H, .int .i64 S, .int .i64 L, .int .i64 T] w (VoyPost g H S L T w) := by
  have hgl := h.lt
  obtain ⟨i85, hi85, hz85, hs85, iy85⟩ := info_parts info85
  obtain ⟨i75, hi75, hz75, hs75, iy75⟩ := info_parts info75
  obtain ⟨i73, hi73, hz73, hs73, iy73⟩ := info_parts info73
  obtain ⟨i70, hi70, hz70, hs70, iy70⟩ := info_parts info70
  have U0 : FT g (w.alloc (.cells #[.int .i64 0, .int .i64 0, .int .i64 0, .slice none 0 0, .int .i64 0, .slice none 0 0, .slice none 0 0] 26)) (w.alloc (.cells #[.int .i64 0, .int .i64 0, .int .i64 0, .slice none 0 0, .int .i64 0, .slice none 0 0, .slice none 0 0] 26)) := FT.self (h.alloc _)
  have kz := Bx.new w 26 #[.int .i64 0, .int .i64 0, .int .i64 0, .slice none 0 0, .int .i64 0, .slice none 0 0, .slice none 0 0]
  have G0 := grown_alloc (grown_refl w (some g)) (.cells #[.int .i64 0, .int .i64 0, .int .i64 0, .slice none 0 0, .int .i64 0, .slice none 0 0, .slice none 0 0] 26)
  have hVs : (w.alloc (.cells #[.int .i64 0, .int .i64 0, .int .i64 0, .slice none 0 0, .int .i64 0, .slice none 0 0, .slice none 0 0] 26)).heap.size = w.heap.size + 1 := by simp
  obtain ⟨V, hV⟩ : ∃ V, w.alloc (.cells #[.int .i64 0, .int .i64 0, .int .i64 0, .slice none 0 0, .int .i64 0, .slice none 0 0, .slice none 0 0] 26) = V := ⟨_, rfl⟩
  rw [hV] at U0 kz G0 hVs
  have HV := Lib.hid hV
  clear hV
  go_enter Try.func17, Try.ntmps17
  go_wp2_with (first
    | (go_at_call 48; have U6 := U5.alloc (.cells #[.int .i64 li, .int .i64 un, .int .i64 tr, .slice none 0 0, .int .i64 le, .slice none 0 0, .slice none 0 0] 26); refine (between_any g 1 H _ U6.2 (by omega) (by omega) (by omega) (by omega)).mono ?_; rintro e y6 ⟨⟨n0, rfl, n1, n2⟩, hf, hg⟩; have U7 := U6.call hg hf; have kx := (Bx.new y5 26 #[.int .i64 li, .int .i64 un, .int .i64 tr, .slice none 0 0, .int .i64 le, .slice none 0 0, .slice none 0 0]).grown hg (by have := U5.size; simp; omega); clear hg hf)
    | (go_at_call 18; have _t := U3; clear _t; have U3a := U3.alloc (.cells #[.int .i64 tr0, .int .i64 40] 3); refine (either_any g y3.heap.size 2 #[.int .i64 tr0, .int .i64 40] (fun z => 0 ≤ z ∧ z ≤ 40) _ U3a.2 (Bx.new y3 3 _) (by have := U3.size; omega) (by omega) (by omega) (bx2 _ (by omega) (by omega))).mono ?_; rintro e y4 ⟨⟨tr, rfl, hq⟩, hf, hg⟩; have U4 := U3a.call hg hf; clear hg hf)
    | (go_at_call 49; first
        | (have _t := U4; clear _t; refine (below_any g 9 _ U4.2 (by omega) (by omega)).mono ?_; rintro e y5 ⟨⟨le, rfl, le1, le2⟩, hf, hg⟩; have U5 := U4.call hg hf; clear hg hf)
        | (have _t := U2; clear _t; refine (below_any g 9 _ U2.2 (by omega) (by omega)).mono ?_; rintro e y3 ⟨⟨tr0, rfl, tr01, tr02⟩, hf, hg⟩; have U3 := U2.call hg hf; clear hg hf)
        | (have _t := U1; clear _t; refine (below_any g 4 _ U1.2 (by omega) (by omega)).mono ?_; rintro e y2 ⟨⟨un, rfl, un1, un2⟩, hf, hg⟩; have U2 := U1.call hg hf; clear hg hf)
        | (rw [HV.out]; have _t := U0; clear _t; refine (below_any g 9 _ U0.2 (by omega) (by omega)).mono ?_; rintro e y1 ⟨⟨li, rfl, li1, li2⟩, hf, hg⟩; have U1 := U0.call hg hf; clear hg hf))
    | fail)
  have hb0 : w.heap.size < y5.heap.size := by have := U5.size; omega
  have I1 : VI g y5.heap.size w li un tr le [] [] [] (.slice none 0 0) (.slice none 0 0) (.slice none 0 0) [] y6 :=
    ⟨hb0, U7.bx kz (by omega), kx, World.ownsRow_nil _ _ _ _, World.ownsRow_nil _ _ _ _, .nil _ _, World.ownsRow_nil _ _ _ _, U7.2, grownF_trans G0 U7.1⟩
  obtain ⟨b, hb⟩ : ∃ x, y5.heap.size = x := ⟨_, rfl⟩
  rw [hb] at I1 hb0 ⊢
  have hbg : b ≠ g := by omega
  clear hb U0 U1 U2 U3 U3a U4 U5 U6 U7 kx kz G0 HV
  have w3T : IntKind.i64.wrap (3 * T) = 3 * T := IntWalk.i64_in _ (by omega)
  go_loopw [12] (fun v wr => ∃ (i : Int) (hs : List Hd) (hv : Value), v = .int .i64 i ∧ 0 ≤ i ∧ (hs.length : Int) + i ≤ H ∧ (1 ≤ hs.length ∨ 1 ≤ i) ∧ (∀ z ∈ hs, 0 ≤ z.rm ∧ z.rm ≤ 3 * T ∧ 0 ≤ z.bw ∧ z.bw ≤ 1499 ∧ 0 ≤ z.st ∧ z.st ≤ 1499) ∧ VI g b w li un tr le hs [] [] hv (.slice none 0 0) (.slice none 0 0) [] wr) (fun v _ => (intOf v).toNat)
  case atStart => exact ⟨n0, [], .slice none 0 0, rfl, by omega, by simp; omega, by omega, by simp, I1⟩
  case round =>
    clear I1
    obtain ⟨i, hs, hv, rfl, hi0, hil, hh1, hhs, I⟩ := hrel
    by_cases hi : 0 < i
    · obtain ⟨HA, hc, rfl⟩ := own_shape I.oh
      obtain ⟨n, hn⟩ : ∃ n, hs.length = n := ⟨_, rfl⟩
      have HN := Lib.hid hn
      have hn3 : n ≤ 3 := by omega
      have HIL : (n : Int) + i ≤ H := by omega
      have IK := I.k1
      have IO := I.oh
      rw [hn] at IK IO
      have hbase : w.heap.size ≤ wr.heap.size := I.gr.size
      have HI := Lib.hid I
      have HHS := Lib.hid hhs
      have IF := I.fd
      clear I hn hil hhs hh1
      have hwi : IntKind.i64.wrap (i - 1) = i - 1 := IntWalk.i64_in _ (by omega)
      go_wp2_with fail
      refine AnyG.startC (by kernel_rfl) ?_
      refine AnyG.takeP (i := 0) (v := ?_) rfl (by kernel_rfl) (fun _ _ _ h => h) rfl ?_ ?_
      rotate_left
      · (intro w'; go_simp; try with_reducible rfl)
      try simp only [Act.put, List.getElem_toArray, List.getElem_cons_succ, List.getElem_cons_zero, List.setIfInBounds_toArray, List.set_cons_zero, List.set_cons_succ]
      refine AnyG.takeP (i := 2) (v := ?_) rfl (by kernel_rfl) (fun _ _ _ h => h) rfl ?_ ?_
      rotate_left
      · (intro w'; go_simp; try with_reducible rfl)
      try simp only [Act.put, List.getElem_toArray, List.getElem_cons_succ, List.getElem_cons_zero, List.setIfInBounds_toArray, List.set_cons_zero, List.set_cons_succ]
      refine AnyG.takeP (i := 3) (v := ?_) rfl (by kernel_rfl) (fun _ _ _ h => h) rfl ?_ ?_
      rotate_left
      · (intro w'; go_simp; try with_reducible rfl)
      try simp only [Act.put, List.getElem_toArray, List.getElem_cons_succ, List.getElem_cons_zero, List.setIfInBounds_toArray, List.set_cons_zero, List.set_cons_succ]
      refine AnyG.takeP (i := 4) (v := ?_) rfl (by kernel_rfl) (fun _ _ _ h => h) rfl ?_ ?_
      rotate_left
      · (intro w'; go_simp; try with_reducible rfl)
      try simp only [Act.put, List.getElem_toArray, List.getElem_cons_succ, List.getElem_cons_zero, List.setIfInBounds_toArray, List.set_cons_zero, List.set_cons_succ]
      refine AnyG.takeP (i := 5) (v := ?_) rfl (by kernel_rfl) (fun _ _ _ h => h) rfl ?_ ?_
      rotate_left
      · (intro w'; go_simp; try with_reducible rfl)
      try simp only [Act.put, List.getElem_toArray, List.getElem_cons_succ, List.getElem_cons_zero, List.setIfInBounds_toArray, List.set_cons_zero, List.set_cons_succ]
      refine AnyG.takeP (i := 6) (v := ?_) rfl (by kernel_rfl) (fun _ _ _ h => h) rfl ?_ ?_
      rotate_left
      · (intro w'; go_simp; try with_reducible rfl)
      try simp only [Act.put, List.getElem_toArray, List.getElem_cons_succ, List.getElem_cons_zero, List.setIfInBounds_toArray, List.set_cons_zero, List.set_cons_succ]
      refine AnyG.takeP (i := 7) (v := ?_) rfl (by kernel_rfl) (fun _ _ _ h => h) rfl ?_ ?_
      rotate_left
      · (intro w'; go_simp; try with_reducible rfl)
      try simp only [Act.put, List.getElem_toArray, List.getElem_cons_succ, List.getElem_cons_zero, List.setIfInBounds_toArray, List.set_cons_zero, List.set_cons_succ]
      refine AnyG.takeP (i := 8) (v := ?_) rfl (by kernel_rfl) (fun _ _ _ h => h) rfl ?_ ?_
      rotate_left
      · (intro w'; go_simp; try with_reducible rfl)
      try simp only [Act.put, List.getElem_toArray, List.getElem_cons_succ, List.getElem_cons_zero, List.setIfInBounds_toArray, List.set_cons_zero, List.set_cons_succ]
      refine AnyG.takeP (i := 12) (v := ?_) rfl (by kernel_rfl) (fun _ _ _ h => h) rfl ?_ ?_
      rotate_left
      · (intro w'; go_simp; try with_reducible rfl)
      try simp only [Act.put, List.getElem_toArray, List.getElem_cons_succ, List.getElem_cons_zero, List.setIfInBounds_toArray, List.set_cons_zero, List.set_cons_succ]
      refine AnyG.takeP (i := 14) (v := ?_) rfl (by kernel_rfl) (fun _ _ _ h => h) rfl ?_ ?_
      rotate_left
      · (intro w'; go_simp; try with_reducible rfl)
      try simp only [Act.put, List.getElem_toArray, List.getElem_cons_succ, List.getElem_cons_zero, List.setIfInBounds_toArray, List.set_cons_zero, List.set_cons_succ]
      refine AnyG.enter (fun w' : World => Bx w' b 26 #[.int .i64 li, .int .i64 un, .int .i64 tr, .slice HA n hc, .int .i64 le, .slice none 0 0, .slice none 0 0]) (fun i => i != 20) ?_
      have hS : (fun w' : World => Bx w' b 26 #[.int .i64 li, .int .i64 un, .int .i64 tr, .slice HA n hc, .int .i64 le, .slice none 0 0, .slice none 0 0]) (World.drew _) := (IK.drew)
      refine AnyG.takeC (i := 1) (v := ?_) rfl (by kernel_rfl) (fun _ _ _ h => h) rfl ?_ hS ?_
      rotate_left
      · (intro w' hSw; (try dsimp only at hSw); obtain ⟨l0, l1, l2, l3, l4, l5, l6, lf, lz⟩ := hSw.seven; go_simp; try with_reducible rfl)
      try simp only [Act.put, List.getElem_toArray, List.getElem_cons_succ, List.getElem_cons_zero, List.setIfInBounds_toArray, List.set_cons_zero, List.set_cons_succ]
      refine AnyG.one (i := 9) (by kernel_rfl) rfl rfl ?_
      go_simp
      refine (below_any g (3 * T) _ IF.drew (by omega) (by omega)).mono ?_
      rintro er y3 ⟨⟨r9, rfl, a1, a2⟩, hfx, hgx⟩
      have R3 : FT g wr y3 := ⟨grownF_trans (grown_drew _ _) hgx, hfx⟩
      clear hfx hgx
      refine Onward.on (R3.bx IK hbg) (fun hS2 => ?_)
      clear hS
      have hS := hS2
      clear hS2
      try simp only [Act.put, List.getElem_toArray, List.getElem_cons_succ, List.getElem_cons_zero, List.setIfInBounds_toArray, List.set_cons_zero, List.set_cons_succ]
      refine AnyG.one (i := 10) (by kernel_rfl) rfl rfl ?_
      have kb := Bx.new y3 3 #[.int .i64 T, .int .i64 (3 * T), .int .i64 r9]
      go_simp
      have R4 := R3.alloc (.cells #[.int .i64 T, .int .i64 (3 * T), .int .i64 r9] 3)
      refine Onward.on (hS.alloc _) (fun hS2 => ?_)
      clear hS
      have hS := hS2
      clear hS2
      try simp only [Act.put, List.getElem_toArray, List.getElem_cons_succ, List.getElem_cons_zero, List.setIfInBounds_toArray, List.set_cons_zero, List.set_cons_succ]
      refine AnyG.one (i := 11) (by kernel_rfl) rfl rfl ?_
      go_simp
      refine (either_any g y3.heap.size 3 #[.int .i64 T, .int .i64 (3 * T), .int .i64 r9] (fun z => 0 ≤ z ∧ z ≤ 3 * T) _ R4.2 kb (by have := R3.size; omega) (by omega) (by omega) (bx3 _ (by omega) (by omega) (by omega))).mono ?_
      rintro er y5 ⟨⟨rm, rfl, q1, q2⟩, hfx, hgx⟩
      have R5 := R4.call hgx hfx
      clear hfx hgx
      refine Onward.on (R5.bx IK hbg) (fun hS2 => ?_)
      clear hS
      have hS := hS2
      clear hS2
      try simp only [Act.put, List.getElem_toArray, List.getElem_cons_succ, List.getElem_cons_zero, List.setIfInBounds_toArray, List.set_cons_zero, List.set_cons_succ]
      refine AnyG.one (i := 13) (by kernel_rfl) rfl rfl ?_
      go_simp
      refine (below_any g 1500 _ R5.2 (by omega) (by omega)).mono ?_
      rintro er y6 ⟨⟨bw, rfl, b1, b2⟩, hfx, hgx⟩
      have R6 := R5.call hgx hfx
      clear hfx hgx
      refine Onward.on (R6.bx IK hbg) (fun hS2 => ?_)
      clear hS
      have hS := hS2
      clear hS2
      try simp only [Act.put, List.getElem_toArray, List.getElem_cons_succ, List.getElem_cons_zero, List.setIfInBounds_toArray, List.set_cons_zero, List.set_cons_succ]
      refine AnyG.one (i := 15) (by kernel_rfl) rfl rfl ?_
      go_simp
      refine (below_any g 1500 _ R6.2 (by omega) (by omega)).mono ?_
      rintro er y7 ⟨⟨st, rfl, s1, s2⟩, hfx, hgx⟩
      have R7 := R6.call hgx hfx
      clear hfx hgx
      refine Onward.on (R7.bx IK hbg) (fun hS2 => ?_)
      clear hS
      have hS := hS2
      clear hS2
      try simp only [Act.put, List.getElem_toArray, List.getElem_cons_succ, List.getElem_cons_zero, List.setIfInBounds_toArray, List.set_cons_zero, List.set_cons_succ]
      refine AnyG.takeC (i := 16) (v := ?_) rfl (by kernel_rfl) (fun _ _ _ h => h) rfl ?_ hS ?_
      rotate_left
      · (intro w' hSw; (try dsimp only at hSw); go_simp; try with_reducible rfl)
      try simp only [Act.put, List.getElem_toArray, List.getElem_cons_succ, List.getElem_cons_zero, List.setIfInBounds_toArray, List.set_cons_zero, List.set_cons_succ]
      refine AnyG.one (i := 17) (by kernel_rfl) rfl rfl ?_
      have kn := Bx.new y7 85 #[.int .i64 rm, .int .i64 bw, .int .i64 st]
      go_simp
      have R8 := R7.alloc (.cells #[.int .i64 rm, .int .i64 bw, .int .i64 st] 85)
      have IO8 := R8.row IF IO (by decide)
      refine Onward.on (hS.alloc _) (fun hS2 => ?_)
      clear hS
      have hS := hS2
      clear hS2
      try simp only [Act.put, List.getElem_toArray, List.getElem_cons_succ, List.getElem_cons_zero, List.setIfInBounds_toArray, List.set_cons_zero, List.set_cons_succ]
      refine AnyG.one (i := 18) (by kernel_rfl) rfl rfl ?_
      refine wp_app2 (.tmp 38) (.tmp 54) 22 rfl w.heap.size 85 i85 _ 3 24 Try.underlying22 hi85 hz85 hs85 iy85 rfl (by decide) (.slice HA n hc) n (hs.map hdr).flatten (by simp [Act.eval]) IO8 ⟨y7.heap.size, 0, none⟩ 1 1 [.int .i64 rm, .int .i64 bw, .int .i64 st] (by simp [Act.eval]) rfl (bx_news kn) (by simp [Value.oneCell']) (by unfold maxLen; omega) (by omega) (Nat.le_trans hbase R8.size) ?_
      intro v' w' o1 o2 o3 o4
      obtain ⟨NA, NC, rfl⟩ := own_shape o1
      have k5 := hS.grown o2 (own_bx IO8 hS (by decide))
      refine Onward.on (k5) (fun hS2 => ?_)
      clear hS
      have hS := hS2
      clear hS2
      try simp only [Act.put, List.getElem_toArray, List.getElem_cons_succ, List.getElem_cons_zero, List.setIfInBounds_toArray, List.set_cons_zero, List.set_cons_succ]
      refine AnyG.takeC (i := 19) (v := ?_) rfl (by kernel_rfl) (fun _ _ _ h => h) rfl ?_ hS ?_
      rotate_left
      · (intro w' hSw; (try dsimp only at hSw); go_simp; try with_reducible rfl)
      try simp only [Act.put, List.getElem_toArray, List.getElem_cons_succ, List.getElem_cons_zero, List.setIfInBounds_toArray, List.set_cons_zero, List.set_cons_succ]
      refine AnyG.one (i := 20) (by kernel_rfl) rfl rfl ?_
      obtain ⟨l0, l1, l2, l3, l4, l5, l6, lf, lz⟩ := k5.seven
      go_simp
      refine Onward.last rfl ?_
      try simp only [Act.put, List.getElem_toArray, List.getElem_cons_succ, List.getElem_cons_zero, List.setIfInBounds_toArray, List.set_cons_zero, List.set_cons_succ]
      refine AnyG.done (by kernel_rfl) ?_ _
      go_simp
      go_wp2_with fail
      have hn := HN.out
      have J := (HI.out.ft R8 hgl).hold hgl (z := ⟨rm, bw, st⟩) (x := w') (v' := .slice NA (n + 1) NC) (by rw [hn]; exact o2) (by rw [hn]; exact o1)
      clear l0 l1 l2 l3 l4 l5 l6 lf lz
      go_roundw
      case rel => exact ⟨i - 1, hs ++ [⟨rm, bw, st⟩], .slice NA (n + 1) NC, by go_num, by omega, by simp; omega, .inl (by simp), fun x hx => by rcases List.mem_append.1 hx with hx | hx; exact HHS.out x hx; simp at hx; subst hx; exact ⟨q1, q2, b1, by dsimp only; omega, s1, by dsimp only; omega⟩, J⟩
      case measure => simp [intOf]; omega
    · obtain rfl : i = 0 := by omega
      have hHl : (hs.length : Int) ≤ H := by omega
      have hh1 : 1 ≤ hs.length := by omega
      clear hi hi0 hil
      have HHS := Lib.hid hhs
      have HI := Lib.hid I
      have IF := I.fd
      clear I hhs
      have wS1 : IntKind.i64.wrap (S + 1) = S + 1 := IntWalk.i64_in _ (by omega)
      go_wp2_with (first | (go_at_call 49; refine (below_any g (S + 1) _ IF (by omega) (by omega)).mono ?_; rintro e w2 ⟨⟨n1, rfl, m1, m2⟩, hf, hg⟩; have I2 := HI.out.ft ⟨hg, hf⟩ hgl; clear hg hf) | fail)
      clear HI IF
      go_loopw [13] (fun v wr => ∃ (i : Int) (ss : List Si) (sv : Value) (rs : List (List Value)), v = .int .i64 i ∧ 0 ≤ i ∧ (ss.length : Int) + i ≤ S ∧ (∀ s ∈ ss, 0 ≤ s.t0 ∧ s.t0 ≤ s.t1 ∧ s.t1 ≤ 12 ∧ 1 ≤ s.lv.length ∧ s.lv.length ≤ 4 ∧ SmallL s.lv T) ∧ VI g b w li un tr le hs ss [] hv sv (.slice none 0 0) rs wr) (fun v _ => (intOf v).toNat)
      case atStart => exact ⟨n1, [], .slice none 0 0, [], rfl, by omega, by simp; omega, by simp, I2⟩
      case round =>
        clear I2
        obtain ⟨i, ss, sv, rs, rfl, hi0, him, hss, I⟩ := hrel
        by_cases hi : 0 < i
        · obtain ⟨U, rfl⟩ : ∃ U, U = wr := ⟨_, rfl⟩
          obtain ⟨SA, sc, rfl⟩ := own_shape I.os
          have hm4 : ss.length ≤ 3 := by omega
          have HSS := Lib.hid hss
          have HI := Lib.hid I
          have IF := I.fd
          have hbase : w.heap.size ≤ U.heap.size := I.gr.size
          clear hss I
          have hwi : IntKind.i64.wrap (i - 1) = i - 1 := IntWalk.i64_in _ (by omega)
          have T0 := FT.self IF
          go_wp2_with (first
            | (go_at_call 48; have T4 := T3.alloc (.cells #[.int .i64 a0, .int .i64 a1, .slice none 0 0] 73); refine (between_any g 1 4 _ T4.2 (by omega) (by omega) (by omega) (by omega)).mono ?_; rintro e y4 ⟨⟨k0, rfl, k01, k02⟩, hf, hg⟩; have T5 := T4.call hg hf; have kB0 := (Bx.new y3 73 #[.int .i64 a0, .int .i64 a1, .slice none 0 0]).grown hg (by have := T3.size; have := IF.lt; simp; omega); clear hg hf)
            | (go_at_call 54; refine (range_any g 0 ei _ T2.2 (by omega) (by omega) (by omega)).mono ?_; rintro e y3 ⟨⟨a0, a1, rfl, a2, a3, a4⟩, hf, hg⟩; have T3 := T2.call hg hf; clear hg hf)
            | (go_at_call 18; have T1 := T0.alloc (.cells #[.int .i64 3, .int .i64 12] 3); refine (either_any g U.heap.size 2 #[.int .i64 3, .int .i64 12] (fun z => 0 ≤ z ∧ z ≤ 12) _ T1.2 (Bx.new U 3 _) (by have := IF.lt; omega) (by omega) (by omega) (bx2 _ (by omega) (by omega))).mono ?_; rintro e y2 ⟨⟨ei, rfl, he1, he2⟩, hf, hg⟩; have T2 := T1.call hg hf; clear hg hf)
            | fail)
          have hy3 := T3.size
          obtain ⟨bS, hbS0⟩ : ∃ b, y3.heap.size = b := ⟨_, rfl⟩
          rw [hbS0] at kB0 hy3 ⊢
          have hbS : bS ≠ g := by have := IF.lt; omega
          clear hbS0 T0 T1 T2 T3 T4
          go_loopw [15, 16] (fun f v x => ∃ (k fr : Int) (lv : List Lv) (lvv : Value), f = .int .i64 fr ∧ v = .int .i64 k ∧ 0 ≤ k ∧ (lv.length : Int) + k ≤ 4 ∧ (1 ≤ lv.length ∨ 1 ≤ k) ∧ 0 ≤ fr ∧ fr ≤ 9 * lv.length ∧ (lv.length = 0 → fr = 0) ∧ (∀ l ∈ lv, l.fr < fr ∧ 0 ≤ l.fr ∧ l.fr ≤ 27 ∧ 0 ≤ l.d0 ∧ l.d0 ≤ l.d1 ∧ l.d1 ≤ 12 + 2 * T) ∧ (lv.Pairwise fun x y => x.fr < y.fr) ∧ (∀ l, lv[0]? = some l → l.fr = 0) ∧ FT g U x ∧ Bx x bS 73 #[.int .i64 a0, .int .i64 a1, lvv] ∧ x.ownsRow U.heap.size 75 3 lvv lv.length (lv.map lvr).flatten) (fun _ v _ => (intOf v).toNat)
          case atStart => exact ⟨k0, 0, [], .slice none 0 0, rfl, rfl, by omega, by simp; omega, by omega, by omega, by simp, fun _ => rfl, by simp, .nil, by simp, T5, kB0, World.ownsRow_nil _ _ _ _⟩
          case round =>
            clear T5 kB0
            obtain ⟨k, fr, lv, lvv, rfl, rfl, hk0, hk4, hk1, hf0, hf9, hfz, hlv, hpw, hz0, hT, kB, oL⟩ := hrel
            obtain ⟨x, rfl⟩ : ∃ x, x = wr := ⟨_, rfl⟩
            obtain ⟨LA2, lc2, rfl⟩ := own_shape oL
            obtain ⟨n2, hn2⟩ : ∃ n, lv.length = n := ⟨_, rfl⟩
            have HN2 := Lib.hid hn2
            have HLV : Hid ((∀ l ∈ lv, l.fr < fr ∧ 0 ≤ l.fr ∧ l.fr ≤ 27 ∧ 0 ≤ l.d0 ∧ l.d0 ≤ l.d1 ∧ l.d1 ≤ 12 + 2 * T) ∧ (lv.Pairwise fun x y => x.fr < y.fr) ∧ ∀ l, lv[0]? = some l → l.fr = 0) := Lib.hid ⟨hlv, hpw, hz0⟩
            rw [hn2] at hk4 hk1 hf9 hfz kB oL
            have HFZ := Lib.hid hfz
            clear hlv hpw hz0 hn2 hfz
            by_cases hk : 0 < k
            · have w2T : IntKind.i64.wrap (2 * T) = 2 * T := IntWalk.i64_in _ (by omega)
              have w12 : IntKind.i64.wrap (12 + 2 * T) = 12 + 2 * T := IntWalk.i64_in _ (by omega)
              have wk1 : IntKind.i64.wrap (k - 1) = k - 1 := IntWalk.i64_in _ (by omega)
              go_wp2_with fail
              refine AnyG.startC (by kernel_rfl) ?_
              refine AnyG.takeP (i := 0) (v := ?_) rfl (by kernel_rfl) (fun _ _ _ h => h) rfl ?_ ?_
              rotate_left
              · (intro w'; go_simp; try with_reducible rfl)
              try simp only [Act.put, List.getElem_toArray, List.getElem_cons_succ, List.getElem_cons_zero, List.setIfInBounds_toArray, List.set_cons_zero, List.set_cons_succ]
              refine AnyG.takeP (i := 2) (v := ?_) rfl (by kernel_rfl) (fun _ _ _ h => h) rfl ?_ ?_
              rotate_left
              · (intro w'; go_simp; try with_reducible rfl)
              try simp only [Act.put, List.getElem_toArray, List.getElem_cons_succ, List.getElem_cons_zero, List.setIfInBounds_toArray, List.set_cons_zero, List.set_cons_succ]
              refine AnyG.takeP (i := 3) (v := ?_) rfl (by kernel_rfl) (fun _ _ _ h => h) rfl ?_ ?_
              rotate_left
              · (intro w'; go_simp; try with_reducible rfl)
              try simp only [Act.put, List.getElem_toArray, List.getElem_cons_succ, List.getElem_cons_zero, List.setIfInBounds_toArray, List.set_cons_zero, List.set_cons_succ]
              refine AnyG.takeP (i := 4) (v := ?_) rfl (by kernel_rfl) (fun _ _ _ h => h) rfl ?_ ?_
              rotate_left
              · (intro w'; go_simp; try with_reducible rfl)
              try simp only [Act.put, List.getElem_toArray, List.getElem_cons_succ, List.getElem_cons_zero, List.setIfInBounds_toArray, List.set_cons_zero, List.set_cons_succ]
              refine AnyG.takeP (i := 6) (v := ?_) rfl (by kernel_rfl) (fun _ _ _ h => h) rfl ?_ ?_
              rotate_left
              · (intro w'; go_simp; try with_reducible rfl)
              try simp only [Act.put, List.getElem_toArray, List.getElem_cons_succ, List.getElem_cons_zero, List.setIfInBounds_toArray, List.set_cons_zero, List.set_cons_succ]
              refine AnyG.takeP (i := 7) (v := ?_) rfl (by kernel_rfl) (fun _ _ _ h => h) rfl ?_ ?_
              rotate_left
              · (intro w'; go_simp; try with_reducible rfl)
              try simp only [Act.put, List.getElem_toArray, List.getElem_cons_succ, List.getElem_cons_zero, List.setIfInBounds_toArray, List.set_cons_zero, List.set_cons_succ]
              refine AnyG.takeP (i := 8) (v := ?_) rfl (by kernel_rfl) (fun _ _ _ h => h) rfl ?_ ?_
              rotate_left
              · (intro w'; go_simp; try with_reducible rfl)
              try simp only [Act.put, List.getElem_toArray, List.getElem_cons_succ, List.getElem_cons_zero, List.setIfInBounds_toArray, List.set_cons_zero, List.set_cons_succ]
              refine AnyG.enter (fun w' : World => Bx w' bS 73 #[.int .i64 a0, .int .i64 a1, .slice LA2 n2 lc2]) (fun i => i != 14) ?_
              have hS : (fun w' : World => Bx w' bS 73 #[.int .i64 a0, .int .i64 a1, .slice LA2 n2 lc2]) (World.drew _) := (kB.drew)
              refine AnyG.takeC (i := 1) (v := ?_) rfl (by kernel_rfl) (fun _ _ _ h => h) rfl ?_ hS ?_
              rotate_left
              · (intro w' hSw; (try dsimp only at hSw); obtain ⟨l0, l1, l2, lf, lz⟩ := Bx.three' hSw; go_simp; try with_reducible rfl)
              try simp only [Act.put, List.getElem_toArray, List.getElem_cons_succ, List.getElem_cons_zero, List.setIfInBounds_toArray, List.set_cons_zero, List.set_cons_succ]
              refine AnyG.one (i := 5) (by kernel_rfl) rfl rfl ?_
              go_simp
              refine (below_any g 12 _ hT.2.drew (by omega) (by omega)).mono ?_
              rintro er y5 ⟨⟨r5, rfl, a51, a52⟩, hfx, hgx⟩
              have R5 : FT g x y5 := ⟨grownF_trans (grown_drew _ _) hgx, hfx⟩
              clear hfx hgx
              refine Onward.on (R5.bx kB hbS) (fun hS2 => ?_)
              clear hS
              have hS := hS2
              clear hS2
              try simp only [Act.put, List.getElem_toArray, List.getElem_cons_succ, List.getElem_cons_zero, List.setIfInBounds_toArray, List.set_cons_zero, List.set_cons_succ]
              refine AnyG.one (i := 9) (by kernel_rfl) rfl rfl ?_
              go_simp
              refine (range_any g r5 (12 + 2 * T) _ R5.2 (by omega) (by omega) (by omega)).mono ?_
              rintro er y9 ⟨⟨c0, c1, rfl, c2, c3, c4⟩, hfx, hgx⟩
              have R9 := R5.call hgx hfx
              clear hfx hgx
              refine Onward.on (R9.bx kB hbS) (fun hS2 => ?_)
              clear hS
              have hS := hS2
              clear hS2
              try simp only [Act.put, List.getElem_toArray, List.getElem_cons_succ, List.getElem_cons_zero, List.setIfInBounds_toArray, List.set_cons_zero, List.set_cons_succ]
              refine AnyG.takeC (i := 10) (v := ?_) rfl (by kernel_rfl) (fun _ _ _ h => h) rfl ?_ hS ?_
              rotate_left
              · (intro w' hSw; (try dsimp only at hSw); go_simp; try with_reducible rfl)
              try simp only [Act.put, List.getElem_toArray, List.getElem_cons_succ, List.getElem_cons_zero, List.setIfInBounds_toArray, List.set_cons_zero, List.set_cons_succ]
              refine AnyG.one (i := 11) (by kernel_rfl) rfl rfl ?_
              have kn := Bx.new y9 75 #[.int .i64 fr, .int .i64 c0, .int .i64 c1]
              go_simp
              have R11 := R9.alloc (.cells #[.int .i64 fr, .int .i64 c0, .int .i64 c1] 75)
              have IO8 := R11.row hT.2 oL (by decide)
              refine Onward.on (hS.alloc _) (fun hS2 => ?_)
              clear hS
              have hS := hS2
              clear hS2
              try simp only [Act.put, List.getElem_toArray, List.getElem_cons_succ, List.getElem_cons_zero, List.setIfInBounds_toArray, List.set_cons_zero, List.set_cons_succ]
              refine AnyG.one (i := 12) (by kernel_rfl) rfl rfl ?_
              refine wp_app2 (.tmp 78) (.tmp 88) 71 rfl U.heap.size 75 i75 _ 3 24 Try.underlying71 hi75 hz75 hs75 iy75 rfl (by decide) (.slice LA2 n2 lc2) n2 (lv.map lvr).flatten (by simp [Act.eval]) IO8 ⟨y9.heap.size, 0, none⟩ 1 1 [.int .i64 fr, .int .i64 c0, .int .i64 c1] (by simp [Act.eval]) rfl (bx_news kn) (by simp [Value.oneCell']) (by unfold maxLen; omega) (by omega) (Nat.le_trans hT.size R11.size) ?_
              intro v' w' o1 o2 o3 o4
              obtain ⟨NA, NC, rfl⟩ := own_shape o1
              have k5 := hS.grown o2 (own_bx IO8 hS (by decide))
              refine Onward.on (k5) (fun hS2 => ?_)
              clear hS
              have hS := hS2
              clear hS2
              try simp only [Act.put, List.getElem_toArray, List.getElem_cons_succ, List.getElem_cons_zero, List.setIfInBounds_toArray, List.set_cons_zero, List.set_cons_succ]
              refine AnyG.takeC (i := 13) (v := ?_) rfl (by kernel_rfl) (fun _ _ _ h => h) rfl ?_ hS ?_
              rotate_left
              · (intro w' hSw; (try dsimp only at hSw); go_simp; try with_reducible rfl)
              try simp only [Act.put, List.getElem_toArray, List.getElem_cons_succ, List.getElem_cons_zero, List.setIfInBounds_toArray, List.set_cons_zero, List.set_cons_succ]
              refine AnyG.one (i := 14) (by kernel_rfl) rfl rfl ?_
              obtain ⟨l0, l1, l2, lf, lz⟩ := Bx.three' k5
              go_simp
              refine Onward.last rfl ?_
              try simp only [Act.put, List.getElem_toArray, List.getElem_cons_succ, List.getElem_cons_zero, List.setIfInBounds_toArray, List.set_cons_zero, List.set_cons_succ]
              refine AnyG.done (by kernel_rfl) ?_ _
              go_simp
              have TU : FT g U y9 := ⟨grownF_trans hT.1 R9.1, R9.2⟩
              have TU2 := (TU.alloc (.cells #[.int .i64 fr, .int .i64 c0, .int .i64 c1] 75)).own IO8 o2 (Nat.le_refl _) (by decide)
              have TU3 := TU2.set_ (b := bS) hy3 (Ne.symm hbS) 2 (.slice NA (n2 + 1) NC)
              have kB5 := k5.set_ 2 (.slice NA (n2 + 1) NC)
              simp only [List.setIfInBounds_toArray, List.set_cons_zero, List.set_cons_succ] at kB5
              have oL5 := own_set (q := bS) (o := 2) o1 (own_bx o1 k5 (by decide)) (.slice NA (n2 + 1) NC)
              clear l0 l1 l2 lf lz
              obtain ⟨Z, hZ⟩ : ∃ Z, w'.setCell ⟨bS, 2, none⟩ (.slice NA (n2 + 1) NC) = Z := ⟨_, rfl⟩
              rw [hZ] at TU3 kB5 oL5 ⊢
              clear hZ o1 o2 o3 o4 k5 TU TU2 IO8 kn R5 R9 R11
              go_wp2_with (first | (go_at_call 48; refine (between_any g 1 9 _ TU3.2 (by omega) (by omega) (by omega) (by omega)).mono ?_; rintro e z4 ⟨⟨dt, rfl, dt1, dt2⟩, hf, hg⟩; have TU4 := TU3.call hg hf; have kB6 := FT.bx ⟨hg, hf⟩ kB5 hbS; have oL6 := own_fd oL5 TU3.2 hg (by decide); have wfr : IntKind.i64.wrap (fr + dt) = fr + dt := IntWalk.i64_in _ (by omega); clear hg hf) | fail)
              have hn2 := HN2.out
              obtain ⟨hlv, hpw, hz0⟩ := HLV.out
              have hfz := HFZ.out
              go_roundw
              case rel =>
                refine ⟨k - 1, fr + dt, lv ++ [⟨fr, c0, c1⟩], .slice NA (n2 + 1) NC, by go_num, by go_num, by omega, by simp; omega, .inl (by simp), by omega, by simp; omega, fun e => by simp at e, fun l hl => ?_, ?_, fun l hl => ?_, TU4, kB6, ?_⟩
                · rcases List.mem_append.1 hl with hl | hl
                  · have := hlv l hl; omega
                  · obtain rfl := List.mem_singleton.1 hl; dsimp only; omega
                · rw [List.pairwise_append]
                  exact ⟨hpw, List.pairwise_singleton _ _, fun a ha c hc => by obtain rfl := List.mem_singleton.1 hc; exact (hlv a ha).1⟩
                · by_cases h0 : n2 = 0
                  · have : lv = [] := List.eq_nil_of_length_eq_zero (by omega)
                    subst this
                    simp at hl
                    subst hl
                    exact hfz h0
                  · rw [List.getElem?_append_left (by omega)] at hl
                    exact hz0 l hl
                · rw [lvr_snoc, List.length_append, hn2]
                  exact oL6
              case measure => simp [intOf]; omega
            · obtain rfl : k = 0 := by omega
              have J0 := HI.out.ft hT hgl
              obtain ⟨m, hm⟩ : ∃ m, ss.length = m := ⟨_, rfl⟩
              have HM := Lib.hid hm
              have J1 := J0.ft ((FT.self J0.fd).alloc (.cells #[.int .i64 a0, .int .i64 a1, .slice LA2 n2 lc2] 73)) hgl
              have K0 := J0.k1
              have O6 := J1.os
              rw [hm] at K0 O6
              have oL2 := own_down (own_bel oL (bel1 _ (.cells #[.int .i64 a0, .int .i64 a1, .slice LA2 n2 lc2] 73))) hbase
              have kn := Bx.new x 73 #[.int .i64 a0, .int .i64 a1, .slice LA2 n2 lc2]
              obtain ⟨q0, q1, q2, q3, q4, q5, q6, qf, qz⟩ := K0.seven
              obtain ⟨r0, r1, r2, rf, rz⟩ := Bx.three' kB
              have HJ1 := Lib.hid J1
              have hxs := hT.size
              have hm3 : m ≤ 3 := by omega
              clear hm J0 J1
              go_wp2_with (first
                | (at_builtin; refine wpList_append_own _ rfl (.tmp 96) (.tmp 98) 23 rfl w.heap.size 73 i73 _ 3 40 Try.underlying23 hi73 hz73 hs73 iy73 rfl (by decide) (.slice SA m sc) m rs.flatten rfl O6 ⟨x.heap.size, 0, none⟩ 1 1 [.int .i64 a0, .int .i64 a1, .slice LA2 n2 lc2] rfl rfl (bx_news kn) (by simp [Value.oneCell']) (by unfold maxLen; omega) (by omega) (by simp; omega) ?_; intro v' w' o1 o2 o3; obtain ⟨X', x', rfl⟩ := own_shape o1; have kk := HJ1.out.k1.grown o2 (own_bx O6 HJ1.out.k1 (by decide)); clear q0 q1 q2 q3 q4 q5 q6 qf qz r0 r1 r2 rf rz; obtain ⟨q0, q1, q2, q3, q4, q5, q6, qf, qz⟩ := kk.seven)
                | fail)
              have hn2 := HN2.out
              have hm := HM.out
              obtain ⟨hlv, hpw, hz0⟩ := HLV.out
              have J2 := HJ1.out.sill hgl (r := [.int .i64 a0, .int .i64 a1, .slice LA2 n2 lc2]) (y := ⟨a0, a1, lv⟩) (v' := .slice X' (m + 1) x') (by rw [hm]; exact o2) (by rw [hm]; exact o1) ⟨LA2, lc2, by dsimp only; rw [hn2], by dsimp only; rw [hn2]; exact oL2⟩
              go_roundw
              case rel =>
                refine ⟨i - 1, ss ++ [⟨a0, a1, lv⟩], .slice X' (m + 1) x', rs ++ [[.int .i64 a0, .int .i64 a1, .slice LA2 n2 lc2]], by go_num, by omega, by simp; omega, fun z hz => ?_, J2⟩
                rcases List.mem_append.1 hz with hz | hz
                · exact HSS.out z hz
                · obtain rfl := List.mem_singleton.1 hz
                  exact ⟨a2, a3, by dsimp only; omega, by dsimp only; omega, by dsimp only; omega, ⟨fun l hl => by have := hlv l hl; omega, hpw, hz0⟩⟩
              case measure => simp [intOf]; omega
        · obtain rfl : i = 0 := by omega
          have hsl : (ss.length : Int) ≤ S := by omega
          have HSS := Lib.hid hss
          have HI := Lib.hid I
          have IF := I.fd
          clear I hss hi hi0 him
          have wL1 : IntKind.i64.wrap (L + 1) = L + 1 := IntWalk.i64_in _ (by omega)
          go_wp2_with (first | (go_at_call 49; refine (below_any g (L + 1) _ IF (by omega) (by omega)).mono ?_; rintro e w3 ⟨⟨n2, rfl, p1, p2⟩, hf, hg⟩; have I3 := HI.out.ft ⟨hg, hf⟩ hgl; clear hg hf) | fail)
          clear HI IF
          go_loopw [17] (fun v wr => ∃ (i : Int) (ls : List Cg) (lv : Value), v = .int .i64 i ∧ 0 ≤ i ∧ (ls.length : Int) + i ≤ L ∧ (∀ z ∈ ls, 0 ≤ z.t0 ∧ z.t0 ≤ z.t1 ∧ z.t1 ≤ T ∧ 0 ≤ z.wo ∧ z.wo ≤ 29) ∧ VI g b w li un tr le hs ss ls hv sv lv rs wr) (fun v _ => (intOf v).toNat)
          case atStart => exact ⟨n2, [], .slice none 0 0, rfl, by omega, by simp; omega, by simp, I3⟩
          case round =>
            clear I3
            obtain ⟨i, ls, lv, rfl, hi0, hil, hls, I⟩ := hrel
            obtain ⟨HA2, hc2, rfl⟩ := own_shape I.oh
            obtain ⟨SA2, sc2, rfl⟩ := own_shape I.os
            by_cases hi : 0 < i
            · obtain ⟨LA, lc, rfl⟩ := own_shape I.ol
              obtain ⟨n, hn⟩ : ∃ n, ls.length = n := ⟨_, rfl⟩
              have HN := Lib.hid hn
              have hn6 : n ≤ 6 := by omega
              have HIL : (n : Int) + i ≤ L := by omega
              have IK := I.k1
              have IO := I.ol
              rw [hn] at IK IO
              have hbase : w.heap.size ≤ wr.heap.size := I.gr.size
              have HI := Lib.hid I
              have HLS := Lib.hid hls
              have IF := I.fd
              clear I hn hil hls
              obtain ⟨hN, hhN⟩ : ∃ z, hs.length = z := ⟨_, rfl⟩
              obtain ⟨sN, hsN⟩ : ∃ z, ss.length = z := ⟨_, rfl⟩
              have HHN := Lib.hid hhN
              have HSN := Lib.hid hsN
              rw [hhN, hsN] at IK
              clear hhN hsN
              have hwi : IntKind.i64.wrap (i - 1) = i - 1 := IntWalk.i64_in _ (by omega)
              go_wp2_with fail
              refine AnyG.startC (by kernel_rfl) ?_
              refine AnyG.takeP (i := 0) (v := ?_) rfl (by kernel_rfl) (fun _ _ _ h => h) rfl ?_ ?_
              rotate_left
              · (intro w'; go_simp; try with_reducible rfl)
              try simp only [Act.put, List.getElem_toArray, List.getElem_cons_succ, List.getElem_cons_zero, List.setIfInBounds_toArray, List.set_cons_zero, List.set_cons_succ]
              refine AnyG.takeP (i := 2) (v := ?_) rfl (by kernel_rfl) (fun _ _ _ h => h) rfl ?_ ?_
              rotate_left
              · (intro w'; go_simp; try with_reducible rfl)
              try simp only [Act.put, List.getElem_toArray, List.getElem_cons_succ, List.getElem_cons_zero, List.setIfInBounds_toArray, List.set_cons_zero, List.set_cons_succ]
              refine AnyG.takeP (i := 3) (v := ?_) rfl (by kernel_rfl) (fun _ _ _ h => h) rfl ?_ ?_
              rotate_left
              · (intro w'; go_simp; try with_reducible rfl)
              try simp only [Act.put, List.getElem_toArray, List.getElem_cons_succ, List.getElem_cons_zero, List.setIfInBounds_toArray, List.set_cons_zero, List.set_cons_succ]
              refine AnyG.takeP (i := 5) (v := ?_) rfl (by kernel_rfl) (fun _ _ _ h => h) rfl ?_ ?_
              rotate_left
              · (intro w'; go_simp; try with_reducible rfl)
              try simp only [Act.put, List.getElem_toArray, List.getElem_cons_succ, List.getElem_cons_zero, List.setIfInBounds_toArray, List.set_cons_zero, List.set_cons_succ]
              refine AnyG.enter (fun w' : World => Bx w' b 26 #[.int .i64 li, .int .i64 un, .int .i64 tr, .slice HA2 hN hc2, .int .i64 le, .slice SA2 sN sc2, .slice LA n lc]) (fun i => i != 11) ?_
              have hS : (fun w' : World => Bx w' b 26 #[.int .i64 li, .int .i64 un, .int .i64 tr, .slice HA2 hN hc2, .int .i64 le, .slice SA2 sN sc2, .slice LA n lc]) (World.drew _) := (IK.drew)
              refine AnyG.takeC (i := 1) (v := ?_) rfl (by kernel_rfl) (fun _ _ _ h => h) rfl ?_ hS ?_
              rotate_left
              · (intro w' hSw; (try dsimp only at hSw); obtain ⟨l0, l1, l2, l3, l4, l5, l6, lf, lz⟩ := hSw.seven; go_simp; try with_reducible rfl)
              try simp only [Act.put, List.getElem_toArray, List.getElem_cons_succ, List.getElem_cons_zero, List.setIfInBounds_toArray, List.set_cons_zero, List.set_cons_succ]
              refine AnyG.one (i := 4) (by kernel_rfl) rfl rfl ?_
              go_simp
              refine (range_any g 0 T _ IF.drew (by omega) (by omega) (by omega)).mono ?_
              rintro er y3 ⟨⟨c0, c1, rfl, c2, c3, c4⟩, hfx, hgx⟩
              have R3 : FT g wr y3 := ⟨grownF_trans (grown_drew _ _) hgx, hfx⟩
              clear hfx hgx
              refine Onward.on (R3.bx IK hbg) (fun hS2 => ?_)
              clear hS
              have hS := hS2
              clear hS2
              try simp only [Act.put, List.getElem_toArray, List.getElem_cons_succ, List.getElem_cons_zero, List.setIfInBounds_toArray, List.set_cons_zero, List.set_cons_succ]
              refine AnyG.one (i := 6) (by kernel_rfl) rfl rfl ?_
              go_simp
              refine (below_any g 30 _ R3.2 (by omega) (by omega)).mono ?_
              rintro er y7 ⟨⟨wo, rfl, wo1, wo2⟩, hfx, hgx⟩
              have R6 := R3.call hgx hfx
              clear hfx hgx
              refine Onward.on (R6.bx IK hbg) (fun hS2 => ?_)
              clear hS
              have hS := hS2
              clear hS2
              try simp only [Act.put, List.getElem_toArray, List.getElem_cons_succ, List.getElem_cons_zero, List.setIfInBounds_toArray, List.set_cons_zero, List.set_cons_succ]
              refine AnyG.takeC (i := 7) (v := ?_) rfl (by kernel_rfl) (fun _ _ _ h => h) rfl ?_ hS ?_
              rotate_left
              · (intro w' hSw; (try dsimp only at hSw); go_simp; try with_reducible rfl)
              try simp only [Act.put, List.getElem_toArray, List.getElem_cons_succ, List.getElem_cons_zero, List.setIfInBounds_toArray, List.set_cons_zero, List.set_cons_succ]
              refine AnyG.one (i := 8) (by kernel_rfl) rfl rfl ?_
              have kn := Bx.new y7 70 #[.int .i64 c0, .int .i64 c1, .int .i64 wo]
              go_simp
              have R8 := R6.alloc (.cells #[.int .i64 c0, .int .i64 c1, .int .i64 wo] 70)
              have IO8 := R8.row IF IO (by decide)
              refine Onward.on (hS.alloc _) (fun hS2 => ?_)
              clear hS
              have hS := hS2
              clear hS2
              try simp only [Act.put, List.getElem_toArray, List.getElem_cons_succ, List.getElem_cons_zero, List.setIfInBounds_toArray, List.set_cons_zero, List.set_cons_succ]
              refine AnyG.one (i := 9) (by kernel_rfl) rfl rfl ?_
              refine wp_app2 (.tmp 110) (.tmp 117) 24 rfl w.heap.size 70 i70 _ 3 24 Try.underlying24 hi70 hz70 hs70 iy70 rfl (by decide) (.slice LA n lc) n (ls.map cgr).flatten (by simp [Act.eval]) IO8 ⟨y7.heap.size, 0, none⟩ 1 1 [.int .i64 c0, .int .i64 c1, .int .i64 wo] (by simp [Act.eval]) rfl (bx_news kn) (by simp [Value.oneCell']) (by unfold maxLen; omega) (by omega) (Nat.le_trans hbase R8.size) ?_
              intro v' w' o1 o2 o3 o4
              obtain ⟨NA, NC, rfl⟩ := own_shape o1
              have k5 := hS.grown o2 (own_bx IO8 hS (by decide))
              refine Onward.on (k5) (fun hS2 => ?_)
              clear hS
              have hS := hS2
              clear hS2
              try simp only [Act.put, List.getElem_toArray, List.getElem_cons_succ, List.getElem_cons_zero, List.setIfInBounds_toArray, List.set_cons_zero, List.set_cons_succ]
              refine AnyG.takeC (i := 10) (v := ?_) rfl (by kernel_rfl) (fun _ _ _ h => h) rfl ?_ hS ?_
              rotate_left
              · (intro w' hSw; (try dsimp only at hSw); go_simp; try with_reducible rfl)
              try simp only [Act.put, List.getElem_toArray, List.getElem_cons_succ, List.getElem_cons_zero, List.setIfInBounds_toArray, List.set_cons_zero, List.set_cons_succ]
              refine AnyG.one (i := 11) (by kernel_rfl) rfl rfl ?_
              obtain ⟨l0, l1, l2, l3, l4, l5, l6, lf, lz⟩ := k5.seven
              go_simp
              refine Onward.last rfl ?_
              try simp only [Act.put, List.getElem_toArray, List.getElem_cons_succ, List.getElem_cons_zero, List.setIfInBounds_toArray, List.set_cons_zero, List.set_cons_succ]
              refine AnyG.done (by kernel_rfl) ?_ _
              go_simp
              go_wp2_with fail
              have hn := HN.out
              have J := (HI.out.ft R8 hgl).lot hgl (z := ⟨c0, c1, wo⟩) (x := w') (v' := .slice NA (n + 1) NC) (by rw [hn]; exact o2) (by rw [hn]; exact o1)
              clear l0 l1 l2 l3 l4 l5 l6 lf lz
              go_roundw
              case rel => exact ⟨i - 1, ls ++ [⟨c0, c1, wo⟩], .slice NA (n + 1) NC, by go_num, by omega, by simp; omega, fun x hx => by rcases List.mem_append.1 hx with hx | hx; exact HLS.out x hx; simp at hx; subst hx; exact ⟨c2, c3, c4, wo1, by dsimp only; omega⟩, J⟩
              case measure => simp [intOf]; omega
            · obtain rfl : i = 0 := by omega
              obtain ⟨LA, lc, rfl⟩ := own_shape I.ol
              have hsv : SmallV ⟨li, un, tr, le, hs, ss, ls⟩ H S L T := ⟨by dsimp only; omega, by dsimp only; omega, hq, by dsimp only; omega, hh1, hHl, HHS.out, hsl, HSS.out, by dsimp only; omega, hls⟩
              have HSV := Lib.hid hsv
              have HI := Lib.hid I
              have K1 := I.k1
              have K0 := I.k0
              have hf1 : hs.length ≤ 3 := by omega
              have hf2 : ss.length ≤ 4 := by omega
              have hf3 : ls.length ≤ 6 := by omega
              obtain ⟨N1, hN1⟩ : ∃ z, hs.length = z := ⟨_, rfl⟩
              obtain ⟨N2, hN2⟩ : ∃ z, ss.length = z := ⟨_, rfl⟩
              obtain ⟨N3, hN3⟩ : ∃ z, ls.length = z := ⟨_, rfl⟩
              rw [hN1, hN2, hN3] at K1
              have HN1 := Lib.hid hN1
              have HN2 := Lib.hid hN2
              have HN3 := Lib.hid hN3
              clear hN1 hN2 hN3 I hls hsv
              obtain ⟨q0, q1, q2, q3, q4, q5, q6, qf, qz⟩ := K1.seven
              obtain ⟨r0, r1, r2, r3, r4, r5, r6, rf, rz⟩ := K0.seven
              go_wp2_with fail
              have fA := (((((((K0.set_ 0 (.int .i64 li)).set_ 1 (.int .i64 un)).set_ 2 (.int .i64 tr)).set_ 3 (.slice HA2 N1 hc2)).set_ 4 (.int .i64 le)).set_ 5 (.slice SA2 N2 sc2)).set_ 6 (.slice LA N3 lc))
              simp only [List.setIfInBounds_toArray, List.set_cons_zero, List.set_cons_succ] at fA
              have fG : wr.grownBy _ (some w.heap.size) := (grownF_trans (grownF_trans (grownF_trans (grownF_trans (grownF_trans (grownF_trans (grownF_trans (grown_refl wr _) (grown_set wr w.heap.size 0 (.int .i64 li))) (grown_set (wr.setCell ⟨w.heap.size, 0, none⟩ (.int .i64 li)) w.heap.size 1 (.int .i64 un))) (grown_set ((wr.setCell ⟨w.heap.size, 0, none⟩ (.int .i64 li)).setCell ⟨w.heap.size, 1, none⟩ (.int .i64 un)) w.heap.size 2 (.int .i64 tr))) (grown_set (((wr.setCell ⟨w.heap.size, 0, none⟩ (.int .i64 li)).setCell ⟨w.heap.size, 1, none⟩ (.int .i64 un)).setCell ⟨w.heap.size, 2, none⟩ (.int .i64 tr)) w.heap.size 3 (.slice HA2 N1 hc2))) (grown_set ((((wr.setCell ⟨w.heap.size, 0, none⟩ (.int .i64 li)).setCell ⟨w.heap.size, 1, none⟩ (.int .i64 un)).setCell ⟨w.heap.size, 2, none⟩ (.int .i64 tr)).setCell ⟨w.heap.size, 3, none⟩ (.slice HA2 N1 hc2)) w.heap.size 4 (.int .i64 le))) (grown_set (((((wr.setCell ⟨w.heap.size, 0, none⟩ (.int .i64 li)).setCell ⟨w.heap.size, 1, none⟩ (.int .i64 un)).setCell ⟨w.heap.size, 2, none⟩ (.int .i64 tr)).setCell ⟨w.heap.size, 3, none⟩ (.slice HA2 N1 hc2)).setCell ⟨w.heap.size, 4, none⟩ (.int .i64 le)) w.heap.size 5 (.slice SA2 N2 sc2))) (grown_set ((((((wr.setCell ⟨w.heap.size, 0, none⟩ (.int .i64 li)).setCell ⟨w.heap.size, 1, none⟩ (.int .i64 un)).setCell ⟨w.heap.size, 2, none⟩ (.int .i64 tr)).setCell ⟨w.heap.size, 3, none⟩ (.slice HA2 N1 hc2)).setCell ⟨w.heap.size, 4, none⟩ (.int .i64 le)).setCell ⟨w.heap.size, 5, none⟩ (.slice SA2 N2 sc2)) w.heap.size 6 (.slice LA N3 lc)))
              obtain ⟨Z, hZ⟩ : ∃ Z, (((((((wr.setCell ⟨w.heap.size, 0, none⟩ (.int .i64 li)).setCell ⟨w.heap.size, 1, none⟩ (.int .i64 un)).setCell ⟨w.heap.size, 2, none⟩ (.int .i64 tr)).setCell ⟨w.heap.size, 3, none⟩ (.slice HA2 N1 hc2)).setCell ⟨w.heap.size, 4, none⟩ (.int .i64 le)).setCell ⟨w.heap.size, 5, none⟩ (.slice SA2 N2 sc2)).setCell ⟨w.heap.size, 6, none⟩ (.slice LA N3 lc)) = Z := ⟨_, rfl⟩
              rw [hZ] at fA fG ⊢
              clear hZ
              obtain ⟨s0, s1, s2, s3, s4, s5, s6, sf, sz⟩ := fA.seven
              have hfin := HI.out.fin hgl fG
              rw [HN1.out, HN2.out, HN3.out] at hfin
              exact bodyPost_ret (v := .agg #[.int .i64 li, .int .i64 un, .int .i64 tr, .slice HA2 N1 hc2, .int .i64 le, .slice SA2 N2 sc2, .slice LA N3 lc]) (by simp [results, Try.results17, go_sem, s0, s1, s2, s3, s4, s5, s6]) rfl ⟨⟨⟨li, un, tr, le, hs, ss, ls⟩, ⟨HA2, N1, hc2, SA2, N2, sc2, LA, N3, lc⟩, HSV.out, ⟨by dsimp only; have := HN1.out; omega, by dsimp only; have := HN2.out; omega, by dsimp only; have := HN3.out; omega⟩, rfl, hfin.1⟩, hfin.2⟩
end Go.Proofs.Ytfcpjkofbejleaa
