/- Mathematics of layer 7: luck. -/
import Derived.Test.YtdlohfglmagneaaDoorSd
set_option linter.unusedSimpArgs false
set_option linter.unusedVariables false
namespace Go.Proofs.YtdlohfglmagneaaDoor
open Go Go.RowKit
/-- Sills with ways to them and levels. -/
def slT (nd : Int) (X : List (Int × List (Int × Int))) : List (Int × (Int → Bool)) := X.map fun x => (x.1, fun m => decide (nd ≤ 1000 * dpt x.2 m))
def lkS (ss : List Si) (g : Bool) : List (Int × List (Int × Int)) := ss.map fun s => (way s g, lvL s.lv g)
theorem slM_T (nd : Int) (ss : List Si) (g : Bool) : slM nd ss g = slT nd (lkS ss g) := by
  unfold slM slT lkS
  rw [List.map_map]
  rfl
/-- Shorter ways, deeper water. -/
inductive Bet : List (Int × List (Int × Int)) → List (Int × List (Int × Int)) → Prop
  | nil : Bet [] []
  | cons {t t' : Int} {lv lv' : List (Int × Int)} {r r' : List (Int × List (Int × Int))} (ht : t ≤ t') (hl : lv.length = lv'.length) (hd : ∀ (i : Nat) (x y : Int × Int), lv[i]? = some x → lv'[i]? = some y → x.1 = y.1 ∧ y.2 ≤ x.2) (h : Bet r r') : Bet ((t, lv) :: r) ((t', lv') :: r')
theorem bet_sooner {n n' : Int} (hn : n ≤ n') {X Y : List (Int × List (Int × Int))} (h : Bet X Y) : Sooner (slT n X) (slT n' Y) := by
  induction h with
  | nil => exact .nil
  | @cons t t' lv lv' r r' ht hl hd h ih =>
    refine .cons ht (fun k hk => ?_) ih
    have h1 : n' ≤ 1000 * dpt lv' k := by simpa using hk
    have h2 := dpt_mono k hl.symm (lv := lv') (lv' := lv) (fun i x y hx hy => ⟨(hd i y x hy hx).1.symm, (hd i y x hy hx).2⟩)
    have : n ≤ 1000 * dpt lv k := by omega
    simpa using this
theorem luck_bet {ss : List Si} (h : ∀ s ∈ ss, s.Ok) : Bet (lkS ss true) (lkS ss false) := by
  induction ss with
  | nil => exact .nil
  | cons s ss ih =>
    have o := h s (by simp)
    refine .cons (by show s.t0 ≤ s.t1; exact o.t01) (by simp [lvL]) (fun i x y hx hy => ?_) (ih fun y hy => h y (by simp [hy]))
    unfold lvL at hx hy
    rw [List.getElem?_map] at hx hy
    cases hl : s.lv[i]? with
    | none => rw [hl] at hx; cases hx
    | some l =>
      rw [hl] at hx hy
      simp only [Option.map_some, Option.some.injEq] at hx hy
      subst hx hy
      have := (o.lv l (List.mem_of_getElem? hl)).d01
      exact ⟨rfl, by simpa using this⟩
theorem sum_le {α : Type} {f g : α → Int} : ∀ {L : List α}, (∀ x ∈ L, f x ≤ g x) → (L.map f).sum ≤ (L.map g).sum
  | [], _ => by simp
  | x :: r, h => by
    have h1 := h x (by simp)
    have h2 := sum_le (L := r) fun y hy => h y (by simp [hy])
    simp only [List.map_cons, List.sum_cons]
    omega
theorem hd_okL {v : Vg} (ho : v.Ok) {s : List Int} (hh : Held v s) {x : Cg × Int} (hx : x ∈ abd v.ls s) : (hd v.hs x.2).Ok := by
  obtain ⟨k, e, hk, _⟩ := held_hd hh hx
  exact hd_ok ho e hk
theorem deep_luck {v : Vg} (ho : v.Ok) {s : List Int} (hh : Held v s) : deepB v (abd v.ls s) true ≤ deepB v (abd v.ls s) false ∧ deepS v (abd v.ls s) true ≤ deepS v (abd v.ls s) false := by
  unfold deepB deepS
  have a := sum_le (L := abd v.ls s) (f := fun p => ton true p.1 * (hd v.hs p.2).bw) (g := fun p => ton false p.1 * (hd v.hs p.2).bw) fun x hx => Int.mul_le_mul_of_nonneg_right (by exact (ho.ls _ (abd_mem hx).1).t01) (hd_okL ho hh hx).bw.1
  have b := sum_le (L := abd v.ls s) (f := fun p => ton true p.1 * (hd v.hs p.2).st) (g := fun p => ton false p.1 * (hd v.hs p.2).st) fun x hx => Int.mul_le_mul_of_nonneg_right (by exact (ho.ls _ (abd_mem hx).1).t01) (hd_okL ho hh hx).st.1
  constructor <;> omega
theorem needs_luck {v : Vg} (ho : v.Ok) {s : List Int} (hh : Held v s) : needsM v (abd v.ls s) true ≤ needsM v (abd v.ls s) false := by
  have := deep_luck ho hh
  unfold needsM
  omega
theorem sal_luck {v : Vg} (ho : v.Ok) {s : List Int} (hh : Held v s) : (salM v (abd v.ls s) false).length ≤ (salM v (abd v.ls s) true).length ∧ ∀ (i : Nat) (m : Int), (salM v (abd v.ls s) false)[i]? = some m → ∃ m', (salM v (abd v.ls s) true)[i]? = some m' ∧ m' ≤ m := by
  unfold salM
  rw [slM_T, slM_T]
  exact sal_mono (bet_sooner (needs_luck ho hh) (luck_bet ho.ss)) (Int.le_refl _)
theorem salM_len (v : Vg) (L : List (Cg × Int)) (g : Bool) : (salM v L g).length ≤ v.ss.length := by
  have := sal_len (slM (needsM v L g) v.ss g) v.le
  unfold salM
  simpa [slM] using this
/-- The first and the last minute over each sill that is surely passed. -/
def overM (v : Vg) (L : List (Cg × Int)) : List (Int × Int) := (salM v L true).zip (salM v L false)
end Go.Proofs.YtdlohfglmagneaaDoor

/-! Sail. -/
namespace Go.Proofs.YtdlohfglmagneaaDoor
open Go Go.RowKit
theorem zip_take2 {α β : Type} (a : List α) (b : List β) {k : Nat} (h1 : k < a.length) (h2 : k < b.length) : (a.zip b).take (k + 1) = (a.zip b).take k ++ [(a[k], b[k])] := by
  rw [List.take_succ_eq_append_getElem (by simp; omega), List.getElem_zip]
theorem own_down {w : World} {b b' : Nat} {e : TypeId} {s : Nat} {v : Value} {n : Nat} {xs : List Value} (h : w.ownsRow b e s v n xs) (hb : b' ≤ b) : w.ownsRow b' e s v n xs := by
  refine ⟨h.1, ?_⟩
  rcases h.2 with h2 | ⟨g, cap, cur, h1, h2, h3⟩
  · exact .inl h2
  · exact .inr ⟨g, cap, cur, h1, by omega, h3⟩
theorem info41 : (Tryd.prog.info? 29).map (fun i => (i.zero, i.size, i.bytes)) = some (some (.agg #[.int .i64 0, .int .i64 0]), 2, 16) := by kernel_rfl
set_option maxRecDepth 100000 in
set_option maxHeartbeats 4000000 in
theorem sail33_any (v : Vg) (p : Vp) (A : Option Addr) (sn sc : Nat) (s : List Int) (w : World) (hF : p.Fit) (hLF : LvFit v) (hV : VoyAt w w.heap.size v p) (hS0 : Sl w w.heap.size 1 A (inr s)) (hl : s.length = sn) (hsn : sn ≤ 1000000) :
    Calls Tryd.prog 10 #[.agg (vcs v p), .slice A sn sc] w fun e w' => (if ckSt v s = 0 then ∃ X x, e = .returned (.tuple #[.int .i64 (verdM v.ss.length (salM v (abd v.ls s) true).length (salM v (abd v.ls s) false).length), .slice X (overM v (abd v.ls s)).length x, .int .i64 0]) ∧ w'.ownsRow w.heap.size 29 2 (.slice X (overM v (abd v.ls s)).length x) (overM v (abd v.ls s)).length (gnr (overM v (abd v.ls s))).flatten else e = .returned (.tuple #[.int .i64 0, .slice none 0 0, .int .i64 (ckSt v s)])) ∧ Below w.heap.size w w' := by
  have k0 := Bx.new w 26 (vcs v p)
  have B0 := (Below.refl w.heap.size w).alloc (Nat.le_refl _) (.cells (vcs v p) 26)
  have HL := Lib.hid hl
  obtain ⟨E, hE⟩ : ∃ E, ckSt v s = E := ⟨_, rfl⟩
  have HE := Lib.hid hE
  rw [vcs_def] at k0 B0 ⊢
  obtain ⟨V, hVV⟩ : ∃ V, w.alloc (.cells #[.int .i64 v.li, .int .i64 v.un, .int .i64 v.tr, .slice p.HA p.hn p.hc, .int .i64 v.le, .slice p.SA p.sn p.sc, .slice p.LA p.ln p.lc] 26) = V := ⟨_, rfl⟩
  rw [hVV] at k0 B0
  have HVV := Lib.hid hVV
  clear hVV
  obtain ⟨c0, c1, c2, c3, c4, c5, c6, cf, cz⟩ := k0.seven
  rw [hE]
  by_cases hz : E = 0
  case neg =>
    have hz1 : (E != 0) = true := by simpa using hz
    simp only [if_neg hz]
    clear hE hl
    go_enter Tryd.func10, Tryd.ntmps10
    go_wp2_with (first
      | (go_at_call 8; rw [HVV.out]; refine (checkStowage_any v p A sn sc s V hF hLF (hV.call B0) (hS0.call B0) HL.out hsn).mono ?_; rintro e w_1 ⟨rfl, hb_1⟩; rw [HE.out]; have B_1 := B0.trans (hb_1.mono B0.size))
      | fail)
    exact bodyPost_ret (v := .tuple #[.int .i64 0, .slice none 0 0, .int .i64 E]) (by simp [results, Tryd.results10, go_sem]) rfl ⟨rfl, B_1⟩
  subst hz
  have hok := ckSt_ok hE
  have ho := hok.ok
  have hh := inH_held hok.inh
  have hlp : sn ≤ p.ln := by rw [← hV.ll, ← hl, hok.len]; exact Nat.le_refl _
  have hgb := deep_bd ho hh true (fun x hx => hx) (abd_six ho s)
  have hbb := deep_bd ho hh false (fun x hx => hx) (abd_six ho s)
  have hluck := sal_luck ho hh
  have hlen1 := salM_len v (abd v.ls s) true
  have hs4 := ho.s4
  simp only [if_pos (rfl : (0 : Int) = 0)]
  obtain ⟨g0, hg0⟩ : ∃ x, deepB v (abd v.ls s) true = x := ⟨_, rfl⟩
  obtain ⟨g1, hg1⟩ : ∃ x, deepS v (abd v.ls s) true = x := ⟨_, rfl⟩
  obtain ⟨b0, hb0⟩ : ∃ x, deepB v (abd v.ls s) false = x := ⟨_, rfl⟩
  obtain ⟨b1, hb1⟩ : ∃ x, deepS v (abd v.ls s) false = x := ⟨_, rfl⟩
  rw [hg0, hg1] at hgb
  rw [hb0, hb1] at hbb
  replace hgb : (0 ≤ g0 ∧ g0 ≤ 305000000) ∧ (0 ≤ g1 ∧ g1 ≤ 305000000) := by omega
  replace hbb : (0 ≤ b0 ∧ b0 ≤ 305000000) ∧ (0 ≤ b1 ∧ b1 ≤ 305000000) := by omega
  unfold overM
  obtain ⟨SG, hSG⟩ : ∃ x, salM v (abd v.ls s) true = x := ⟨_, rfl⟩
  obtain ⟨SB, hSB⟩ : ∃ x, salM v (abd v.ls s) false = x := ⟨_, rfl⟩
  have HSG : Hid (sal (slM (max g0 g1 + 1000 * v.un) v.ss true) v.le = SG) := Lib.hid (by rw [← hSG, ← hg0, ← hg1]; rfl)
  have HSB : Hid (sal (slM (max b0 b1 + 1000 * v.un) v.ss false) v.le = SB) := Lib.hid (by rw [← hSB, ← hb0, ← hb1]; rfl)
  rw [hSG, hSB] at hluck ⊢
  rw [hSG] at hlen1
  obtain ⟨n1, hn1⟩ : ∃ x, SG.length = x := ⟨_, rfl⟩
  obtain ⟨n2, hn2⟩ : ∃ x, SB.length = x := ⟨_, rfl⟩
  have hzl : (SG.zip SB).length = n2 := by simp; omega
  rw [hn1, hn2] at hluck
  rw [hn1] at hlen1
  rw [hn1, hn2, hzl, hV.sl]
  have hn12 := hluck.1
  have hn4 : n1 ≤ 4 := by omega
  have HN1 := Lib.hid hn1
  have HN2 := Lib.hid hn2
  have HG0 := Lib.hid hg0
  have HG1 := Lib.hid hg1
  have HB0 := Lib.hid hb0
  have HB1 := Lib.hid hb1
  have hsn4 : p.sn ≤ 4 := by rw [← hV.sl]; exact hs4
  obtain ⟨vd, hvd⟩ : ∃ x, verdM p.sn n1 n2 = x := ⟨_, rfl⟩
  have HVD := Lib.hid hvd
  rw [hvd]
  obtain ⟨i41, hi41, hz41, hs41, iy41⟩ := info_parts info41
  clear hE hl hok hSG hSB hg0 hg1 hb0 hb1 hn1 hn2 hluck hlen1 hzl hvd
  go_enter Tryd.func10, Tryd.ntmps10
  go_wp2_with (first
    | (go_at_call 8; rw [HVV.out]; refine (checkStowage_any v p A sn sc s V hF hLF (hV.call B0) (hS0.call B0) HL.out hsn).mono ?_; rintro e w_1 ⟨rfl, hb_1⟩; rw [HE.out]; have k_1 := k0.call hb_1; have B_1 := B0.trans (hb_1.mono B0.size))
    | fail)
  clear k0 B0 hb_1 HVV c0 c1 c2 c3 c4 c5 c6 cf cz
  refine AnyG.startC (by kernel_rfl) ?_
  refine AnyG.takeP (i := 1) (v := ?_) rfl (by kernel_rfl) (fun _ _ _ h => h) rfl ?_ ?_
  rotate_left
  · (intro w'; go_simp; try with_reducible rfl)
  try simp only [Act.put, List.getElem_toArray, List.getElem_cons_succ, List.getElem_cons_zero, List.setIfInBounds_toArray, List.set_cons_zero, List.set_cons_succ]
  refine AnyG.takeP (i := 5) (v := ?_) rfl (by kernel_rfl) (fun _ _ _ h => h) rfl ?_ ?_
  rotate_left
  · (intro w'; go_simp; try with_reducible rfl)
  try simp only [Act.put, List.getElem_toArray, List.getElem_cons_succ, List.getElem_cons_zero, List.setIfInBounds_toArray, List.set_cons_zero, List.set_cons_succ]
  refine AnyG.enter (fun w' : World => Bx w' w.heap.size 26 #[.int .i64 v.li, .int .i64 v.un, .int .i64 v.tr, .slice p.HA p.hn p.hc, .int .i64 v.le, .slice p.SA p.sn p.sc, .slice p.LA p.ln p.lc] ∧ Below w.heap.size w w') (fun i => true) ?_
  have hS : (fun w' : World => Bx w' w.heap.size 26 #[.int .i64 v.li, .int .i64 v.un, .int .i64 v.tr, .slice p.HA p.hn p.hc, .int .i64 v.le, .slice p.SA p.sn p.sc, .slice p.LA p.ln p.lc] ∧ Below w.heap.size w w') (World.drew _) := ⟨k_1.drew, B_1.drew⟩
  refine AnyG.takeC (i := 0) (v := ?_) rfl (by kernel_rfl) (fun _ _ _ h => h) rfl ?_ hS ?_
  rotate_left
  · (intro w' hSw; (try dsimp only at hSw); obtain ⟨x0, x1, x2, x3, x4, x5, x6, xf, xz⟩ := hSw.1.seven; go_simp; try with_reducible rfl)
  try simp only [Act.put, List.getElem_toArray, List.getElem_cons_succ, List.getElem_cons_zero, List.setIfInBounds_toArray, List.set_cons_zero, List.set_cons_succ]
  refine AnyG.takeC (i := 4) (v := ?_) rfl (by kernel_rfl) (fun _ _ _ h => h) rfl ?_ hS ?_
  rotate_left
  · (intro w' hSw; (try dsimp only at hSw); obtain ⟨x0, x1, x2, x3, x4, x5, x6, xf, xz⟩ := hSw.1.seven; go_simp; try with_reducible rfl)
  try simp only [Act.put, List.getElem_toArray, List.getElem_cons_succ, List.getElem_cons_zero, List.setIfInBounds_toArray, List.set_cons_zero, List.set_cons_succ]
  refine AnyG.one (i := 2) (by kernel_rfl) rfl rfl ?_
  go_simp
  refine (load_any v p A sn sc s true _ ho (hV.call hS.2) (hS0.call hS.2) HL.out hlp hh).mono ?_
  rintro e2 y2 ⟨rfl, hb2⟩
  rw [HG0.out, HG1.out]
  refine Onward.on ⟨hS.1.call hb2, hS.2.trans (hb2.mono hS.2.size)⟩ (fun hS2 => ?_)
  clear hS
  have hS := hS2
  clear hS2
  try simp only [Act.put, List.getElem_toArray, List.getElem_cons_succ, List.getElem_cons_zero, List.setIfInBounds_toArray, List.set_cons_zero, List.set_cons_succ]
  refine AnyG.one (i := 3) (by kernel_rfl) rfl rfl ?_
  go_simp
  refine (sail_any v p true g0 g1 _ ho (hV.call hS.2) hgb.1 hgb.2).mono ?_
  rintro e3 y3 ⟨⟨X1, c1, rfl, O1⟩, hb3⟩
  rw [HSG.out] at O1 ⊢
  rw [HN1.out] at O1 ⊢
  have R1 := own_inr O1 HN1.out
  refine Onward.on ⟨hS.1.call hb3, hS.2.trans (hb3.mono hS.2.size)⟩ (fun hS2 => ?_)
  clear hS
  have hS := hS2
  clear hS2
  try simp only [Act.put, List.getElem_toArray, List.getElem_cons_succ, List.getElem_cons_zero, List.setIfInBounds_toArray, List.set_cons_zero, List.set_cons_succ]
  refine AnyG.one (i := 6) (by kernel_rfl) rfl rfl ?_
  go_simp
  refine (load_any v p A sn sc s false _ ho (hV.call hS.2) (hS0.call hS.2) HL.out hlp hh).mono ?_
  rintro e6 y6 ⟨rfl, hb6⟩
  rw [HB0.out, HB1.out]
  have R1 := R1.call hb6
  refine Onward.on ⟨hS.1.call hb6, hS.2.trans (hb6.mono hS.2.size)⟩ (fun hS2 => ?_)
  clear hS
  have hS := hS2
  clear hS2
  try simp only [Act.put, List.getElem_toArray, List.getElem_cons_succ, List.getElem_cons_zero, List.setIfInBounds_toArray, List.set_cons_zero, List.set_cons_succ]
  refine AnyG.one (i := 7) (by kernel_rfl) rfl rfl ?_
  go_simp
  refine (sail_any v p false b0 b1 _ ho (hV.call hS.2) hbb.1 hbb.2).mono ?_
  rintro e7 y7 ⟨⟨X2, c2, rfl, O2⟩, hb7⟩
  rw [HSB.out] at O2 ⊢
  rw [HN2.out] at O2 ⊢
  have R2 := own_inr O2 HN2.out
  have R1 := R1.call hb7
  refine Onward.on ⟨hS.1.call hb7, hS.2.trans (hb7.mono hS.2.size)⟩ (fun hS2 => ?_)
  clear hS
  have hS := hS2
  clear hS2
  try simp only [Act.put, List.getElem_toArray, List.getElem_cons_succ, List.getElem_cons_zero, List.setIfInBounds_toArray, List.set_cons_zero, List.set_cons_succ]
  refine AnyG.one (i := 8) (by kernel_rfl) rfl rfl ?_
  go_simp
  refine Onward.on hS (fun hS2 => ?_)
  clear hS
  have hS := hS2
  clear hS2
  try simp only [Act.put, List.getElem_toArray, List.getElem_cons_succ, List.getElem_cons_zero, List.setIfInBounds_toArray, List.set_cons_zero, List.set_cons_succ]
  refine AnyG.one (i := 9) (by kernel_rfl) rfl rfl ?_
  go_simp
  refine Onward.on hS (fun hS2 => ?_)
  clear hS
  have hS := hS2
  clear hS2
  try simp only [Act.put, List.getElem_toArray, List.getElem_cons_succ, List.getElem_cons_zero, List.setIfInBounds_toArray, List.set_cons_zero, List.set_cons_succ]
  refine AnyG.done (by kernel_rfl) ?_ _
  obtain ⟨Y, hY⟩ : ∃ X, y7 = X := ⟨_, rfl⟩
  rw [hY] at R1 R2 hS
  rw [hY]
  have kY := hS.1
  have hBY := hS.2
  have hYs := hBY.size
  clear hS hY hb2 hb3 hb6 hb7 O1 O2 k_1 B_1
  go_wp2_with fail
  go_loopw [5, 28] (fun ov iv wr => ∃ (k : Nat) (X : Option Addr) (x : Nat), iv = .int .i64 k ∧ k ≤ n2 ∧ ov = .slice X k x ∧ wr.ownsRow Y.heap.size 29 2 (.slice X k x) k (gnr ((SG.zip SB).take k)).flatten ∧ Below Y.heap.size Y wr) (fun _ iv _ => n2 - (intOf iv).toNat)
  case atStart => exact ⟨0, none, 0, rfl, by omega, rfl, by rw [List.take_zero]; exact World.ownsRow_nil _ _ _ _, Below.refl _ _⟩
  case round =>
    obtain ⟨k, X, x, rfl, hk, rfl, OO, hYr⟩ := hrel
    have hYrs := hYr.size
    by_cases hkn : k < n2
    · have h1 : k < SG.length := by rw [HN1.out]; omega
      have h2 : k < SB.length := by rw [HN2.out]; omega
      obtain ⟨a1, hX1, _, m1⟩ := inr_at (R1.call hYr) h1
      obtain ⟨a2, hX2, _, m2⟩ := inr_at (R2.call hYr) h2
      have HZ := Lib.hid (zip_take2 SG SB h1 h2)
      generalize SG[k] = f at *
      generalize SB[k] = l at *
      have hkn1 : k < n1 := by omega
      have hkw : IntKind.i64.wrap ((k : Int) + 1) = (k : Int) + 1 := IntWalk.i64_in _ (by omega)
      subst hX1 hX2
      have O2 := own_bel OO ((Below.refl wr.heap.size wr).alloc (Nat.le_refl _) (.cells #[.int .i64 f, .int .i64 l] 29))
      have kn := Bx.at wr 29 #[.int .i64 f, .int .i64 l] rfl
      have hW := hBY.trans (hYr.mono hYs)
      clear R1 R2
      go_wp2_with (first
        | (at_builtin; refine wpList_append_own _ rfl (.tmp 33) (.tmp 40) 45 rfl Y.heap.size 29 i41 _ 2 16 Tryd.underlying45 hi41 hz41 hs41 iy41 rfl (by decide) (.slice X k x) k (gnr ((SG.zip SB).take k)).flatten rfl O2 ⟨wr.heap.size, 0, none⟩ 1 1 [.int .i64 f, .int .i64 l] rfl rfl (bx_news kn) (by simp [Value.oneCell']) (by unfold maxLen; omega) (by omega) (by simp; omega) ?_; intro v' w' o1 o2 o3; obtain ⟨X', x', rfl⟩ := own_shape o1)
        | fail)
      go_roundw
      case rel =>
        refine ⟨k + 1, X', x', by go_num, by omega, rfl, ?_, ((hYr.alloc hYrs (.cells #[.int .i64 f, .int .i64 l] 29))).grown o2 (by simp; omega) (fun q e => (O2.lt q e).1)⟩
        rw [HZ.out, gnr_snoc]; exact o1
      case measure => simp [intOf]; omega
    · obtain rfl : k = n2 := by omega
      have hW := hBY.trans (hYr.mono hYs)
      have OD := own_down OO hYs
      rw [List.take_of_length_le (by simp [HN1.out, HN2.out]; omega)] at OD
      obtain ⟨c0, c1, c2, c3, c4, c5, c6, cf, cz⟩ := (kY.call hYr).seven
      clear R1 R2
      go_wp2_with (first | (go_at_call 26; refine (verdictOf_any p.sn n1 k _).mono ?_; rintro e w3 ⟨rfl, hb3⟩; rw [HVD.out]) | fail)
      exact bodyPost_ret (v := .tuple #[.int .i64 vd, .slice X k x, .int .i64 0]) (by simp [results, Tryd.results10, go_sem]) rfl ⟨⟨X, x, rfl, own_bel OD hb3⟩, hW.trans (hb3.mono hW.size)⟩
end Go.Proofs.YtdlohfglmagneaaDoor

/-! Ranges over an iterator that hands out slices of its own making: what is read at what is handed out is told to the loop. -/
namespace Go.Proofs.YtdlohfglmagneaaDoor
open Go Go.RowKit Go.Shelf
/-- All blocks of cells but two lie as they lay. -/
structure Keep2 (b c : Nat) (A B : World) : Prop where
  size : A.heap.size ≤ B.heap.size
  same : ∀ (k : Nat) (cs : Array Value) (t : TypeId) (f : Nat × Nat), k ≠ b → k ≠ c → A.heap[k]? = some (.cells cs t f) → B.heap[k]? = some (.cells cs t f)
section
variable {b c : Nat} {A B C : World}
theorem Keep2.refl (b c : Nat) (A : World) : Keep2 b c A A := ⟨Nat.le_refl _, fun _ _ _ _ _ _ h => h⟩
theorem Keep2.trans (h : Keep2 b c A B) (k : Keep2 b c B C) : Keep2 b c A C := ⟨Nat.le_trans h.size k.size, fun i cs t f h1 h2 e => k.same i cs t f h1 h2 (h.same i cs t f h1 h2 e)⟩
theorem Keep2.below (h : Below A.heap.size A B) : Keep2 b c A B := ⟨h.size, fun k cs t f _ _ e => (h.block k (Array.getElem?_eq_some_iff.1 e).1).trans e⟩
theorem Keep2.put (W : World) (l : Nat) (o o' : Obj) (h : W.heap[l]? = some o) (ho : o.isCells = false) : Keep2 b c W (W.putObj l o') :=
  ⟨by simp [World.putObj], fun k cs t f _ _ e => by
    by_cases hk : k = l
    · subst hk; rw [h] at e; cases e; cases ho
    · exact (World.putObj_heap_other hk).trans e⟩
theorem Keep2.set1 (W : World) (i : Nat) (v : Value) : Keep2 b c W (W.setCell ⟨b, i, none⟩ v) :=
  ⟨by simp [World.setCell], fun k cs t f h1 _ e => (Below.heap_setCell W ⟨b, i, none⟩ v k h1).trans e⟩
theorem Keep2.set2 (W : World) (i : Nat) (v : Value) : Keep2 b c W (W.setCell ⟨c, i, none⟩ v) :=
  ⟨by simp [World.setCell], fun k cs t f _ h2 e => (Below.heap_setCell W ⟨c, i, none⟩ v k h2).trans e⟩
theorem Keep2.drew (h : Keep2 b c A B) : Keep2 b c A B.drew := ⟨h.size, h.same⟩
theorem Keep2.bx (h : Keep2 b c A B) {g t : Nat} {cs : Array Value} (k : Bx A g t cs) (h1 : g ≠ b) (h2 : g ≠ c) : Bx B g t cs := h.same g cs t (0, 0) h1 h2 k
theorem Keep2.cell (h : Keep2 b c A B) {p : Addr} {v : Value} (h1 : p.block ≠ b) (h2 : p.block ≠ c) (k : A.cell? p = some v) : B.cell? p = some v := by
  unfold World.cell? at k ⊢
  split at k
  · rename_i cs t f e
    rw [h.same _ _ _ _ h1 h2 e]
    exact k
  · cases k
theorem Keep2.sl (h : Keep2 b c A B) {X s : Nat} {P : Option Addr} {xs : List (List Value)} (k : Sl A X s P xs) (h1 : X ≤ b) (h2 : X ≤ c) : Sl B X s P xs := fun i r hr => by
  obtain ⟨ad, e1, e2, e3⟩ := k i r hr
  exact ⟨ad, e1, e2, fun j u hu => h.cell (by rw [add_block, add_block]; omega) (by rw [add_block, add_block]; omega) (e3 j u hu)⟩
theorem Keep2.sis (h : Keep2 b c A B) {X : Nat} {P : Option Addr} {ss : List Si} (k : SisAt A X P ss) (h1 : X ≤ b) (h2 : X ≤ c) : SisAt B X P ss := by
  obtain ⟨rs, e1, e2, e3⟩ := k.rows
  refine ⟨rs, h.sl e1 h1 h2, e2, fun j r s hr hs => ?_⟩
  obtain ⟨A', c', e, h5, h4⟩ := e3 j r s hr hs
  exact ⟨A', c', e, h5, h.sl h4 h1 h2⟩
theorem Keep2.voy (h : Keep2 b c A B) {X : Nat} {v : Vg} {p : Vp} (k : VoyAt A X v p) (h1 : X ≤ b) (h2 : X ≤ c) : VoyAt B X v p := ⟨k.hl, k.sl, k.ll, h.sl k.hs h1 h2, h.sis k.ss h1 h2, h.sl k.ls h1 h2⟩
theorem Keep2.own (h : Keep2 b c A B) {base : Nat} {e : TypeId} {s n : Nat} {v : Value} {xs : List Value} (k : A.ownsRow base e s v n xs) (h1 : b < base) (h2 : c < base) : B.ownsRow base e s v n xs := by
  refine ⟨k.1, ?_⟩
  rcases k.2 with e1 | ⟨g, cap, cur, e1, e2, e3, e4⟩
  · exact .inl e1
  · exact .inr ⟨g, cap, cur, e1, e2, h.same g cur e (0, 0) (by omega) (by omega) e3, e4⟩
end
/-- What new blocks do not disturb. -/
def Abb {β : Type} (J : β → World → Prop) : Prop := ∀ s A C, J s A → Below A.heap.size A C → J s C
/-- The contract of an iterator that hands out what it has made: Rd is what is read there. -/
def SeqRd {α : Type} (F : Fence) (n : Nat) (P : Program) (gf : Nat) (lb : Array Value) (encs : α → Array Value) (Kp : World → World → Prop) (Rd : α → World → Prop) (S : List α → Prop) (N : Nat) (w : World) : Prop :=
  ∀ (l : Nat) (J : List α → World → Prop) (W : World), Below w.heap.size w W → Abb J →
    (∀ pre x W1, J pre W1 → Rd x W1 → pre.length < N → YieldAt F (n - 1) P l (encs x) W1 fun e W' => e = .returned (.bool true) ∧ J (pre ++ [x]) W' ∧ Kp W1 W') →
    J [] W →
    CallsIn F n P gf (#[.func (.yield l) #[] #[]] ++ lb) W fun e W' => (∃ v, e = .returned v) ∧ ∃ xs, S xs ∧ J xs W'
section
variable {F : Fence} {n : Nat} {P : Program} {w : World}
theorem range_rd {α : Type} {g : Operand} {ps : Array Tmp} {assign body : Code} {Q : Exit → Act → World → Prop} {a : Act}
    (hro : F.round = none) (h1 : 1 ≤ n) {gf : Nat} {lb : Array Value} (hg : a.eval g = .func (.func gf) #[] lb) (hFg : F.fn gf) (eg : ∀ args w, (callFunc gf args).run P w = .ok (.enter gf args) w)
    {encs : α → Array Value} {Kp : World → World → Prop} {Rd : α → World → Prop} {S : List α → Prop} {N : Nat} {w0 : World} (hseq : SeqRd F (n - 1) P gf lb encs Kp Rd S N w0)
    (hKt : ∀ {A B C : World}, Kp A B → Kp B C → Kp A C) (hKb : ∀ (W : World) (l : Nat) (o o' : Obj), w.heap.size ≤ l → W.heap[l]? = some o → o.isCells = false → Kp W (W.putObj l o')) (hb0 : Below w0.heap.size w0 w) (hps : ∀ x, (encs x).size = ps.size)
    (hRd : ∀ (x : α) (W : World) (l : Nat) (o o' : Obj), W.heap[l]? = some o → o.isCells = false → Rd x W → Rd x (W.putObj l o'))
    (I : List α → World → Prop) (hI : Abb I) (hIp : ∀ (s : List α) (W : World) (l : Nat) (o o' : Obj), w.heap.size ≤ l → W.heap[l]? = some o → o.isCells = false → I s W → I s (W.putObj l o')) (h0 : I [] w)
    (Fr : α → Act)
    (hassign : ∀ (l : Nat) (x : α) (W : World) (K : Act → World → Prop), K (Fr x) W →
      assign.wpIn (F.inRound l) (n - 1 - 1) P (Exit.then K (fun _ _ _ => False)) { tmps := (ps.zip (encs x)).foldl (fun t (p, v) => t.setIfInBounds p v) a.tmps, defers := [] } W)
    (hbody : ∀ (l : Nat) (pre : List α) (x : α) (W : World), w.heap.size ≤ l → (∃ r, W.heap[l]? = some (.loop r)) → I pre W → Rd x W → pre.length < N →
      body.wpIn (F.inRound l) (n - 1 - 1) P (fun e _ W' => e = .normal ∧ KeepsFrom w.heap.size W W' ∧ Kp W W' ∧ I (pre ++ [x]) W') (Fr x) W)
    (hdone : ∀ (D : Nat) (xs : List α) (W : World), w.heap.size ≤ D → S xs → I xs W → W.heap[D]? = some (.deferred (some [])) → Q .normal { a with defers := { target := .collected D, args := #[] } :: a.defers } W) :
    (Code.rangeFunc g ps assign body).wpIn F n P Q a w := by
  refine wpIn_rangeFunc ?_
  intro fn hfn
  rw [hro]
  generalize hR : (fun st : LoopState => ({ state := st, pending := none, fn, tmps := a.tmps, params := ps, assign, body, defers := w.heap.size } : Loop)) = R
  obtain ⟨l, hl⟩ : ∃ l, w.heap.size + 1 = l := ⟨_, rfl⟩
  obtain ⟨W1, hW1⟩ : ∃ W1, (w.alloc (.deferred (some []))).alloc (.loop (R .ready)) = W1 := ⟨_, rfl⟩
  have hL1 : W1.heap[l]? = some (.loop (R .ready)) := by
    have := World.alloc_heap_new (w.alloc (.deferred (some []))) (.loop (R .ready))
    rw [World.size_alloc, hl, hW1] at this
    exact this
  have hB1 : Below w.heap.size w W1 := by rw [← hW1]; exact ((Below.refl _ w).alloc (Nat.le_refl _) _).alloc (by simp) _
  have hD1 : W1.heap[w.heap.size]? = some (.deferred (some [])) := by
    rw [← hW1]; exact (Below.heap_alloc _ _ _ (by simp)).trans (World.alloc_heap_new w _)
  refine ⟨l, [{ target := .collected w.heap.size, args := #[] }], W1, { target := .fn (.func gf) lb, args := #[.func (.yield l) #[] #[]] }, W1, gf, #[.func (.yield l) #[] #[]] ++ lb, W1, ?_, ?_, ?_, ?_, fun _ => h1, ?_⟩
  · have := run_enterLoop_outer (P := P) (w := w) fn a.tmps ps assign body
    rw [← hW1, ← hR, ← hl]
    exact this
  · simp only [resolve, hg]
    simp [go_sem]
  · intro f' hf'
    simp [Target.leads] at hf'
    subst hf'
    exact hFg
  · simp [invoke, go_sem, eg]
  · refine (hseq l (fun pre W => I pre W ∧ W.heap[l]? = some (.loop (R .ready)) ∧ W.heap[w.heap.size]? = some (.deferred (some []))) W1 (hb0.trans (hB1.mono hb0.size)) ?_ ?_ ?_).mono ?_
    · rintro s A C ⟨i1, i2, i3⟩ hb
      exact ⟨hI s A C i1 hb, (hb.block l (Array.getElem?_eq_some_iff.1 i2).1).trans i2, (hb.block _ (Array.getElem?_eq_some_iff.1 i3).1).trans i3⟩
    · rintro pre x W ⟨i1, i2, i3⟩ hrd hlen
      have hy := run_yield (P := P) (args := encs x) i2 (by rw [← hR]; exact hps x)
      rw [← hR] at hy
      refine ⟨fn, _, assign, body, hy, roundIn_of_wpIn hfn (hassign l x W _ ?_)⟩
      have hlt : l < W.heap.size := (Array.getElem?_eq_some_iff.1 i2).1
      have hbegin := run_beginRound (P := P) i2 (by rw [← hR])
      refine ⟨_, hbegin, ?_⟩
      have hLb : (W.putObj l (.loop { R .ready with state := .busy })).heap[l]? = some (.loop { R .ready with state := .busy }) := World.putObj_heap_same hlt
      have hDb : (W.putObj l (.loop { R .ready with state := .busy })).heap[w.heap.size]? = some (.deferred (some [])) := (World.putObj_heap_other (by omega)).trans i3
      have iB := hIp pre W l _ (.loop { R .ready with state := .busy }) (by omega) i2 rfl i1
      refine wpIn_mono (hbody l pre x _ (by omega) ⟨_, hLb⟩ iB (hRd x W l _ _ i2 rfl hrd) hlen) ?_
      rintro e a3 W3 ⟨rfl, k3, kp3, i3'⟩
      have hLc : W3.heap[l]? = some (.loop { R .ready with state := .busy }) := k3.same l _ (by omega) hLb rfl
      have hDc : W3.heap[w.heap.size]? = some (.deferred (some [])) := k3.same _ _ (Nat.le_refl _) hDb rfl
      have hend := run_endRound (P := P) none hLc
      refine ⟨_, _, hend, rfl, ⟨hIp _ W3 l _ _ (by omega) hLc rfl i3', ?_, (World.putObj_heap_other (by omega)).trans hDc⟩, hKt (hKb W l _ _ (by omega) i2 rfl) (hKt kp3 (hKb W3 l _ _ (by omega) hLc rfl))⟩
      rw [World.putObj_heap_same (Array.getElem?_eq_some_iff.1 hLc).1, ← hR]
      rfl
    · exact ⟨hI [] w W1 h0 hB1, hL1, hD1⟩
    · rintro e W2 ⟨⟨v, rfl⟩, xs, hS, ⟨i1, i2, i3⟩⟩
      have hend := run_endLoop (P := P) i2 (by rw [← hR]; simp)
      have hpn : (R .ready).pending = none := by rw [← hR]
      rw [hpn] at hend
      exact ⟨none, _, hend, hdone w.heap.size xs _ (Nat.le_refl _) hS (hIp xs W2 l _ _ (by omega) i2 rfl i1) ((World.putObj_heap_other (by omega)).trans i3)⟩
end
end Go.Proofs.YtdlohfglmagneaaDoor

/-! The stowage that comes next. -/
namespace Go.Proofs.YtdlohfglmagneaaDoor
open Go Go.RowKit
theorem aft_none {last : Int} : ∀ {s : List Int}, (∀ x ∈ s, last ≤ x) → aft last s = none
  | [], _ => rfl
  | x :: r, h => by
    unfold aft
    rw [aft_none (s := r) fun y hy => h y (by simp [hy])]
    have := h x (by simp)
    exact if_neg (by omega)
theorem aft_at {last : Int} : ∀ {s : List Int} {k : Nat} {x : Int}, s[k]? = some x → x < last → (∀ (j : Nat) (y : Int), k < j → s[j]? = some y → last ≤ y) → aft last s = some (s.take k ++ (x + 1) :: List.replicate (s.length - k - 1) (-1))
  | [], k, x, h, _, _ => by simp at h
  | y :: r, 0, x, h, hx, hall => by
    simp at h
    subst h
    have hn : aft last r = none := aft_none fun z hz => by
      obtain ⟨j, hj⟩ := List.getElem?_of_mem hz
      exact hall (j + 1) z (by omega) (by simpa using hj)
    unfold aft
    rw [hn]
    show (if y < last then _ else _) = _
    rw [if_pos hx]
    simp
  | y :: r, k + 1, x, h, hx, hall => by
    have ih := aft_at (s := r) (k := k) (x := x) (by simpa using h) hx fun j z hj hz => hall (j + 1) z (by omega) (by simpa using hz)
    unfold aft
    rw [ih]
    simp only [List.take_succ_cons, List.cons_append, List.length_cons]
    rw [show r.length + 1 - (k + 1) - 1 = r.length - k - 1 by omega]
/-- A list whose last numbers are set back. -/
def back (s : List Int) (k : Nat) : List Int := s.take k ++ List.replicate (s.length - k) (-1)
theorem back_len (s : List Int) (k : Nat) : (back s k).length = s.length := by
  unfold back
  simp; omega
theorem back_all (s : List Int) : back s s.length = s := by unfold back; simp
theorem back_get {s : List Int} {k j : Nat} (hj : j < k) (hk : k ≤ s.length) : (back s k)[j]? = s[j]? := by
  unfold back
  rw [List.getElem?_append_left (by simp; omega), List.getElem?_take_of_lt hj]
theorem back_set {s : List Int} {k : Nat} (hk : k < s.length) : (back s (k + 1)).set k (-1) = back s k := by
  unfold back
  rw [List.take_succ_eq_append_getElem hk, List.append_assoc, List.set_append_right _ _ (by simp; omega), List.length_take_of_le (by omega), Nat.sub_self]
  rw [show s.length - k = s.length - (k + 1) + 1 by omega, List.replicate_succ]
  rfl
theorem back_inc {s : List Int} {k : Nat} {x : Int} (hk : k < s.length) : (back s (k + 1)).set k (x + 1) = s.take k ++ (x + 1) :: List.replicate (s.length - k - 1) (-1) := by
  unfold back
  rw [List.take_succ_eq_append_getElem hk, List.append_assoc, List.set_append_right _ _ (by simp; omega), List.length_take_of_le (by omega), Nat.sub_self]
  rw [show s.length - (k + 1) = s.length - k - 1 by omega]
  rfl
theorem inr_flat (L : List Int) : (inr L).flatten = L.map fun x => Value.int .i64 x := by
  unfold inr
  induction L with
  | nil => rfl
  | cons x L ih => simp [ih]
theorem inr_set (L : List Int) (k : Nat) (x : Int) : (inr L).flatten.set k (.int .i64 x) = (inr (L.set k x)).flatten := by
  rw [inr_flat, inr_flat, List.map_set]
def aftPost (w : World) (n : Nat) (r : Option (List Int)) (e : Ending) (w' : World) : Prop := match r with
  | none => e = .returned (.tuple #[.slice none 0 0, .bool false])
  | some t => ∃ B c', e = .returned (.tuple #[.slice (some B) n c', .bool true]) ∧ w'.ownsRow w.heap.size 3 1 (.slice (some B) n c') n (inr t).flatten
set_option maxRecDepth 100000 in
set_option maxHeartbeats 2000000 in
theorem after_any (last : Int) (A : Addr) (n c : Nat) (s : List Int) (w : World) (hn : n ≤ 1000) (hl : s.length = n) (h1 : -1 ≤ last) (h2 : last ≤ 1000) (hge : ∀ (j : Nat) (y : Int), s[j]? = some y → -1 ≤ y) (hA : Sl w w.heap.size 1 (some A) (inr s)) :
    Calls Tryd.prog 50 #[.slice (some A) n c, .int .i64 last] w fun e w' => aftPost w n (aft last s) e w' ∧ Below w.heap.size w w' := by
  have hcl := clone_any A n c (inr s).flatten w hn (by rw [inr_flat]; simp [hl]) (by rw [inr_flat]; intro u hu; obtain ⟨x, _, rfl⟩ := List.mem_map.1 hu; rfl) (by
    intro j u hj
    rw [inr_flat, List.getElem?_map] at hj
    cases hx : s[j]? with
    | none => rw [hx] at hj; cases hj
    | some x =>
      rw [hx] at hj
      simp only [Option.map_some, Option.some.injEq] at hj
      subst hj
      obtain ⟨hjl, e⟩ := List.getElem?_eq_some_iff.1 hx
      obtain ⟨ad, e1, _, e3⟩ := inr_at hA hjl
      cases e1
      rw [e] at e3
      exact e3)
  have HL := Lib.hid hl
  have hxge := Lib.hid hge
  have hnw : IntKind.i64.wrap ((n : Int) - 1) = (n : Int) - 1 := IntWalk.i64_in _ (by omega)
  clear hl hA hge
  go_enter Tryd.func50, Tryd.ntmps50
  go_wp2_with (first | (go_at_call 56; refine hcl.mono ?_; rintro e w1 ⟨⟨B, c1, rfl, ho⟩, hb⟩) | fail)
  go_loopw [7] (fun lv wr => ∃ (k : Nat) (z : Int), lv = .int .i64 z ∧ k ≤ n ∧ z = (k : Int) - 1 ∧ Hid (∀ (j : Nat) (y : Int), k ≤ j → s[j]? = some y → last ≤ y) ∧ wr.ownsRow w.heap.size 3 1 (.slice B n c1) n (inr (back s k)).flatten ∧ Below w.heap.size w wr) (fun lv _ => (intOf lv + 1).toNat)
  case atStart => exact ⟨n, (n : Int) - 1, rfl, Nat.le_refl _, rfl, Lib.hid (fun j y hj hy => by have := (List.getElem?_eq_some_iff.1 hy).1; rw [HL.out] at this; omega), by rw [← HL.out, back_all, HL.out]; exact ho, hb⟩
  case round =>
    clear ho hb hcl
    obtain ⟨k, z, rfl, hk, hz, hall, ho, hB⟩ := hrel
    by_cases hk0 : k = 0
    · have hzd : decide (0 ≤ z) = false := by simp; omega
      have HA : Hid (aft last s = none) := Lib.hid (aft_none fun x hx => by
        obtain ⟨j, hj⟩ := List.getElem?_of_mem hx
        exact hall.out j x (by omega) hj)
      clear hz hk0
      go_wp2_with fail
      exact bodyPost_ret (v := .tuple #[.slice none 0 0, .bool false]) (by simp [results, Tryd.results50, go_sem]) rfl ⟨by rw [HA.out]; rfl, hB⟩
    · obtain ⟨j, rfl⟩ : ∃ j, k = j + 1 := ⟨k - 1, by omega⟩
      obtain rfl : z = (j : Int) := by omega
      obtain ⟨q, rfl⟩ := own_some ho (by omega)
      have hjl : j < s.length := by rw [HL.out]; omega
      obtain ⟨x, hx⟩ : ∃ x, s[j]? = some x := ⟨_, List.getElem?_eq_getElem hjl⟩
      have hbl := back_len s (j + 1)
      have hbj : j < (back s (j + 1)).length := by rw [hbl]; exact hjl
      have q0 := own_num ho (by rw [hbl, HL.out]) hbj
      have hbx : (back s (j + 1))[j] = x := by
        have := back_get (s := s) (k := j + 1) (j := j) (by omega) (by omega)
        rw [hx, List.getElem?_eq_getElem hbj] at this
        simpa using this
      rw [hbx] at q0
      have qf := own_free ho
      have qz := (ho.lt q rfl).2
      have hqb := (ho.lt q rfl).1
      have hjn : j < n := by omega
      have hzd : decide (0 ≤ (j : Int)) = true := by simp
      have hjw : IntKind.i64.wrap ((j : Int) - 1) = (j : Int) - 1 := IntWalk.i64_in _ (by omega)
      have HX := Lib.hid hx
      have HN := Lib.hid hjl
      clear hz hk0 hbx hx
      by_cases hxl : x < last
      · have hxd : decide (x < last) = true := by simpa using hxl
        have hxb : -1 ≤ x ∨ x < -1 := by omega
        have HA : Hid (aft last s = some (s.take j ++ (x + 1) :: List.replicate (s.length - j - 1) (-1))) := Lib.hid (aft_at HX.out hxl fun i y hi hy => hall.out i y (by omega) hy)
        have hst := own_store ho j (.int .i64 (x + 1)) (by omega)
        rw [inr_set, back_inc HN.out] at hst
        have hxw : IntKind.i64.wrap (x + 1) = x + 1 := IntWalk.i64_in _ (by have := hxge.out _ _ HX.out; omega)
        go_wp2_with fail
        exact bodyPost_ret (v := .tuple #[.slice (some ⟨q, 0, none⟩) n c1, .bool true]) (by simp [results, Tryd.results50, go_sem]) rfl ⟨by rw [HA.out]; exact ⟨_, _, rfl, hst⟩, hB.setCell (p := ⟨q, j, none⟩) hqb _⟩
      · have hxd : decide (x < last) = false := by simpa using hxl
        have hall' : Hid (∀ (i : Nat) (y : Int), j ≤ i → s[i]? = some y → last ≤ y) := Lib.hid (fun i y hi hy => by
          by_cases e : i = j
          · subst e; rw [HX.out] at hy; cases hy; omega
          · exact hall.out i y (by omega) hy)
        have hst := own_store ho j (.int .i64 (-1)) (by omega)
        rw [inr_set, back_set HN.out] at hst
        go_wp2_with fail
        go_roundw
        case rel => exact ⟨j, (j : Int) - 1, rfl, by omega, rfl, hall', hst, hB.setCell (p := ⟨q, j, none⟩) hqb _⟩
        case measure => simp [intOf]
end Go.Proofs.YtdlohfglmagneaaDoor
