/- Mathematics of layer 7: luck. -/
import Derived.Test.YtfcpjkofbejleaaSd
set_option linter.unusedSimpArgs false
set_option linter.unusedVariables false
namespace Go.Proofs.Ytfcpjkofbejleaa
open Go Go.RowKit
/-- Sills with ways to them and levels. -/
def slT (nd : Int) (X : List (Int × List (Int × Int))) : List (Int × (Int → Bool)) := X.map fun x => (x.1, fun m => decide (nd ≤ 1000 * dpt x.2 m))
def lkS (ss : List Si) (g : Bool) : List (Int × List (Int × Int)) := ss.map fun s => (way s g, lvL s.lv g)
theorem slM_T (nd : Int) (ss : List Si) (g : Bool) : slM nd ss g = slT nd (lkS ss g) := by
  unfold slM slT lkS
  rw [List.map_map]
  rfl
/-- Shorter ways, deeper water. -/
inductive Bet : List (Int × List (Int × Int)) → List (Int × List (Int × Int)) → Prop
  | nil : Bet [] []
  | cons {t t' : Int} {lv lv' : List (Int × Int)} {r r' : List (Int × List (Int × Int))} (ht : t ≤ t') (hl : lv.length = lv'.length) (hd : ∀ (i : Nat) (x y : Int × Int), lv[i]? = some x → lv'[i]? = some y → x.1 = y.1 ∧ y.2 ≤ x.2) (h : Bet r r') : Bet ((t, lv) :: r) ((t', lv') :: r')
theorem bet_sooner {n n' : Int} (hn : n ≤ n') {X Y : List (Int × List (Int × Int))} (h : Bet X Y) : Sooner (slT n X) (slT n' Y) := by
  induction h with
  | nil => exact .nil
  | @cons t t' lv lv' r r' ht hl hd h ih =>
    refine .cons ht (fun k hk => ?_) ih
    have h1 : n' ≤ 1000 * dpt lv' k := by simpa using hk
    have h2 := dpt_mono k hl.symm (lv := lv') (lv' := lv) (fun i x y hx hy => ⟨(hd i y x hy hx).1.symm, (hd i y x hy hx).2⟩)
    have : n ≤ 1000 * dpt lv k := by omega
    simpa using this
theorem luck_bet {ss : List Si} (h : ∀ s ∈ ss, s.Ok) : Bet (lkS ss true) (lkS ss false) := by
  induction ss with
  | nil => exact .nil
  | cons s ss ih =>
    have o := h s (by simp)
    refine .cons (by show s.t0 ≤ s.t1; exact o.t01) (by simp [lvL]) (fun i x y hx hy => ?_) (ih fun y hy => h y (by simp [hy]))
    unfold lvL at hx hy
    rw [List.getElem?_map] at hx hy
    cases hl : s.lv[i]? with
    | none => rw [hl] at hx; cases hx
    | some l =>
      rw [hl] at hx hy
      simp only [Option.map_some, Option.some.injEq] at hx hy
      subst hx hy
      have := (o.lv l (List.mem_of_getElem? hl)).d01
      exact ⟨rfl, by simpa using this⟩
theorem sum_le {α : Type} {f g : α → Int} : ∀ {L : List α}, (∀ x ∈ L, f x ≤ g x) → (L.map f).sum ≤ (L.map g).sum
  | [], _ => by simp
  | x :: r, h => by
    have h1 := h x (by simp)
    have h2 := sum_le (L := r) fun y hy => h y (by simp [hy])
    simp only [List.map_cons, List.sum_cons]
    omega
theorem hd_okL {v : Vg} (ho : v.Ok) {s : List Int} (hh : Held v s) {x : Cg × Int} (hx : x ∈ abd v.ls s) : (hd v.hs x.2).Ok := by
  obtain ⟨k, e, hk, _⟩ := held_hd hh hx
  exact hd_ok ho e hk
theorem deep_luck {v : Vg} (ho : v.Ok) {s : List Int} (hh : Held v s) : deepB v (abd v.ls s) true ≤ deepB v (abd v.ls s) false ∧ deepS v (abd v.ls s) true ≤ deepS v (abd v.ls s) false := by
  unfold deepB deepS
  have a := sum_le (L := abd v.ls s) (f := fun p => ton true p.1 * (hd v.hs p.2).bw) (g := fun p => ton false p.1 * (hd v.hs p.2).bw) fun x hx => Int.mul_le_mul_of_nonneg_right (by exact (ho.ls _ (abd_mem hx).1).t01) (hd_okL ho hh hx).bw.1
  have b := sum_le (L := abd v.ls s) (f := fun p => ton true p.1 * (hd v.hs p.2).st) (g := fun p => ton false p.1 * (hd v.hs p.2).st) fun x hx => Int.mul_le_mul_of_nonneg_right (by exact (ho.ls _ (abd_mem hx).1).t01) (hd_okL ho hh hx).st.1
  constructor <;> omega
theorem needs_luck {v : Vg} (ho : v.Ok) {s : List Int} (hh : Held v s) : needsM v (abd v.ls s) true ≤ needsM v (abd v.ls s) false := by
  have := deep_luck ho hh
  unfold needsM
  omega
theorem sal_luck {v : Vg} (ho : v.Ok) {s : List Int} (hh : Held v s) : (salM v (abd v.ls s) false).length ≤ (salM v (abd v.ls s) true).length ∧ ∀ (i : Nat) (m : Int), (salM v (abd v.ls s) false)[i]? = some m → ∃ m', (salM v (abd v.ls s) true)[i]? = some m' ∧ m' ≤ m := by
  unfold salM
  rw [slM_T, slM_T]
  exact sal_mono (bet_sooner (needs_luck ho hh) (luck_bet ho.ss)) (Int.le_refl _)
theorem salM_len (v : Vg) (L : List (Cg × Int)) (g : Bool) : (salM v L g).length ≤ v.ss.length := by
  have := sal_len (slM (needsM v L g) v.ss g) v.le
  unfold salM
  simpa [slM] using this
/-- The first and the last minute over each sill that is surely passed. -/
def overM (v : Vg) (L : List (Cg × Int)) : List (Int × Int) := (salM v L true).zip (salM v L false)
theorem overM_len {v : Vg} (ho : v.Ok) {s : List Int} (hh : Held v s) : (overM v (abd v.ls s)).length = (salM v (abd v.ls s) false).length := by
  unfold overM
  have := (sal_luck ho hh).1
  simp
  omega
end Go.Proofs.Ytfcpjkofbejleaa

/-! Sail. -/
namespace Go.Proofs.Ytfcpjkofbejleaa
open Go Go.RowKit
theorem zip_take2 {α β : Type} (a : List α) (b : List β) {k : Nat} (h1 : k < a.length) (h2 : k < b.length) : (a.zip b).take (k + 1) = (a.zip b).take k ++ [(a[k], b[k])] := by
  rw [List.take_succ_eq_append_getElem (by simp; omega), List.getElem_zip]
theorem own_down {w : World} {b b' : Nat} {e : TypeId} {s : Nat} {v : Value} {n : Nat} {xs : List Value} (h : w.ownsRow b e s v n xs) (hb : b' ≤ b) : w.ownsRow b' e s v n xs := by
  refine ⟨h.1, ?_⟩
  rcases h.2 with h2 | ⟨g, cap, cur, h1, h2, h3⟩
  · exact .inl h2
  · exact .inr ⟨g, cap, cur, h1, by omega, h3⟩
theorem info41 : (Try.prog.info? 41).map (fun i => (i.zero, i.size, i.bytes)) = some (some (.agg #[.int .i64 0, .int .i64 0]), 2, 16) := by kernel_rfl
set_option maxRecDepth 100000 in
set_option maxHeartbeats 4000000 in
theorem sail33_any (v : Vg) (p : Vp) (A : Option Addr) (sn sc : Nat) (s : List Int) (w : World) (hF : p.Fit) (hLF : LvFit v) (hV : VoyAt w w.heap.size v p) (hS0 : Sl w w.heap.size 1 A (inr s)) (hl : s.length = sn) (hsn : sn ≤ 1000000) :
    Calls Try.prog 33 #[.agg (vcs v p), .slice A sn sc] w fun e w' => (if ckSt v s = 0 then ∃ X x, e = .returned (.tuple #[.int .i64 (verdM v.ss.length (salM v (abd v.ls s) true).length (salM v (abd v.ls s) false).length), .slice X (overM v (abd v.ls s)).length x, .int .i64 0]) ∧ w'.ownsRow w.heap.size 41 2 (.slice X (overM v (abd v.ls s)).length x) (overM v (abd v.ls s)).length (gnr (overM v (abd v.ls s))).flatten else e = .returned (.tuple #[.int .i64 0, .slice none 0 0, .int .i64 (ckSt v s)])) ∧ Below w.heap.size w w' := by
  have k0 := Bx.new w 26 (vcs v p)
  have B0 := (Below.refl w.heap.size w).alloc (Nat.le_refl _) (.cells (vcs v p) 26)
  have HL := Lib.hid hl
  obtain ⟨E, hE⟩ : ∃ E, ckSt v s = E := ⟨_, rfl⟩
  have HE := Lib.hid hE
  rw [vcs_def] at k0 B0 ⊢
  obtain ⟨V, hVV⟩ : ∃ V, w.alloc (.cells #[.int .i64 v.li, .int .i64 v.un, .int .i64 v.tr, .slice p.HA p.hn p.hc, .int .i64 v.le, .slice p.SA p.sn p.sc, .slice p.LA p.ln p.lc] 26) = V := ⟨_, rfl⟩
  rw [hVV] at k0 B0
  have HVV := Lib.hid hVV
  clear hVV
  obtain ⟨c0, c1, c2, c3, c4, c5, c6, cf, cz⟩ := k0.seven
  rw [hE]
  by_cases hz : E = 0
  case neg =>
    have hz1 : (E != 0) = true := by simpa using hz
    simp only [if_neg hz]
    clear hE hl
    go_enter Try.func33, Try.ntmps33
    go_wp2_with (first
      | (go_at_call 29; rw [HVV.out]; refine (checkStowage_any v p A sn sc s V hF hLF (hV.call B0) (hS0.call B0) HL.out hsn).mono ?_; rintro e w_1 ⟨rfl, hb_1⟩; rw [HE.out]; have B_1 := B0.trans (hb_1.mono B0.size))
      | fail)
    exact bodyPost_ret (v := .tuple #[.int .i64 0, .slice none 0 0, .int .i64 E]) (by simp [results, Try.results33, go_sem]) rfl ⟨rfl, B_1⟩
  subst hz
  have hok := ckSt_ok hE
  have ho := hok.ok
  have hh := inH_held hok.inh
  have hlp : sn ≤ p.ln := by rw [← hV.ll, ← hl, hok.len]; exact Nat.le_refl _
  have hgb := deep_bd ho hh true (fun x hx => hx) (abd_six ho s)
  have hbb := deep_bd ho hh false (fun x hx => hx) (abd_six ho s)
  have hluck := sal_luck ho hh
  have hlen1 := salM_len v (abd v.ls s) true
  have hs4 := ho.s4
  simp only [if_pos (rfl : (0 : Int) = 0)]
  obtain ⟨g0, hg0⟩ : ∃ x, deepB v (abd v.ls s) true = x := ⟨_, rfl⟩
  obtain ⟨g1, hg1⟩ : ∃ x, deepS v (abd v.ls s) true = x := ⟨_, rfl⟩
  obtain ⟨b0, hb0⟩ : ∃ x, deepB v (abd v.ls s) false = x := ⟨_, rfl⟩
  obtain ⟨b1, hb1⟩ : ∃ x, deepS v (abd v.ls s) false = x := ⟨_, rfl⟩
  rw [hg0, hg1] at hgb
  rw [hb0, hb1] at hbb
  replace hgb : (0 ≤ g0 ∧ g0 ≤ 305000000) ∧ (0 ≤ g1 ∧ g1 ≤ 305000000) := by omega
  replace hbb : (0 ≤ b0 ∧ b0 ≤ 305000000) ∧ (0 ≤ b1 ∧ b1 ≤ 305000000) := by omega
  unfold overM
  obtain ⟨SG, hSG⟩ : ∃ x, salM v (abd v.ls s) true = x := ⟨_, rfl⟩
  obtain ⟨SB, hSB⟩ : ∃ x, salM v (abd v.ls s) false = x := ⟨_, rfl⟩
  have HSG : Hid (sal (slM (max g0 g1 + 1000 * v.un) v.ss true) v.le = SG) := Lib.hid (by rw [← hSG, ← hg0, ← hg1]; rfl)
  have HSB : Hid (sal (slM (max b0 b1 + 1000 * v.un) v.ss false) v.le = SB) := Lib.hid (by rw [← hSB, ← hb0, ← hb1]; rfl)
  rw [hSG, hSB] at hluck ⊢
  rw [hSG] at hlen1
  obtain ⟨n1, hn1⟩ : ∃ x, SG.length = x := ⟨_, rfl⟩
  obtain ⟨n2, hn2⟩ : ∃ x, SB.length = x := ⟨_, rfl⟩
  have hzl : (SG.zip SB).length = n2 := by simp; omega
  rw [hn1, hn2] at hluck
  rw [hn1] at hlen1
  rw [hn1, hn2, hzl, hV.sl]
  have hn12 := hluck.1
  have hn4 : n1 ≤ 4 := by omega
  have HN1 := Lib.hid hn1
  have HN2 := Lib.hid hn2
  have HG0 := Lib.hid hg0
  have HG1 := Lib.hid hg1
  have HB0 := Lib.hid hb0
  have HB1 := Lib.hid hb1
  have hsn4 : p.sn ≤ 4 := by rw [← hV.sl]; exact hs4
  obtain ⟨vd, hvd⟩ : ∃ x, verdM p.sn n1 n2 = x := ⟨_, rfl⟩
  have HVD := Lib.hid hvd
  rw [hvd]
  obtain ⟨i41, hi41, hz41, hs41, iy41⟩ := info_parts info41
  clear hE hl hok hSG hSB hg0 hg1 hb0 hb1 hn1 hn2 hluck hlen1 hzl hvd
  go_enter Try.func33, Try.ntmps33
  go_wp2_with (first
    | (go_at_call 29; rw [HVV.out]; refine (checkStowage_any v p A sn sc s V hF hLF (hV.call B0) (hS0.call B0) HL.out hsn).mono ?_; rintro e w_1 ⟨rfl, hb_1⟩; rw [HE.out]; have k_1 := k0.call hb_1; have B_1 := B0.trans (hb_1.mono B0.size))
    | fail)
  clear k0 B0 hb_1 HVV c0 c1 c2 c3 c4 c5 c6 cf cz
  refine AnyG.startC (by kernel_rfl) ?_
  refine AnyG.takeP (i := 1) (v := ?_) rfl (by kernel_rfl) (fun _ _ _ h => h) rfl ?_ ?_
  rotate_left
  · (intro w'; go_simp; try with_reducible rfl)
  try simp only [Act.put, List.getElem_toArray, List.getElem_cons_succ, List.getElem_cons_zero, List.setIfInBounds_toArray, List.set_cons_zero, List.set_cons_succ]
  refine AnyG.takeP (i := 5) (v := ?_) rfl (by kernel_rfl) (fun _ _ _ h => h) rfl ?_ ?_
  rotate_left
  · (intro w'; go_simp; try with_reducible rfl)
  try simp only [Act.put, List.getElem_toArray, List.getElem_cons_succ, List.getElem_cons_zero, List.setIfInBounds_toArray, List.set_cons_zero, List.set_cons_succ]
  refine AnyG.enter (fun w' : World => Bx w' w.heap.size 26 #[.int .i64 v.li, .int .i64 v.un, .int .i64 v.tr, .slice p.HA p.hn p.hc, .int .i64 v.le, .slice p.SA p.sn p.sc, .slice p.LA p.ln p.lc] ∧ Below w.heap.size w w') (fun i => true) ?_
  have hS : (fun w' : World => Bx w' w.heap.size 26 #[.int .i64 v.li, .int .i64 v.un, .int .i64 v.tr, .slice p.HA p.hn p.hc, .int .i64 v.le, .slice p.SA p.sn p.sc, .slice p.LA p.ln p.lc] ∧ Below w.heap.size w w') (World.drew _) := ⟨k_1.drew, B_1.drew⟩
  refine AnyG.takeC (i := 0) (v := ?_) rfl (by kernel_rfl) (fun _ _ _ h => h) rfl ?_ hS ?_
  rotate_left
  · (intro w' hSw; (try dsimp only at hSw); obtain ⟨x0, x1, x2, x3, x4, x5, x6, xf, xz⟩ := hSw.1.seven; go_simp; try with_reducible rfl)
  try simp only [Act.put, List.getElem_toArray, List.getElem_cons_succ, List.getElem_cons_zero, List.setIfInBounds_toArray, List.set_cons_zero, List.set_cons_succ]
  refine AnyG.takeC (i := 4) (v := ?_) rfl (by kernel_rfl) (fun _ _ _ h => h) rfl ?_ hS ?_
  rotate_left
  · (intro w' hSw; (try dsimp only at hSw); obtain ⟨x0, x1, x2, x3, x4, x5, x6, xf, xz⟩ := hSw.1.seven; go_simp; try with_reducible rfl)
  try simp only [Act.put, List.getElem_toArray, List.getElem_cons_succ, List.getElem_cons_zero, List.setIfInBounds_toArray, List.set_cons_zero, List.set_cons_succ]
  refine AnyG.one (i := 2) (by kernel_rfl) rfl rfl ?_
  go_simp
  refine (load_any v p A sn sc s true _ ho (hV.call hS.2) (hS0.call hS.2) HL.out hlp hh).mono ?_
  rintro e2 y2 ⟨rfl, hb2⟩
  rw [HG0.out, HG1.out]
  refine Onward.on ⟨hS.1.call hb2, hS.2.trans (hb2.mono hS.2.size)⟩ (fun hS2 => ?_)
  clear hS
  have hS := hS2
  clear hS2
  try simp only [Act.put, List.getElem_toArray, List.getElem_cons_succ, List.getElem_cons_zero, List.setIfInBounds_toArray, List.set_cons_zero, List.set_cons_succ]
  refine AnyG.one (i := 3) (by kernel_rfl) rfl rfl ?_
  go_simp
  refine (sail_any v p true g0 g1 _ ho (hV.call hS.2) hgb.1 hgb.2).mono ?_
  rintro e3 y3 ⟨⟨X1, c1, rfl, O1⟩, hb3⟩
  rw [HSG.out] at O1 ⊢
  rw [HN1.out] at O1 ⊢
  have R1 := own_inr O1 HN1.out
  refine Onward.on ⟨hS.1.call hb3, hS.2.trans (hb3.mono hS.2.size)⟩ (fun hS2 => ?_)
  clear hS
  have hS := hS2
  clear hS2
  try simp only [Act.put, List.getElem_toArray, List.getElem_cons_succ, List.getElem_cons_zero, List.setIfInBounds_toArray, List.set_cons_zero, List.set_cons_succ]
  refine AnyG.one (i := 6) (by kernel_rfl) rfl rfl ?_
  go_simp
  refine (load_any v p A sn sc s false _ ho (hV.call hS.2) (hS0.call hS.2) HL.out hlp hh).mono ?_
  rintro e6 y6 ⟨rfl, hb6⟩
  rw [HB0.out, HB1.out]
  have R1 := R1.call hb6
  refine Onward.on ⟨hS.1.call hb6, hS.2.trans (hb6.mono hS.2.size)⟩ (fun hS2 => ?_)
  clear hS
  have hS := hS2
  clear hS2
  try simp only [Act.put, List.getElem_toArray, List.getElem_cons_succ, List.getElem_cons_zero, List.setIfInBounds_toArray, List.set_cons_zero, List.set_cons_succ]
  refine AnyG.one (i := 7) (by kernel_rfl) rfl rfl ?_
  go_simp
  refine (sail_any v p false b0 b1 _ ho (hV.call hS.2) hbb.1 hbb.2).mono ?_
  rintro e7 y7 ⟨⟨X2, c2, rfl, O2⟩, hb7⟩
  rw [HSB.out] at O2 ⊢
  rw [HN2.out] at O2 ⊢
  have R2 := own_inr O2 HN2.out
  have R1 := R1.call hb7
  refine Onward.on ⟨hS.1.call hb7, hS.2.trans (hb7.mono hS.2.size)⟩ (fun hS2 => ?_)
  clear hS
  have hS := hS2
  clear hS2
  try simp only [Act.put, List.getElem_toArray, List.getElem_cons_succ, List.getElem_cons_zero, List.setIfInBounds_toArray, List.set_cons_zero, List.set_cons_succ]
  refine AnyG.one (i := 8) (by kernel_rfl) rfl rfl ?_
  go_simp
  refine Onward.on hS (fun hS2 => ?_)
  clear hS
  have hS := hS2
  clear hS2
  try simp only [Act.put, List.getElem_toArray, List.getElem_cons_succ, List.getElem_cons_zero, List.setIfInBounds_toArray, List.set_cons_zero, List.set_cons_succ]
  refine AnyG.one (i := 9) (by kernel_rfl) rfl rfl ?_
  go_simp
  refine Onward.on hS (fun hS2 => ?_)
  clear hS
  have hS := hS2
  clear hS2
  try simp only [Act.put, List.getElem_toArray, List.getElem_cons_succ, List.getElem_cons_zero, List.setIfInBounds_toArray, List.set_cons_zero, List.set_cons_succ]
  refine AnyG.done (by kernel_rfl) ?_ _
  obtain ⟨Y, hY⟩ : ∃ X, y7 = X := ⟨_, rfl⟩
  rw [hY] at R1 R2 hS
  rw [hY]
  have kY := hS.1
  have hBY := hS.2
  have hYs := hBY.size
  clear hS hY hb2 hb3 hb6 hb7 O1 O2 k_1 B_1
  go_wp2_with fail
  go_loopw [5, 28] (fun ov iv wr => ∃ (k : Nat) (X : Option Addr) (x : Nat), iv = .int .i64 k ∧ k ≤ n2 ∧ ov = .slice X k x ∧ wr.ownsRow Y.heap.size 41 2 (.slice X k x) k (gnr ((SG.zip SB).take k)).flatten ∧ Below Y.heap.size Y wr) (fun _ iv _ => n2 - (intOf iv).toNat)
  case atStart => exact ⟨0, none, 0, rfl, by omega, rfl, by rw [List.take_zero]; exact World.ownsRow_nil _ _ _ _, Below.refl _ _⟩
  case round =>
    obtain ⟨k, X, x, rfl, hk, rfl, OO, hYr⟩ := hrel
    have hYrs := hYr.size
    by_cases hkn : k < n2
    · have h1 : k < SG.length := by rw [HN1.out]; omega
      have h2 : k < SB.length := by rw [HN2.out]; omega
      obtain ⟨a1, hX1, _, m1⟩ := inr_at (R1.call hYr) h1
      obtain ⟨a2, hX2, _, m2⟩ := inr_at (R2.call hYr) h2
      have HZ := Lib.hid (zip_take2 SG SB h1 h2)
      generalize SG[k] = f at *
      generalize SB[k] = l at *
      have hkn1 : k < n1 := by omega
      have hkw : IntKind.i64.wrap ((k : Int) + 1) = (k : Int) + 1 := IntWalk.i64_in _ (by omega)
      subst hX1 hX2
      have O2 := own_bel OO ((Below.refl wr.heap.size wr).alloc (Nat.le_refl _) (.cells #[.int .i64 f, .int .i64 l] 41))
      have kn := Bx.at wr 41 #[.int .i64 f, .int .i64 l] rfl
      have hW := hBY.trans (hYr.mono hYs)
      clear R1 R2
      go_wp2_with (first
        | (at_builtin; refine wpList_append_own _ rfl (.tmp 33) (.tmp 40) 52 rfl Y.heap.size 41 i41 _ 2 16 Try.underlying52 hi41 hz41 hs41 iy41 rfl (by decide) (.slice X k x) k (gnr ((SG.zip SB).take k)).flatten rfl O2 ⟨wr.heap.size, 0, none⟩ 1 1 [.int .i64 f, .int .i64 l] rfl rfl (bx_news kn) (by simp [Value.oneCell']) (by unfold maxLen; omega) (by omega) (by simp; omega) ?_; intro v' w' o1 o2 o3; obtain ⟨X', x', rfl⟩ := own_shape o1)
        | fail)
      go_roundw
      case rel =>
        refine ⟨k + 1, X', x', by go_num, by omega, rfl, ?_, ((hYr.alloc hYrs (.cells #[.int .i64 f, .int .i64 l] 41))).grown o2 (by simp; omega) (fun q e => (O2.lt q e).1)⟩
        rw [HZ.out, gnr_snoc]; exact o1
      case measure => simp [intOf]; omega
    · obtain rfl : k = n2 := by omega
      have hW := hBY.trans (hYr.mono hYs)
      have OD := own_down OO hYs
      rw [List.take_of_length_le (by simp [HN1.out, HN2.out]; omega)] at OD
      obtain ⟨c0, c1, c2, c3, c4, c5, c6, cf, cz⟩ := (kY.call hYr).seven
      clear R1 R2
      go_wp2_with (first | (go_at_call 73; refine (verdictOf_any p.sn n1 k _).mono ?_; rintro e w3 ⟨rfl, hb3⟩; rw [HVD.out]) | fail)
      exact bodyPost_ret (v := .tuple #[.int .i64 vd, .slice X k x, .int .i64 0]) (by simp [results, Try.results33, go_sem]) rfl ⟨⟨X, x, rfl, own_bel OD hb3⟩, hW.trans (hb3.mono hW.size)⟩
end Go.Proofs.Ytfcpjkofbejleaa

/-! Mathematics of layer 7: truths. -/
namespace Go.Proofs.Ytfcpjkofbejleaa
open Go Go.RowKit
/-! Truths: what lots truly weigh, how long ways truly take, how deep the water truly is. -/
structure Tru where
  (ts ws : List Int)
  (ds : List (List Int))
structure TruOk (v : Vg) (x : Tru) : Prop where
  tl : x.ts.length = v.ls.length
  t : ∀ (i : Nat) (c : Cg) (n : Int), v.ls[i]? = some c → x.ts[i]? = some n → c.t0 ≤ n ∧ n ≤ c.t1
  wl : x.ws.length = v.ss.length
  w : ∀ (i : Nat) (s : Si) (n : Int), v.ss[i]? = some s → x.ws[i]? = some n → s.t0 ≤ n ∧ n ≤ s.t1
  dl : x.ds.length = v.ss.length
  d : ∀ (i : Nat) (s : Si) (r : List Int), v.ss[i]? = some s → x.ds[i]? = some r → r.length = s.lv.length ∧ ∀ (k : Nat) (l : Lv) (n : Int), s.lv[k]? = some l → r[k]? = some n → l.d0 ≤ n ∧ n ≤ l.d1
/-- What the tonnes of lots come to, hold by hold. -/
def trS (f : Int → Hd → Int) (hs : List Hd) (Z : List (Int × Int)) : Int := (Z.map fun p => if 0 ≤ p.2 then f p.1 (hd hs p.2) else 0).sum
theorem trS_take (f : Int → Hd → Int) (hs : List Hd) (Z : List (Int × Int)) {k : Nat} (hk : k < Z.length) : trS f hs (Z.take (k + 1)) = trS f hs (Z.take k) + (if 0 ≤ Z[k].2 then f Z[k].1 (hd hs Z[k].2) else 0) := by
  unfold trS
  rw [List.take_succ_eq_append_getElem hk, List.map_append, List.sum_append]
  simp only [List.map_cons, List.map_nil, List.sum_cons, List.sum_nil, Int.add_zero]
theorem trS_sub (f g : Int → Hd → Int) (hs : List Hd) (Z : List (Int × Int)) : trS f hs Z - trS g hs Z = trS (fun n h => f n h - g n h) hs Z := by
  unfold trS
  induction Z with
  | nil => rfl
  | cons p r ih =>
    simp only [List.map_cons, List.sum_cons]
    rw [← ih]
    split <;> omega
/-- Sums over what is truly so lie between sums over the ends. -/
theorem trS_between {hs : List Hd} {lo hi : Cg → Hd → Int} {f : Int → Hd → Int} : ∀ {ls : List Cg} {ts s : List Int}, ts.length = ls.length → s.length = ls.length → (∀ h ∈ s, -1 ≤ h) → (∀ (i : Nat) (c : Cg) (n : Int), ls[i]? = some c → ts[i]? = some n → c.t0 ≤ n ∧ n ≤ c.t1) →
    (∀ c ∈ ls, ∀ h ∈ s, 0 ≤ h → ∀ n, c.t0 ≤ n → n ≤ c.t1 → lo c (hd hs h) ≤ f n (hd hs h) ∧ f n (hd hs h) ≤ hi c (hd hs h)) →
    ((abd ls s).map fun p => lo p.1 (hd hs p.2)).sum ≤ trS f hs (ts.zip s) ∧ trS f hs (ts.zip s) ≤ ((abd ls s).map fun p => hi p.1 (hd hs p.2)).sum
  | [], ts, s, h1, h2, _, _, _ => by
    obtain rfl := List.eq_nil_of_length_eq_zero h1
    obtain rfl := List.eq_nil_of_length_eq_zero h2
    simp [abd, trS]
  | c :: ls, ts, s, h1, h2, h3, h4, h5 => by
    cases ts with
    | nil => simp at h1
    | cons n ts =>
    cases s with
    | nil => simp at h2
    | cons x s =>
    have ih := trS_between (hs := hs) (lo := lo) (hi := hi) (f := f) (ls := ls) (ts := ts) (s := s) (by simpa using h1) (by simpa using h2) (fun h hh => h3 h (by simp [hh])) (fun i c n a b => h4 (i + 1) c n (by simpa using a) (by simpa using b)) (fun c hc h hh => h5 c (by simp [hc]) h (by simp [hh]))
    have hx := h3 x (by simp)
    have hn := h4 0 c n rfl rfl
    unfold trS at ih ⊢
    unfold abd at ih ⊢
    simp only [List.zip_cons_cons, List.map_cons, List.sum_cons]
    by_cases e : x = -1
    · rw [List.filter_cons_of_neg (by simpa using e), if_neg (by omega)]
      omega
    · have k := h5 c (by simp) x (by simp) (by omega) n hn.1 hn.2
      rw [List.filter_cons_of_pos (by simpa using e), if_pos (by omega)]
      simp only [List.map_cons, List.sum_cons]
      omega
def trB (v : Vg) (x : Tru) (s : List Int) : Int := 1000 * v.li + trS (fun n h => n * h.bw) v.hs (x.ts.zip s)
def trT (v : Vg) (x : Tru) (s : List Int) : Int := 1000 * v.li + trS (fun n h => n * h.st) v.hs (x.ts.zip s)
theorem st_hd {v : Vg} {s : List Int} (h : StOk v s) {x : Int} (hx : x ∈ s) (h0 : 0 ≤ x) : (hd v.hs x).Ok := by
  have := h.inh x hx
  exact hd_ok h.ok (k := x.toNat) (by omega) (by omega)
theorem trB_in {v : Vg} {x : Tru} {s : List Int} (h : StOk v s) (hx : TruOk v x) : deepB v (abd v.ls s) true ≤ trB v x s ∧ trB v x s ≤ deepB v (abd v.ls s) false := by
  have := trS_between (hs := v.hs) (lo := fun c h => ton true c * h.bw) (hi := fun c h => ton false c * h.bw) (f := fun n h => n * h.bw) hx.tl h.len (fun y hy => (h.inh y hy).1) hx.t (fun c hc y hy h0 n h1 h2 => ⟨Int.mul_le_mul_of_nonneg_right h1 (st_hd h hy h0).bw.1, Int.mul_le_mul_of_nonneg_right h2 (st_hd h hy h0).bw.1⟩)
  unfold trB deepB
  omega
theorem trT_in {v : Vg} {x : Tru} {s : List Int} (h : StOk v s) (hx : TruOk v x) : deepS v (abd v.ls s) true ≤ trT v x s ∧ trT v x s ≤ deepS v (abd v.ls s) false := by
  have := trS_between (hs := v.hs) (lo := fun c h => ton true c * h.st) (hi := fun c h => ton false c * h.st) (f := fun n h => n * h.st) hx.tl h.len (fun y hy => (h.inh y hy).1) hx.t (fun c hc y hy h0 n h1 h2 => ⟨Int.mul_le_mul_of_nonneg_right h1 (st_hd h hy h0).st.1, Int.mul_le_mul_of_nonneg_right h2 (st_hd h hy h0).st.1⟩)
  unfold trT deepS
  omega
theorem tms_btw {a b n m : Int} (h1 : a ≤ m) (h2 : m ≤ b) : (tms a b n).1 ≤ m * n ∧ m * n ≤ (tms a b n).2 := by
  unfold tms
  split
  · rename_i hn
    exact ⟨Int.mul_le_mul_of_nonpos_right h2 (by omega), Int.mul_le_mul_of_nonpos_right h1 (by omega)⟩
  · exact ⟨Int.mul_le_mul_of_nonneg_right h1 (by omega), Int.mul_le_mul_of_nonneg_right h2 (by omega)⟩
theorem tilt_in {v : Vg} {x : Tru} {s : List Int} (h : StOk v s) (hx : TruOk v x) : (tiltP v.hs (abd v.ls s)).1 ≤ trB v x s - trT v x s ∧ trB v x s - trT v x s ≤ (tiltP v.hs (abd v.ls s)).2 := by
  have := trS_between (hs := v.hs) (lo := fun c h => (tms c.t0 c.t1 (h.bw - h.st)).1) (hi := fun c h => (tms c.t0 c.t1 (h.bw - h.st)).2) (f := fun n h => n * h.bw - n * h.st) hx.tl h.len (fun y hy => (h.inh y hy).1) hx.t (fun c hc y hy h0 n h1 h2 => by
    rw [← Int.mul_sub]
    exact tms_btw h1 h2)
  have e := trS_sub (fun n h => n * h.bw) (fun n h => n * h.st) v.hs (x.ts.zip s)
  unfold trB trT tiltP
  omega
/-- The sills with what is truly so. -/
def truS (v : Vg) (x : Tru) : List (Int × List (Int × Int)) := (x.ws.zip (v.ss.zip x.ds)).map fun p => (p.1, (p.2.1.lv.map Lv.fr).zip p.2.2)
theorem bet_lv {lv : List Lv} {r : List Int} (hl : r.length = lv.length) (h : ∀ (k : Nat) (l : Lv) (n : Int), lv[k]? = some l → r[k]? = some n → l.d0 ≤ n ∧ n ≤ l.d1) (g : Bool) : (lvL lv g).length = ((lv.map Lv.fr).zip r).length ∧ ∀ (i : Nat) (x y : Int × Int), (lvL lv g)[i]? = some x → ((lv.map Lv.fr).zip r)[i]? = some y → x.1 = y.1 ∧ (if g then y.2 ≤ x.2 else x.2 ≤ y.2) := by
  refine ⟨by simp [lvL, hl], fun i x y hx hy => ?_⟩
  unfold lvL at hx
  rw [List.getElem?_map] at hx
  rw [List.getElem?_zip_eq_some, List.getElem?_map] at hy
  obtain ⟨y1, y2⟩ := hy
  cases hl : lv[i]? with
  | none => rw [hl] at hx; cases hx
  | some l =>
    rw [hl] at hx y1
    simp only [Option.map_some, Option.some.injEq] at hx y1
    have := h i l y.2 hl y2
    subst hx
    refine ⟨y1, ?_⟩
    cases g <;> simp <;> omega
theorem tru_bet {ss : List Si} : ∀ {ws : List Int} {ds : List (List Int)}, ws.length = ss.length → ds.length = ss.length → (∀ (i : Nat) (s : Si) (n : Int), ss[i]? = some s → ws[i]? = some n → s.t0 ≤ n ∧ n ≤ s.t1) → (∀ (i : Nat) (s : Si) (r : List Int), ss[i]? = some s → ds[i]? = some r → r.length = s.lv.length ∧ ∀ (k : Nat) (l : Lv) (n : Int), s.lv[k]? = some l → r[k]? = some n → l.d0 ≤ n ∧ n ≤ l.d1) →
    Bet (lkS ss true) ((ws.zip (ss.zip ds)).map fun p => (p.1, (p.2.1.lv.map Lv.fr).zip p.2.2)) ∧ Bet ((ws.zip (ss.zip ds)).map fun p => (p.1, (p.2.1.lv.map Lv.fr).zip p.2.2)) (lkS ss false) := by
  induction ss with
  | nil =>
    intro ws ds h1 h2 _ _
    obtain rfl := List.eq_nil_of_length_eq_zero h1
    exact ⟨.nil, .nil⟩
  | cons s ss ih =>
    intro ws ds h1 h2 h3 h4
    cases ws with
    | nil => simp at h1
    | cons n ws =>
    cases ds with
    | nil => simp at h2
    | cons r ds =>
    obtain ⟨i1, i2⟩ := ih (ws := ws) (ds := ds) (by simpa using h1) (by simpa using h2) (fun i s n a b => h3 (i + 1) s n (by simpa using a) (by simpa using b)) (fun i s r a b => h4 (i + 1) s r (by simpa using a) (by simpa using b))
    have hn := h3 0 s n rfl rfl
    have hr := h4 0 s r rfl rfl
    obtain ⟨a1, a2⟩ := bet_lv hr.1 hr.2 true
    obtain ⟨b1, b2⟩ := bet_lv hr.1 hr.2 false
    exact ⟨.cons hn.1 a1 (fun i x y hx hy => by have := a2 i x y hx hy; simpa using this) i1, .cons hn.2 b1.symm (fun i x y hx hy => by have := b2 i y x hy hx; exact ⟨this.1.symm, by simpa using this.2⟩) i2⟩
/-- The minutes in which the barge truly passes. -/
def salT (v : Vg) (x : Tru) (s : List Int) : List Int := sal (slT (max (trB v x s) (trT v x s) + 1000 * v.un) (truS v x)) v.le
theorem salT_in {v : Vg} {x : Tru} {s : List Int} (h : StOk v s) (hx : TruOk v x) :
    ((salM v (abd v.ls s) false).length ≤ (salT v x s).length ∧ ∀ (i : Nat) (m : Int), (salM v (abd v.ls s) false)[i]? = some m → ∃ m', (salT v x s)[i]? = some m' ∧ m' ≤ m) ∧
    ((salT v x s).length ≤ (salM v (abd v.ls s) true).length ∧ ∀ (i : Nat) (m : Int), (salT v x s)[i]? = some m → ∃ m', (salM v (abd v.ls s) true)[i]? = some m' ∧ m' ≤ m) := by
  have hb := trB_in h hx
  have ht := trT_in h hx
  obtain ⟨b1, b2⟩ := tru_bet hx.wl hx.dl hx.w hx.d
  unfold salM salT
  rw [slM_T, slM_T]
  unfold needsM
  exact ⟨sal_mono (bet_sooner (by omega) b2) (Int.le_refl _), sal_mono (bet_sooner (by omega) b1) (Int.le_refl _)⟩
theorem truS_len {v : Vg} {x : Tru} (hx : TruOk v x) : (truS v x).length = v.ss.length := by
  unfold truS
  simp [hx.wl, hx.dl]
theorem salT_len {v : Vg} {x : Tru} (hx : TruOk v x) (s : List Int) : (salT v x s).length ≤ v.ss.length := by
  have := sal_len (slT (max (trB v x s) (trT v x s) + 1000 * v.un) (truS v x)) v.le
  unfold slT at this
  rw [List.length_map, truS_len hx] at this
  exact this
end Go.Proofs.Ytfcpjkofbejleaa

/-! swarfkit.Ints 20, sooner 47. -/
namespace Go.Proofs.Ytfcpjkofbejleaa
open Go Go.RowKit
theorem flat_len {s : Nat} : ∀ (xs : List (List Value)) (_ : ∀ r ∈ xs, r.length = s), xs.flatten.length = xs.length * s
  | [], _ => by simp
  | x :: xs, hs => by
    rw [List.flatten_cons, List.length_append, hs x (by simp), flat_len xs fun r hr => hs r (by simp [hr]), List.length_cons, Nat.succ_mul]; omega
set_option maxRecDepth 100000 in
set_option maxHeartbeats 1000000 in
theorem ints20_any (A : Option Addr) (n c : Nat) (L : List Int) (w : World) (hn : n ≤ 1000) (hl : L.length = n) (hA : Sl w w.heap.size 1 A (inr L)) :
    Calls Try.prog 20 #[.slice A n c] w fun e w' => (∃ A' c', e = .returned (.slice A' n c') ∧ w'.ownsRow w.heap.size 3 1 (.slice A' n c') n (inr L).flatten) ∧ Below w.heap.size w w' := by
  have HL := Lib.hid hl
  clear hl
  obtain ⟨i3, hi3, hz3, hs3, iy3⟩ := info_parts info3'
  have hb0 : Below w.heap.size w (w.alloc (.cells #[] 3)) := (Below.refl _ _).alloc (Nat.le_refl _) _
  have how := World.ownsRow_made (w := w) (base := w.heap.size) (e := 3) (size := 1) #[] 0 (Nat.le_refl _) (by unfold maxLen; omega) (by simp)
  have hE := Sl.below hA hb0
  cases A with
  | none =>
    have hn0 : n = 0 := by
      rcases Nat.eq_zero_or_pos n with h | h
      · exact h
      · obtain ⟨ad, h1, _⟩ := hA.at_ (k := 0) (by simp [inr]; rw [HL.out]; exact h)
        cases h1
    subst hn0
    go_enter Try.func20, Try.ntmps20
    go_wp2_with fail
    obtain rfl : L = [] := List.eq_nil_of_length_eq_zero HL.out
    go_ret
    exact ⟨⟨_, _, rfl, by simpa [inr] using how⟩, hb0⟩
  | some a =>
    have hcs := hE.cells (by decide) (inr_one L)
    have hfl : (inr L).flatten.length = n * 1 := by rw [flat_len _ (inr_one L)]; simp [inr, HL.out]
    have h1c : ∀ u ∈ (inr L).flatten, u.oneCell' = true := by
      intro u hu
      obtain ⟨r, hr, hu⟩ := List.mem_flatten.1 hu
      unfold inr at hr
      obtain ⟨x, _, rfl⟩ := List.mem_map.1 hr
      simp at hu
      rw [hu]; rfl
    obtain ⟨xs, hxs⟩ : ∃ x, (inr L).flatten = x := ⟨_, rfl⟩
    rw [hxs] at hcs hfl h1c ⊢
    clear hxs
    go_enter Try.func20, Try.ntmps20
    go_wp2_with (first
      | (at_builtin; refine wpList_append_own _ rfl (.tmp 3) (.tmp 4) 27 rfl w.heap.size 3 i3 _ 1 8 Try.underlying27 hi3 hz3 hs3 iy3 rfl (by decide) (.slice (some ⟨w.heap.size, 0, none⟩) 0 0) 0 [] rfl how a n c xs rfl hfl hcs h1c (by unfold maxLen; omega) (by omega) (by simp <;> omega) ?_; intro v' w' o1 o2 o3; obtain ⟨A', C', rfl⟩ := own_shape o1)
      | fail)
    have hB : Below w.heap.size w w' := hb0.grown o2 hb0.size (fun k e => by simp [Value.ownBlock] at e <;> omega)
    go_ret
    exact ⟨⟨_, _, rfl, by simpa using o1⟩, hB⟩
end Go.Proofs.Ytfcpjkofbejleaa
