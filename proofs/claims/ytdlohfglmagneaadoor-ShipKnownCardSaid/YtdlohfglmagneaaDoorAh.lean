/- isRoomFor. -/
import Derived.Test.YtdlohfglmagneaaDoorAg
set_option linter.unusedSimpArgs false
set_option linter.unusedVariables false
namespace Go.Proofs.YtdlohfglmagneaaDoor
open Go Go.RowKit Go.Shelf
attribute [local go_sem] Oper.semAt_some
theorem sumH_snoc (L : List (Cg × Int)) (x : Cg × Int) (h : Int) : sumH (L ++ [x]) h = sumH L h + (if x.2 = h then x.1.t1 else 0) := by
  unfold sumH
  rw [List.filter_append, List.map_append, List.sum_append]
  by_cases e : x.2 = h
  · rw [List.filter_cons_of_pos (by simpa using e), if_pos e]; simp
  · rw [List.filter_cons_of_neg (by simpa using e), if_neg e]; simp
theorem sumH_bd {L : List (Cg × Int)} (hL : ∀ x ∈ L, 0 ≤ x.1.t1 ∧ x.1.t1 ≤ 5000) (h : Int) : 0 ≤ sumH L h ∧ sumH L h ≤ L.length * 5000 := by
  induction L with
  | nil => simp [sumH]
  | cons x r ih =>
    have := ih fun y hy => hL y (by simp [hy])
    have := hL x (by simp)
    rw [sumH_cons]
    simp only [List.length_cons, Int.natCast_add, Int.natCast_one]
    split <;> omega
theorem sumH_pre {L M : List (Cg × Int)} (hM : ∀ x ∈ M, 0 ≤ x.1.t1) (h : L <+: M) (k : Int) : sumH L k ≤ sumH M k := by
  obtain ⟨t, rfl⟩ := h
  induction t generalizing L with
  | nil => simp
  | cons x t ih =>
    have := ih (L := L ++ [x]) (by simpa using hM)
    rw [sumH_snoc] at this
    have := hM x (by simp)
    rw [show L ++ x :: t = L ++ [x] ++ t by simp]
    split at * <;> omega
theorem keeps_bx {B b t : Nat} {cs : Array Value} {W U : World} (hg : W.grownBy U (some b)) (hx : Bx W b t cs) : KeepsFrom B W U := ⟨hg.size, fun k o hk h0 ho => by
  refine (hg.block k (Array.getElem?_eq_some_iff.1 h0).1 fun e => ?_).trans h0
  obtain rfl : k = b := by simpa using e
  rw [show W.heap[k]? = _ from hx] at h0
  cases h0
  cases ho⟩
def e3 (f : Int → Int) : Array Value := #[.int .i64 (f 0), .int .i64 (f 1), .int .i64 (f 2)]
theorem e3_at (f : Int → Int) {k : Nat} (hk : k < 3) : (e3 f)[k]? = some (.int .i64 (f k)) := by
  rcases (show k = 0 ∨ k = 1 ∨ k = 2 by omega) with rfl | rfl | rfl <;> rfl
theorem e3_set (f g : Int → Int) {k : Nat} (hk : k < 3) {z : Int} (hz : z = g k) (hg : ∀ j : Int, j ≠ k → g j = f j) : (e3 f).setIfInBounds k (.int .i64 z) = e3 g := by
  subst hz
  rcases (show k = 0 ∨ k = 1 ∨ k = 2 by omega) with rfl | rfl | rfl
  · simp [e3, hg 1 (by omega), hg 2 (by omega)]
  · simp [e3, hg 0 (by omega), hg 2 (by omega)]
  · simp [e3, hg 0 (by omega), hg 1 (by omega)]
attribute [irreducible] e3
set_option maxRecDepth 100000 in
set_option maxHeartbeats 4000000 in
theorem isRoomFor_any (v : Vg) (p : Vp) (A : Option Addr) (sn sc : Nat) (s : List Int) (w : World) (ho : v.Ok) (hV : VoyAt w w.heap.size v p) (hS : Sl w w.heap.size 1 A (inr s)) (hl : s.length = sn) (hsn : sn ≤ p.ln) (hh : Held v s) :
    Calls Tryd.prog 21 #[.agg (vcs v p), .slice A sn sc] w fun e w' => e = .returned (.bool (roomOk v.hs (abd v.ls s))) ∧ Below w.heap.size w w' := by
  have h6 := ho.l6
  have hh3 := ho.h3
  have hln6 : p.ln ≤ 6 := by rw [← hV.ll]; exact h6
  have k3 := ((Bx.at w 26 (vcs v p) rfl).alloc (.cells #[.bool false] 4)).alloc (.cells #[.int .i64 0, .int .i64 0, .int .i64 0] 93)
  have k6 := (Bx.at (w.alloc (.cells (vcs v p) 26)) 4 #[.bool false] (n := w.heap.size + 1) (by simp)).alloc (.cells #[.int .i64 0, .int .i64 0, .int .i64 0] 93)
  have k7 := Bx.at ((w.alloc (.cells (vcs v p) 26)).alloc (.cells #[.bool false] 4)) 93 #[.int .i64 0, .int .i64 0, .int .i64 0] (n := w.heap.size + 1 + 1) (by simp)
  have B0 := (((Below.refl w.heap.size w).alloc (Nat.le_refl _) (.cells (vcs v p) 26)).alloc (by simp) (.cells #[.bool false] 4)).alloc (by simp; omega) (.cells #[.int .i64 0, .int .i64 0, .int .i64 0] 93)
  rw [vcs_def] at k3 k6 k7 B0
  obtain ⟨V, hVV⟩ : ∃ V, ((w.alloc (.cells #[.int .i64 v.li, .int .i64 v.un, .int .i64 v.tr, .slice p.HA p.hn p.hc, .int .i64 v.le, .slice p.SA p.sn p.sc, .slice p.LA p.ln p.lc] 26)).alloc (.cells #[.bool false] 4)).alloc (.cells #[.int .i64 0, .int .i64 0, .int .i64 0] 93) = V := ⟨_, rfl⟩
  rw [hVV] at k3 k6 k7 B0
  have HVV := Lib.hid hVV
  clear hVV
  refine (callsIn_wide (n := 5)).1 ?_
  refine callsIn_of_wp_marks Tryd.func21 rfl trivial ?_ rfl
  refine wpIn_wide.2 ?_
  simp only [vcs_def, Tryd.ntmps21, List.size_toArray, List.length_cons, List.length_nil, Nat.reduceAdd, Nat.reduceSub, Array.replicate_succ, Array.replicate_zero, List.push_toArray, List.append_toArray, List.nil_append, List.cons_append]
  go_wp2_with (first
    | (go_at_call 39; rw [HVV.out]; refine (aboard_any v p A sn sc V).mono ?_; rintro e w1 ⟨⟨gs, gv, rfl, kgs, kgv, hgs, hgv⟩, hb⟩)
    | fail)
  have h7 := k7.lt
  have k3' := k3.call hb
  have k6' := k6.call hb
  have k7' := k7.call hb
  have h71 := k7'.lt
  have k70 : Bx w1 (w.heap.size + 1 + 1) 93 (e3 (sumH [])) := by unfold e3; exact k7'
  have hB1 := B0.trans (hb.mono (by omega))
  have hV1 := hV.below hB1
  have hS1 := hS.below hB1
  clear k3 k6 k7 B0 hV hS hb HVV
  refine (wpIn_wide (n := 5)).1 ?_
  refine range_abP (n := 5) (by omega) (w.heap.size + 1 + 1) 93 gs gv w.heap.size v p A sn sc s rfl kgs kgv hV1 hS1 (by omega) (by omega) (by omega) (by omega) hsn hl (fun L => e3 (sumH L)) (fun L => ∀ k : Nat, k < v.hs.length → sumH L k ≤ (hd v.hs k).rm) k70 ?pu rfl
    (fun pre W => (Bx W (w.heap.size + 1) 4 #[.bool false] ∧ Below w.heap.size w W) ∧ ∃ k : Nat, k < v.hs.length ∧ (hd v.hs k).rm < sumH (pre.map (·.1)) k)
    (OwnFrom.and (OwnFrom.and (Own.from (bx_own _ _ (fun _ => #[.bool false])) _) (ownFrom_below (Nat.le_refl _) (by omega))) (ownFrom_pure _ _)) ?Fr ?assign ?body ?done ?stop
  case pu =>
    intro k hk
    have := (hd_ok ho (x := k) rfl hk).rm
    simp [sumH]; omega
  case assign =>
    rintro l x W K hK
    obtain ⟨b8, hb8⟩ : ∃ b, W.heap.size = b := ⟨_, rfl⟩
    dsimp only [cgv]
    gi_wp2
    exact hK b8 _ hb8 ((Below.refl _ _).alloc (Nat.le_refl _) _) (Bx.at W 53 _ hb8.symm)
  case body =>
    rintro l pre x b8 W hl ⟨r, hr⟩ hgr k7 hpu h8 hx hlen
    obtain ⟨kk, hxk, hkk, hget⟩ := held_hd hh x.2
    have hHs := (KeepC.grown hgr).sl hV1.hs (by omega)
    obtain ⟨ad, hHA, hadb, z0, z1, z2⟩ := hd_at hHs hkk
    rw [hget hkk] at z0 z1 z2
    have kv := k3'.grown hgr (by simp <;> omega)
    have kb := k6'.grown hgr (by simp <;> omega)
    rw [hHA] at kv
    have hLm : ∀ y ∈ pre.map (·.1) ++ [x.1], y ∈ abd v.ls s := by
      intro y hy
      rcases List.mem_append.1 hy with hy | hy
      · obtain ⟨q, _, rfl⟩ := List.mem_map.1 hy; exact q.2
      · obtain rfl := List.mem_singleton.1 hy; exact x.2
    have hN := abd_six ho s
    have hlb : ∀ y ∈ pre.map (·.1) ++ [x.1], 0 ≤ y.1.t1 ∧ y.1.t1 ≤ 5000 := fun y hy => by
      have c := ho.ls _ (abd_mem (hLm y hy)).1
      have := c.t0; have := c.t01; have := c.t1
      omega
    have hbd0 := sumH_bd (L := pre.map (·.1)) (fun y hy => hlb y (List.mem_append_left _ hy)) (kk : Int)
    have hcb := hlb x.1 (by simp)
    have hpl : (pre.map (·.1)).length ≤ 6 := by simp; omega
    have hsn2 : ∀ h : Int, sumH ((pre ++ [x]).map (·.1)) h = sumH (pre.map (·.1)) h + (if x.1.2 = h then x.1.1.t1 else 0) := fun h => by rw [List.map_append]; exact sumH_snoc _ _ h
    obtain ⟨M, hM⟩ : ∃ M, (pre ++ [x]).map (·.1) = M := ⟨_, rfl⟩
    rw [hM] at hsn2
    rw [hM]
    obtain ⟨f, hf⟩ : ∃ f, sumH (pre.map (·.1)) = f := ⟨_, rfl⟩
    rw [hf] at k7 hbd0 hsn2 hpu
    obtain ⟨H, hH⟩ : ∃ P, hd v.hs x.1.2 = P := ⟨_, rfl⟩
    rw [hH] at z0 z1 z2
    have hHk : hd v.hs kk = H := by rw [← hxk]; exact hH
    rw [hxk] at hsn2
    have hk3 : kk < 3 := by omega
    have hk3i : (kk : Int) < 3 := by omega
    have hq := e3_at f hk3
    have hE2 := e3_set f (sumH M) hk3 (z := f kk + x.1.1.t1) (by rw [hsn2, if_pos rfl]) (fun j hj => by rw [hsn2, if_neg (fun e => hj e.symm)]; omega)
    have hq2 := e3_at (sumH M) hk3
    rw [hsn2 kk, if_pos rfl] at hq2
    rw [hxk]
    have hlW := (Array.getElem?_eq_some_iff.1 hr).1
    have hkn : kk < p.hn := by rw [← hV1.hl]; exact hkk
    have hab : (ad.add (kk * 3)).block < w.heap.size := by rw [add_block]; exact hadb
    have w1' : IntKind.i64.wrap (f kk + x.1.1.t1) = f kk + x.1.1.t1 := IntWalk.i64_in _ (by omega)
    have HPU := Lib.hid hpu
    have HS2 := Lib.hid hsn2
    have HHk := Lib.hid hHk
    have HM := Lib.hid hM
    clear hxk hget hHs hLm hlb hf hH hr hM hpu hsn2 hHk
    refine wpIn_block ?_
    gi_wp2_with fail
    refine AnyG.startCIn (by kernel_rfl) (by kernel_rfl) (fun _ _ h => h) ?_
    refine AnyG.takeP (i := 0) (v := ?_) rfl (by kernel_rfl) (fun _ _ _ h => h) rfl ?_ ?_
    rotate_left
    · (intro w'; go_simp; try with_reducible rfl)
    try simp only [Act.put, List.getElem_toArray, List.getElem_cons_succ, List.getElem_cons_zero, List.setIfInBounds_toArray, List.set_cons_zero, List.set_cons_succ]
    refine AnyG.takeP (i := 1) (v := ?_) rfl (by kernel_rfl) (fun _ _ _ h => h) rfl ?_ ?_
    rotate_left
    · (intro w'; go_simp; try with_reducible rfl)
    try simp only [Act.put, List.getElem_toArray, List.getElem_cons_succ, List.getElem_cons_zero, List.setIfInBounds_toArray, List.set_cons_zero, List.set_cons_succ]
    refine AnyG.takeP (i := 3) (v := ?_) rfl (by kernel_rfl) (fun _ _ _ h => h) rfl ?_ ?_
    rotate_left
    · (intro w'; go_simp; try with_reducible rfl)
    try simp only [Act.put, List.getElem_toArray, List.getElem_cons_succ, List.getElem_cons_zero, List.setIfInBounds_toArray, List.set_cons_zero, List.set_cons_succ]
    refine AnyG.takeP (i := 4) (v := ?_) rfl (by kernel_rfl) (fun _ _ _ h => h) rfl ?_ ?_
    rotate_left
    · (intro w'; go_simp; try with_reducible rfl)
    try simp only [Act.put, List.getElem_toArray, List.getElem_cons_succ, List.getElem_cons_zero, List.setIfInBounds_toArray, List.set_cons_zero, List.set_cons_succ]
    refine AnyG.enter (fun w' : World => Bx w' (w.heap.size + 1 + 1) 93 (e3 f) ∧ Bx w' b8 53 (cgc x.1.1)) (fun i => i != 8) ?_
    have hS : (fun w' : World => Bx w' (w.heap.size + 1 + 1) 93 (e3 f) ∧ Bx w' b8 53 (cgc x.1.1)) (World.drew _) := ⟨k7.drew, hx.drew⟩
    refine AnyG.takeC (i := 2) (v := ?_) rfl (by kernel_rfl) (fun _ _ _ h => h) rfl ?_ hS ?_
    rotate_left
    · (intro w' hSw; (try dsimp only at hSw); have q0 := (hSw.1.cell kk).trans hq; go_simp; try with_reducible rfl)
    try simp only [Act.put, List.getElem_toArray, List.getElem_cons_succ, List.getElem_cons_zero, List.setIfInBounds_toArray, List.set_cons_zero, List.set_cons_succ]
    refine AnyG.takeC (i := 5) (v := ?_) rfl (by kernel_rfl) (fun _ _ _ h => h) rfl ?_ hS ?_
    rotate_left
    · (intro w' hSw; (try dsimp only at hSw); obtain ⟨o0, o1, o2, of, oz⟩ := Bx.three' hSw.2; go_simp; try with_reducible rfl)
    try simp only [Act.put, List.getElem_toArray, List.getElem_cons_succ, List.getElem_cons_zero, List.setIfInBounds_toArray, List.set_cons_zero, List.set_cons_succ]
    refine AnyG.takeC (i := 6) (v := ?_) rfl (by kernel_rfl) (fun _ _ _ h => h) rfl ?_ hS ?_
    rotate_left
    · (intro w' hSw; (try dsimp only at hSw); go_simp; try with_reducible rfl)
    try simp only [Act.put, List.getElem_toArray, List.getElem_cons_succ, List.getElem_cons_zero, List.setIfInBounds_toArray, List.set_cons_zero, List.set_cons_succ]
    refine AnyG.takeC (i := 7) (v := ?_) rfl (by kernel_rfl) (fun _ _ _ h => h) rfl ?_ hS ?_
    rotate_left
    · (intro w' hSw; (try dsimp only at hSw); go_simp; try with_reducible rfl)
    try simp only [Act.put, List.getElem_toArray, List.getElem_cons_succ, List.getElem_cons_zero, List.setIfInBounds_toArray, List.set_cons_zero, List.set_cons_succ]
    refine AnyG.one (i := 8) (by kernel_rfl) rfl rfl ?_
    have q0 := (hS.1.cell kk).trans hq
    have qf := hS.1.free
    have qz := hS.1.lt
    go_simp
    refine Onward.last rfl ?_
    try simp only [Act.put, List.getElem_toArray, List.getElem_cons_succ, List.getElem_cons_zero, List.setIfInBounds_toArray, List.set_cons_zero, List.set_cons_succ]
    refine AnyG.done (by kernel_rfl) ?_ _
    clear hS
    obtain ⟨U, hU⟩ : ∃ X, (W.setCell ⟨w.heap.size + 1 + 1, kk, none⟩ (.int .i64 (f kk + x.1.1.t1))).drew = X := ⟨_, rfl⟩
    have gS : W.grownBy U (some (w.heap.size + 1 + 1)) := by rw [← hU]; exact grownF_trans (grown_set W _ kk _) (grown_drew _ _)
    have kv1 := kv.grown gS (by simp <;> omega)
    have kb1 := kb.grown gS (by simp <;> omega)
    have k71 : Bx U (w.heap.size + 1 + 1) 93 (e3 (sumH M)) := by
      rw [← hU, ← hE2]
      exact (k7.set_ kk (.int .i64 (f kk + x.1.1.t1))).drew
    have z0 := gS.cell z0 (by simp <;> omega)
    have kU := keeps_bx (B := w1.heap.size) gS k7
    have HU := Lib.hid hU
    have hBU : Below w.heap.size w U := hB1.grown (grownF_trans hgr gS) hB1.size (fun k e => by cases e; omega)
    have gE := gS
    clear hU gS kv kb k7 z1 z2 hE2 hq
    rw [HU.out]
    gi_wp2_with fail
    by_cases hov : H.rm < f kk + x.1.1.t1
    · have hbad : ∃ k : Nat, k < v.hs.length ∧ (hd v.hs k).rm < sumH M k := ⟨kk, hkk, by rw [HHk.out, HS2.out, if_pos rfl]; exact hov⟩
      refine AnyG.startCIn (by kernel_rfl) (by kernel_rfl) (fun _ _ h => h) ?_
      refine AnyG.takeP (i := 0) (v := ?_) rfl (by kernel_rfl) (fun _ _ _ h => h) rfl ?_ ?_
      rotate_left
      · (intro w'; go_simp; try with_reducible rfl)
      try simp only [Act.put, List.getElem_toArray, List.getElem_cons_succ, List.getElem_cons_zero, List.setIfInBounds_toArray, List.set_cons_zero, List.set_cons_succ]
      refine AnyG.takeP (i := 1) (v := ?_) rfl (by kernel_rfl) (fun _ _ _ h => h) rfl ?_ ?_
      rotate_left
      · (intro w'; go_simp; try with_reducible rfl)
      try simp only [Act.put, List.getElem_toArray, List.getElem_cons_succ, List.getElem_cons_zero, List.setIfInBounds_toArray, List.set_cons_zero, List.set_cons_succ]
      refine AnyG.takeP (i := 3) (v := ?_) rfl (by kernel_rfl) (fun _ _ _ h => h) rfl ?_ ?_
      rotate_left
      · (intro w'; go_simp; try with_reducible rfl)
      try simp only [Act.put, List.getElem_toArray, List.getElem_cons_succ, List.getElem_cons_zero, List.setIfInBounds_toArray, List.set_cons_zero, List.set_cons_succ]
      refine AnyG.takeP (i := 5) (v := ?_) rfl (by kernel_rfl) (fun _ _ _ h => h) rfl ?_ ?_
      rotate_left
      · (intro w'; go_simp; try with_reducible rfl)
      try simp only [Act.put, List.getElem_toArray, List.getElem_cons_succ, List.getElem_cons_zero, List.setIfInBounds_toArray, List.set_cons_zero, List.set_cons_succ]
      refine AnyG.enter (fun w' : World => Bx w' (w.heap.size + 1 + 1) 93 (e3 (sumH M)) ∧ Bx w' w.heap.size 26 #[.int .i64 v.li, .int .i64 v.un, .int .i64 v.tr, .slice (some ad) p.hn p.hc, .int .i64 v.le, .slice p.SA p.sn p.sc, .slice p.LA p.ln p.lc] ∧ Below U.heap.size U w') (fun i => true) ?_
      have hS : (fun w' : World => Bx w' (w.heap.size + 1 + 1) 93 (e3 (sumH M)) ∧ Bx w' w.heap.size 26 #[.int .i64 v.li, .int .i64 v.un, .int .i64 v.tr, .slice (some ad) p.hn p.hc, .int .i64 v.le, .slice p.SA p.sn p.sc, .slice p.LA p.ln p.lc] ∧ Below U.heap.size U w') (World.drew _) := ⟨k71.drew, kv1.drew, (Below.refl _ _).drew⟩
      refine AnyG.takeC (i := 2) (v := ?_) rfl (by kernel_rfl) (fun _ _ _ h => h) rfl ?_ hS ?_
      rotate_left
      · (intro w' hSw; (try dsimp only at hSw); have q0 := (hSw.1.cell kk).trans hq2; go_simp; try with_reducible rfl)
      try simp only [Act.put, List.getElem_toArray, List.getElem_cons_succ, List.getElem_cons_zero, List.setIfInBounds_toArray, List.set_cons_zero, List.set_cons_succ]
      refine AnyG.takeC (i := 4) (v := ?_) rfl (by kernel_rfl) (fun _ _ _ h => h) rfl ?_ hS ?_
      rotate_left
      · (intro w' hSw; (try dsimp only at hSw); obtain ⟨x0, x1, x2, x3, x4, x5, x6, xf, xz⟩ := hSw.2.1.seven; go_simp; try with_reducible rfl)
      try simp only [Act.put, List.getElem_toArray, List.getElem_cons_succ, List.getElem_cons_zero, List.setIfInBounds_toArray, List.set_cons_zero, List.set_cons_succ]
      refine AnyG.takeC (i := 6) (v := ?_) rfl (by kernel_rfl) (fun _ _ _ h => h) rfl ?_ hS ?_
      rotate_left
      · (intro w' hSw; (try dsimp only at hSw); go_simp; try with_reducible rfl)
      try simp only [Act.put, List.getElem_toArray, List.getElem_cons_succ, List.getElem_cons_zero, List.setIfInBounds_toArray, List.set_cons_zero, List.set_cons_succ]
      refine AnyG.takeC (i := 7) (v := ?_) rfl (by kernel_rfl) (fun _ _ _ h => h) rfl ?_ hS ?_
      rotate_left
      · (intro w' hSw; (try dsimp only at hSw); go_simp; try with_reducible rfl)
      try simp only [Act.put, List.getElem_toArray, List.getElem_cons_succ, List.getElem_cons_zero, List.setIfInBounds_toArray, List.set_cons_zero, List.set_cons_succ]
      refine AnyG.takeC (i := 8) (v := ?_) rfl (by kernel_rfl) (fun _ _ _ h => h) rfl ?_ hS ?_
      rotate_left
      · (intro w' hSw; (try dsimp only at hSw); have z0 := cellC hSw.2.2 z0; go_simp; try with_reducible rfl)
      try simp only [Act.put, List.getElem_toArray, List.getElem_cons_succ, List.getElem_cons_zero, List.setIfInBounds_toArray, List.set_cons_zero, List.set_cons_succ]
      refine AnyG.takeC (i := 9) (v := ?_) rfl (by kernel_rfl) (fun _ _ _ h => h) rfl ?_ hS ?_
      rotate_left
      · (intro w' hSw; (try dsimp only at hSw); go_simp; try with_reducible rfl)
      try simp only [Act.put, List.getElem_toArray, List.getElem_cons_succ, List.getElem_cons_zero, List.setIfInBounds_toArray, List.set_cons_zero, List.set_cons_succ]
      refine AnyG.done (by kernel_rfl) ?_ _
      clear hS
      obtain ⟨b0, bf, bz⟩ := kb1.one
      gi_wp2_with fail
      refine ⟨(kU.trans ((KeepsOthers.setCell _ _ _).from _)).trans ((KeepsOthers.drew _).from _), ⟨⟨(kb1.set_ 0 _).drew, ?_⟩, hbad⟩⟩
      exact (hBU.setCell (p := ⟨w.heap.size + 1, 0, none⟩) (by simp <;> omega) _).drew
    · have hgood : ∀ k : Nat, k < v.hs.length → sumH M k ≤ (hd v.hs k).rm := fun k hk => by
        have := HPU.out k hk
        rw [HS2.out]
        by_cases e : (kk : Int) = (k : Int)
        · rw [if_pos e, ← e, HHk.out]; omega
        · rw [if_neg e]; omega
      refine AnyG.startCIn (by kernel_rfl) (by kernel_rfl) (fun _ _ h => h) ?_
      refine AnyG.takeP (i := 0) (v := ?_) rfl (by kernel_rfl) (fun _ _ _ h => h) rfl ?_ ?_
      rotate_left
      · (intro w'; go_simp; try with_reducible rfl)
      try simp only [Act.put, List.getElem_toArray, List.getElem_cons_succ, List.getElem_cons_zero, List.setIfInBounds_toArray, List.set_cons_zero, List.set_cons_succ]
      refine AnyG.takeP (i := 1) (v := ?_) rfl (by kernel_rfl) (fun _ _ _ h => h) rfl ?_ ?_
      rotate_left
      · (intro w'; go_simp; try with_reducible rfl)
      try simp only [Act.put, List.getElem_toArray, List.getElem_cons_succ, List.getElem_cons_zero, List.setIfInBounds_toArray, List.set_cons_zero, List.set_cons_succ]
      refine AnyG.takeP (i := 3) (v := ?_) rfl (by kernel_rfl) (fun _ _ _ h => h) rfl ?_ ?_
      rotate_left
      · (intro w'; go_simp; try with_reducible rfl)
      try simp only [Act.put, List.getElem_toArray, List.getElem_cons_succ, List.getElem_cons_zero, List.setIfInBounds_toArray, List.set_cons_zero, List.set_cons_succ]
      refine AnyG.takeP (i := 5) (v := ?_) rfl (by kernel_rfl) (fun _ _ _ h => h) rfl ?_ ?_
      rotate_left
      · (intro w'; go_simp; try with_reducible rfl)
      try simp only [Act.put, List.getElem_toArray, List.getElem_cons_succ, List.getElem_cons_zero, List.setIfInBounds_toArray, List.set_cons_zero, List.set_cons_succ]
      refine AnyG.enter (fun w' : World => Bx w' (w.heap.size + 1 + 1) 93 (e3 (sumH M)) ∧ Bx w' w.heap.size 26 #[.int .i64 v.li, .int .i64 v.un, .int .i64 v.tr, .slice (some ad) p.hn p.hc, .int .i64 v.le, .slice p.SA p.sn p.sc, .slice p.LA p.ln p.lc] ∧ Below U.heap.size U w') (fun i => true) ?_
      have hS : (fun w' : World => Bx w' (w.heap.size + 1 + 1) 93 (e3 (sumH M)) ∧ Bx w' w.heap.size 26 #[.int .i64 v.li, .int .i64 v.un, .int .i64 v.tr, .slice (some ad) p.hn p.hc, .int .i64 v.le, .slice p.SA p.sn p.sc, .slice p.LA p.ln p.lc] ∧ Below U.heap.size U w') (World.drew _) := ⟨k71.drew, kv1.drew, (Below.refl _ _).drew⟩
      refine AnyG.takeC (i := 2) (v := ?_) rfl (by kernel_rfl) (fun _ _ _ h => h) rfl ?_ hS ?_
      rotate_left
      · (intro w' hSw; (try dsimp only at hSw); have q0 := (hSw.1.cell kk).trans hq2; go_simp; try with_reducible rfl)
      try simp only [Act.put, List.getElem_toArray, List.getElem_cons_succ, List.getElem_cons_zero, List.setIfInBounds_toArray, List.set_cons_zero, List.set_cons_succ]
      refine AnyG.takeC (i := 4) (v := ?_) rfl (by kernel_rfl) (fun _ _ _ h => h) rfl ?_ hS ?_
      rotate_left
      · (intro w' hSw; (try dsimp only at hSw); obtain ⟨x0, x1, x2, x3, x4, x5, x6, xf, xz⟩ := hSw.2.1.seven; go_simp; try with_reducible rfl)
      try simp only [Act.put, List.getElem_toArray, List.getElem_cons_succ, List.getElem_cons_zero, List.setIfInBounds_toArray, List.set_cons_zero, List.set_cons_succ]
      refine AnyG.takeC (i := 6) (v := ?_) rfl (by kernel_rfl) (fun _ _ _ h => h) rfl ?_ hS ?_
      rotate_left
      · (intro w' hSw; (try dsimp only at hSw); go_simp; try with_reducible rfl)
      try simp only [Act.put, List.getElem_toArray, List.getElem_cons_succ, List.getElem_cons_zero, List.setIfInBounds_toArray, List.set_cons_zero, List.set_cons_succ]
      refine AnyG.takeC (i := 7) (v := ?_) rfl (by kernel_rfl) (fun _ _ _ h => h) rfl ?_ hS ?_
      rotate_left
      · (intro w' hSw; (try dsimp only at hSw); go_simp; try with_reducible rfl)
      try simp only [Act.put, List.getElem_toArray, List.getElem_cons_succ, List.getElem_cons_zero, List.setIfInBounds_toArray, List.set_cons_zero, List.set_cons_succ]
      refine AnyG.takeC (i := 8) (v := ?_) rfl (by kernel_rfl) (fun _ _ _ h => h) rfl ?_ hS ?_
      rotate_left
      · (intro w' hSw; (try dsimp only at hSw); have z0 := cellC hSw.2.2 z0; go_simp; try with_reducible rfl)
      try simp only [Act.put, List.getElem_toArray, List.getElem_cons_succ, List.getElem_cons_zero, List.setIfInBounds_toArray, List.set_cons_zero, List.set_cons_succ]
      refine AnyG.takeC (i := 9) (v := ?_) rfl (by kernel_rfl) (fun _ _ _ h => h) rfl ?_ hS ?_
      rotate_left
      · (intro w' hSw; (try dsimp only at hSw); go_simp; try with_reducible rfl)
      try simp only [Act.put, List.getElem_toArray, List.getElem_cons_succ, List.getElem_cons_zero, List.setIfInBounds_toArray, List.set_cons_zero, List.set_cons_succ]
      refine AnyG.done (by kernel_rfl) ?_ _
      clear hS
      gi_wp2_with fail
      exact ⟨grownF_trans gE (grown_drew _ _), k71.drew, hgood⟩
  case done =>
    rintro D W hD hgr k7 hpu hKD
    have HO : Hid (roomOk v.hs (abd v.ls s) = true) := Lib.hid (roomOk_iff.2 hpu)
    have k6 := k6'.grown hgr (by simp <;> omega)
    have HKD := Lib.hid hKD
    have hBW : Below w.heap.size w W := hB1.grown hgr hB1.size (fun k e => by cases e; omega)
    clear hKD hpu
    obtain ⟨r0, rf, rz⟩ := k6.one
    go_wp2
    have hDb : w.heap.size + 1 ≠ D := by omega
    refine leavesM_marks (B := w.heap.size) _ _ ⟨[D], rfl, by simp, fun D' hD' => ?_⟩ ?_
    · obtain rfl : D' = D := by simpa using hD'
      exact ⟨by omega, (Below.heap_setCell _ _ _ _ (Ne.symm hDb)).trans HKD.out⟩
    · intro W' hb hk _
      have bz : Bx W' (w.heap.size + 1) 4 #[.bool true] := (hk _ (by simp; omega)).trans (k6.set_ 0 _)
      obtain ⟨z0, zf, zz⟩ := bz.one
      refine ⟨.bool true, by simp [results, Tryd.results21, go_sem, z0], by rw [HO.out], ?_⟩
      exact (hBW.setCell (p := ⟨w.heap.size + 1, 0, none⟩) (by simp <;> omega) _).trans hb
  case stop =>
    rintro D pre W hD hpre ⟨⟨k6, hBW⟩, k, hk, hbad⟩ hKD
    have HO : Hid (roomOk v.hs (abd v.ls s) = false) := Lib.hid (by
      cases h : roomOk v.hs (abd v.ls s) with
      | false => rfl
      | true =>
        have := roomOk_iff.1 h k hk
        have := sumH_pre (fun x hx => by have c := ho.ls _ (abd_mem hx).1; have := c.t0; have := c.t01; omega) hpre (k : Int)
        omega)
    have HKD := Lib.hid hKD
    clear hKD
    obtain ⟨r0, rf, rz⟩ := k6.one
    gi_wp2
    have hDb : w.heap.size + 1 ≠ D := by omega
    refine leavesM_marks (B := w.heap.size) _ _ ⟨[D], rfl, by simp, fun D' hD' => ?_⟩ ?_
    · obtain rfl : D' = D := by simpa using hD'
      exact ⟨by omega, HKD.out⟩
    · intro W' hb hk _
      have bz : Bx W' (w.heap.size + 1) 4 #[.bool false] := (hk _ (by simp; omega)).trans k6
      obtain ⟨z0, zf, zz⟩ := bz.one
      refine ⟨.bool false, by simp [results, Tryd.results21, go_sem, z0], by rw [HO.out], ?_⟩
      exact hBW.trans hb
end Go.Proofs.YtdlohfglmagneaaDoor
