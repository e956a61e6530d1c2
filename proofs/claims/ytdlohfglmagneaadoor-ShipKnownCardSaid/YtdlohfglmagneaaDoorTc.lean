/- Plans and trials. -/
import Derived.Test.YtdlohfglmagneaaDoorTb
import Derived.Test.YtdlohfglmagneaaDoorSd
set_option linter.unusedSimpArgs false
set_option linter.unusedVariables false
namespace Go.Proofs.YtdlohfglmagneaaDoor
open Go Go.RowKit Go.Shelf
attribute [local go_sem] Oper.semAt_some
theorem stowages_any (v : Vg) (p : Vp) (w : World) : Calls Tryd.prog 31 #[.agg (vcs v p)] w fun e w' => (∃ gv : Nat, e = .returned (.func (.func 48) #[] #[.pointer (some ⟨gv, 0, none⟩)]) ∧ Bx w' gv 26 (vcs v p) ∧ w.heap.size ≤ gv) ∧ Below w.heap.size w w' := by
  have k1 := Bx.new w 26 (vcs v p)
  have B0 := (Below.refl w.heap.size w).alloc (Nat.le_refl _) (.cells (vcs v p) 26)
  rw [vcs_def] at k1 B0 ⊢
  go_enter Tryd.func31, Tryd.ntmps31
  go_wp2
  go_ret
  exact ⟨⟨w.heap.size, by simp, k1, by omega⟩, B0⟩
theorem value_any (X : Option Addr) (n c : Nat) (a : Int) (w : World) : Calls Tryd.prog 35 #[.agg #[.slice X n c, .int .i64 a]] w fun e w' => e = .returned (.int .i64 a) ∧ Below w.heap.size w w' := by
  have k1 := Bx.new w 79 #[.slice X n c, .int .i64 a]
  have B0 := (Below.refl w.heap.size w).alloc (Nat.le_refl _) (.cells #[.slice X n c, .int .i64 a] 79)
  obtain ⟨x0, x1, xf, xz⟩ := k1.two
  go_enter Tryd.func35, Tryd.ntmps35
  go_wp2
  go_ret
  exact ⟨rfl, B0⟩
def pln (X : Option Addr) (n c : Nat) (a : Int) : Array Value := #[.slice X n c, .int .i64 a]
/-- Of two plans the second one if it has more worth. -/
theorem better_any (X : Option Addr) (n c : Nat) (a : Int) (Y : Option Addr) (m d : Nat) (b : Int) (w : World) : Calls Tryd.prog 33 #[.agg #[.slice X n c, .int .i64 a], .agg #[.slice Y m d, .int .i64 b], .func (.func 35) #[] #[]] w fun e w' => e = .returned (.agg (if a < b then pln Y m d b else pln X n c a)) ∧ Below w.heap.size w w' := by
  have k3 := ((Bx.new w 79 #[.slice X n c, .int .i64 a]).alloc (.cells #[.slice Y m d, .int .i64 b] 79)).alloc (.cells #[.slice none 0 0, .int .i64 0] 79)
  have k4 := (Bx.at (w.alloc (.cells #[.slice X n c, .int .i64 a] 79)) 79 #[.slice Y m d, .int .i64 b] (n := w.heap.size + 1) (by simp)).alloc (.cells #[.slice none 0 0, .int .i64 0] 79)
  have k6 := Bx.at ((w.alloc (.cells #[.slice X n c, .int .i64 a] 79)).alloc (.cells #[.slice Y m d, .int .i64 b] 79)) 79 #[.slice none 0 0, .int .i64 0] (n := w.heap.size + 1 + 1) (by simp)
  have B0 := (((Below.refl w.heap.size w).alloc (Nat.le_refl _) (.cells #[.slice X n c, .int .i64 a] 79)).alloc (by simp) (.cells #[.slice Y m d, .int .i64 b] 79)).alloc (by simp; omega) (.cells #[.slice none 0 0, .int .i64 0] 79)
  obtain ⟨V, hV⟩ : ∃ V, ((w.alloc (.cells #[.slice X n c, .int .i64 a] 79)).alloc (.cells #[.slice Y m d, .int .i64 b] 79)).alloc (.cells #[.slice none 0 0, .int .i64 0] 79) = V := ⟨_, rfl⟩
  rw [hV] at k3 k4 k6 B0
  have HV := Lib.hid hV
  clear hV
  obtain ⟨RS, hRS⟩ : ∃ r, (if a < b then pln Y m d b else pln X n c a) = r := ⟨_, rfl⟩
  rw [hRS]
  have HRS := Lib.hid hRS
  clear hRS
  go_enter Tryd.func33, Tryd.ntmps33
  go_wp2_with fail
  rw [HV.out]
  refine AnyG.startC (by kernel_rfl) ?_
  refine AnyG.takeP (i := 0) (v := ?_) rfl (by kernel_rfl) (fun _ _ _ h => h) rfl ?_ ?_
  rotate_left
  · (intro w'; go_simp; try with_reducible rfl)
  try simp only [Act.put, List.getElem_toArray, List.getElem_cons_succ, List.getElem_cons_zero, List.setIfInBounds_toArray, List.set_cons_zero, List.set_cons_succ]
  refine AnyG.takeP (i := 3) (v := ?_) rfl (by kernel_rfl) (fun _ _ _ h => h) rfl ?_ ?_
  rotate_left
  · (intro w'; go_simp; try with_reducible rfl)
  try simp only [Act.put, List.getElem_toArray, List.getElem_cons_succ, List.getElem_cons_zero, List.setIfInBounds_toArray, List.set_cons_zero, List.set_cons_succ]
  refine AnyG.enter (fun w' : World => Bx w' w.heap.size 79 #[.slice X n c, .int .i64 a] ∧ Bx w' (w.heap.size + 1) 79 #[.slice Y m d, .int .i64 b] ∧ Bx w' (w.heap.size + 1 + 1) 79 #[.slice none 0 0, .int .i64 0] ∧ Below w.heap.size w w') (fun i => true) ?_
  have hS : (fun w' : World => Bx w' w.heap.size 79 #[.slice X n c, .int .i64 a] ∧ Bx w' (w.heap.size + 1) 79 #[.slice Y m d, .int .i64 b] ∧ Bx w' (w.heap.size + 1 + 1) 79 #[.slice none 0 0, .int .i64 0] ∧ Below w.heap.size w w') (World.drew _) := ⟨k3.drew, k4.drew, k6.drew, B0.drew⟩
  refine AnyG.takeC (i := 1) (v := ?_) rfl (by kernel_rfl) (fun _ _ _ h => h) rfl ?_ hS ?_
  rotate_left
  · (intro w' hSw; (try dsimp only at hSw); obtain ⟨x0, x1, xf, xz⟩ := hSw.2.1.two; go_simp; try with_reducible rfl)
  try simp only [Act.put, List.getElem_toArray, List.getElem_cons_succ, List.getElem_cons_zero, List.setIfInBounds_toArray, List.set_cons_zero, List.set_cons_succ]
  refine AnyG.takeC (i := 4) (v := ?_) rfl (by kernel_rfl) (fun _ _ _ h => h) rfl ?_ hS ?_
  rotate_left
  · (intro w' hSw; (try dsimp only at hSw); obtain ⟨x0, x1, xf, xz⟩ := hSw.1.two; go_simp; try with_reducible rfl)
  try simp only [Act.put, List.getElem_toArray, List.getElem_cons_succ, List.getElem_cons_zero, List.setIfInBounds_toArray, List.set_cons_zero, List.set_cons_succ]
  refine AnyG.one (i := 2) (by kernel_rfl) rfl rfl ?_
  go_simp
  refine (value_any Y m d b _).mono ?_
  rintro e6 y6 ⟨rfl, hb6⟩
  refine Onward.on ⟨hS.1.call hb6, hS.2.1.call hb6, hS.2.2.1.call hb6, hS.2.2.2.trans (hb6.mono hS.2.2.2.size)⟩ (fun hS2 => ?_)
  clear hS
  have hS := hS2
  clear hS2
  try simp only [Act.put, List.getElem_toArray, List.getElem_cons_succ, List.getElem_cons_zero, List.setIfInBounds_toArray, List.set_cons_zero, List.set_cons_succ]
  refine AnyG.one (i := 5) (by kernel_rfl) rfl rfl ?_
  go_simp
  refine (value_any X n c a _).mono ?_
  rintro e6 y6 ⟨rfl, hb6⟩
  refine Onward.on ⟨hS.1.call hb6, hS.2.1.call hb6, hS.2.2.1.call hb6, hS.2.2.2.trans (hb6.mono hS.2.2.2.size)⟩ (fun hS2 => ?_)
  clear hS
  have hS := hS2
  clear hS2
  try simp only [Act.put, List.getElem_toArray, List.getElem_cons_succ, List.getElem_cons_zero, List.setIfInBounds_toArray, List.set_cons_zero, List.set_cons_succ]
  refine AnyG.takeC (i := 6) (v := ?_) rfl (by kernel_rfl) (fun _ _ _ h => h) rfl ?_ hS ?_
  rotate_left
  · (intro w' hSw; (try dsimp only at hSw); go_simp; try with_reducible rfl)
  try simp only [Act.put, List.getElem_toArray, List.getElem_cons_succ, List.getElem_cons_zero, List.setIfInBounds_toArray, List.set_cons_zero, List.set_cons_succ]
  refine AnyG.done (by kernel_rfl) ?_ _
  go_simp
  clear k3 k4 k6 B0
  obtain ⟨q3, q4, q6, qB⟩ := hS
  by_cases hab : a < b
  · have hd : decide (a < b) = true := by simpa using hab
    obtain ⟨x0, x1, xf, xz⟩ := q4.two
    obtain ⟨z0, z1, zf, zz⟩ := q6.two
    go_wp2_with fail
    have fB := (qB.setCell (p := ⟨w.heap.size + 1 + 1, 0, none⟩) (by simp; omega) (.slice Y m d)).setCell (p := ⟨w.heap.size + 1 + 1, 1, none⟩) (by simp; omega) (.int .i64 b)
    have fA := (q6.set_ 0 (.slice Y m d)).set_ 1 (.int .i64 b)
    simp only [List.setIfInBounds_toArray, List.set_cons_zero, List.set_cons_succ] at fA
    obtain ⟨r0, r1, rf, rz⟩ := fA.two
    exact bodyPost_ret (v := .agg #[.slice Y m d, .int .i64 b]) (by simp [results, Tryd.results33, go_sem, r0, r1]) rfl ⟨by rw [← HRS.out, if_pos hab]; rfl, fB⟩
  · have hd : decide (a < b) = false := by simpa using hab
    obtain ⟨x0, x1, xf, xz⟩ := q3.two
    obtain ⟨z0, z1, zf, zz⟩ := q6.two
    go_wp2_with fail
    have fB := (qB.setCell (p := ⟨w.heap.size + 1 + 1, 0, none⟩) (by simp; omega) (.slice X n c)).setCell (p := ⟨w.heap.size + 1 + 1, 1, none⟩) (by simp; omega) (.int .i64 a)
    have fA := (q6.set_ 0 (.slice X n c)).set_ 1 (.int .i64 a)
    simp only [List.setIfInBounds_toArray, List.set_cons_zero, List.set_cons_succ] at fA
    obtain ⟨r0, r1, rf, rz⟩ := fA.two
    exact bodyPost_ret (v := .agg #[.slice X n c, .int .i64 a]) (by simp [results, Tryd.results33, go_sem, r0, r1]) rfl ⟨by rw [← HRS.out, if_neg (by omega)]; rfl, fB⟩
/-- Whether a barge passes all sills with bad luck when its ends lie so deep. -/
def pasD (v : Vg) (d0 d1 : Int) : Bool := decide ((sal (slM (max d0 d1 + 1000 * v.un) v.ss false) v.le).length = v.ss.length)
theorem worM_bd {v : Vg} (ho : v.Ok) {s : List Int} {L : List (Cg × Int)} (hL : ∀ x ∈ L, x ∈ abd v.ls s) (hl : L.length ≤ 6) : 0 ≤ worM L ∧ worM L ≤ 600000 := by
  have k := sum_bd (fun p : Cg × Int => p.1.wo) 100000 L fun x hx => (ho.ls _ (abd_mem (hL x hx)).1).wo
  unfold worM
  omega
theorem worM_snoc (L : List (Cg × Int)) (x : Cg × Int) : worM (L ++ [x]) = worM L + x.1.wo := by
  unfold worM
  rw [List.map_append, List.sum_append]
  simp
set_option maxRecDepth 100000 in
set_option maxHeartbeats 2000000 in
theorem planOf_any (v : Vg) (p : Vp) (A : Option Addr) (sn sc : Nat) (s : List Int) (w : World) (ho : v.Ok) (hV : VoyAt w w.heap.size v p) (hS : Sl w w.heap.size 1 A (inr s)) (hl : s.length = sn) (hsn : sn ≤ p.ln) :
    Calls Tryd.prog 34 #[.agg (vcs v p), .slice A sn sc] w fun e w' => e = .returned (.agg (pln A sn sc (worM (abd v.ls s)))) ∧ Below w.heap.size w w' := by
  have h6 := ho.l6
  have hln6 : p.ln ≤ 6 := by rw [← hV.ll]; exact h6
  have k3 := ((Bx.at w 26 (vcs v p) rfl).alloc (.cells #[.slice none 0 0, .int .i64 0] 79)).alloc (.cells #[.int .i64 0] 3)
  have k6 := (Bx.at (w.alloc (.cells (vcs v p) 26)) 79 #[.slice none 0 0, .int .i64 0] (n := w.heap.size + 1) (by simp)).alloc (.cells #[.int .i64 0] 3)
  have k7 := Bx.at ((w.alloc (.cells (vcs v p) 26)).alloc (.cells #[.slice none 0 0, .int .i64 0] 79)) 3 #[.int .i64 0] (n := w.heap.size + 1 + 1) (by simp)
  have B0 := (((Below.refl w.heap.size w).alloc (Nat.le_refl _) (.cells (vcs v p) 26)).alloc (by simp) (.cells #[.slice none 0 0, .int .i64 0] 79)).alloc (by simp; omega) (.cells #[.int .i64 0] 3)
  rw [vcs_def] at k3 k6 k7 B0
  obtain ⟨V, hVV⟩ : ∃ V, (((w.alloc (.cells #[.int .i64 v.li, .int .i64 v.un, .int .i64 v.tr, .slice p.HA p.hn p.hc, .int .i64 v.le, .slice p.SA p.sn p.sc, .slice p.LA p.ln p.lc] 26)).alloc (.cells #[.slice none 0 0, .int .i64 0] 79)).alloc (.cells #[.int .i64 0] 3)) = V := ⟨_, rfl⟩
  rw [hVV] at k3 k6 k7 B0
  have HVV := Lib.hid hVV
  clear hVV
  have hVb : VoyAt w w.heap.size v p := hV
  have hSb : Sl w w.heap.size 1 A (inr s) := hS
  have B0b : Below w.heap.size w V := B0
  clear hV hS
  refine (callsIn_wide (n := 5)).1 ?_
  refine callsIn_of_wp_marks Tryd.func34 rfl trivial ?_ rfl
  refine wpIn_wide.2 ?_
  simp only [vcs_def, Tryd.ntmps34, List.size_toArray, List.length_cons, List.length_nil, Nat.reduceAdd, Nat.reduceSub, Array.replicate_succ, Array.replicate_zero, List.push_toArray, List.append_toArray, List.nil_append, List.cons_append]
  go_wp2_with (first
    | (go_at_call 39; rw [HVV.out]; refine (aboard_any v p A sn sc V).mono ?_; rintro e w1 ⟨⟨gs, gv, rfl, kgs, kgv, hgs, hgv⟩, hb⟩)
    | fail)
  have h7 := k7.lt
  have k6' := k6.call hb
  have k7' := k7.call hb
  have h71 := k7'.lt
  have hB1 := B0b.trans (hb.mono (by omega))
  have hV1 := hVb.below hB1
  have hS1 := hSb.below hB1
  clear k3 k6 k7 B0 B0b hVb hSb hb HVV
  refine (wpIn_wide (n := 5)).1 ?_
  refine range_ab (n := 5) (by omega) (w.heap.size + 1 + 1) 3 gs gv w.heap.size v p A sn sc s rfl kgs kgv hV1 hS1 (by omega) (by omega) (by omega) (by omega) hsn hl (fun L => #[.int .i64 (worM L)]) k7' rfl (fun _ _ => False) (fun _ _ _ _ hs _ _ => hs) ?Fr ?assign ?body ?done ?stop
  case assign =>
    rintro l x W K hK
    obtain ⟨b8, hb8⟩ : ∃ b, W.heap.size = b := ⟨_, rfl⟩
    dsimp only [cgv]
    gi_wp2
    exact hK b8 _ hb8 ((Below.refl _ _).alloc (Nat.le_refl _) _) (Bx.at W 53 _ hb8.symm)
  case body =>
    rintro l pre x b8 W hl ⟨r, hr⟩ hgr k7 h8 hx hlen
    have hLm : ∀ y ∈ pre.map (·.1) ++ [x.1], y ∈ abd v.ls s := by
      intro y hy
      rcases List.mem_append.1 hy with hy | hy
      · obtain ⟨q, _, rfl⟩ := List.mem_map.1 hy; exact q.2
      · obtain rfl := List.mem_singleton.1 hy; exact x.2
    have hN := abd_six ho s
    have hbd := worM_bd ho hLm (by simp; omega)
    have hbd0 := worM_bd ho (L := pre.map (·.1)) (fun y hy => hLm y (by simp at hy ⊢; exact .inl hy)) (by simp; omega)
    have hsn2 := worM_snoc (pre.map (·.1)) x.1
    have HG : Hid ((#[Value.int .i64 (worM ((pre ++ [x]).map (·.1)))] : Array Value) = #[Value.int .i64 (worM (pre.map (·.1)) + x.1.1.wo)]) := Lib.hid (by rw [List.map_append]; show #[Value.int .i64 (worM (pre.map (·.1) ++ [x.1]))] = _; rw [hsn2])
    rw [hsn2] at hbd
    obtain ⟨P, hP⟩ : ∃ P, worM (pre.map (·.1)) = P := ⟨_, rfl⟩
    rw [hP] at k7 hbd0 hbd HG
    rw [HG.out]
    have w1' : IntKind.i64.wrap (P + x.1.1.wo) = P + x.1.1.wo := IntWalk.i64_in _ (by omega)
    clear hLm hbd hbd0 hsn2 hP HG hr
    obtain ⟨o0, o1, o2, of, oz⟩ := Bx.three' hx
    obtain ⟨g0, gf, gz⟩ := k7.one
    refine wpIn_block ?_
    gi_wp2_with fail
    exact ⟨grown_set W _ 0 _, k7.set_ 0 _⟩
  case done =>
    rintro D W hD hgr k7 hKD
    obtain ⟨P, hP⟩ : ∃ P, worM (abd v.ls s) = P := ⟨_, rfl⟩
    rw [hP] at k7
    have HP := Lib.hid hP
    have k6 := k6'.grown hgr (by simp <;> omega)
    have HKD := Lib.hid hKD
    have hBW : Below w.heap.size w W := hB1.grown hgr hB1.size (fun k e => by cases e; omega)
    clear hKD hP
    obtain ⟨t0, tf, tz⟩ := k7.one
    obtain ⟨r0, r1, rf, rz⟩ := k6.two
    go_wp2
    have hDb : w.heap.size + 1 ≠ D := by omega
    refine leavesM_marks (B := w.heap.size) _ _ ⟨[D], rfl, by simp, fun D' hD' => ?_⟩ ?_
    · obtain rfl : D' = D := by simpa using hD'
      exact ⟨by omega, (Below.heap_setCell _ _ _ _ (Ne.symm hDb)).trans ((Below.heap_setCell _ _ _ _ (Ne.symm hDb)).trans HKD.out)⟩
    · intro W' hb hk _
      have bz : Bx W' (w.heap.size + 1) 79 #[.slice A sn sc, .int .i64 P] := (hk _ (by simp; omega)).trans ((k6.set_ 0 _).set_ 1 _)
      obtain ⟨z0, z1, zf, zz⟩ := bz.two
      refine ⟨.agg #[.slice A sn sc, .int .i64 P], by simp [results, Tryd.results34, go_sem, z0, z1], by rw [HP.out]; rfl, ?_⟩
      exact ((hBW.setCell (p := ⟨w.heap.size + 1, 0, none⟩) (by simp) _).setCell (p := ⟨w.heap.size + 1, 1, none⟩) (by simp) _).trans hb
  case stop =>
    rintro D pre W _ _ h _
    exact h.elim
@[local go_sem] theorem eq93 (a b c d : Int) (w : World) : (Op.equalIn 10000 69 (.agg #[.int .i64 a, .int .i64 b]) (.agg #[.int .i64 c, .int .i64 d])).run Tryd.prog w = .ok (a == c && b == d) w := by
  have u3 := Tryd.underlying3
  have a3 := Tryd.isAgg3
  have z3 := Tryd.sizeOf3
  rw [show (10000 : Nat) = 9999 + 1 from rfl, Op.equalIn]
  simp only [Sem.run_bind, run_underlying Tryd.underlying69, Result.andThen_ok]
  simp only [Std.Legacy.Range.forIn_eq_forIn_range', Std.Legacy.Range.size, Nat.sub_zero, Nat.add_sub_cancel, Nat.div_one, List.range'_succ, List.range'_zero, List.forIn_cons, List.forIn_nil]
  go_simp
  by_cases h1 : a = c <;> by_cases h2 : b = d <;> simp [h1, h2]
/-- A trial. -/
def trl (v : Vg) (d0 d1 : Int) : Array Value := #[.int .i64 d0, .int .i64 d1, .bool (pasD v d0 d1)]
set_option maxRecDepth 100000 in
set_option maxHeartbeats 2000000 in
theorem trialOf_any (v : Vg) (p : Vp) (d0 d1 : Int) (w : World) (ho : v.Ok) (hV : VoyAt w w.heap.size v p) (h0 : 0 ≤ d0 ∧ d0 ≤ 305000000) (h1 : 0 ≤ d1 ∧ d1 ≤ 305000000) :
    Calls Tryd.prog 30 #[.agg (bcs v p false d0 d1)] w fun e w' => e = .returned (.agg (trl v d0 d1)) ∧ Below w.heap.size w w' := by
  have k3 := (Bx.new w 71 (bcs v p false d0 d1)).alloc (.cells #[.int .i64 0, .int .i64 0, .bool false] 81)
  have k6 := Bx.at (w.alloc (.cells (bcs v p false d0 d1) 71)) 81 #[.int .i64 0, .int .i64 0, .bool false] (n := w.heap.size + 1) (by simp)
  have B0 := ((Below.refl w.heap.size w).alloc (Nat.le_refl _) (.cells (bcs v p false d0 d1) 71)).alloc (by simp) (.cells #[.int .i64 0, .int .i64 0, .bool false] 81)
  obtain ⟨RS, hRS⟩ : ∃ r, trl v d0 d1 = r := ⟨_, rfl⟩
  rw [hRS]
  have HRS := Lib.hid hRS
  have HSL := Lib.hid hV.sl
  clear hRS
  rw [bcs_def] at k3 k6 B0 ⊢
  obtain ⟨V, hVV⟩ : ∃ V, (w.alloc (.cells #[.int .i64 v.li, .int .i64 v.un, .int .i64 v.tr, .slice p.HA p.hn p.hc, .int .i64 v.le, .slice p.SA p.sn p.sc, .slice p.LA p.ln p.lc, .bool false, .int .i64 d0, .int .i64 d1] 71)).alloc (.cells #[.int .i64 0, .int .i64 0, .bool false] 81) = V := ⟨_, rfl⟩
  rw [hVV] at k3 k6 B0
  have HV := Lib.hid hVV
  clear hVV
  go_enter Tryd.func30, Tryd.ntmps30
  go_wp2_with fail
  rw [HV.out]
  refine AnyG.startC (by kernel_rfl) ?_
  refine AnyG.takeP (i := 0) (v := ?_) rfl (by kernel_rfl) (fun _ _ _ h => h) rfl ?_ ?_
  rotate_left
  · (intro w'; go_simp; try with_reducible rfl)
  try simp only [Act.put, List.getElem_toArray, List.getElem_cons_succ, List.getElem_cons_zero, List.setIfInBounds_toArray, List.set_cons_zero, List.set_cons_succ]
  refine AnyG.takeP (i := 5) (v := ?_) rfl (by kernel_rfl) (fun _ _ _ h => h) rfl ?_ ?_
  rotate_left
  · (intro w'; go_simp; try with_reducible rfl)
  try simp only [Act.put, List.getElem_toArray, List.getElem_cons_succ, List.getElem_cons_zero, List.setIfInBounds_toArray, List.set_cons_zero, List.set_cons_succ]
  refine AnyG.takeP (i := 6) (v := ?_) rfl (by kernel_rfl) (fun _ _ _ h => h) rfl ?_ ?_
  rotate_left
  · (intro w'; go_simp; try with_reducible rfl)
  try simp only [Act.put, List.getElem_toArray, List.getElem_cons_succ, List.getElem_cons_zero, List.setIfInBounds_toArray, List.set_cons_zero, List.set_cons_succ]
  refine AnyG.enter (fun w' : World => Bx w' w.heap.size 71 #[.int .i64 v.li, .int .i64 v.un, .int .i64 v.tr, .slice p.HA p.hn p.hc, .int .i64 v.le, .slice p.SA p.sn p.sc, .slice p.LA p.ln p.lc, .bool false, .int .i64 d0, .int .i64 d1] ∧ Bx w' (w.heap.size + 1) 81 #[.int .i64 0, .int .i64 0, .bool false] ∧ Below w.heap.size w w') (fun i => i != 11) ?_
  have hS : (fun w' : World => Bx w' w.heap.size 71 #[.int .i64 v.li, .int .i64 v.un, .int .i64 v.tr, .slice p.HA p.hn p.hc, .int .i64 v.le, .slice p.SA p.sn p.sc, .slice p.LA p.ln p.lc, .bool false, .int .i64 d0, .int .i64 d1] ∧ Bx w' (w.heap.size + 1) 81 #[.int .i64 0, .int .i64 0, .bool false] ∧ Below w.heap.size w w') (World.drew _) := ⟨k3.drew, k6.drew, B0.drew⟩
  refine AnyG.takeC (i := 1) (v := ?_) rfl (by kernel_rfl) (fun _ _ _ h => h) rfl ?_ hS ?_
  rotate_left
  · (intro w' hSw; (try dsimp only at hSw); obtain ⟨x0, x1, x2, x3, x4, x5, x6, x7, x8, x9, xf, xz⟩ := hSw.1.ten; go_simp; try with_reducible rfl)
  try simp only [Act.put, List.getElem_toArray, List.getElem_cons_succ, List.getElem_cons_zero, List.setIfInBounds_toArray, List.set_cons_zero, List.set_cons_succ]
  refine AnyG.takeC (i := 2) (v := ?_) rfl (by kernel_rfl) (fun _ _ _ h => h) rfl ?_ hS ?_
  rotate_left
  · (intro w' hSw; (try dsimp only at hSw); obtain ⟨x0, x1, x2, x3, x4, x5, x6, x7, x8, x9, xf, xz⟩ := hSw.1.ten; go_simp; try with_reducible rfl)
  try simp only [Act.put, List.getElem_toArray, List.getElem_cons_succ, List.getElem_cons_zero, List.setIfInBounds_toArray, List.set_cons_zero, List.set_cons_succ]
  refine AnyG.takeC (i := 7) (v := ?_) rfl (by kernel_rfl) (fun _ _ _ h => h) rfl ?_ hS ?_
  rotate_left
  · (intro w' hSw; (try dsimp only at hSw); obtain ⟨x0, x1, x2, x3, x4, x5, x6, x7, x8, x9, xf, xz⟩ := hSw.1.ten; go_simp; try with_reducible rfl)
  try simp only [Act.put, List.getElem_toArray, List.getElem_cons_succ, List.getElem_cons_zero, List.setIfInBounds_toArray, List.set_cons_zero, List.set_cons_succ]
  refine AnyG.takeC (i := 8) (v := ?_) rfl (by kernel_rfl) (fun _ _ _ h => h) rfl ?_ hS ?_
  rotate_left
  · (intro w' hSw; (try dsimp only at hSw); go_simp; try with_reducible rfl)
  try simp only [Act.put, List.getElem_toArray, List.getElem_cons_succ, List.getElem_cons_zero, List.setIfInBounds_toArray, List.set_cons_zero, List.set_cons_succ]
  refine AnyG.one (i := 3) (by kernel_rfl) rfl rfl ?_
  go_simp
  refine (sail_any v p false d0 d1 _ ho (hV.call hS.2.2) h0 h1).mono ?_
  rintro e6 y6 ⟨⟨X, x, rfl, -⟩, hb6⟩
  obtain ⟨N, hN⟩ : ∃ N, (sal (slM (max d0 d1 + 1000 * v.un) v.ss false) v.le).length = N := ⟨_, rfl⟩
  have HN := Lib.hid hN
  rw [hN]
  clear hN
  refine Onward.on ⟨hS.1.call hb6, hS.2.1.call hb6, hS.2.2.trans (hb6.mono hS.2.2.size)⟩ (fun hS2 => ?_)
  clear hS
  have hS := hS2
  clear hS2
  try simp only [Act.put, List.getElem_toArray, List.getElem_cons_succ, List.getElem_cons_zero, List.setIfInBounds_toArray, List.set_cons_zero, List.set_cons_succ]
  refine AnyG.takeC (i := 4) (v := ?_) rfl (by kernel_rfl) (fun _ _ _ h => h) rfl ?_ hS ?_
  rotate_left
  · (intro w' hSw; (try dsimp only at hSw); go_simp; try with_reducible rfl)
  try simp only [Act.put, List.getElem_toArray, List.getElem_cons_succ, List.getElem_cons_zero, List.setIfInBounds_toArray, List.set_cons_zero, List.set_cons_succ]
  refine AnyG.takeC (i := 9) (v := ?_) rfl (by kernel_rfl) (fun _ _ _ h => h) rfl ?_ hS ?_
  rotate_left
  · (intro w' hSw; (try dsimp only at hSw); go_simp; try with_reducible rfl)
  try simp only [Act.put, List.getElem_toArray, List.getElem_cons_succ, List.getElem_cons_zero, List.setIfInBounds_toArray, List.set_cons_zero, List.set_cons_succ]
  refine AnyG.takeC (i := 10) (v := ?_) rfl (by kernel_rfl) (fun _ _ _ h => h) rfl ?_ hS ?_
  rotate_left
  · (intro w' hSw; (try dsimp only at hSw); go_simp; try with_reducible rfl)
  try simp only [Act.put, List.getElem_toArray, List.getElem_cons_succ, List.getElem_cons_zero, List.setIfInBounds_toArray, List.set_cons_zero, List.set_cons_succ]
  refine AnyG.one (i := 11) (by kernel_rfl) rfl rfl ?_
  obtain ⟨z0, z1, z2, zf, zz⟩ := Bx.three' hS.2.1
  have hE := hS
  go_simp
  clear z0 z1 z2 zf zz
  refine Onward.last rfl ?_
  try simp only [Act.put, List.getElem_toArray, List.getElem_cons_succ, List.getElem_cons_zero, List.setIfInBounds_toArray, List.set_cons_zero, List.set_cons_succ]
  refine AnyG.done (by kernel_rfl) ?_ _
  go_wp2_with fail
  have fA := ((hE.2.1.set_ 0 (.int .i64 d0)).set_ 1 (.int .i64 d1)).set_ 2 (.bool ((N : Int) == (p.sn : Int)))
  have fB := (((hE.2.2.setCell (p := ⟨w.heap.size + 1, 0, none⟩) (by simp) (.int .i64 d0)).setCell (p := ⟨w.heap.size + 1, 1, none⟩) (by simp) (.int .i64 d1)).setCell (p := ⟨w.heap.size + 1, 2, none⟩) (by simp) (.bool ((N : Int) == (p.sn : Int))))
  simp only [List.setIfInBounds_toArray, List.set_cons_zero, List.set_cons_succ] at fA
  obtain ⟨r0, r1, r2, rf, rz⟩ := Bx.three' fA
  have hpn : ((N : Int) == (p.sn : Int)) = pasD v d0 d1 := by
    unfold pasD
    rw [HN.out, HSL.out]
    by_cases h : N = p.sn
    · subst h; simp
    · have h2 : ¬ (N : Int) = (p.sn : Int) := by omega
      simp [h, h2]
  exact bodyPost_ret (v := .agg #[.int .i64 d0, .int .i64 d1, .bool ((N : Int) == (p.sn : Int))]) (by simp [results, Tryd.results30, go_sem, r0, r1, r2]) rfl ⟨by rw [← HRS.out, hpn]; rfl, fB⟩
set_option maxRecDepth 100000 in
set_option maxHeartbeats 2000000 in
theorem with_any (v : Vg) (p : Vp) (d0 d1 e0 e1 : Int) (w : World) (ho : v.Ok) (hV : VoyAt w w.heap.size v p) (h0 : 0 ≤ e0 ∧ e0 ≤ 305000000) (h1 : 0 ≤ e1 ∧ e1 ≤ 305000000) :
    Calls Tryd.prog 32 #[.agg (trl v d0 d1), .agg (bcs v p false e0 e1)] w fun e w' => e = .returned (.agg (trl v e0 e1)) ∧ Below w.heap.size w w' := by
  have k3 := ((Bx.new w 81 (trl v d0 d1)).alloc (.cells (bcs v p false e0 e1) 71)).alloc (.cells #[.int .i64 0, .int .i64 0, .bool false] 81)
  have k4 := (Bx.at (w.alloc (.cells (trl v d0 d1) 81)) 71 (bcs v p false e0 e1) (n := w.heap.size + 1) (by simp)).alloc (.cells #[.int .i64 0, .int .i64 0, .bool false] 81)
  have k6 := Bx.at ((w.alloc (.cells (trl v d0 d1) 81)).alloc (.cells (bcs v p false e0 e1) 71)) 81 #[.int .i64 0, .int .i64 0, .bool false] (n := w.heap.size + 1 + 1) (by simp)
  have B0 := (((Below.refl w.heap.size w).alloc (Nat.le_refl _) (.cells (trl v d0 d1) 81)).alloc (by simp) (.cells (bcs v p false e0 e1) 71)).alloc (by simp; omega) (.cells #[.int .i64 0, .int .i64 0, .bool false] 81)
  obtain ⟨RS, hRS⟩ : ∃ r, trl v e0 e1 = r := ⟨_, rfl⟩
  rw [hRS]
  have HRS := Lib.hid hRS
  clear hRS
  unfold trl at k3 k4 k6 B0 ⊢
  obtain ⟨t, ht⟩ : ∃ t, pasD v d0 d1 = t := ⟨_, rfl⟩
  rw [ht] at k3 k4 k6 B0 ⊢
  have HT := Lib.hid ht
  clear ht
  rw [bcs_def] at k3 k4 k6 B0 ⊢
  obtain ⟨V, hVV⟩ : ∃ V, ((w.alloc (.cells #[.int .i64 d0, .int .i64 d1, .bool t] 81)).alloc (.cells #[.int .i64 v.li, .int .i64 v.un, .int .i64 v.tr, .slice p.HA p.hn p.hc, .int .i64 v.le, .slice p.SA p.sn p.sc, .slice p.LA p.ln p.lc, .bool false, .int .i64 e0, .int .i64 e1] 71)).alloc (.cells #[.int .i64 0, .int .i64 0, .bool false] 81) = V := ⟨_, rfl⟩
  rw [hVV] at k3 k4 k6 B0
  have HV := Lib.hid hVV
  clear hVV
  obtain ⟨x0, x1, x2, xf, xz⟩ := Bx.three' k3
  obtain ⟨y0, y1, y2, y3, y4, y5, y6, y7, y8, y9, yf, yz⟩ := k4.ten
  obtain ⟨z0, z1, z2, zf, zz⟩ := Bx.three' k6
  have hpn : (e0 == d0 && e1 == d1) = true → #[Value.int .i64 d0, .int .i64 d1, .bool t] = RS := by
    intro h
    simp at h
    obtain ⟨rfl, rfl⟩ := h
    rw [← HRS.out, ← HT.out]
    rfl
  have HPN := Lib.hid hpn
  clear hpn
  obtain ⟨q, hq⟩ : ∃ q, (e0 == d0 && e1 == d1) = q := ⟨_, rfl⟩
  rw [hq] at HPN
  have HQ := Lib.hid hq
  cases q
  · go_enter Tryd.func32, Tryd.ntmps32
    go_wp2_with (first
      | (go_at_call 30; rw [HV.out]; refine (trialOf_any v p e0 e1 _ ho (hV.call B0) h0 h1).mono ?_; rintro e w3 ⟨rfl, hb3⟩; rw [show trl v e0 e1 = #[Value.int .i64 e0, .int .i64 e1, .bool (pasD v e0 e1)] from rfl]; have k6 := k6.call hb3; have B3 := B0.trans (hb3.mono B0.size); obtain ⟨z0, z1, z2, zf, zz⟩ := Bx.three' k6)
      | fail)
    have fA := ((k6.set_ 0 (.int .i64 e0)).set_ 1 (.int .i64 e1)).set_ 2 (.bool (pasD v e0 e1))
    have fB := (((B3.setCell (p := ⟨w.heap.size + 1 + 1, 0, none⟩) (by simp; omega) (.int .i64 e0)).setCell (p := ⟨w.heap.size + 1 + 1, 1, none⟩) (by simp; omega) (.int .i64 e1)).setCell (p := ⟨w.heap.size + 1 + 1, 2, none⟩) (by simp; omega) (.bool (pasD v e0 e1)))
    simp only [List.setIfInBounds_toArray, List.set_cons_zero, List.set_cons_succ] at fA
    obtain ⟨r0, r1, r2, rf, rz⟩ := Bx.three' fA
    exact bodyPost_ret (v := .agg #[.int .i64 e0, .int .i64 e1, .bool (pasD v e0 e1)]) (by simp [results, Tryd.results32, go_sem, r0, r1, r2]) rfl ⟨by rw [← HRS.out]; rfl, fB⟩
  · go_enter Tryd.func32, Tryd.ntmps32
    go_wp2_with fail
    have fA := Bx.at ((w.alloc (.cells #[.int .i64 d0, .int .i64 d1, .bool t] 81)).alloc (.cells #[.int .i64 v.li, .int .i64 v.un, .int .i64 v.tr, .slice p.HA p.hn p.hc, .int .i64 v.le, .slice p.SA p.sn p.sc, .slice p.LA p.ln p.lc, .bool false, .int .i64 e0, .int .i64 e1] 71)) 81 #[.int .i64 d0, .int .i64 d1, .bool t] (n := w.heap.size + 1 + 1) (by simp)
    have fB := (((Below.refl w.heap.size w).alloc (Nat.le_refl _) (.cells #[.int .i64 d0, .int .i64 d1, .bool t] 81)).alloc (by simp) (.cells #[.int .i64 v.li, .int .i64 v.un, .int .i64 v.tr, .slice p.HA p.hn p.hc, .int .i64 v.le, .slice p.SA p.sn p.sc, .slice p.LA p.ln p.lc, .bool false, .int .i64 e0, .int .i64 e1] 71)).alloc (by simp; omega) (.cells #[.int .i64 d0, .int .i64 d1, .bool t] 81)
    obtain ⟨r0, r1, r2, rf, rz⟩ := Bx.three' fA
    exact bodyPost_ret (v := .agg #[.int .i64 d0, .int .i64 d1, .bool t]) (by simp [results, Tryd.results32, go_sem, r0, r1, r2]) rfl ⟨by rw [HPN.out (by first | rfl | trivial | simp)], fB⟩
end Go.Proofs.YtdlohfglmagneaaDoor
