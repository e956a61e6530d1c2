/- truths: the step of the recursion. -/
import Derived.Test.YtgbogdckmfencaaEnA
set_option linter.unusedSimpArgs false
set_option linter.unusedVariables false
namespace Go.Proofs.Ytgbogdckmfencaa
open Go Go.RowKit
/-- What truths adds for a zero and a load, and for a zero. -/
def tH (st z0 z1 : Int) (es : List Ev) (e : Ev) (d : Nat) (zs ns : List Int) (z n : Int) : List (List Int × List Int) := if okd st e z n then exs st z0 z1 30 es d (zs ++ [z], ns ++ [n]) else []
def tG (st z0 z1 : Int) (es : List Ev) (e : Ev) (d : Nat) (zs ns : List Int) (z : Int) : List (List Int × List Int) := (rngL 0 30).flatMap (tH st z0 z1 es e d zs ns z)
/-- Between two rounds: what is gathered. -/
structure TI (b : Nat) (w1 : World) (row0 : Option Nat) (v : Value) (n : Nat) (L : List (List Int × List Int)) (wr : World) : Prop where
  facts : Facts wr b v n L
  gr : w1.grownBy wr row0
  ow : v.ownBlock = row0 ∨ ∀ k, v.ownBlock = some k → w1.heap.size ≤ k
theorem grown_step {a x c : World} {row r2 : Option Nat} (h : a.grownBy x row) (k : x.grownBy c r2) (hr : r2 = row ∨ ∀ q, r2 = some q → a.heap.size ≤ q) : a.grownBy c row :=
  ⟨k.os.trans h.os, k.tape.trans h.tape, k.output.trans h.output, Nat.le_trans h.size k.size, fun i hi hn => (k.block i (Nat.lt_of_lt_of_le hi h.size) (by
    rcases hr with rfl | hr
    · exact hn
    · intro e; have := hr i e.symm; omega)).trans (h.block i hi hn)⟩
def TruthsPost (b : Nat) (v : Value) (Lx : List (List Int × List Int)) (W : World) (e : Ending) (w' : World) : Prop :=
  ∃ (v' : Value) (n' : Nat), e = .returned v' ∧ Facts w' b v' n' Lx ∧ W.grownBy w' v.ownBlock ∧ (v'.ownBlock = v.ownBlock ∨ ∀ k, v'.ownBlock = some k → W.heap.size ≤ k)
theorem okd_go {st : Int} {e : Ev} {z n : Int} (h1 : ¬ z < -200) (h2 : ¬ 200 < z) (h3 : ¬ (e.kd = 1 ∧ n ≠ 0)) (h4 : ¬ (e.kd = 2 ∧ n ≠ e.ld)) : okd st e z n = !(shows st n z != e.sh) := by
  unfold okd
  rw [decide_eq_false h1, decide_eq_false h2, ← Bool.decide_and, decide_eq_false h3, ← Bool.decide_and, decide_eq_false h4]
  by_cases h : shows st n z = e.sh <;> simp [h]
theorem okd_no {st : Int} {e : Ev} {z n : Int} (h : z < -200 ∨ 200 < z ∨ (e.kd = 1 ∧ n ≠ 0) ∨ (e.kd = 2 ∧ n ≠ e.ld)) : okd st e z n = false := by
  unfold okd
  rcases h with h | h | h | h
  · simp [h]
  · simp [h]
  · simp [h.1, h.2]
  · simp [h.1, h.2]
theorem okd_bd {st : Int} {e : Ev} {z n : Int} (h : okd st e z n = true) : -200 ≤ z ∧ z ≤ 200 := by
  unfold okd at h
  simp only [Bool.not_eq_true', Bool.or_eq_false_iff, decide_eq_false_iff_not] at h
  omega
theorem upTo_len (lo : Int) (k : Nat) : (upTo lo k).length = k := by simp [upTo]
theorem step_own {v v' : Value} {row0 : Option Nat} {a x : Nat} (h : v.ownBlock = row0 ∨ ∀ k, v.ownBlock = some k → a ≤ k) (h' : v'.ownBlock = v.ownBlock ∨ ∀ k, v'.ownBlock = some k → x ≤ k) (hx : a ≤ x) : v'.ownBlock = row0 ∨ ∀ k, v'.ownBlock = some k → a ≤ k := by
  rcases h' with e | h'
  · rw [e]; exact h
  · exact .inr fun k hk => Nat.le_trans hx (h' k hk)
theorem tH_len {st z0 z1 : Int} {es : List Ev} {e : Ev} (hc : ∀ e ∈ es, e.c1 ≤ e.c0 + 2) (hz : z1 ≤ z0 + 3) (d : Nat) (zs ns : List Int) (z n : Int) : (tH st z0 z1 es e d zs ns z n).length ≤ 300 ^ d := by
  unfold tH
  split
  · exact exs_len hc hz d _
  · simp
theorem tG_len {st z0 z1 : Int} {es : List Ev} {e : Ev} (hc : ∀ e ∈ es, e.c1 ≤ e.c0 + 2) (hz : z1 ≤ z0 + 3) (d : Nat) (zs ns : List Int) (z : Int) : (tG st z0 z1 es e d zs ns z).length ≤ 31 * 300 ^ d := by
  unfold tG
  have := flat_len (tH st z0 z1 es e d zs ns z) (300 ^ d) (rngL 0 30) fun n _ => tH_len hc hz d zs ns z n
  rwa [rngL_len, show ((30 : Int) - 0 + 1).toNat = 31 by decide] at this
set_option maxRecDepth 100000 in
set_option maxHeartbeats 40000000 in
theorem truths_succ (st z0 z1 : Int) (k EC : Nat) (EA : Option Addr) (es : List Ev) (b d : Nat) (hel : es.length = k) (hk : k ≤ 14) (ho : ∀ e ∈ es, EvOk e) (hcw : ∀ e ∈ es, e.c1 ≤ e.c0 + 2) (hz0 : -200 ≤ z0) (hz01 : z0 ≤ z1) (hz1 : z1 ≤ 200) (hzw : z1 ≤ z0 + 3) (hs1 : 1 ≤ st) (hs2 : st ≤ 100) (ih : TruthsAt st z0 z1 k EC EA es b d) : TruthsAt st z0 z1 k EC EA es b (d + 1) := by
  intro zs ns ZA zc NA nc v n L W hzl hnl hbW hE hF hzb hL hn
  obtain ⟨i, hi⟩ : ∃ i, zs.length = i := ⟨_, rfl⟩
  rw [hnl, hi] at hF ⊢
  have hik : i < k := by omega
  have hni : ns.length = i := by omega
  obtain ⟨e, he⟩ : ∃ e, es[i]? = some e := ⟨_, List.getElem?_eq_getElem (by omega)⟩
  have hex : exs st z0 z1 30 es (d + 1) (zs, ns) = (rngL ((frm z0 z1 zs i).1 + e.c0) ((frm z0 z1 zs i).2 + e.c1)).flatMap fun z => (rngL 0 30).flatMap fun n => if okd st e z n then exs st z0 z1 30 es d (zs ++ [z], ns ++ [n]) else [] := by
    rw [exs]
    dsimp only
    rw [hi, he]
  have hok := ho e (List.mem_of_getElem? he)
  obtain ⟨⟨f0, f1⟩, hfr⟩ : ∃ f, frm z0 z1 zs i = f := ⟨_, rfl⟩
  have hfb : -300 ≤ f0 ∧ f0 ≤ 300 ∧ -300 ≤ f1 ∧ f1 ≤ 300 ∧ f0 ≤ f1 ∧ f1 ≤ f0 + 3 := by
    unfold frm at hfr
    split at hfr
    · simp only [Prod.mk.injEq] at hfr
      omega
    · simp only [Prod.mk.injEq] at hfr
      have h1 := hzb (zs[i - 1]'(by omega)) (List.getElem_mem _)
      rw [atF_get (by omega)] at hfr
      omega
  rw [hfr] at hex
  dsimp only at hex
  replace hex : exs st z0 z1 30 es (d + 1) (zs, ns) = (upTo (f0 + e.c0) (f1 + e.c1 - (f0 + e.c0) + 1).toNat).flatMap (tG st z0 z1 es e d zs ns) := hex
  rw [hex]
  obtain ⟨xs, hown⟩ := hL.own
  obtain ⟨VA, VC, rfl⟩ := own_shape hown
  obtain ⟨ea, rfl, hea, p0, p1, p2, p3, p4⟩ := hE.at_ (show i < es.length by omega)
  have hge : es[i]'(by omega) = e := by have := List.getElem?_eq_getElem (show i < es.length by omega); rw [this] at he; exact Option.some.inj he
  rw [hge] at p0 p1 p2 p3 p4
  obtain ⟨kd, sh, ld, c0, c1⟩ := e
  have HZ := Lib.hid (And.intro hi hni)
  have HEL := Lib.hid hel
  have HHE := Lib.hid he
  have HFR := Lib.hid hfr
  have HHL := Lib.hid hzl
  clear hi hni hel he hfr hzl hnl hex hge
  have HP := Lib.hid (And.intro p0 (And.intro p1 (And.intro p2 (And.intro p3 p4))))
  have hb2 : Below W.heap.size W ((W.alloc (.cells #[.int .i64 st, .int .i64 z0, .int .i64 z1, .slice (some ea) k EC] 26)).alloc (.cells #[.slice ZA i zc, .slice NA i nc] 32)) := ((Below.refl _ _).alloc (Nat.le_refl _) _).alloc (by simp) _
  have hkx := (Bx.new W 26 #[.int .i64 st, .int .i64 z0, .int .i64 z1, .slice (some ea) k EC]).alloc (.cells #[.slice ZA i zc, .slice NA i nc] 32)
  have hkf := Bx.at (W.alloc (.cells #[.int .i64 st, .int .i64 z0, .int .i64 z1, .slice (some ea) k EC] 26)) 32 #[.slice ZA i zc, .slice NA i nc] (n := W.heap.size + 1) (by simp)
  have HKX := Lib.hid (And.intro hkx (And.intro hkf hb2))
  clear hkx hkf hb2 p0 p1 p2 p3 p4
  have hEA : (ea.add (i * 5)).block < W.heap.size := by rw [add_block]; omega
  show Calls Try.prog 45 #[.agg #[.int .i64 st, .int .i64 z0, .int .i64 z1, .slice (some ea) k EC], .agg #[.slice ZA i zc, .slice NA i nc], .int .i64 30, .slice VA n VC] W (TruthsPost b (.slice VA n VC) (L ++ (upTo (f0 + c0) (f1 + c1 - (f0 + c0) + 1).toNat).flatMap (tG st z0 z1 es ⟨kd, sh, ld, c0, c1⟩ d zs ns)) W)
  go_enter Try.func45, Try.ntmps45
  obtain ⟨⟨l0, l1, l2, l3, lf, lz⟩, f0', f1', ff, fz⟩ := And.intro HKX.out.1.four HKX.out.2.1.two
  have q0 := (HKX.out.2.2.cell (p := ea.add (i * 5)) hEA).trans HP.out.1
  have q1 := (HKX.out.2.2.cell (p := ⟨(ea.add (i * 5)).block, (ea.add (i * 5)).off + 1, none⟩) hEA).trans HP.out.2.1
  have q2 := (HKX.out.2.2.cell (p := ⟨(ea.add (i * 5)).block, (ea.add (i * 5)).off + 2, none⟩) hEA).trans HP.out.2.2.1
  have q3 := (HKX.out.2.2.cell (p := ⟨(ea.add (i * 5)).block, (ea.add (i * 5)).off + 3, none⟩) hEA).trans HP.out.2.2.2.1
  have q4 := (HKX.out.2.2.cell (p := ⟨(ea.add (i * 5)).block, (ea.add (i * 5)).off + 4, none⟩) hEA).trans HP.out.2.2.2.2
  go_upto_region 6 with fail
  clear q0 q1 q2 q3 q4 l0 l1 l2 l3 lf lz f0' f1' ff fz
  have kx := ((HKX.out.1).alloc (.cells #[.int .i64 kd, .int .i64 sh, .int .i64 ld, .int .i64 c0, .int .i64 c1] 28)).alloc (.cells #[.int .i64 z0, .int .i64 z1] 23)
  have kf := ((HKX.out.2.1).alloc (.cells #[.int .i64 kd, .int .i64 sh, .int .i64 ld, .int .i64 c0, .int .i64 c1] 28)).alloc (.cells #[.int .i64 z0, .int .i64 z1] 23)
  have ke := (Bx.at ((W.alloc (.cells #[.int .i64 st, .int .i64 z0, .int .i64 z1, .slice (some ea) k EC] 26)).alloc (.cells #[.slice ZA i zc, .slice NA i nc] 32)) 28 #[.int .i64 kd, .int .i64 sh, .int .i64 ld, .int .i64 c0, .int .i64 c1] (n := W.heap.size + 1 + 1) (by simp)).alloc (.cells #[.int .i64 z0, .int .i64 z1] 23)
  have kr := Bx.at (((W.alloc (.cells #[.int .i64 st, .int .i64 z0, .int .i64 z1, .slice (some ea) k EC] 26)).alloc (.cells #[.slice ZA i zc, .slice NA i nc] 32)).alloc (.cells #[.int .i64 kd, .int .i64 sh, .int .i64 ld, .int .i64 c0, .int .i64 c1] 28)) 23 #[.int .i64 z0, .int .i64 z1] (n := W.heap.size + 1 + 1 + 1) (by simp)
  have hBX := (HKX.out.2.2.alloc (by simp; omega) (.cells #[.int .i64 kd, .int .i64 sh, .int .i64 ld, .int .i64 c0, .int .i64 c1] 28)).alloc (by simp; omega) (.cells #[.int .i64 z0, .int .i64 z1] 23)
  obtain ⟨X, hX⟩ : ∃ V, (((W.alloc (.cells #[.int .i64 st, .int .i64 z0, .int .i64 z1, .slice (some ea) k EC] 26)).alloc (.cells #[.slice ZA i zc, .slice NA i nc] 32)).alloc (.cells #[.int .i64 kd, .int .i64 sh, .int .i64 ld, .int .i64 c0, .int .i64 c1] 28)).alloc (.cells #[.int .i64 z0, .int .i64 z1] 23) = V := ⟨_, rfl⟩
  rw [hX] at kx kf ke kr hBX ⊢
  obtain ⟨bW, hbW'⟩ : ∃ x, W.heap.size = x := ⟨_, rfl⟩
  have hWX : bW + 4 ≤ X.heap.size := by rw [← hX, ← hbW']; simp
  have hbW2 : bW ≤ W.heap.size ∧ W.heap.size ≤ bW := by omega
  rw [hbW'] at kx kf ke kr ⊢
  clear hX hbW' HKX HP
  go_upto_if 34 with fail
  go_cut [] (fun wr => Below W.heap.size W wr ∧ X.heap.size ≤ wr.heap.size ∧ Bx wr bW 26 #[.int .i64 st, .int .i64 z0, .int .i64 z1, .slice (some ea) k EC] ∧ Bx wr (bW + 1) 32 #[.slice ZA i zc, .slice NA i nc] ∧ Bx wr (bW + 1 + 1) 28 #[.int .i64 kd, .int .i64 sh, .int .i64 ld, .int .i64 c0, .int .i64 c1] ∧ Bx wr (bW + 1 + 1 + 1) 23 #[.int .i64 f0, .int .i64 f1])
  case first =>
    cases i with
    | zero =>
      have hf : f0 = z0 ∧ f1 = z1 := by have h := HFR.out; unfold frm at h; rw [if_pos rfl] at h; simp only [Prod.mk.injEq] at h; exact ⟨h.1.symm, h.2.symm⟩
      go_wp2_with fail
      go_meet
      obtain ⟨rfl, rfl⟩ := hf
      exact ⟨hBX, Nat.le_refl _, kx, kf, ke, kr⟩
    | succ j =>
      obtain ⟨ZA2, zc2, NA2, nc2, hre, hr1, hr2⟩ := hF
      simp only [List.cons.injEq, Value.slice.injEq, and_true] at hre
      obtain ⟨⟨rfl, -, rfl⟩, -⟩ := hre
      have hzl : zs.length = j + 1 := HZ.out.1
      obtain ⟨za, rfl, hza, hzc⟩ := ints_at (own_sl2 hr1 rfl) (k := j) (by show j < zs.length; omega)
      obtain ⟨u, hu⟩ : ∃ u, zs[j]'(by omega) = u := ⟨_, rfl⟩
      rw [hu] at hzc
      have hf : f0 = u ∧ f1 = u := by
        have h := HFR.out
        unfold frm at h
        rw [if_neg (by omega), Nat.add_sub_cancel, atF_get (by omega), hu] at h
        simp only [Prod.mk.injEq] at h
        exact ⟨h.1.symm, h.2.symm⟩
      have HC := Lib.hid hzc
      clear hzc hu hzl
      have hwj : IntKind.i64.wrap (j : Int) = j := IntWalk.i64_in _ (by omega)
      have hjj : (j : Int) < (j : Int) + 1 := by omega
      obtain ⟨g0, g1, gf, gz⟩ := kf.two
      go_wp2_with fail
      clear g0 g1 gf gz
      refine AnyG.startC (by kernel_rfl) ?_
      refine AnyG.takeP (i := 0) (v := ?_) rfl (by kernel_rfl) (fun _ _ _ h => h) rfl ?_ ?_
      rotate_left
      · (intro w'; go_simp; try with_reducible rfl)
      try simp only [Act.put, List.getElem_toArray, List.getElem_cons_succ, List.getElem_cons_zero, List.setIfInBounds_toArray, List.set_cons_zero, List.set_cons_succ]
      refine AnyG.takeP (i := 2) (v := ?_) rfl (by kernel_rfl) (fun _ _ _ h => h) rfl ?_ ?_
      rotate_left
      · (intro w'; go_simp; try with_reducible rfl)
      try simp only [Act.put, List.getElem_toArray, List.getElem_cons_succ, List.getElem_cons_zero, List.setIfInBounds_toArray, List.set_cons_zero, List.set_cons_succ]
      refine AnyG.takeP (i := 3) (v := ?_) rfl (by kernel_rfl) (fun _ _ _ h => h) rfl ?_ ?_
      rotate_left
      · (intro w'; go_simp; try with_reducible rfl)
      try simp only [Act.put, List.getElem_toArray, List.getElem_cons_succ, List.getElem_cons_zero, List.setIfInBounds_toArray, List.set_cons_zero, List.set_cons_succ]
      refine AnyG.takeP (i := 6) (v := ?_) rfl (by kernel_rfl) (fun _ _ _ h => h) rfl ?_ ?_
      rotate_left
      · (intro w'; go_simp; try with_reducible rfl)
      try simp only [Act.put, List.getElem_toArray, List.getElem_cons_succ, List.getElem_cons_zero, List.setIfInBounds_toArray, List.set_cons_zero, List.set_cons_succ]
      refine AnyG.takeP (i := 8) (v := ?_) rfl (by kernel_rfl) (fun _ _ _ h => h) rfl ?_ ?_
      rotate_left
      · (intro w'; go_simp; try with_reducible rfl)
      try simp only [Act.put, List.getElem_toArray, List.getElem_cons_succ, List.getElem_cons_zero, List.setIfInBounds_toArray, List.set_cons_zero, List.set_cons_succ]
      refine AnyG.takeP (i := 9) (v := ?_) rfl (by kernel_rfl) (fun _ _ _ h => h) rfl ?_ ?_
      rotate_left
      · (intro w'; go_simp; try with_reducible rfl)
      try simp only [Act.put, List.getElem_toArray, List.getElem_cons_succ, List.getElem_cons_zero, List.setIfInBounds_toArray, List.set_cons_zero, List.set_cons_succ]
      refine AnyG.enter (fun w' : World => Below W.heap.size W w' ∧ Bx w' (bW + 1) 32 #[.slice (some za) (j + 1) zc, .slice NA (j + 1) nc] ∧ Below X.heap.size X w') (fun i => i != 13 && i != 12) ?_
      have hS : (fun w' : World => Below W.heap.size W w' ∧ Bx w' (bW + 1) 32 #[.slice (some za) (j + 1) zc, .slice NA (j + 1) nc] ∧ Below X.heap.size X w') (World.drew _) := ⟨hBX.drew, kf.drew, (Below.refl _ _).drew⟩
      refine AnyG.takeC (i := 1) (v := ?_) rfl (by kernel_rfl) (fun _ _ _ h => h) rfl ?_ hS ?_
      rotate_left
      · (intro w' hSw; (try dsimp only at hSw); obtain ⟨g0, g1, gf, gz⟩ := hSw.2.1.two; go_simp; try with_reducible rfl)
      try simp only [Act.put, List.getElem_toArray, List.getElem_cons_succ, List.getElem_cons_zero, List.setIfInBounds_toArray, List.set_cons_zero, List.set_cons_succ]
      refine AnyG.takeC (i := 4) (v := ?_) rfl (by kernel_rfl) (fun _ _ _ h => h) rfl ?_ hS ?_
      rotate_left
      · (intro w' hSw; (try dsimp only at hSw); go_simp; try with_reducible rfl)
      try simp only [Act.put, List.getElem_toArray, List.getElem_cons_succ, List.getElem_cons_zero, List.setIfInBounds_toArray, List.set_cons_zero, List.set_cons_succ]
      refine AnyG.takeC (i := 5) (v := ?_) rfl (by kernel_rfl) (fun _ _ _ h => h) rfl ?_ hS ?_
      rotate_left
      · (intro w' hSw; (try dsimp only at hSw); have zc0 := (hSw.1.cell (p := za.add j) (by rw [add_block]; exact hza)).trans HC.out; go_simp; try with_reducible rfl)
      try simp only [Act.put, List.getElem_toArray, List.getElem_cons_succ, List.getElem_cons_zero, List.setIfInBounds_toArray, List.set_cons_zero, List.set_cons_succ]
      refine AnyG.takeC (i := 7) (v := ?_) rfl (by kernel_rfl) (fun _ _ _ h => h) rfl ?_ hS ?_
      rotate_left
      · (intro w' hSw; (try dsimp only at hSw); obtain ⟨g0, g1, gf, gz⟩ := hSw.2.1.two; go_simp; try with_reducible rfl)
      try simp only [Act.put, List.getElem_toArray, List.getElem_cons_succ, List.getElem_cons_zero, List.setIfInBounds_toArray, List.set_cons_zero, List.set_cons_succ]
      refine AnyG.takeC (i := 10) (v := ?_) rfl (by kernel_rfl) (fun _ _ _ h => h) rfl ?_ hS ?_
      rotate_left
      · (intro w' hSw; (try dsimp only at hSw); go_simp; try with_reducible rfl)
      try simp only [Act.put, List.getElem_toArray, List.getElem_cons_succ, List.getElem_cons_zero, List.setIfInBounds_toArray, List.set_cons_zero, List.set_cons_succ]
      refine AnyG.takeC (i := 11) (v := ?_) rfl (by kernel_rfl) (fun _ _ _ h => h) rfl ?_ hS ?_
      rotate_left
      · (intro w' hSw; (try dsimp only at hSw); have zc0 := (hSw.1.cell (p := za.add j) (by rw [add_block]; exact hza)).trans HC.out; go_simp; try with_reducible rfl)
      try simp only [Act.put, List.getElem_toArray, List.getElem_cons_succ, List.getElem_cons_zero, List.setIfInBounds_toArray, List.set_cons_zero, List.set_cons_succ]
      refine AnyG.one (i := 12) (by kernel_rfl) rfl rfl ?_
      go_simp
      refine (rng_any _ _ _).mono ?_
      rintro er y12 ⟨rfl, hq12⟩
      have hS12 := And.intro (hS.1.trans (hq12.mono hS.1.size)) (And.intro (hS.2.1.call hq12) (hS.2.2.trans (hq12.mono hS.2.2.size)))
      refine Onward.last rfl ?_
      try simp only [Act.put, List.getElem_toArray, List.getElem_cons_succ, List.getElem_cons_zero, List.setIfInBounds_toArray, List.set_cons_zero, List.set_cons_succ]
      refine AnyG.one (i := 13) (by kernel_rfl) rfl rfl ?_
      have kr12 := kr.call hS12.2.2
      obtain ⟨r0, r1, rf, rz⟩ := kr12.two
      go_simp
      refine Onward.last rfl ?_
      try simp only [Act.put, List.getElem_toArray, List.getElem_cons_succ, List.getElem_cons_zero, List.setIfInBounds_toArray, List.set_cons_zero, List.set_cons_succ]
      refine AnyG.done (by kernel_rfl) ?_ _
      go_simp
      go_wp2_with fail
      go_meet
      obtain ⟨rfl, rfl⟩ := hf
      exact ⟨(hS12.1.setCell (p := ⟨bW + 1 + 1 + 1, 0, none⟩) (by show W.heap.size ≤ bW + 1 + 1 + 1; omega) _).setCell (p := ⟨bW + 1 + 1 + 1, 1, none⟩) (by show W.heap.size ≤ bW + 1 + 1 + 1; omega) _, by simpa using hS12.2.2.size, ((kx.call hS12.2.2).far (p := ⟨bW + 1 + 1 + 1, 0, none⟩) (by show bW ≠ bW + 1 + 1 + 1; omega) _).far (p := ⟨bW + 1 + 1 + 1, 1, none⟩) (by show bW ≠ bW + 1 + 1 + 1; omega) _, ((kf.call hS12.2.2).far (p := ⟨bW + 1 + 1 + 1, 0, none⟩) (by show bW + 1 ≠ bW + 1 + 1 + 1; omega) _).far (p := ⟨bW + 1 + 1 + 1, 1, none⟩) (by show bW + 1 ≠ bW + 1 + 1 + 1; omega) _, ((ke.call hS12.2.2).far (p := ⟨bW + 1 + 1 + 1, 0, none⟩) (by show bW + 1 + 1 ≠ bW + 1 + 1 + 1; omega) _).far (p := ⟨bW + 1 + 1 + 1, 1, none⟩) (by show bW + 1 + 1 ≠ bW + 1 + 1 + 1; omega) _, by have := (kr12.set_ 0 (.int .i64 f1)).set_ 1 (.int .i64 f1); simpa using this⟩
  case rest =>
    obtain ⟨w1, rfl⟩ : ∃ w1, w1 = wc := ⟨_, rfl⟩
    obtain ⟨hBc, hsc, kL, kF, kE, kR⟩ := hcut
    clear hBX kx kf ke kr
    obtain ⟨hcb0, hcb1, hcb2⟩ : -200 ≤ c0 ∧ c0 ≤ c1 ∧ c1 ≤ 200 := ⟨hok.c1, hok.c2, hok.c3⟩
    have hcw1 : c1 ≤ c0 + 2 := hcw _ (List.mem_of_getElem? HHE.out)
    have hown1 := own_bel hown hBc
    have hL1 := hL.bel hBc
    have hF1 := hF.bel hBc
    have hE1 : EvsAt w1 b (some ea) es := Sl.below hE (hBc.mono hbW)
    have hlt0 := fun k hk => (hown.lt k hk).2
    have hne : ∀ q, some (bW + q) ≠ (Value.slice VA n VC).ownBlock := fun q h => by have := hlt0 _ h.symm; omega
    have HNE := Lib.hid hne
    have HGW := Lib.hid (grown_below (row := (Value.slice VA n VC).ownBlock) hBc)
    have hbw1 : b ≤ w1.heap.size := Nat.le_trans hbW hBc.size
    have hWw1 : W.heap.size ≤ w1.heap.size := hBc.size
    have hLN := hL.len
    have HLN := Lib.hid hLN
    have HRB := Lib.hid (fun k hk => (hown.lt k hk).1)
    clear hown hL hF hE hBc hlt0 hne hLN
    obtain ⟨row0, hrow0⟩ : ∃ r, (Value.slice VA n VC).ownBlock = r := ⟨_, rfl⟩
    have I0 : TI b w1 row0 (.slice VA n VC) n L w1 := ⟨hL1, grown_refl _ _, .inl hrow0⟩
    rw [hrow0] at HNE HGW HRB
    have HROW := Lib.hid hrow0
    have hF1 : ∀ x : World, w1.grownBy x row0 → FactRow x b [.slice ZA i zc, .slice NA i nc] (zs, ns) := fun x hx => hF1.gr hown1 (by decide) (by rw [hrow0]; exact hx)
    have HF1 := Lib.hid hF1
    clear hown1 hL1 hF1 hrow0
    obtain ⟨r0, r1, rf, rz⟩ := kR.two
    obtain ⟨e0, e1, e2, e3, e4, ef, ez⟩ := kE.five
    go_wp2_with fail
    clear r0 r1 rf rz e0 e1 e2 e3 e4 ef ez
    go_loopw [12, 3] (fun v12 v3 wr => ∃ (m : Nat) (z : Int) (n' : Nat), v12 = .int .i64 z ∧ z = f0 + c0 + m ∧ (m : Int) ≤ f1 + c1 - (f0 + c0) + 1 ∧ TI b w1 row0 v3 n' (L ++ (upTo (f0 + c0) m).flatMap (tG st z0 z1 es ⟨kd, sh, ld, c0, c1⟩ d zs ns)) wr) (fun v12 _ _ => (f1 + c1 + 1 - intOf v12).toNat)
    case atStart => exact ⟨0, f0 + c0, n, rfl, by simp, by omega, by simpa [upTo] using I0⟩
    case round =>
      clear I0
      obtain ⟨m, z, n1, rfl, hz, hm, I⟩ := hrel
      have HZZ := Lib.hid hz
      have hzlo : f0 + c0 ≤ z := by omega
      have hzm : z - (f0 + c0) ≤ m ∧ m ≤ z - (f0 + c0) := by omega
      clear hz
      have kRr := kR.grown I.gr (HNE.out 3)
      have kEr := kE.grown I.gr (HNE.out 2)
      obtain ⟨r0, r1, rf, rz⟩ := kRr.two
      obtain ⟨e0, e1, e2, e3, e4, ef, ez⟩ := kEr.five
      by_cases hzl : z ≤ f1 + c1
      · go_wp2_with fail
        clear r0 r1 rf rz e0 e1 e2 e3 e4 ef ez kRr kEr
        go_loopw [13, 3] (fun v13 v3 wi => ∃ (j n2 : Nat), v13 = .int .i64 j ∧ j ≤ 31 ∧ TI b w1 row0 v3 n2 (L ++ (upTo (f0 + c0) m).flatMap (tG st z0 z1 es ⟨kd, sh, ld, c0, c1⟩ d zs ns) ++ (upTo 0 j).flatMap (tH st z0 z1 es ⟨kd, sh, ld, c0, c1⟩ d zs ns z)) wi) (fun v13 _ _ => 31 - (intOf v13).toNat)
        case atStart => exact ⟨0, n1, rfl, by omega, by simpa [upTo] using I⟩
        case round =>
          obtain ⟨wi, rfl⟩ : ∃ x, x = wr := ⟨_, rfl⟩
          obtain ⟨j, n2, rfl, hj, I2⟩ := hrel
          by_cases hjl : j < 31
          · have kEi := kE.grown I2.gr (HNE.out 2)
            have kLi := kL.grown I2.gr (HNE.out 0)
            have kFi := kF.grown I2.gr (HNE.out 1)
            go_upto_region 14 with fail
            go_cut [104] (fun v104 wx => v104 = .bool (!okd st ⟨kd, sh, ld, c0, c1⟩ z (j : Int)) ∧ Below wi.heap.size wi wx)
            case first =>
              obtain ⟨s, hs⟩ : ∃ s, shows st (j : Int) z = s := ⟨_, rfl⟩
              skip
              by_cases hza : z < -200
              · have b1 : decide (z < -200) = true := by simpa using hza
                have hokd : okd st ⟨kd, sh, ld, c0, c1⟩ z (j : Int) = false := okd_no (.inl hza)
                refine AnyG.startC (by kernel_rfl) ?_
                refine AnyG.takeP (i := 0) (v := ?_) rfl (by kernel_rfl) (fun _ _ _ h => h) rfl ?_ ?_
                rotate_left
                · (intro w'; go_simp; try with_reducible rfl)
                try simp only [Act.put, List.getElem_toArray, List.getElem_cons_succ, List.getElem_cons_zero, List.setIfInBounds_toArray, List.set_cons_zero, List.set_cons_succ]
                refine AnyG.takeP (i := 1) (v := ?_) rfl (by kernel_rfl) (fun _ _ _ h => h) rfl ?_ ?_
                rotate_left
                · (intro w'; go_simp; try with_reducible rfl)
                try simp only [Act.put, List.getElem_toArray, List.getElem_cons_succ, List.getElem_cons_zero, List.setIfInBounds_toArray, List.set_cons_zero, List.set_cons_succ]
                refine AnyG.takeP (i := 2) (v := ?_) rfl (by kernel_rfl) (fun _ _ _ h => h) rfl ?_ ?_
                rotate_left
                · (intro w'; go_simp; try with_reducible rfl)
                try simp only [Act.put, List.getElem_toArray, List.getElem_cons_succ, List.getElem_cons_zero, List.setIfInBounds_toArray, List.set_cons_zero, List.set_cons_succ]
                refine AnyG.enter (fun w' : World => Below wi.heap.size wi w') (fun i => true) ?_
                have hS : (fun w' : World => Below wi.heap.size wi w') (World.drew _) := (Below.refl _ _).drew
                refine AnyG.takeNC (i := 3) rfl (by kernel_rfl) (fun _ _ _ h => h) (by first | (simp [Region.wanted, yielded]; done) | simp [Region.wanted, yielded, undef]) hS ?_
                try simp only [Act.put, List.getElem_toArray, List.getElem_cons_succ, List.getElem_cons_zero, List.setIfInBounds_toArray, List.set_cons_zero, List.set_cons_succ]
                refine AnyG.takeNC (i := 4) rfl (by kernel_rfl) (fun _ _ _ h => h) (by first | (simp [Region.wanted, yielded]; done) | simp [Region.wanted, yielded, undef]) hS ?_
                try simp only [Act.put, List.getElem_toArray, List.getElem_cons_succ, List.getElem_cons_zero, List.setIfInBounds_toArray, List.set_cons_zero, List.set_cons_succ]
                refine AnyG.takeC (i := 5) (v := ?_) rfl (by kernel_rfl) (fun _ _ _ h => h) rfl ?_ hS ?_
                rotate_left
                · (intro w' hSw; (try dsimp only at hSw); go_simp; try with_reducible rfl)
                try simp only [Act.put, List.getElem_toArray, List.getElem_cons_succ, List.getElem_cons_zero, List.setIfInBounds_toArray, List.set_cons_zero, List.set_cons_succ]
                refine AnyG.takeC (i := 6) (v := ?_) rfl (by kernel_rfl) (fun _ _ _ h => h) rfl ?_ hS ?_
                rotate_left
                · (intro w' hSw; (try dsimp only at hSw); go_simp; try with_reducible rfl)
                try simp only [Act.put, List.getElem_toArray, List.getElem_cons_succ, List.getElem_cons_zero, List.setIfInBounds_toArray, List.set_cons_zero, List.set_cons_succ]
                refine AnyG.takeNC (i := 7) rfl (by kernel_rfl) (fun _ _ _ h => h) (by first | (simp [Region.wanted, yielded]; done) | simp [Region.wanted, yielded, undef]) hS ?_
                try simp only [Act.put, List.getElem_toArray, List.getElem_cons_succ, List.getElem_cons_zero, List.setIfInBounds_toArray, List.set_cons_zero, List.set_cons_succ]
                refine AnyG.takeNC (i := 8) rfl (by kernel_rfl) (fun _ _ _ h => h) (by first | (simp [Region.wanted, yielded]; done) | simp [Region.wanted, yielded, undef]) hS ?_
                try simp only [Act.put, List.getElem_toArray, List.getElem_cons_succ, List.getElem_cons_zero, List.setIfInBounds_toArray, List.set_cons_zero, List.set_cons_succ]
                refine AnyG.takeNC (i := 9) rfl (by kernel_rfl) (fun _ _ _ h => h) (by first | (simp [Region.wanted, yielded]; done) | simp [Region.wanted, yielded, undef]) hS ?_
                try simp only [Act.put, List.getElem_toArray, List.getElem_cons_succ, List.getElem_cons_zero, List.setIfInBounds_toArray, List.set_cons_zero, List.set_cons_succ]
                refine AnyG.takeNC (i := 10) rfl (by kernel_rfl) (fun _ _ _ h => h) (by first | (simp [Region.wanted, yielded]; done) | simp [Region.wanted, yielded, undef]) hS ?_
                try simp only [Act.put, List.getElem_toArray, List.getElem_cons_succ, List.getElem_cons_zero, List.setIfInBounds_toArray, List.set_cons_zero, List.set_cons_succ]
                refine AnyG.takeNC (i := 11) rfl (by kernel_rfl) (fun _ _ _ h => h) (by first | (simp [Region.wanted, yielded]; done) | simp [Region.wanted, yielded, undef]) hS ?_
                try simp only [Act.put, List.getElem_toArray, List.getElem_cons_succ, List.getElem_cons_zero, List.setIfInBounds_toArray, List.set_cons_zero, List.set_cons_succ]
                refine AnyG.takeNC (i := 12) rfl (by kernel_rfl) (fun _ _ _ h => h) (by first | (simp [Region.wanted, yielded]; done) | simp [Region.wanted, yielded, undef]) hS ?_
                try simp only [Act.put, List.getElem_toArray, List.getElem_cons_succ, List.getElem_cons_zero, List.setIfInBounds_toArray, List.set_cons_zero, List.set_cons_succ]
                refine AnyG.takeNC (i := 13) rfl (by kernel_rfl) (fun _ _ _ h => h) (by first | (simp [Region.wanted, yielded]; done) | simp [Region.wanted, yielded, undef]) hS ?_
                try simp only [Act.put, List.getElem_toArray, List.getElem_cons_succ, List.getElem_cons_zero, List.setIfInBounds_toArray, List.set_cons_zero, List.set_cons_succ]
                refine AnyG.takeC (i := 14) (v := ?_) rfl (by kernel_rfl) (fun _ _ _ h => h) rfl ?_ hS ?_
                rotate_left
                · (intro w' hSw; (try dsimp only at hSw); go_simp; try with_reducible rfl)
                try simp only [Act.put, List.getElem_toArray, List.getElem_cons_succ, List.getElem_cons_zero, List.setIfInBounds_toArray, List.set_cons_zero, List.set_cons_succ]
                refine AnyG.takeC (i := 15) (v := ?_) rfl (by kernel_rfl) (fun _ _ _ h => h) rfl ?_ hS ?_
                rotate_left
                · (intro w' hSw; (try dsimp only at hSw); go_simp; try with_reducible rfl)
                try simp only [Act.put, List.getElem_toArray, List.getElem_cons_succ, List.getElem_cons_zero, List.setIfInBounds_toArray, List.set_cons_zero, List.set_cons_succ]
                refine AnyG.takeNC (i := 16) rfl (by kernel_rfl) (fun _ _ _ h => h) (by first | (simp [Region.wanted, yielded]; done) | simp [Region.wanted, yielded, undef]) hS ?_
                try simp only [Act.put, List.getElem_toArray, List.getElem_cons_succ, List.getElem_cons_zero, List.setIfInBounds_toArray, List.set_cons_zero, List.set_cons_succ]
                refine AnyG.takeNC (i := 17) rfl (by kernel_rfl) (fun _ _ _ h => h) (by first | (simp [Region.wanted, yielded]; done) | simp [Region.wanted, yielded, undef]) hS ?_
                try simp only [Act.put, List.getElem_toArray, List.getElem_cons_succ, List.getElem_cons_zero, List.setIfInBounds_toArray, List.set_cons_zero, List.set_cons_succ]
                refine AnyG.takeNC (i := 18) rfl (by kernel_rfl) (fun _ _ _ h => h) (by first | (simp [Region.wanted, yielded]; done) | simp [Region.wanted, yielded, undef]) hS ?_
                try simp only [Act.put, List.getElem_toArray, List.getElem_cons_succ, List.getElem_cons_zero, List.setIfInBounds_toArray, List.set_cons_zero, List.set_cons_succ]
                refine AnyG.takeNC (i := 19) rfl (by kernel_rfl) (fun _ _ _ h => h) (by first | (simp [Region.wanted, yielded]; done) | simp [Region.wanted, yielded, undef]) hS ?_
                try simp only [Act.put, List.getElem_toArray, List.getElem_cons_succ, List.getElem_cons_zero, List.setIfInBounds_toArray, List.set_cons_zero, List.set_cons_succ]
                refine AnyG.takeNC (i := 20) rfl (by kernel_rfl) (fun _ _ _ h => h) (by first | (simp [Region.wanted, yielded]; done) | simp [Region.wanted, yielded, undef]) hS ?_
                try simp only [Act.put, List.getElem_toArray, List.getElem_cons_succ, List.getElem_cons_zero, List.setIfInBounds_toArray, List.set_cons_zero, List.set_cons_succ]
                refine AnyG.takeNC (i := 21) rfl (by kernel_rfl) (fun _ _ _ h => h) (by first | (simp [Region.wanted, yielded]; done) | simp [Region.wanted, yielded, undef]) hS ?_
                try simp only [Act.put, List.getElem_toArray, List.getElem_cons_succ, List.getElem_cons_zero, List.setIfInBounds_toArray, List.set_cons_zero, List.set_cons_succ]
                refine AnyG.takeNC (i := 22) rfl (by kernel_rfl) (fun _ _ _ h => h) (by first | (simp [Region.wanted, yielded]; done) | simp [Region.wanted, yielded, undef]) hS ?_
                try simp only [Act.put, List.getElem_toArray, List.getElem_cons_succ, List.getElem_cons_zero, List.setIfInBounds_toArray, List.set_cons_zero, List.set_cons_succ]
                refine AnyG.takeNC (i := 23) rfl (by kernel_rfl) (fun _ _ _ h => h) (by first | (simp [Region.wanted, yielded]; done) | simp [Region.wanted, yielded, undef]) hS ?_
                try simp only [Act.put, List.getElem_toArray, List.getElem_cons_succ, List.getElem_cons_zero, List.setIfInBounds_toArray, List.set_cons_zero, List.set_cons_succ]
                refine AnyG.takeNC (i := 24) rfl (by kernel_rfl) (fun _ _ _ h => h) (by first | (simp [Region.wanted, yielded]; done) | simp [Region.wanted, yielded, undef]) hS ?_
                try simp only [Act.put, List.getElem_toArray, List.getElem_cons_succ, List.getElem_cons_zero, List.setIfInBounds_toArray, List.set_cons_zero, List.set_cons_succ]
                refine AnyG.takeC (i := 25) (v := ?_) rfl (by kernel_rfl) (fun _ _ _ h => h) rfl ?_ hS ?_
                rotate_left
                · (intro w' hSw; (try dsimp only at hSw); go_simp; try with_reducible rfl)
                try simp only [Act.put, List.getElem_toArray, List.getElem_cons_succ, List.getElem_cons_zero, List.setIfInBounds_toArray, List.set_cons_zero, List.set_cons_succ]
                refine AnyG.takeC (i := 26) (v := ?_) rfl (by kernel_rfl) (fun _ _ _ h => h) rfl ?_ hS ?_
                rotate_left
                · (intro w' hSw; (try dsimp only at hSw); go_simp; try with_reducible rfl)
                try simp only [Act.put, List.getElem_toArray, List.getElem_cons_succ, List.getElem_cons_zero, List.setIfInBounds_toArray, List.set_cons_zero, List.set_cons_succ]
                refine AnyG.takeNC (i := 27) rfl (by kernel_rfl) (fun _ _ _ h => h) (by first | (simp [Region.wanted, yielded]; done) | simp [Region.wanted, yielded, undef]) hS ?_
                try simp only [Act.put, List.getElem_toArray, List.getElem_cons_succ, List.getElem_cons_zero, List.setIfInBounds_toArray, List.set_cons_zero, List.set_cons_succ]
                refine AnyG.takeNC (i := 28) rfl (by kernel_rfl) (fun _ _ _ h => h) (by first | (simp [Region.wanted, yielded]; done) | simp [Region.wanted, yielded, undef]) hS ?_
                try simp only [Act.put, List.getElem_toArray, List.getElem_cons_succ, List.getElem_cons_zero, List.setIfInBounds_toArray, List.set_cons_zero, List.set_cons_succ]
                refine AnyG.takeNC (i := 29) rfl (by kernel_rfl) (fun _ _ _ h => h) (by first | (simp [Region.wanted, yielded]; done) | simp [Region.wanted, yielded, undef]) hS ?_
                try simp only [Act.put, List.getElem_toArray, List.getElem_cons_succ, List.getElem_cons_zero, List.setIfInBounds_toArray, List.set_cons_zero, List.set_cons_succ]
                refine AnyG.takeNC (i := 30) rfl (by kernel_rfl) (fun _ _ _ h => h) (by first | (simp [Region.wanted, yielded]; done) | simp [Region.wanted, yielded, undef]) hS ?_
                try simp only [Act.put, List.getElem_toArray, List.getElem_cons_succ, List.getElem_cons_zero, List.setIfInBounds_toArray, List.set_cons_zero, List.set_cons_succ]
                refine AnyG.takeNC (i := 31) rfl (by kernel_rfl) (fun _ _ _ h => h) (by first | (simp [Region.wanted, yielded]; done) | simp [Region.wanted, yielded, undef]) hS ?_
                try simp only [Act.put, List.getElem_toArray, List.getElem_cons_succ, List.getElem_cons_zero, List.setIfInBounds_toArray, List.set_cons_zero, List.set_cons_succ]
                refine AnyG.takeNC (i := 32) rfl (by kernel_rfl) (fun _ _ _ h => h) (by first | (simp [Region.wanted, yielded]; done) | simp [Region.wanted, yielded, undef]) hS ?_
                try simp only [Act.put, List.getElem_toArray, List.getElem_cons_succ, List.getElem_cons_zero, List.setIfInBounds_toArray, List.set_cons_zero, List.set_cons_succ]
                refine AnyG.takeNC (i := 33) rfl (by kernel_rfl) (fun _ _ _ h => h) (by first | (simp [Region.wanted, yielded]; done) | simp [Region.wanted, yielded, undef]) hS ?_
                try simp only [Act.put, List.getElem_toArray, List.getElem_cons_succ, List.getElem_cons_zero, List.setIfInBounds_toArray, List.set_cons_zero, List.set_cons_succ]
                refine AnyG.takeNC (i := 34) rfl (by kernel_rfl) (fun _ _ _ h => h) (by first | (simp [Region.wanted, yielded]; done) | simp [Region.wanted, yielded, undef]) hS ?_
                try simp only [Act.put, List.getElem_toArray, List.getElem_cons_succ, List.getElem_cons_zero, List.setIfInBounds_toArray, List.set_cons_zero, List.set_cons_succ]
                refine AnyG.takeC (i := 35) (v := ?_) rfl (by kernel_rfl) (fun _ _ _ h => h) rfl ?_ hS ?_
                rotate_left
                · (intro w' hSw; (try dsimp only at hSw); go_simp; try with_reducible rfl)
                try simp only [Act.put, List.getElem_toArray, List.getElem_cons_succ, List.getElem_cons_zero, List.setIfInBounds_toArray, List.set_cons_zero, List.set_cons_succ]
                refine AnyG.done (by kernel_rfl) ?_ _
                go_simp
                go_wp2_with fail
                go_meet
                exact ⟨by rw [hokd]; simp, (Below.refl _ _).drew⟩
              · have b1 : decide (z < -200) = false := by simpa using hza
                by_cases hzb : 200 < z
                · have b2 : decide (200 < z) = true := by simpa using hzb
                  have hokd : okd st ⟨kd, sh, ld, c0, c1⟩ z (j : Int) = false := okd_no (.inr (.inl hzb))
                  refine AnyG.startC (by kernel_rfl) ?_
                  refine AnyG.takeP (i := 0) (v := ?_) rfl (by kernel_rfl) (fun _ _ _ h => h) rfl ?_ ?_
                  rotate_left
                  · (intro w'; go_simp; try with_reducible rfl)
                  try simp only [Act.put, List.getElem_toArray, List.getElem_cons_succ, List.getElem_cons_zero, List.setIfInBounds_toArray, List.set_cons_zero, List.set_cons_succ]
                  refine AnyG.takeP (i := 1) (v := ?_) rfl (by kernel_rfl) (fun _ _ _ h => h) rfl ?_ ?_
                  rotate_left
                  · (intro w'; go_simp; try with_reducible rfl)
                  try simp only [Act.put, List.getElem_toArray, List.getElem_cons_succ, List.getElem_cons_zero, List.setIfInBounds_toArray, List.set_cons_zero, List.set_cons_succ]
                  refine AnyG.takeP (i := 2) (v := ?_) rfl (by kernel_rfl) (fun _ _ _ h => h) rfl ?_ ?_
                  rotate_left
                  · (intro w'; go_simp; try with_reducible rfl)
                  try simp only [Act.put, List.getElem_toArray, List.getElem_cons_succ, List.getElem_cons_zero, List.setIfInBounds_toArray, List.set_cons_zero, List.set_cons_succ]
                  refine AnyG.enter (fun w' : World => Below wi.heap.size wi w') (fun i => true) ?_
                  have hS : (fun w' : World => Below wi.heap.size wi w') (World.drew _) := (Below.refl _ _).drew
                  refine AnyG.takeGC (i := 3) (v := ?_) rfl (by kernel_rfl) (fun _ _ _ h => h) (by first | (simp [Region.wanted, yielded]; done) | simp [Region.wanted, yielded, undef]) ?_ hS ?_
                  rotate_left
                  · (intro w' hSw; (try dsimp only at hSw); go_simp; try with_reducible rfl)
                  try simp only [Act.put, List.getElem_toArray, List.getElem_cons_succ, List.getElem_cons_zero, List.setIfInBounds_toArray, List.set_cons_zero, List.set_cons_succ]
                  refine AnyG.takeGC (i := 4) (v := ?_) rfl (by kernel_rfl) (fun _ _ _ h => h) (by first | (simp [Region.wanted, yielded]; done) | simp [Region.wanted, yielded, undef]) ?_ hS ?_
                  rotate_left
                  · (intro w' hSw; (try dsimp only at hSw); go_simp; try with_reducible rfl)
                  try simp only [Act.put, List.getElem_toArray, List.getElem_cons_succ, List.getElem_cons_zero, List.setIfInBounds_toArray, List.set_cons_zero, List.set_cons_succ]
                  refine AnyG.takeC (i := 5) (v := ?_) rfl (by kernel_rfl) (fun _ _ _ h => h) rfl ?_ hS ?_
                  rotate_left
                  · (intro w' hSw; (try dsimp only at hSw); go_simp; try with_reducible rfl)
                  try simp only [Act.put, List.getElem_toArray, List.getElem_cons_succ, List.getElem_cons_zero, List.setIfInBounds_toArray, List.set_cons_zero, List.set_cons_succ]
                  refine AnyG.takeC (i := 6) (v := ?_) rfl (by kernel_rfl) (fun _ _ _ h => h) rfl ?_ hS ?_
                  rotate_left
                  · (intro w' hSw; (try dsimp only at hSw); go_simp; try with_reducible rfl)
                  try simp only [Act.put, List.getElem_toArray, List.getElem_cons_succ, List.getElem_cons_zero, List.setIfInBounds_toArray, List.set_cons_zero, List.set_cons_succ]
                  refine AnyG.takeNC (i := 7) rfl (by kernel_rfl) (fun _ _ _ h => h) (by first | (simp [Region.wanted, yielded]; done) | simp [Region.wanted, yielded, undef]) hS ?_
                  try simp only [Act.put, List.getElem_toArray, List.getElem_cons_succ, List.getElem_cons_zero, List.setIfInBounds_toArray, List.set_cons_zero, List.set_cons_succ]
                  refine AnyG.takeNC (i := 8) rfl (by kernel_rfl) (fun _ _ _ h => h) (by first | (simp [Region.wanted, yielded]; done) | simp [Region.wanted, yielded, undef]) hS ?_
                  try simp only [Act.put, List.getElem_toArray, List.getElem_cons_succ, List.getElem_cons_zero, List.setIfInBounds_toArray, List.set_cons_zero, List.set_cons_succ]
                  refine AnyG.takeNC (i := 9) rfl (by kernel_rfl) (fun _ _ _ h => h) (by first | (simp [Region.wanted, yielded]; done) | simp [Region.wanted, yielded, undef]) hS ?_
                  try simp only [Act.put, List.getElem_toArray, List.getElem_cons_succ, List.getElem_cons_zero, List.setIfInBounds_toArray, List.set_cons_zero, List.set_cons_succ]
                  refine AnyG.takeNC (i := 10) rfl (by kernel_rfl) (fun _ _ _ h => h) (by first | (simp [Region.wanted, yielded]; done) | simp [Region.wanted, yielded, undef]) hS ?_
                  try simp only [Act.put, List.getElem_toArray, List.getElem_cons_succ, List.getElem_cons_zero, List.setIfInBounds_toArray, List.set_cons_zero, List.set_cons_succ]
                  refine AnyG.takeNC (i := 11) rfl (by kernel_rfl) (fun _ _ _ h => h) (by first | (simp [Region.wanted, yielded]; done) | simp [Region.wanted, yielded, undef]) hS ?_
                  try simp only [Act.put, List.getElem_toArray, List.getElem_cons_succ, List.getElem_cons_zero, List.setIfInBounds_toArray, List.set_cons_zero, List.set_cons_succ]
                  refine AnyG.takeNC (i := 12) rfl (by kernel_rfl) (fun _ _ _ h => h) (by first | (simp [Region.wanted, yielded]; done) | simp [Region.wanted, yielded, undef]) hS ?_
                  try simp only [Act.put, List.getElem_toArray, List.getElem_cons_succ, List.getElem_cons_zero, List.setIfInBounds_toArray, List.set_cons_zero, List.set_cons_succ]
                  refine AnyG.takeNC (i := 13) rfl (by kernel_rfl) (fun _ _ _ h => h) (by first | (simp [Region.wanted, yielded]; done) | simp [Region.wanted, yielded, undef]) hS ?_
                  try simp only [Act.put, List.getElem_toArray, List.getElem_cons_succ, List.getElem_cons_zero, List.setIfInBounds_toArray, List.set_cons_zero, List.set_cons_succ]
                  refine AnyG.takeC (i := 14) (v := ?_) rfl (by kernel_rfl) (fun _ _ _ h => h) rfl ?_ hS ?_
                  rotate_left
                  · (intro w' hSw; (try dsimp only at hSw); go_simp; try with_reducible rfl)
                  try simp only [Act.put, List.getElem_toArray, List.getElem_cons_succ, List.getElem_cons_zero, List.setIfInBounds_toArray, List.set_cons_zero, List.set_cons_succ]
                  refine AnyG.takeC (i := 15) (v := ?_) rfl (by kernel_rfl) (fun _ _ _ h => h) rfl ?_ hS ?_
                  rotate_left
                  · (intro w' hSw; (try dsimp only at hSw); go_simp; try with_reducible rfl)
                  try simp only [Act.put, List.getElem_toArray, List.getElem_cons_succ, List.getElem_cons_zero, List.setIfInBounds_toArray, List.set_cons_zero, List.set_cons_succ]
                  refine AnyG.takeNC (i := 16) rfl (by kernel_rfl) (fun _ _ _ h => h) (by first | (simp [Region.wanted, yielded]; done) | simp [Region.wanted, yielded, undef]) hS ?_
                  try simp only [Act.put, List.getElem_toArray, List.getElem_cons_succ, List.getElem_cons_zero, List.setIfInBounds_toArray, List.set_cons_zero, List.set_cons_succ]
                  refine AnyG.takeNC (i := 17) rfl (by kernel_rfl) (fun _ _ _ h => h) (by first | (simp [Region.wanted, yielded]; done) | simp [Region.wanted, yielded, undef]) hS ?_
                  try simp only [Act.put, List.getElem_toArray, List.getElem_cons_succ, List.getElem_cons_zero, List.setIfInBounds_toArray, List.set_cons_zero, List.set_cons_succ]
                  refine AnyG.takeNC (i := 18) rfl (by kernel_rfl) (fun _ _ _ h => h) (by first | (simp [Region.wanted, yielded]; done) | simp [Region.wanted, yielded, undef]) hS ?_
                  try simp only [Act.put, List.getElem_toArray, List.getElem_cons_succ, List.getElem_cons_zero, List.setIfInBounds_toArray, List.set_cons_zero, List.set_cons_succ]
                  refine AnyG.takeNC (i := 19) rfl (by kernel_rfl) (fun _ _ _ h => h) (by first | (simp [Region.wanted, yielded]; done) | simp [Region.wanted, yielded, undef]) hS ?_
                  try simp only [Act.put, List.getElem_toArray, List.getElem_cons_succ, List.getElem_cons_zero, List.setIfInBounds_toArray, List.set_cons_zero, List.set_cons_succ]
                  refine AnyG.takeNC (i := 20) rfl (by kernel_rfl) (fun _ _ _ h => h) (by first | (simp [Region.wanted, yielded]; done) | simp [Region.wanted, yielded, undef]) hS ?_
                  try simp only [Act.put, List.getElem_toArray, List.getElem_cons_succ, List.getElem_cons_zero, List.setIfInBounds_toArray, List.set_cons_zero, List.set_cons_succ]
                  refine AnyG.takeNC (i := 21) rfl (by kernel_rfl) (fun _ _ _ h => h) (by first | (simp [Region.wanted, yielded]; done) | simp [Region.wanted, yielded, undef]) hS ?_
                  try simp only [Act.put, List.getElem_toArray, List.getElem_cons_succ, List.getElem_cons_zero, List.setIfInBounds_toArray, List.set_cons_zero, List.set_cons_succ]
                  refine AnyG.takeNC (i := 22) rfl (by kernel_rfl) (fun _ _ _ h => h) (by first | (simp [Region.wanted, yielded]; done) | simp [Region.wanted, yielded, undef]) hS ?_
                  try simp only [Act.put, List.getElem_toArray, List.getElem_cons_succ, List.getElem_cons_zero, List.setIfInBounds_toArray, List.set_cons_zero, List.set_cons_succ]
                  refine AnyG.takeNC (i := 23) rfl (by kernel_rfl) (fun _ _ _ h => h) (by first | (simp [Region.wanted, yielded]; done) | simp [Region.wanted, yielded, undef]) hS ?_
                  try simp only [Act.put, List.getElem_toArray, List.getElem_cons_succ, List.getElem_cons_zero, List.setIfInBounds_toArray, List.set_cons_zero, List.set_cons_succ]
                  refine AnyG.takeNC (i := 24) rfl (by kernel_rfl) (fun _ _ _ h => h) (by first | (simp [Region.wanted, yielded]; done) | simp [Region.wanted, yielded, undef]) hS ?_
                  try simp only [Act.put, List.getElem_toArray, List.getElem_cons_succ, List.getElem_cons_zero, List.setIfInBounds_toArray, List.set_cons_zero, List.set_cons_succ]
                  refine AnyG.takeC (i := 25) (v := ?_) rfl (by kernel_rfl) (fun _ _ _ h => h) rfl ?_ hS ?_
                  rotate_left
                  · (intro w' hSw; (try dsimp only at hSw); go_simp; try with_reducible rfl)
                  try simp only [Act.put, List.getElem_toArray, List.getElem_cons_succ, List.getElem_cons_zero, List.setIfInBounds_toArray, List.set_cons_zero, List.set_cons_succ]
                  refine AnyG.takeC (i := 26) (v := ?_) rfl (by kernel_rfl) (fun _ _ _ h => h) rfl ?_ hS ?_
                  rotate_left
                  · (intro w' hSw; (try dsimp only at hSw); go_simp; try with_reducible rfl)
                  try simp only [Act.put, List.getElem_toArray, List.getElem_cons_succ, List.getElem_cons_zero, List.setIfInBounds_toArray, List.set_cons_zero, List.set_cons_succ]
                  refine AnyG.takeNC (i := 27) rfl (by kernel_rfl) (fun _ _ _ h => h) (by first | (simp [Region.wanted, yielded]; done) | simp [Region.wanted, yielded, undef]) hS ?_
                  try simp only [Act.put, List.getElem_toArray, List.getElem_cons_succ, List.getElem_cons_zero, List.setIfInBounds_toArray, List.set_cons_zero, List.set_cons_succ]
                  refine AnyG.takeNC (i := 28) rfl (by kernel_rfl) (fun _ _ _ h => h) (by first | (simp [Region.wanted, yielded]; done) | simp [Region.wanted, yielded, undef]) hS ?_
                  try simp only [Act.put, List.getElem_toArray, List.getElem_cons_succ, List.getElem_cons_zero, List.setIfInBounds_toArray, List.set_cons_zero, List.set_cons_succ]
                  refine AnyG.takeNC (i := 29) rfl (by kernel_rfl) (fun _ _ _ h => h) (by first | (simp [Region.wanted, yielded]; done) | simp [Region.wanted, yielded, undef]) hS ?_
                  try simp only [Act.put, List.getElem_toArray, List.getElem_cons_succ, List.getElem_cons_zero, List.setIfInBounds_toArray, List.set_cons_zero, List.set_cons_succ]
                  refine AnyG.takeNC (i := 30) rfl (by kernel_rfl) (fun _ _ _ h => h) (by first | (simp [Region.wanted, yielded]; done) | simp [Region.wanted, yielded, undef]) hS ?_
                  try simp only [Act.put, List.getElem_toArray, List.getElem_cons_succ, List.getElem_cons_zero, List.setIfInBounds_toArray, List.set_cons_zero, List.set_cons_succ]
                  refine AnyG.takeNC (i := 31) rfl (by kernel_rfl) (fun _ _ _ h => h) (by first | (simp [Region.wanted, yielded]; done) | simp [Region.wanted, yielded, undef]) hS ?_
                  try simp only [Act.put, List.getElem_toArray, List.getElem_cons_succ, List.getElem_cons_zero, List.setIfInBounds_toArray, List.set_cons_zero, List.set_cons_succ]
                  refine AnyG.takeNC (i := 32) rfl (by kernel_rfl) (fun _ _ _ h => h) (by first | (simp [Region.wanted, yielded]; done) | simp [Region.wanted, yielded, undef]) hS ?_
                  try simp only [Act.put, List.getElem_toArray, List.getElem_cons_succ, List.getElem_cons_zero, List.setIfInBounds_toArray, List.set_cons_zero, List.set_cons_succ]
                  refine AnyG.takeNC (i := 33) rfl (by kernel_rfl) (fun _ _ _ h => h) (by first | (simp [Region.wanted, yielded]; done) | simp [Region.wanted, yielded, undef]) hS ?_
                  try simp only [Act.put, List.getElem_toArray, List.getElem_cons_succ, List.getElem_cons_zero, List.setIfInBounds_toArray, List.set_cons_zero, List.set_cons_succ]
                  refine AnyG.takeNC (i := 34) rfl (by kernel_rfl) (fun _ _ _ h => h) (by first | (simp [Region.wanted, yielded]; done) | simp [Region.wanted, yielded, undef]) hS ?_
                  try simp only [Act.put, List.getElem_toArray, List.getElem_cons_succ, List.getElem_cons_zero, List.setIfInBounds_toArray, List.set_cons_zero, List.set_cons_succ]
                  refine AnyG.takeC (i := 35) (v := ?_) rfl (by kernel_rfl) (fun _ _ _ h => h) rfl ?_ hS ?_
                  rotate_left
                  · (intro w' hSw; (try dsimp only at hSw); go_simp; try with_reducible rfl)
                  try simp only [Act.put, List.getElem_toArray, List.getElem_cons_succ, List.getElem_cons_zero, List.setIfInBounds_toArray, List.set_cons_zero, List.set_cons_succ]
                  refine AnyG.done (by kernel_rfl) ?_ _
                  go_simp
                  go_wp2_with fail
                  go_meet
                  exact ⟨by rw [hokd]; simp, (Below.refl _ _).drew⟩
                · have b2 : decide (200 < z) = false := by simpa using hzb
                  have hkd := hok.kd
                  dsimp only at hkd
                  rcases hkd with rfl | rfl | rfl
                  · by_cases hn0 : j = 0
                    · subst hn0
                      have b3 : ((0 : Int) != 0) = false := rfl
                      obtain ⟨b5, hb5⟩ : ∃ q, (s != sh) = q := ⟨_, rfl⟩
                      have hokd : okd st ⟨1, sh, ld, c0, c1⟩ z ((0 : Nat) : Int) = !b5 := by rw [okd_go (by omega) (by omega) (by simp) (by simp), hs]; exact congrArg _ hb5
                      refine AnyG.startC (by kernel_rfl) ?_
                      refine AnyG.takeP (i := 0) (v := ?_) rfl (by kernel_rfl) (fun _ _ _ h => h) rfl ?_ ?_
                      rotate_left
                      · (intro w'; go_simp; try with_reducible rfl)
                      try simp only [Act.put, List.getElem_toArray, List.getElem_cons_succ, List.getElem_cons_zero, List.setIfInBounds_toArray, List.set_cons_zero, List.set_cons_succ]
                      refine AnyG.takeP (i := 1) (v := ?_) rfl (by kernel_rfl) (fun _ _ _ h => h) rfl ?_ ?_
                      rotate_left
                      · (intro w'; go_simp; try with_reducible rfl)
                      try simp only [Act.put, List.getElem_toArray, List.getElem_cons_succ, List.getElem_cons_zero, List.setIfInBounds_toArray, List.set_cons_zero, List.set_cons_succ]
                      refine AnyG.takeP (i := 2) (v := ?_) rfl (by kernel_rfl) (fun _ _ _ h => h) rfl ?_ ?_
                      rotate_left
                      · (intro w'; go_simp; try with_reducible rfl)
                      try simp only [Act.put, List.getElem_toArray, List.getElem_cons_succ, List.getElem_cons_zero, List.setIfInBounds_toArray, List.set_cons_zero, List.set_cons_succ]
                      refine AnyG.enter (fun w' : World => Below wi.heap.size wi w') (fun i => true) ?_
                      have hS : (fun w' : World => Below wi.heap.size wi w') (World.drew _) := (Below.refl _ _).drew
                      refine AnyG.takeGC (i := 3) (v := ?_) rfl (by kernel_rfl) (fun _ _ _ h => h) (by first | (simp [Region.wanted, yielded]; done) | simp [Region.wanted, yielded, undef]) ?_ hS ?_
                      rotate_left
                      · (intro w' hSw; (try dsimp only at hSw); go_simp; try with_reducible rfl)
                      try simp only [Act.put, List.getElem_toArray, List.getElem_cons_succ, List.getElem_cons_zero, List.setIfInBounds_toArray, List.set_cons_zero, List.set_cons_succ]
                      refine AnyG.takeGC (i := 4) (v := ?_) rfl (by kernel_rfl) (fun _ _ _ h => h) (by first | (simp [Region.wanted, yielded]; done) | simp [Region.wanted, yielded, undef]) ?_ hS ?_
                      rotate_left
                      · (intro w' hSw; (try dsimp only at hSw); go_simp; try with_reducible rfl)
                      try simp only [Act.put, List.getElem_toArray, List.getElem_cons_succ, List.getElem_cons_zero, List.setIfInBounds_toArray, List.set_cons_zero, List.set_cons_succ]
                      refine AnyG.takeC (i := 5) (v := ?_) rfl (by kernel_rfl) (fun _ _ _ h => h) rfl ?_ hS ?_
                      rotate_left
                      · (intro w' hSw; (try dsimp only at hSw); go_simp; try with_reducible rfl)
                      try simp only [Act.put, List.getElem_toArray, List.getElem_cons_succ, List.getElem_cons_zero, List.setIfInBounds_toArray, List.set_cons_zero, List.set_cons_succ]
                      refine AnyG.takeC (i := 6) (v := ?_) rfl (by kernel_rfl) (fun _ _ _ h => h) rfl ?_ hS ?_
                      rotate_left
                      · (intro w' hSw; (try dsimp only at hSw); go_simp; try with_reducible rfl)
                      try simp only [Act.put, List.getElem_toArray, List.getElem_cons_succ, List.getElem_cons_zero, List.setIfInBounds_toArray, List.set_cons_zero, List.set_cons_succ]
                      refine AnyG.takeGC (i := 7) (v := ?_) rfl (by kernel_rfl) (fun _ _ _ h => h) (by first | (simp [Region.wanted, yielded]; done) | simp [Region.wanted, yielded, undef]) ?_ hS ?_
                      rotate_left
                      · (intro w' hSw; (try dsimp only at hSw); go_simp; try with_reducible rfl)
                      try simp only [Act.put, List.getElem_toArray, List.getElem_cons_succ, List.getElem_cons_zero, List.setIfInBounds_toArray, List.set_cons_zero, List.set_cons_succ]
                      refine AnyG.takeGC (i := 8) (v := ?_) rfl (by kernel_rfl) (fun _ _ _ h => h) (by first | (simp [Region.wanted, yielded]; done) | simp [Region.wanted, yielded, undef]) ?_ hS ?_
                      rotate_left
                      · (intro w' hSw; (try dsimp only at hSw); obtain ⟨e0, e1, e2, e3, e4, ef, ez⟩ := (kEi.call hSw).five; obtain ⟨l0, l1, l2, l3, lf, lz⟩ := (kLi.call hSw).four; go_simp; try with_reducible rfl)
                      try simp only [Act.put, List.getElem_toArray, List.getElem_cons_succ, List.getElem_cons_zero, List.setIfInBounds_toArray, List.set_cons_zero, List.set_cons_succ]
                      refine AnyG.takeGC (i := 9) (v := ?_) rfl (by kernel_rfl) (fun _ _ _ h => h) (by first | (simp [Region.wanted, yielded]; done) | simp [Region.wanted, yielded, undef]) ?_ hS ?_
                      rotate_left
                      · (intro w' hSw; (try dsimp only at hSw); go_simp; try with_reducible rfl)
                      try simp only [Act.put, List.getElem_toArray, List.getElem_cons_succ, List.getElem_cons_zero, List.setIfInBounds_toArray, List.set_cons_zero, List.set_cons_succ]
                      refine AnyG.takeGC (i := 10) (v := ?_) rfl (by kernel_rfl) (fun _ _ _ h => h) (by first | (simp [Region.wanted, yielded]; done) | simp [Region.wanted, yielded, undef]) ?_ hS ?_
                      rotate_left
                      · (intro w' hSw; (try dsimp only at hSw); go_simp; try with_reducible rfl)
                      try simp only [Act.put, List.getElem_toArray, List.getElem_cons_succ, List.getElem_cons_zero, List.setIfInBounds_toArray, List.set_cons_zero, List.set_cons_succ]
                      refine AnyG.takeGC (i := 11) (v := ?_) rfl (by kernel_rfl) (fun _ _ _ h => h) (by first | (simp [Region.wanted, yielded]; done) | simp [Region.wanted, yielded, undef]) ?_ hS ?_
                      rotate_left
                      · (intro w' hSw; (try dsimp only at hSw); go_simp; try with_reducible rfl)
                      try simp only [Act.put, List.getElem_toArray, List.getElem_cons_succ, List.getElem_cons_zero, List.setIfInBounds_toArray, List.set_cons_zero, List.set_cons_succ]
                      refine AnyG.takeGC (i := 12) (v := ?_) rfl (by kernel_rfl) (fun _ _ _ h => h) (by first | (simp [Region.wanted, yielded]; done) | simp [Region.wanted, yielded, undef]) ?_ hS ?_
                      rotate_left
                      · (intro w' hSw; (try dsimp only at hSw); go_simp; try with_reducible rfl)
                      try simp only [Act.put, List.getElem_toArray, List.getElem_cons_succ, List.getElem_cons_zero, List.setIfInBounds_toArray, List.set_cons_zero, List.set_cons_succ]
                      refine AnyG.takeGC (i := 13) (v := ?_) rfl (by kernel_rfl) (fun _ _ _ h => h) (by first | (simp [Region.wanted, yielded]; done) | simp [Region.wanted, yielded, undef]) ?_ hS ?_
                      rotate_left
                      · (intro w' hSw; (try dsimp only at hSw); go_simp; try with_reducible rfl)
                      try simp only [Act.put, List.getElem_toArray, List.getElem_cons_succ, List.getElem_cons_zero, List.setIfInBounds_toArray, List.set_cons_zero, List.set_cons_succ]
                      refine AnyG.takeC (i := 14) (v := ?_) rfl (by kernel_rfl) (fun _ _ _ h => h) rfl ?_ hS ?_
                      rotate_left
                      · (intro w' hSw; (try dsimp only at hSw); go_simp; try with_reducible rfl)
                      try simp only [Act.put, List.getElem_toArray, List.getElem_cons_succ, List.getElem_cons_zero, List.setIfInBounds_toArray, List.set_cons_zero, List.set_cons_succ]
                      refine AnyG.takeC (i := 15) (v := ?_) rfl (by kernel_rfl) (fun _ _ _ h => h) rfl ?_ hS ?_
                      rotate_left
                      · (intro w' hSw; (try dsimp only at hSw); go_simp; try with_reducible rfl)
                      try simp only [Act.put, List.getElem_toArray, List.getElem_cons_succ, List.getElem_cons_zero, List.setIfInBounds_toArray, List.set_cons_zero, List.set_cons_succ]
                      refine AnyG.takeGC (i := 16) (v := ?_) rfl (by kernel_rfl) (fun _ _ _ h => h) (by first | (simp [Region.wanted, yielded]; done) | simp [Region.wanted, yielded, undef]) ?_ hS ?_
                      rotate_left
                      · (intro w' hSw; (try dsimp only at hSw); go_simp; try with_reducible rfl)
                      try simp only [Act.put, List.getElem_toArray, List.getElem_cons_succ, List.getElem_cons_zero, List.setIfInBounds_toArray, List.set_cons_zero, List.set_cons_succ]
                      refine AnyG.takeGC (i := 17) (v := ?_) rfl (by kernel_rfl) (fun _ _ _ h => h) (by first | (simp [Region.wanted, yielded]; done) | simp [Region.wanted, yielded, undef]) ?_ hS ?_
                      rotate_left
                      · (intro w' hSw; (try dsimp only at hSw); obtain ⟨e0, e1, e2, e3, e4, ef, ez⟩ := (kEi.call hSw).five; obtain ⟨l0, l1, l2, l3, lf, lz⟩ := (kLi.call hSw).four; go_simp; try with_reducible rfl)
                      try simp only [Act.put, List.getElem_toArray, List.getElem_cons_succ, List.getElem_cons_zero, List.setIfInBounds_toArray, List.set_cons_zero, List.set_cons_succ]
                      refine AnyG.takeGC (i := 18) (v := ?_) rfl (by kernel_rfl) (fun _ _ _ h => h) (by first | (simp [Region.wanted, yielded]; done) | simp [Region.wanted, yielded, undef]) ?_ hS ?_
                      rotate_left
                      · (intro w' hSw; (try dsimp only at hSw); go_simp; try with_reducible rfl)
                      try simp only [Act.put, List.getElem_toArray, List.getElem_cons_succ, List.getElem_cons_zero, List.setIfInBounds_toArray, List.set_cons_zero, List.set_cons_succ]
                      refine AnyG.takeGC (i := 19) (v := ?_) rfl (by kernel_rfl) (fun _ _ _ h => h) (by first | (simp [Region.wanted, yielded]; done) | simp [Region.wanted, yielded, undef]) ?_ hS ?_
                      rotate_left
                      · (intro w' hSw; (try dsimp only at hSw); go_simp; try with_reducible rfl)
                      try simp only [Act.put, List.getElem_toArray, List.getElem_cons_succ, List.getElem_cons_zero, List.setIfInBounds_toArray, List.set_cons_zero, List.set_cons_succ]
                      refine AnyG.takeNC (i := 20) rfl (by kernel_rfl) (fun _ _ _ h => h) (by first | (simp [Region.wanted, yielded]; done) | simp [Region.wanted, yielded, undef]) hS ?_
                      try simp only [Act.put, List.getElem_toArray, List.getElem_cons_succ, List.getElem_cons_zero, List.setIfInBounds_toArray, List.set_cons_zero, List.set_cons_succ]
                      refine AnyG.takeNC (i := 21) rfl (by kernel_rfl) (fun _ _ _ h => h) (by first | (simp [Region.wanted, yielded]; done) | simp [Region.wanted, yielded, undef]) hS ?_
                      try simp only [Act.put, List.getElem_toArray, List.getElem_cons_succ, List.getElem_cons_zero, List.setIfInBounds_toArray, List.set_cons_zero, List.set_cons_succ]
                      refine AnyG.takeNC (i := 22) rfl (by kernel_rfl) (fun _ _ _ h => h) (by first | (simp [Region.wanted, yielded]; done) | simp [Region.wanted, yielded, undef]) hS ?_
                      try simp only [Act.put, List.getElem_toArray, List.getElem_cons_succ, List.getElem_cons_zero, List.setIfInBounds_toArray, List.set_cons_zero, List.set_cons_succ]
                      refine AnyG.takeNC (i := 23) rfl (by kernel_rfl) (fun _ _ _ h => h) (by first | (simp [Region.wanted, yielded]; done) | simp [Region.wanted, yielded, undef]) hS ?_
                      try simp only [Act.put, List.getElem_toArray, List.getElem_cons_succ, List.getElem_cons_zero, List.setIfInBounds_toArray, List.set_cons_zero, List.set_cons_succ]
                      refine AnyG.takeGC (i := 24) (v := ?_) rfl (by kernel_rfl) (fun _ _ _ h => h) (by first | (simp [Region.wanted, yielded]; done) | simp [Region.wanted, yielded, undef]) ?_ hS ?_
                      rotate_left
                      · (intro w' hSw; (try dsimp only at hSw); go_simp; try with_reducible rfl)
                      try simp only [Act.put, List.getElem_toArray, List.getElem_cons_succ, List.getElem_cons_zero, List.setIfInBounds_toArray, List.set_cons_zero, List.set_cons_succ]
                      refine AnyG.takeC (i := 25) (v := ?_) rfl (by kernel_rfl) (fun _ _ _ h => h) rfl ?_ hS ?_
                      rotate_left
                      · (intro w' hSw; (try dsimp only at hSw); go_simp; try with_reducible rfl)
                      try simp only [Act.put, List.getElem_toArray, List.getElem_cons_succ, List.getElem_cons_zero, List.setIfInBounds_toArray, List.set_cons_zero, List.set_cons_succ]
                      refine AnyG.takeC (i := 26) (v := ?_) rfl (by kernel_rfl) (fun _ _ _ h => h) rfl ?_ hS ?_
                      rotate_left
                      · (intro w' hSw; (try dsimp only at hSw); go_simp; try with_reducible rfl)
                      try simp only [Act.put, List.getElem_toArray, List.getElem_cons_succ, List.getElem_cons_zero, List.setIfInBounds_toArray, List.set_cons_zero, List.set_cons_succ]
                      refine AnyG.takeGC (i := 27) (v := ?_) rfl (by kernel_rfl) (fun _ _ _ h => h) (by first | (simp [Region.wanted, yielded]; done) | simp [Region.wanted, yielded, undef]) ?_ hS ?_
                      rotate_left
                      · (intro w' hSw; (try dsimp only at hSw); go_simp; try with_reducible rfl)
                      try simp only [Act.put, List.getElem_toArray, List.getElem_cons_succ, List.getElem_cons_zero, List.setIfInBounds_toArray, List.set_cons_zero, List.set_cons_succ]
                      refine AnyG.takeGC (i := 28) (v := ?_) rfl (by kernel_rfl) (fun _ _ _ h => h) (by first | (simp [Region.wanted, yielded]; done) | simp [Region.wanted, yielded, undef]) ?_ hS ?_
                      rotate_left
                      · (intro w' hSw; (try dsimp only at hSw); obtain ⟨e0, e1, e2, e3, e4, ef, ez⟩ := (kEi.call hSw).five; obtain ⟨l0, l1, l2, l3, lf, lz⟩ := (kLi.call hSw).four; go_simp; try with_reducible rfl)
                      try simp only [Act.put, List.getElem_toArray, List.getElem_cons_succ, List.getElem_cons_zero, List.setIfInBounds_toArray, List.set_cons_zero, List.set_cons_succ]
                      refine AnyG.takeGC (i := 29) (v := ?_) rfl (by kernel_rfl) (fun _ _ _ h => h) (by first | (simp [Region.wanted, yielded]; done) | simp [Region.wanted, yielded, undef]) ?_ hS ?_
                      rotate_left
                      · (intro w' hSw; (try dsimp only at hSw); go_simp; try with_reducible rfl)
                      try simp only [Act.put, List.getElem_toArray, List.getElem_cons_succ, List.getElem_cons_zero, List.setIfInBounds_toArray, List.set_cons_zero, List.set_cons_succ]
                      refine AnyG.takeGC (i := 30) (v := ?_) rfl (by kernel_rfl) (fun _ _ _ h => h) (by first | (simp [Region.wanted, yielded]; done) | simp [Region.wanted, yielded, undef]) ?_ hS ?_
                      rotate_left
                      · (intro w' hSw; (try dsimp only at hSw); go_simp; try with_reducible rfl)
                      try simp only [Act.put, List.getElem_toArray, List.getElem_cons_succ, List.getElem_cons_zero, List.setIfInBounds_toArray, List.set_cons_zero, List.set_cons_succ]
                      refine AnyG.takeGC (i := 32) (v := ?_) rfl (by kernel_rfl) (fun _ _ _ h => h) (by first | (simp [Region.wanted, yielded]; done) | simp [Region.wanted, yielded, undef]) ?_ hS ?_
                      rotate_left
                      · (intro w' hSw; (try dsimp only at hSw); go_simp; try with_reducible rfl)
                      try simp only [Act.put, List.getElem_toArray, List.getElem_cons_succ, List.getElem_cons_zero, List.setIfInBounds_toArray, List.set_cons_zero, List.set_cons_succ]
                      refine AnyG.takeGC (i := 33) (v := ?_) rfl (by kernel_rfl) (fun _ _ _ h => h) (by first | (simp [Region.wanted, yielded]; done) | simp [Region.wanted, yielded, undef]) ?_ hS ?_
                      rotate_left
                      · (intro w' hSw; (try dsimp only at hSw); obtain ⟨e0, e1, e2, e3, e4, ef, ez⟩ := (kEi.call hSw).five; obtain ⟨l0, l1, l2, l3, lf, lz⟩ := (kLi.call hSw).four; go_simp; try with_reducible rfl)
                      try simp only [Act.put, List.getElem_toArray, List.getElem_cons_succ, List.getElem_cons_zero, List.setIfInBounds_toArray, List.set_cons_zero, List.set_cons_succ]
                      refine AnyG.oneC (i := 31) (by kernel_rfl) rfl (by first | (simp [Region.wanted, yielded]; done) | simp [Region.wanted, yielded, undef]) ?_
                      go_simp
                      refine (shows_any st ((0 : Nat) : Int) z _ (by omega) (by omega) (by omega) (by omega) (by omega) (by omega)).mono ?_
                      rintro er y31 ⟨rfl, rfl⟩
                      rw [hs]
                      refine Onward.on hS (fun hS2 => ?_)
                      clear hS
                      have hS := hS2
                      clear hS2
                      try simp only [Act.put, List.getElem_toArray, List.getElem_cons_succ, List.getElem_cons_zero, List.setIfInBounds_toArray, List.set_cons_zero, List.set_cons_succ]
                      refine AnyG.takeGC (i := 34) (v := ?_) rfl (by kernel_rfl) (fun _ _ _ h => h) (by first | (simp [Region.wanted, yielded]; done) | simp [Region.wanted, yielded, undef]) ?_ hS ?_
                      rotate_left
                      · (intro w' hSw; (try dsimp only at hSw); go_simp; try with_reducible rfl)
                      try simp only [Act.put, List.getElem_toArray, List.getElem_cons_succ, List.getElem_cons_zero, List.setIfInBounds_toArray, List.set_cons_zero, List.set_cons_succ]
                      refine AnyG.takeC (i := 35) (v := ?_) rfl (by kernel_rfl) (fun _ _ _ h => h) rfl ?_ hS ?_
                      rotate_left
                      · (intro w' hSw; (try dsimp only at hSw); go_simp; try with_reducible rfl)
                      try simp only [Act.put, List.getElem_toArray, List.getElem_cons_succ, List.getElem_cons_zero, List.setIfInBounds_toArray, List.set_cons_zero, List.set_cons_succ]
                      refine AnyG.done (by kernel_rfl) ?_ _
                      go_simp
                      go_wp2_with fail
                      go_meet
                      exact ⟨by rw [hokd]; simp, (Below.refl _ _).drew⟩
                    · have b3 : ((j : Int) != 0) = true := by simpa using hn0
                      have hokd : okd st ⟨1, sh, ld, c0, c1⟩ z (j : Int) = false := okd_no (.inr (.inr (.inl ⟨rfl, by simpa using hn0⟩)))
                      refine AnyG.startC (by kernel_rfl) ?_
                      refine AnyG.takeP (i := 0) (v := ?_) rfl (by kernel_rfl) (fun _ _ _ h => h) rfl ?_ ?_
                      rotate_left
                      · (intro w'; go_simp; try with_reducible rfl)
                      try simp only [Act.put, List.getElem_toArray, List.getElem_cons_succ, List.getElem_cons_zero, List.setIfInBounds_toArray, List.set_cons_zero, List.set_cons_succ]
                      refine AnyG.takeP (i := 1) (v := ?_) rfl (by kernel_rfl) (fun _ _ _ h => h) rfl ?_ ?_
                      rotate_left
                      · (intro w'; go_simp; try with_reducible rfl)
                      try simp only [Act.put, List.getElem_toArray, List.getElem_cons_succ, List.getElem_cons_zero, List.setIfInBounds_toArray, List.set_cons_zero, List.set_cons_succ]
                      refine AnyG.takeP (i := 2) (v := ?_) rfl (by kernel_rfl) (fun _ _ _ h => h) rfl ?_ ?_
                      rotate_left
                      · (intro w'; go_simp; try with_reducible rfl)
                      try simp only [Act.put, List.getElem_toArray, List.getElem_cons_succ, List.getElem_cons_zero, List.setIfInBounds_toArray, List.set_cons_zero, List.set_cons_succ]
                      refine AnyG.enter (fun w' : World => Below wi.heap.size wi w') (fun i => true) ?_
                      have hS : (fun w' : World => Below wi.heap.size wi w') (World.drew _) := (Below.refl _ _).drew
                      refine AnyG.takeGC (i := 3) (v := ?_) rfl (by kernel_rfl) (fun _ _ _ h => h) (by first | (simp [Region.wanted, yielded]; done) | simp [Region.wanted, yielded, undef]) ?_ hS ?_
                      rotate_left
                      · (intro w' hSw; (try dsimp only at hSw); go_simp; try with_reducible rfl)
                      try simp only [Act.put, List.getElem_toArray, List.getElem_cons_succ, List.getElem_cons_zero, List.setIfInBounds_toArray, List.set_cons_zero, List.set_cons_succ]
                      refine AnyG.takeGC (i := 4) (v := ?_) rfl (by kernel_rfl) (fun _ _ _ h => h) (by first | (simp [Region.wanted, yielded]; done) | simp [Region.wanted, yielded, undef]) ?_ hS ?_
                      rotate_left
                      · (intro w' hSw; (try dsimp only at hSw); go_simp; try with_reducible rfl)
                      try simp only [Act.put, List.getElem_toArray, List.getElem_cons_succ, List.getElem_cons_zero, List.setIfInBounds_toArray, List.set_cons_zero, List.set_cons_succ]
                      refine AnyG.takeC (i := 5) (v := ?_) rfl (by kernel_rfl) (fun _ _ _ h => h) rfl ?_ hS ?_
                      rotate_left
                      · (intro w' hSw; (try dsimp only at hSw); go_simp; try with_reducible rfl)
                      try simp only [Act.put, List.getElem_toArray, List.getElem_cons_succ, List.getElem_cons_zero, List.setIfInBounds_toArray, List.set_cons_zero, List.set_cons_succ]
                      refine AnyG.takeC (i := 6) (v := ?_) rfl (by kernel_rfl) (fun _ _ _ h => h) rfl ?_ hS ?_
                      rotate_left
                      · (intro w' hSw; (try dsimp only at hSw); go_simp; try with_reducible rfl)
                      try simp only [Act.put, List.getElem_toArray, List.getElem_cons_succ, List.getElem_cons_zero, List.setIfInBounds_toArray, List.set_cons_zero, List.set_cons_succ]
                      refine AnyG.takeGC (i := 7) (v := ?_) rfl (by kernel_rfl) (fun _ _ _ h => h) (by first | (simp [Region.wanted, yielded]; done) | simp [Region.wanted, yielded, undef]) ?_ hS ?_
                      rotate_left
                      · (intro w' hSw; (try dsimp only at hSw); go_simp; try with_reducible rfl)
                      try simp only [Act.put, List.getElem_toArray, List.getElem_cons_succ, List.getElem_cons_zero, List.setIfInBounds_toArray, List.set_cons_zero, List.set_cons_succ]
                      refine AnyG.takeGC (i := 8) (v := ?_) rfl (by kernel_rfl) (fun _ _ _ h => h) (by first | (simp [Region.wanted, yielded]; done) | simp [Region.wanted, yielded, undef]) ?_ hS ?_
                      rotate_left
                      · (intro w' hSw; (try dsimp only at hSw); obtain ⟨e0, e1, e2, e3, e4, ef, ez⟩ := (kEi.call hSw).five; obtain ⟨l0, l1, l2, l3, lf, lz⟩ := (kLi.call hSw).four; go_simp; try with_reducible rfl)
                      try simp only [Act.put, List.getElem_toArray, List.getElem_cons_succ, List.getElem_cons_zero, List.setIfInBounds_toArray, List.set_cons_zero, List.set_cons_succ]
                      refine AnyG.takeGC (i := 9) (v := ?_) rfl (by kernel_rfl) (fun _ _ _ h => h) (by first | (simp [Region.wanted, yielded]; done) | simp [Region.wanted, yielded, undef]) ?_ hS ?_
                      rotate_left
                      · (intro w' hSw; (try dsimp only at hSw); go_simp; try with_reducible rfl)
                      try simp only [Act.put, List.getElem_toArray, List.getElem_cons_succ, List.getElem_cons_zero, List.setIfInBounds_toArray, List.set_cons_zero, List.set_cons_succ]
                      refine AnyG.takeGC (i := 10) (v := ?_) rfl (by kernel_rfl) (fun _ _ _ h => h) (by first | (simp [Region.wanted, yielded]; done) | simp [Region.wanted, yielded, undef]) ?_ hS ?_
                      rotate_left
                      · (intro w' hSw; (try dsimp only at hSw); go_simp; try with_reducible rfl)
                      try simp only [Act.put, List.getElem_toArray, List.getElem_cons_succ, List.getElem_cons_zero, List.setIfInBounds_toArray, List.set_cons_zero, List.set_cons_succ]
                      refine AnyG.takeGC (i := 11) (v := ?_) rfl (by kernel_rfl) (fun _ _ _ h => h) (by first | (simp [Region.wanted, yielded]; done) | simp [Region.wanted, yielded, undef]) ?_ hS ?_
                      rotate_left
                      · (intro w' hSw; (try dsimp only at hSw); go_simp; try with_reducible rfl)
                      try simp only [Act.put, List.getElem_toArray, List.getElem_cons_succ, List.getElem_cons_zero, List.setIfInBounds_toArray, List.set_cons_zero, List.set_cons_succ]
                      refine AnyG.takeGC (i := 12) (v := ?_) rfl (by kernel_rfl) (fun _ _ _ h => h) (by first | (simp [Region.wanted, yielded]; done) | simp [Region.wanted, yielded, undef]) ?_ hS ?_
                      rotate_left
                      · (intro w' hSw; (try dsimp only at hSw); go_simp; try with_reducible rfl)
                      try simp only [Act.put, List.getElem_toArray, List.getElem_cons_succ, List.getElem_cons_zero, List.setIfInBounds_toArray, List.set_cons_zero, List.set_cons_succ]
                      refine AnyG.takeGC (i := 13) (v := ?_) rfl (by kernel_rfl) (fun _ _ _ h => h) (by first | (simp [Region.wanted, yielded]; done) | simp [Region.wanted, yielded, undef]) ?_ hS ?_
                      rotate_left
                      · (intro w' hSw; (try dsimp only at hSw); go_simp; try with_reducible rfl)
                      try simp only [Act.put, List.getElem_toArray, List.getElem_cons_succ, List.getElem_cons_zero, List.setIfInBounds_toArray, List.set_cons_zero, List.set_cons_succ]
                      refine AnyG.takeC (i := 14) (v := ?_) rfl (by kernel_rfl) (fun _ _ _ h => h) rfl ?_ hS ?_
                      rotate_left
                      · (intro w' hSw; (try dsimp only at hSw); go_simp; try with_reducible rfl)
                      try simp only [Act.put, List.getElem_toArray, List.getElem_cons_succ, List.getElem_cons_zero, List.setIfInBounds_toArray, List.set_cons_zero, List.set_cons_succ]
                      refine AnyG.takeC (i := 15) (v := ?_) rfl (by kernel_rfl) (fun _ _ _ h => h) rfl ?_ hS ?_
                      rotate_left
                      · (intro w' hSw; (try dsimp only at hSw); go_simp; try with_reducible rfl)
                      try simp only [Act.put, List.getElem_toArray, List.getElem_cons_succ, List.getElem_cons_zero, List.setIfInBounds_toArray, List.set_cons_zero, List.set_cons_succ]
                      refine AnyG.takeNC (i := 16) rfl (by kernel_rfl) (fun _ _ _ h => h) (by first | (simp [Region.wanted, yielded]; done) | simp [Region.wanted, yielded, undef]) hS ?_
                      try simp only [Act.put, List.getElem_toArray, List.getElem_cons_succ, List.getElem_cons_zero, List.setIfInBounds_toArray, List.set_cons_zero, List.set_cons_succ]
                      refine AnyG.takeNC (i := 17) rfl (by kernel_rfl) (fun _ _ _ h => h) (by first | (simp [Region.wanted, yielded]; done) | simp [Region.wanted, yielded, undef]) hS ?_
                      try simp only [Act.put, List.getElem_toArray, List.getElem_cons_succ, List.getElem_cons_zero, List.setIfInBounds_toArray, List.set_cons_zero, List.set_cons_succ]
                      refine AnyG.takeNC (i := 18) rfl (by kernel_rfl) (fun _ _ _ h => h) (by first | (simp [Region.wanted, yielded]; done) | simp [Region.wanted, yielded, undef]) hS ?_
                      try simp only [Act.put, List.getElem_toArray, List.getElem_cons_succ, List.getElem_cons_zero, List.setIfInBounds_toArray, List.set_cons_zero, List.set_cons_succ]
                      refine AnyG.takeNC (i := 19) rfl (by kernel_rfl) (fun _ _ _ h => h) (by first | (simp [Region.wanted, yielded]; done) | simp [Region.wanted, yielded, undef]) hS ?_
                      try simp only [Act.put, List.getElem_toArray, List.getElem_cons_succ, List.getElem_cons_zero, List.setIfInBounds_toArray, List.set_cons_zero, List.set_cons_succ]
                      refine AnyG.takeNC (i := 20) rfl (by kernel_rfl) (fun _ _ _ h => h) (by first | (simp [Region.wanted, yielded]; done) | simp [Region.wanted, yielded, undef]) hS ?_
                      try simp only [Act.put, List.getElem_toArray, List.getElem_cons_succ, List.getElem_cons_zero, List.setIfInBounds_toArray, List.set_cons_zero, List.set_cons_succ]
                      refine AnyG.takeNC (i := 21) rfl (by kernel_rfl) (fun _ _ _ h => h) (by first | (simp [Region.wanted, yielded]; done) | simp [Region.wanted, yielded, undef]) hS ?_
                      try simp only [Act.put, List.getElem_toArray, List.getElem_cons_succ, List.getElem_cons_zero, List.setIfInBounds_toArray, List.set_cons_zero, List.set_cons_succ]
                      refine AnyG.takeNC (i := 22) rfl (by kernel_rfl) (fun _ _ _ h => h) (by first | (simp [Region.wanted, yielded]; done) | simp [Region.wanted, yielded, undef]) hS ?_
                      try simp only [Act.put, List.getElem_toArray, List.getElem_cons_succ, List.getElem_cons_zero, List.setIfInBounds_toArray, List.set_cons_zero, List.set_cons_succ]
                      refine AnyG.takeNC (i := 23) rfl (by kernel_rfl) (fun _ _ _ h => h) (by first | (simp [Region.wanted, yielded]; done) | simp [Region.wanted, yielded, undef]) hS ?_
                      try simp only [Act.put, List.getElem_toArray, List.getElem_cons_succ, List.getElem_cons_zero, List.setIfInBounds_toArray, List.set_cons_zero, List.set_cons_succ]
                      refine AnyG.takeNC (i := 24) rfl (by kernel_rfl) (fun _ _ _ h => h) (by first | (simp [Region.wanted, yielded]; done) | simp [Region.wanted, yielded, undef]) hS ?_
                      try simp only [Act.put, List.getElem_toArray, List.getElem_cons_succ, List.getElem_cons_zero, List.setIfInBounds_toArray, List.set_cons_zero, List.set_cons_succ]
                      refine AnyG.takeC (i := 25) (v := ?_) rfl (by kernel_rfl) (fun _ _ _ h => h) rfl ?_ hS ?_
                      rotate_left
                      · (intro w' hSw; (try dsimp only at hSw); go_simp; try with_reducible rfl)
                      try simp only [Act.put, List.getElem_toArray, List.getElem_cons_succ, List.getElem_cons_zero, List.setIfInBounds_toArray, List.set_cons_zero, List.set_cons_succ]
                      refine AnyG.takeC (i := 26) (v := ?_) rfl (by kernel_rfl) (fun _ _ _ h => h) rfl ?_ hS ?_
                      rotate_left
                      · (intro w' hSw; (try dsimp only at hSw); go_simp; try with_reducible rfl)
                      try simp only [Act.put, List.getElem_toArray, List.getElem_cons_succ, List.getElem_cons_zero, List.setIfInBounds_toArray, List.set_cons_zero, List.set_cons_succ]
                      refine AnyG.takeNC (i := 27) rfl (by kernel_rfl) (fun _ _ _ h => h) (by first | (simp [Region.wanted, yielded]; done) | simp [Region.wanted, yielded, undef]) hS ?_
                      try simp only [Act.put, List.getElem_toArray, List.getElem_cons_succ, List.getElem_cons_zero, List.setIfInBounds_toArray, List.set_cons_zero, List.set_cons_succ]
                      refine AnyG.takeNC (i := 28) rfl (by kernel_rfl) (fun _ _ _ h => h) (by first | (simp [Region.wanted, yielded]; done) | simp [Region.wanted, yielded, undef]) hS ?_
                      try simp only [Act.put, List.getElem_toArray, List.getElem_cons_succ, List.getElem_cons_zero, List.setIfInBounds_toArray, List.set_cons_zero, List.set_cons_succ]
                      refine AnyG.takeNC (i := 29) rfl (by kernel_rfl) (fun _ _ _ h => h) (by first | (simp [Region.wanted, yielded]; done) | simp [Region.wanted, yielded, undef]) hS ?_
                      try simp only [Act.put, List.getElem_toArray, List.getElem_cons_succ, List.getElem_cons_zero, List.setIfInBounds_toArray, List.set_cons_zero, List.set_cons_succ]
                      refine AnyG.takeNC (i := 30) rfl (by kernel_rfl) (fun _ _ _ h => h) (by first | (simp [Region.wanted, yielded]; done) | simp [Region.wanted, yielded, undef]) hS ?_
                      try simp only [Act.put, List.getElem_toArray, List.getElem_cons_succ, List.getElem_cons_zero, List.setIfInBounds_toArray, List.set_cons_zero, List.set_cons_succ]
                      refine AnyG.takeNC (i := 31) rfl (by kernel_rfl) (fun _ _ _ h => h) (by first | (simp [Region.wanted, yielded]; done) | simp [Region.wanted, yielded, undef]) hS ?_
                      try simp only [Act.put, List.getElem_toArray, List.getElem_cons_succ, List.getElem_cons_zero, List.setIfInBounds_toArray, List.set_cons_zero, List.set_cons_succ]
                      refine AnyG.takeNC (i := 32) rfl (by kernel_rfl) (fun _ _ _ h => h) (by first | (simp [Region.wanted, yielded]; done) | simp [Region.wanted, yielded, undef]) hS ?_
                      try simp only [Act.put, List.getElem_toArray, List.getElem_cons_succ, List.getElem_cons_zero, List.setIfInBounds_toArray, List.set_cons_zero, List.set_cons_succ]
                      refine AnyG.takeNC (i := 33) rfl (by kernel_rfl) (fun _ _ _ h => h) (by first | (simp [Region.wanted, yielded]; done) | simp [Region.wanted, yielded, undef]) hS ?_
                      try simp only [Act.put, List.getElem_toArray, List.getElem_cons_succ, List.getElem_cons_zero, List.setIfInBounds_toArray, List.set_cons_zero, List.set_cons_succ]
                      refine AnyG.takeNC (i := 34) rfl (by kernel_rfl) (fun _ _ _ h => h) (by first | (simp [Region.wanted, yielded]; done) | simp [Region.wanted, yielded, undef]) hS ?_
                      try simp only [Act.put, List.getElem_toArray, List.getElem_cons_succ, List.getElem_cons_zero, List.setIfInBounds_toArray, List.set_cons_zero, List.set_cons_succ]
                      refine AnyG.takeC (i := 35) (v := ?_) rfl (by kernel_rfl) (fun _ _ _ h => h) rfl ?_ hS ?_
                      rotate_left
                      · (intro w' hSw; (try dsimp only at hSw); go_simp; try with_reducible rfl)
                      try simp only [Act.put, List.getElem_toArray, List.getElem_cons_succ, List.getElem_cons_zero, List.setIfInBounds_toArray, List.set_cons_zero, List.set_cons_succ]
                      refine AnyG.done (by kernel_rfl) ?_ _
                      go_simp
                      go_wp2_with fail
                      go_meet
                      exact ⟨by rw [hokd]; simp, (Below.refl _ _).drew⟩
                  · by_cases hnl : (j : Int) = ld
                    · have b3 : ((j : Int) != ld) = false := by simpa using hnl
                      have HNL := Lib.hid hnl
                      clear hnl
                      obtain ⟨b5, hb5⟩ : ∃ q, (s != sh) = q := ⟨_, rfl⟩
                      have hokd : okd st ⟨2, sh, ld, c0, c1⟩ z (j : Int) = !b5 := by rw [okd_go (by omega) (by omega) (by simp) (fun h => h.2 HNL.out), hs]; exact congrArg _ hb5
                      refine AnyG.startC (by kernel_rfl) ?_
                      refine AnyG.takeP (i := 0) (v := ?_) rfl (by kernel_rfl) (fun _ _ _ h => h) rfl ?_ ?_
                      rotate_left
                      · (intro w'; go_simp; try with_reducible rfl)
                      try simp only [Act.put, List.getElem_toArray, List.getElem_cons_succ, List.getElem_cons_zero, List.setIfInBounds_toArray, List.set_cons_zero, List.set_cons_succ]
                      refine AnyG.takeP (i := 1) (v := ?_) rfl (by kernel_rfl) (fun _ _ _ h => h) rfl ?_ ?_
                      rotate_left
                      · (intro w'; go_simp; try with_reducible rfl)
                      try simp only [Act.put, List.getElem_toArray, List.getElem_cons_succ, List.getElem_cons_zero, List.setIfInBounds_toArray, List.set_cons_zero, List.set_cons_succ]
                      refine AnyG.takeP (i := 2) (v := ?_) rfl (by kernel_rfl) (fun _ _ _ h => h) rfl ?_ ?_
                      rotate_left
                      · (intro w'; go_simp; try with_reducible rfl)
                      try simp only [Act.put, List.getElem_toArray, List.getElem_cons_succ, List.getElem_cons_zero, List.setIfInBounds_toArray, List.set_cons_zero, List.set_cons_succ]
                      refine AnyG.enter (fun w' : World => Below wi.heap.size wi w') (fun i => true) ?_
                      have hS : (fun w' : World => Below wi.heap.size wi w') (World.drew _) := (Below.refl _ _).drew
                      refine AnyG.takeGC (i := 3) (v := ?_) rfl (by kernel_rfl) (fun _ _ _ h => h) (by first | (simp [Region.wanted, yielded]; done) | simp [Region.wanted, yielded, undef]) ?_ hS ?_
                      rotate_left
                      · (intro w' hSw; (try dsimp only at hSw); go_simp; try with_reducible rfl)
                      try simp only [Act.put, List.getElem_toArray, List.getElem_cons_succ, List.getElem_cons_zero, List.setIfInBounds_toArray, List.set_cons_zero, List.set_cons_succ]
                      refine AnyG.takeGC (i := 4) (v := ?_) rfl (by kernel_rfl) (fun _ _ _ h => h) (by first | (simp [Region.wanted, yielded]; done) | simp [Region.wanted, yielded, undef]) ?_ hS ?_
                      rotate_left
                      · (intro w' hSw; (try dsimp only at hSw); go_simp; try with_reducible rfl)
                      try simp only [Act.put, List.getElem_toArray, List.getElem_cons_succ, List.getElem_cons_zero, List.setIfInBounds_toArray, List.set_cons_zero, List.set_cons_succ]
                      refine AnyG.takeC (i := 5) (v := ?_) rfl (by kernel_rfl) (fun _ _ _ h => h) rfl ?_ hS ?_
                      rotate_left
                      · (intro w' hSw; (try dsimp only at hSw); go_simp; try with_reducible rfl)
                      try simp only [Act.put, List.getElem_toArray, List.getElem_cons_succ, List.getElem_cons_zero, List.setIfInBounds_toArray, List.set_cons_zero, List.set_cons_succ]
                      refine AnyG.takeC (i := 6) (v := ?_) rfl (by kernel_rfl) (fun _ _ _ h => h) rfl ?_ hS ?_
                      rotate_left
                      · (intro w' hSw; (try dsimp only at hSw); go_simp; try with_reducible rfl)
                      try simp only [Act.put, List.getElem_toArray, List.getElem_cons_succ, List.getElem_cons_zero, List.setIfInBounds_toArray, List.set_cons_zero, List.set_cons_succ]
                      refine AnyG.takeGC (i := 7) (v := ?_) rfl (by kernel_rfl) (fun _ _ _ h => h) (by first | (simp [Region.wanted, yielded]; done) | simp [Region.wanted, yielded, undef]) ?_ hS ?_
                      rotate_left
                      · (intro w' hSw; (try dsimp only at hSw); go_simp; try with_reducible rfl)
                      try simp only [Act.put, List.getElem_toArray, List.getElem_cons_succ, List.getElem_cons_zero, List.setIfInBounds_toArray, List.set_cons_zero, List.set_cons_succ]
                      refine AnyG.takeGC (i := 8) (v := ?_) rfl (by kernel_rfl) (fun _ _ _ h => h) (by first | (simp [Region.wanted, yielded]; done) | simp [Region.wanted, yielded, undef]) ?_ hS ?_
                      rotate_left
                      · (intro w' hSw; (try dsimp only at hSw); obtain ⟨e0, e1, e2, e3, e4, ef, ez⟩ := (kEi.call hSw).five; obtain ⟨l0, l1, l2, l3, lf, lz⟩ := (kLi.call hSw).four; go_simp; try with_reducible rfl)
                      try simp only [Act.put, List.getElem_toArray, List.getElem_cons_succ, List.getElem_cons_zero, List.setIfInBounds_toArray, List.set_cons_zero, List.set_cons_succ]
                      refine AnyG.takeGC (i := 9) (v := ?_) rfl (by kernel_rfl) (fun _ _ _ h => h) (by first | (simp [Region.wanted, yielded]; done) | simp [Region.wanted, yielded, undef]) ?_ hS ?_
                      rotate_left
                      · (intro w' hSw; (try dsimp only at hSw); go_simp; try with_reducible rfl)
                      try simp only [Act.put, List.getElem_toArray, List.getElem_cons_succ, List.getElem_cons_zero, List.setIfInBounds_toArray, List.set_cons_zero, List.set_cons_succ]
                      refine AnyG.takeGC (i := 10) (v := ?_) rfl (by kernel_rfl) (fun _ _ _ h => h) (by first | (simp [Region.wanted, yielded]; done) | simp [Region.wanted, yielded, undef]) ?_ hS ?_
                      rotate_left
                      · (intro w' hSw; (try dsimp only at hSw); go_simp; try with_reducible rfl)
                      try simp only [Act.put, List.getElem_toArray, List.getElem_cons_succ, List.getElem_cons_zero, List.setIfInBounds_toArray, List.set_cons_zero, List.set_cons_succ]
                      refine AnyG.takeNC (i := 11) rfl (by kernel_rfl) (fun _ _ _ h => h) (by first | (simp [Region.wanted, yielded]; done) | simp [Region.wanted, yielded, undef]) hS ?_
                      try simp only [Act.put, List.getElem_toArray, List.getElem_cons_succ, List.getElem_cons_zero, List.setIfInBounds_toArray, List.set_cons_zero, List.set_cons_succ]
                      refine AnyG.takeNC (i := 12) rfl (by kernel_rfl) (fun _ _ _ h => h) (by first | (simp [Region.wanted, yielded]; done) | simp [Region.wanted, yielded, undef]) hS ?_
                      try simp only [Act.put, List.getElem_toArray, List.getElem_cons_succ, List.getElem_cons_zero, List.setIfInBounds_toArray, List.set_cons_zero, List.set_cons_succ]
                      refine AnyG.takeGC (i := 13) (v := ?_) rfl (by kernel_rfl) (fun _ _ _ h => h) (by first | (simp [Region.wanted, yielded]; done) | simp [Region.wanted, yielded, undef]) ?_ hS ?_
                      rotate_left
                      · (intro w' hSw; (try dsimp only at hSw); go_simp; try with_reducible rfl)
                      try simp only [Act.put, List.getElem_toArray, List.getElem_cons_succ, List.getElem_cons_zero, List.setIfInBounds_toArray, List.set_cons_zero, List.set_cons_succ]
                      refine AnyG.takeC (i := 14) (v := ?_) rfl (by kernel_rfl) (fun _ _ _ h => h) rfl ?_ hS ?_
                      rotate_left
                      · (intro w' hSw; (try dsimp only at hSw); go_simp; try with_reducible rfl)
                      try simp only [Act.put, List.getElem_toArray, List.getElem_cons_succ, List.getElem_cons_zero, List.setIfInBounds_toArray, List.set_cons_zero, List.set_cons_succ]
                      refine AnyG.takeC (i := 15) (v := ?_) rfl (by kernel_rfl) (fun _ _ _ h => h) rfl ?_ hS ?_
                      rotate_left
                      · (intro w' hSw; (try dsimp only at hSw); go_simp; try with_reducible rfl)
                      try simp only [Act.put, List.getElem_toArray, List.getElem_cons_succ, List.getElem_cons_zero, List.setIfInBounds_toArray, List.set_cons_zero, List.set_cons_succ]
                      refine AnyG.takeGC (i := 16) (v := ?_) rfl (by kernel_rfl) (fun _ _ _ h => h) (by first | (simp [Region.wanted, yielded]; done) | simp [Region.wanted, yielded, undef]) ?_ hS ?_
                      rotate_left
                      · (intro w' hSw; (try dsimp only at hSw); go_simp; try with_reducible rfl)
                      try simp only [Act.put, List.getElem_toArray, List.getElem_cons_succ, List.getElem_cons_zero, List.setIfInBounds_toArray, List.set_cons_zero, List.set_cons_succ]
                      refine AnyG.takeGC (i := 17) (v := ?_) rfl (by kernel_rfl) (fun _ _ _ h => h) (by first | (simp [Region.wanted, yielded]; done) | simp [Region.wanted, yielded, undef]) ?_ hS ?_
                      rotate_left
                      · (intro w' hSw; (try dsimp only at hSw); obtain ⟨e0, e1, e2, e3, e4, ef, ez⟩ := (kEi.call hSw).five; obtain ⟨l0, l1, l2, l3, lf, lz⟩ := (kLi.call hSw).four; go_simp; try with_reducible rfl)
                      try simp only [Act.put, List.getElem_toArray, List.getElem_cons_succ, List.getElem_cons_zero, List.setIfInBounds_toArray, List.set_cons_zero, List.set_cons_succ]
                      refine AnyG.takeGC (i := 18) (v := ?_) rfl (by kernel_rfl) (fun _ _ _ h => h) (by first | (simp [Region.wanted, yielded]; done) | simp [Region.wanted, yielded, undef]) ?_ hS ?_
                      rotate_left
                      · (intro w' hSw; (try dsimp only at hSw); go_simp; try with_reducible rfl)
                      try simp only [Act.put, List.getElem_toArray, List.getElem_cons_succ, List.getElem_cons_zero, List.setIfInBounds_toArray, List.set_cons_zero, List.set_cons_succ]
                      refine AnyG.takeGC (i := 19) (v := ?_) rfl (by kernel_rfl) (fun _ _ _ h => h) (by first | (simp [Region.wanted, yielded]; done) | simp [Region.wanted, yielded, undef]) ?_ hS ?_
                      rotate_left
                      · (intro w' hSw; (try dsimp only at hSw); go_simp; try with_reducible rfl)
                      try simp only [Act.put, List.getElem_toArray, List.getElem_cons_succ, List.getElem_cons_zero, List.setIfInBounds_toArray, List.set_cons_zero, List.set_cons_succ]
                      refine AnyG.takeGC (i := 20) (v := ?_) rfl (by kernel_rfl) (fun _ _ _ h => h) (by first | (simp [Region.wanted, yielded]; done) | simp [Region.wanted, yielded, undef]) ?_ hS ?_
                      rotate_left
                      · (intro w' hSw; (try dsimp only at hSw); go_simp; try with_reducible rfl)
                      try simp only [Act.put, List.getElem_toArray, List.getElem_cons_succ, List.getElem_cons_zero, List.setIfInBounds_toArray, List.set_cons_zero, List.set_cons_succ]
                      refine AnyG.takeGC (i := 21) (v := ?_) rfl (by kernel_rfl) (fun _ _ _ h => h) (by first | (simp [Region.wanted, yielded]; done) | simp [Region.wanted, yielded, undef]) ?_ hS ?_
                      rotate_left
                      · (intro w' hSw; (try dsimp only at hSw); go_simp; try with_reducible rfl)
                      try simp only [Act.put, List.getElem_toArray, List.getElem_cons_succ, List.getElem_cons_zero, List.setIfInBounds_toArray, List.set_cons_zero, List.set_cons_succ]
                      refine AnyG.takeGC (i := 22) (v := ?_) rfl (by kernel_rfl) (fun _ _ _ h => h) (by first | (simp [Region.wanted, yielded]; done) | simp [Region.wanted, yielded, undef]) ?_ hS ?_
                      rotate_left
                      · (intro w' hSw; (try dsimp only at hSw); obtain ⟨e0, e1, e2, e3, e4, ef, ez⟩ := (kEi.call hSw).five; obtain ⟨l0, l1, l2, l3, lf, lz⟩ := (kLi.call hSw).four; go_simp; try with_reducible rfl)
                      try simp only [Act.put, List.getElem_toArray, List.getElem_cons_succ, List.getElem_cons_zero, List.setIfInBounds_toArray, List.set_cons_zero, List.set_cons_succ]
                      refine AnyG.takeGC (i := 23) (v := ?_) rfl (by kernel_rfl) (fun _ _ _ h => h) (by first | (simp [Region.wanted, yielded]; done) | simp [Region.wanted, yielded, undef]) ?_ hS ?_
                      rotate_left
                      · (intro w' hSw; (try dsimp only at hSw); go_simp; try with_reducible rfl)
                      try simp only [Act.put, List.getElem_toArray, List.getElem_cons_succ, List.getElem_cons_zero, List.setIfInBounds_toArray, List.set_cons_zero, List.set_cons_succ]
                      refine AnyG.takeGC (i := 24) (v := ?_) rfl (by kernel_rfl) (fun _ _ _ h => h) (by first | (simp [Region.wanted, yielded]; done) | simp [Region.wanted, yielded, undef]) ?_ hS ?_
                      rotate_left
                      · (intro w' hSw; (try dsimp only at hSw); go_simp; try with_reducible rfl)
                      try simp only [Act.put, List.getElem_toArray, List.getElem_cons_succ, List.getElem_cons_zero, List.setIfInBounds_toArray, List.set_cons_zero, List.set_cons_succ]
                      refine AnyG.takeC (i := 25) (v := ?_) rfl (by kernel_rfl) (fun _ _ _ h => h) rfl ?_ hS ?_
                      rotate_left
                      · (intro w' hSw; (try dsimp only at hSw); go_simp; try with_reducible rfl)
                      try simp only [Act.put, List.getElem_toArray, List.getElem_cons_succ, List.getElem_cons_zero, List.setIfInBounds_toArray, List.set_cons_zero, List.set_cons_succ]
                      refine AnyG.takeC (i := 26) (v := ?_) rfl (by kernel_rfl) (fun _ _ _ h => h) rfl ?_ hS ?_
                      rotate_left
                      · (intro w' hSw; (try dsimp only at hSw); go_simp; try with_reducible rfl)
                      try simp only [Act.put, List.getElem_toArray, List.getElem_cons_succ, List.getElem_cons_zero, List.setIfInBounds_toArray, List.set_cons_zero, List.set_cons_succ]
                      refine AnyG.takeGC (i := 27) (v := ?_) rfl (by kernel_rfl) (fun _ _ _ h => h) (by first | (simp [Region.wanted, yielded]; done) | simp [Region.wanted, yielded, undef]) ?_ hS ?_
                      rotate_left
                      · (intro w' hSw; (try dsimp only at hSw); go_simp; try with_reducible rfl)
                      try simp only [Act.put, List.getElem_toArray, List.getElem_cons_succ, List.getElem_cons_zero, List.setIfInBounds_toArray, List.set_cons_zero, List.set_cons_succ]
                      refine AnyG.takeGC (i := 28) (v := ?_) rfl (by kernel_rfl) (fun _ _ _ h => h) (by first | (simp [Region.wanted, yielded]; done) | simp [Region.wanted, yielded, undef]) ?_ hS ?_
                      rotate_left
                      · (intro w' hSw; (try dsimp only at hSw); obtain ⟨e0, e1, e2, e3, e4, ef, ez⟩ := (kEi.call hSw).five; obtain ⟨l0, l1, l2, l3, lf, lz⟩ := (kLi.call hSw).four; go_simp; try with_reducible rfl)
                      try simp only [Act.put, List.getElem_toArray, List.getElem_cons_succ, List.getElem_cons_zero, List.setIfInBounds_toArray, List.set_cons_zero, List.set_cons_succ]
                      refine AnyG.takeGC (i := 29) (v := ?_) rfl (by kernel_rfl) (fun _ _ _ h => h) (by first | (simp [Region.wanted, yielded]; done) | simp [Region.wanted, yielded, undef]) ?_ hS ?_
                      rotate_left
                      · (intro w' hSw; (try dsimp only at hSw); go_simp; try with_reducible rfl)
                      try simp only [Act.put, List.getElem_toArray, List.getElem_cons_succ, List.getElem_cons_zero, List.setIfInBounds_toArray, List.set_cons_zero, List.set_cons_succ]
                      refine AnyG.takeGC (i := 30) (v := ?_) rfl (by kernel_rfl) (fun _ _ _ h => h) (by first | (simp [Region.wanted, yielded]; done) | simp [Region.wanted, yielded, undef]) ?_ hS ?_
                      rotate_left
                      · (intro w' hSw; (try dsimp only at hSw); go_simp; try with_reducible rfl)
                      try simp only [Act.put, List.getElem_toArray, List.getElem_cons_succ, List.getElem_cons_zero, List.setIfInBounds_toArray, List.set_cons_zero, List.set_cons_succ]
                      refine AnyG.takeGC (i := 32) (v := ?_) rfl (by kernel_rfl) (fun _ _ _ h => h) (by first | (simp [Region.wanted, yielded]; done) | simp [Region.wanted, yielded, undef]) ?_ hS ?_
                      rotate_left
                      · (intro w' hSw; (try dsimp only at hSw); go_simp; try with_reducible rfl)
                      try simp only [Act.put, List.getElem_toArray, List.getElem_cons_succ, List.getElem_cons_zero, List.setIfInBounds_toArray, List.set_cons_zero, List.set_cons_succ]
                      refine AnyG.takeGC (i := 33) (v := ?_) rfl (by kernel_rfl) (fun _ _ _ h => h) (by first | (simp [Region.wanted, yielded]; done) | simp [Region.wanted, yielded, undef]) ?_ hS ?_
                      rotate_left
                      · (intro w' hSw; (try dsimp only at hSw); obtain ⟨e0, e1, e2, e3, e4, ef, ez⟩ := (kEi.call hSw).five; obtain ⟨l0, l1, l2, l3, lf, lz⟩ := (kLi.call hSw).four; go_simp; try with_reducible rfl)
                      try simp only [Act.put, List.getElem_toArray, List.getElem_cons_succ, List.getElem_cons_zero, List.setIfInBounds_toArray, List.set_cons_zero, List.set_cons_succ]
                      refine AnyG.oneC (i := 31) (by kernel_rfl) rfl (by first | (simp [Region.wanted, yielded]; done) | simp [Region.wanted, yielded, undef]) ?_
                      go_simp
                      refine (shows_any st (j : Int) z _ (by omega) (by omega) (by omega) (by omega) (by omega) (by omega)).mono ?_
                      rintro er y31 ⟨rfl, rfl⟩
                      rw [hs]
                      refine Onward.on hS (fun hS2 => ?_)
                      clear hS
                      have hS := hS2
                      clear hS2
                      try simp only [Act.put, List.getElem_toArray, List.getElem_cons_succ, List.getElem_cons_zero, List.setIfInBounds_toArray, List.set_cons_zero, List.set_cons_succ]
                      refine AnyG.takeGC (i := 34) (v := ?_) rfl (by kernel_rfl) (fun _ _ _ h => h) (by first | (simp [Region.wanted, yielded]; done) | simp [Region.wanted, yielded, undef]) ?_ hS ?_
                      rotate_left
                      · (intro w' hSw; (try dsimp only at hSw); go_simp; try with_reducible rfl)
                      try simp only [Act.put, List.getElem_toArray, List.getElem_cons_succ, List.getElem_cons_zero, List.setIfInBounds_toArray, List.set_cons_zero, List.set_cons_succ]
                      refine AnyG.takeC (i := 35) (v := ?_) rfl (by kernel_rfl) (fun _ _ _ h => h) rfl ?_ hS ?_
                      rotate_left
                      · (intro w' hSw; (try dsimp only at hSw); go_simp; try with_reducible rfl)
                      try simp only [Act.put, List.getElem_toArray, List.getElem_cons_succ, List.getElem_cons_zero, List.setIfInBounds_toArray, List.set_cons_zero, List.set_cons_succ]
                      refine AnyG.done (by kernel_rfl) ?_ _
                      go_simp
                      go_wp2_with fail
                      go_meet
                      exact ⟨by rw [hokd]; simp, (Below.refl _ _).drew⟩
                    · have b3 : ((j : Int) != ld) = true := by simpa using hnl
                      have hokd : okd st ⟨2, sh, ld, c0, c1⟩ z (j : Int) = false := okd_no (.inr (.inr (.inr ⟨rfl, hnl⟩)))
                      refine AnyG.startC (by kernel_rfl) ?_
                      refine AnyG.takeP (i := 0) (v := ?_) rfl (by kernel_rfl) (fun _ _ _ h => h) rfl ?_ ?_
                      rotate_left
                      · (intro w'; go_simp; try with_reducible rfl)
                      try simp only [Act.put, List.getElem_toArray, List.getElem_cons_succ, List.getElem_cons_zero, List.setIfInBounds_toArray, List.set_cons_zero, List.set_cons_succ]
                      refine AnyG.takeP (i := 1) (v := ?_) rfl (by kernel_rfl) (fun _ _ _ h => h) rfl ?_ ?_
                      rotate_left
                      · (intro w'; go_simp; try with_reducible rfl)
                      try simp only [Act.put, List.getElem_toArray, List.getElem_cons_succ, List.getElem_cons_zero, List.setIfInBounds_toArray, List.set_cons_zero, List.set_cons_succ]
                      refine AnyG.takeP (i := 2) (v := ?_) rfl (by kernel_rfl) (fun _ _ _ h => h) rfl ?_ ?_
                      rotate_left
                      · (intro w'; go_simp; try with_reducible rfl)
                      try simp only [Act.put, List.getElem_toArray, List.getElem_cons_succ, List.getElem_cons_zero, List.setIfInBounds_toArray, List.set_cons_zero, List.set_cons_succ]
                      refine AnyG.enter (fun w' : World => Below wi.heap.size wi w') (fun i => true) ?_
                      have hS : (fun w' : World => Below wi.heap.size wi w') (World.drew _) := (Below.refl _ _).drew
                      refine AnyG.takeGC (i := 3) (v := ?_) rfl (by kernel_rfl) (fun _ _ _ h => h) (by first | (simp [Region.wanted, yielded]; done) | simp [Region.wanted, yielded, undef]) ?_ hS ?_
                      rotate_left
                      · (intro w' hSw; (try dsimp only at hSw); go_simp; try with_reducible rfl)
                      try simp only [Act.put, List.getElem_toArray, List.getElem_cons_succ, List.getElem_cons_zero, List.setIfInBounds_toArray, List.set_cons_zero, List.set_cons_succ]
                      refine AnyG.takeGC (i := 4) (v := ?_) rfl (by kernel_rfl) (fun _ _ _ h => h) (by first | (simp [Region.wanted, yielded]; done) | simp [Region.wanted, yielded, undef]) ?_ hS ?_
                      rotate_left
                      · (intro w' hSw; (try dsimp only at hSw); go_simp; try with_reducible rfl)
                      try simp only [Act.put, List.getElem_toArray, List.getElem_cons_succ, List.getElem_cons_zero, List.setIfInBounds_toArray, List.set_cons_zero, List.set_cons_succ]
                      refine AnyG.takeC (i := 5) (v := ?_) rfl (by kernel_rfl) (fun _ _ _ h => h) rfl ?_ hS ?_
                      rotate_left
                      · (intro w' hSw; (try dsimp only at hSw); go_simp; try with_reducible rfl)
                      try simp only [Act.put, List.getElem_toArray, List.getElem_cons_succ, List.getElem_cons_zero, List.setIfInBounds_toArray, List.set_cons_zero, List.set_cons_succ]
                      refine AnyG.takeC (i := 6) (v := ?_) rfl (by kernel_rfl) (fun _ _ _ h => h) rfl ?_ hS ?_
                      rotate_left
                      · (intro w' hSw; (try dsimp only at hSw); go_simp; try with_reducible rfl)
                      try simp only [Act.put, List.getElem_toArray, List.getElem_cons_succ, List.getElem_cons_zero, List.setIfInBounds_toArray, List.set_cons_zero, List.set_cons_succ]
                      refine AnyG.takeGC (i := 7) (v := ?_) rfl (by kernel_rfl) (fun _ _ _ h => h) (by first | (simp [Region.wanted, yielded]; done) | simp [Region.wanted, yielded, undef]) ?_ hS ?_
                      rotate_left
                      · (intro w' hSw; (try dsimp only at hSw); go_simp; try with_reducible rfl)
                      try simp only [Act.put, List.getElem_toArray, List.getElem_cons_succ, List.getElem_cons_zero, List.setIfInBounds_toArray, List.set_cons_zero, List.set_cons_succ]
                      refine AnyG.takeGC (i := 8) (v := ?_) rfl (by kernel_rfl) (fun _ _ _ h => h) (by first | (simp [Region.wanted, yielded]; done) | simp [Region.wanted, yielded, undef]) ?_ hS ?_
                      rotate_left
                      · (intro w' hSw; (try dsimp only at hSw); obtain ⟨e0, e1, e2, e3, e4, ef, ez⟩ := (kEi.call hSw).five; obtain ⟨l0, l1, l2, l3, lf, lz⟩ := (kLi.call hSw).four; go_simp; try with_reducible rfl)
                      try simp only [Act.put, List.getElem_toArray, List.getElem_cons_succ, List.getElem_cons_zero, List.setIfInBounds_toArray, List.set_cons_zero, List.set_cons_succ]
                      refine AnyG.takeGC (i := 9) (v := ?_) rfl (by kernel_rfl) (fun _ _ _ h => h) (by first | (simp [Region.wanted, yielded]; done) | simp [Region.wanted, yielded, undef]) ?_ hS ?_
                      rotate_left
                      · (intro w' hSw; (try dsimp only at hSw); go_simp; try with_reducible rfl)
                      try simp only [Act.put, List.getElem_toArray, List.getElem_cons_succ, List.getElem_cons_zero, List.setIfInBounds_toArray, List.set_cons_zero, List.set_cons_succ]
                      refine AnyG.takeGC (i := 10) (v := ?_) rfl (by kernel_rfl) (fun _ _ _ h => h) (by first | (simp [Region.wanted, yielded]; done) | simp [Region.wanted, yielded, undef]) ?_ hS ?_
                      rotate_left
                      · (intro w' hSw; (try dsimp only at hSw); go_simp; try with_reducible rfl)
                      try simp only [Act.put, List.getElem_toArray, List.getElem_cons_succ, List.getElem_cons_zero, List.setIfInBounds_toArray, List.set_cons_zero, List.set_cons_succ]
                      refine AnyG.takeNC (i := 11) rfl (by kernel_rfl) (fun _ _ _ h => h) (by first | (simp [Region.wanted, yielded]; done) | simp [Region.wanted, yielded, undef]) hS ?_
                      try simp only [Act.put, List.getElem_toArray, List.getElem_cons_succ, List.getElem_cons_zero, List.setIfInBounds_toArray, List.set_cons_zero, List.set_cons_succ]
                      refine AnyG.takeNC (i := 12) rfl (by kernel_rfl) (fun _ _ _ h => h) (by first | (simp [Region.wanted, yielded]; done) | simp [Region.wanted, yielded, undef]) hS ?_
                      try simp only [Act.put, List.getElem_toArray, List.getElem_cons_succ, List.getElem_cons_zero, List.setIfInBounds_toArray, List.set_cons_zero, List.set_cons_succ]
                      refine AnyG.takeGC (i := 13) (v := ?_) rfl (by kernel_rfl) (fun _ _ _ h => h) (by first | (simp [Region.wanted, yielded]; done) | simp [Region.wanted, yielded, undef]) ?_ hS ?_
                      rotate_left
                      · (intro w' hSw; (try dsimp only at hSw); go_simp; try with_reducible rfl)
                      try simp only [Act.put, List.getElem_toArray, List.getElem_cons_succ, List.getElem_cons_zero, List.setIfInBounds_toArray, List.set_cons_zero, List.set_cons_succ]
                      refine AnyG.takeC (i := 14) (v := ?_) rfl (by kernel_rfl) (fun _ _ _ h => h) rfl ?_ hS ?_
                      rotate_left
                      · (intro w' hSw; (try dsimp only at hSw); go_simp; try with_reducible rfl)
                      try simp only [Act.put, List.getElem_toArray, List.getElem_cons_succ, List.getElem_cons_zero, List.setIfInBounds_toArray, List.set_cons_zero, List.set_cons_succ]
                      refine AnyG.takeC (i := 15) (v := ?_) rfl (by kernel_rfl) (fun _ _ _ h => h) rfl ?_ hS ?_
                      rotate_left
                      · (intro w' hSw; (try dsimp only at hSw); go_simp; try with_reducible rfl)
                      try simp only [Act.put, List.getElem_toArray, List.getElem_cons_succ, List.getElem_cons_zero, List.setIfInBounds_toArray, List.set_cons_zero, List.set_cons_succ]
                      refine AnyG.takeGC (i := 16) (v := ?_) rfl (by kernel_rfl) (fun _ _ _ h => h) (by first | (simp [Region.wanted, yielded]; done) | simp [Region.wanted, yielded, undef]) ?_ hS ?_
                      rotate_left
                      · (intro w' hSw; (try dsimp only at hSw); go_simp; try with_reducible rfl)
                      try simp only [Act.put, List.getElem_toArray, List.getElem_cons_succ, List.getElem_cons_zero, List.setIfInBounds_toArray, List.set_cons_zero, List.set_cons_succ]
                      refine AnyG.takeGC (i := 17) (v := ?_) rfl (by kernel_rfl) (fun _ _ _ h => h) (by first | (simp [Region.wanted, yielded]; done) | simp [Region.wanted, yielded, undef]) ?_ hS ?_
                      rotate_left
                      · (intro w' hSw; (try dsimp only at hSw); obtain ⟨e0, e1, e2, e3, e4, ef, ez⟩ := (kEi.call hSw).five; obtain ⟨l0, l1, l2, l3, lf, lz⟩ := (kLi.call hSw).four; go_simp; try with_reducible rfl)
                      try simp only [Act.put, List.getElem_toArray, List.getElem_cons_succ, List.getElem_cons_zero, List.setIfInBounds_toArray, List.set_cons_zero, List.set_cons_succ]
                      refine AnyG.takeGC (i := 18) (v := ?_) rfl (by kernel_rfl) (fun _ _ _ h => h) (by first | (simp [Region.wanted, yielded]; done) | simp [Region.wanted, yielded, undef]) ?_ hS ?_
                      rotate_left
                      · (intro w' hSw; (try dsimp only at hSw); go_simp; try with_reducible rfl)
                      try simp only [Act.put, List.getElem_toArray, List.getElem_cons_succ, List.getElem_cons_zero, List.setIfInBounds_toArray, List.set_cons_zero, List.set_cons_succ]
                      refine AnyG.takeGC (i := 19) (v := ?_) rfl (by kernel_rfl) (fun _ _ _ h => h) (by first | (simp [Region.wanted, yielded]; done) | simp [Region.wanted, yielded, undef]) ?_ hS ?_
                      rotate_left
                      · (intro w' hSw; (try dsimp only at hSw); go_simp; try with_reducible rfl)
                      try simp only [Act.put, List.getElem_toArray, List.getElem_cons_succ, List.getElem_cons_zero, List.setIfInBounds_toArray, List.set_cons_zero, List.set_cons_succ]
                      refine AnyG.takeGC (i := 20) (v := ?_) rfl (by kernel_rfl) (fun _ _ _ h => h) (by first | (simp [Region.wanted, yielded]; done) | simp [Region.wanted, yielded, undef]) ?_ hS ?_
                      rotate_left
                      · (intro w' hSw; (try dsimp only at hSw); go_simp; try with_reducible rfl)
                      try simp only [Act.put, List.getElem_toArray, List.getElem_cons_succ, List.getElem_cons_zero, List.setIfInBounds_toArray, List.set_cons_zero, List.set_cons_succ]
                      refine AnyG.takeGC (i := 21) (v := ?_) rfl (by kernel_rfl) (fun _ _ _ h => h) (by first | (simp [Region.wanted, yielded]; done) | simp [Region.wanted, yielded, undef]) ?_ hS ?_
                      rotate_left
                      · (intro w' hSw; (try dsimp only at hSw); go_simp; try with_reducible rfl)
                      try simp only [Act.put, List.getElem_toArray, List.getElem_cons_succ, List.getElem_cons_zero, List.setIfInBounds_toArray, List.set_cons_zero, List.set_cons_succ]
                      refine AnyG.takeGC (i := 22) (v := ?_) rfl (by kernel_rfl) (fun _ _ _ h => h) (by first | (simp [Region.wanted, yielded]; done) | simp [Region.wanted, yielded, undef]) ?_ hS ?_
                      rotate_left
                      · (intro w' hSw; (try dsimp only at hSw); obtain ⟨e0, e1, e2, e3, e4, ef, ez⟩ := (kEi.call hSw).five; obtain ⟨l0, l1, l2, l3, lf, lz⟩ := (kLi.call hSw).four; go_simp; try with_reducible rfl)
                      try simp only [Act.put, List.getElem_toArray, List.getElem_cons_succ, List.getElem_cons_zero, List.setIfInBounds_toArray, List.set_cons_zero, List.set_cons_succ]
                      refine AnyG.takeGC (i := 23) (v := ?_) rfl (by kernel_rfl) (fun _ _ _ h => h) (by first | (simp [Region.wanted, yielded]; done) | simp [Region.wanted, yielded, undef]) ?_ hS ?_
                      rotate_left
                      · (intro w' hSw; (try dsimp only at hSw); go_simp; try with_reducible rfl)
                      try simp only [Act.put, List.getElem_toArray, List.getElem_cons_succ, List.getElem_cons_zero, List.setIfInBounds_toArray, List.set_cons_zero, List.set_cons_succ]
                      refine AnyG.takeGC (i := 24) (v := ?_) rfl (by kernel_rfl) (fun _ _ _ h => h) (by first | (simp [Region.wanted, yielded]; done) | simp [Region.wanted, yielded, undef]) ?_ hS ?_
                      rotate_left
                      · (intro w' hSw; (try dsimp only at hSw); go_simp; try with_reducible rfl)
                      try simp only [Act.put, List.getElem_toArray, List.getElem_cons_succ, List.getElem_cons_zero, List.setIfInBounds_toArray, List.set_cons_zero, List.set_cons_succ]
                      refine AnyG.takeC (i := 25) (v := ?_) rfl (by kernel_rfl) (fun _ _ _ h => h) rfl ?_ hS ?_
                      rotate_left
                      · (intro w' hSw; (try dsimp only at hSw); go_simp; try with_reducible rfl)
                      try simp only [Act.put, List.getElem_toArray, List.getElem_cons_succ, List.getElem_cons_zero, List.setIfInBounds_toArray, List.set_cons_zero, List.set_cons_succ]
                      refine AnyG.takeC (i := 26) (v := ?_) rfl (by kernel_rfl) (fun _ _ _ h => h) rfl ?_ hS ?_
                      rotate_left
                      · (intro w' hSw; (try dsimp only at hSw); go_simp; try with_reducible rfl)
                      try simp only [Act.put, List.getElem_toArray, List.getElem_cons_succ, List.getElem_cons_zero, List.setIfInBounds_toArray, List.set_cons_zero, List.set_cons_succ]
                      refine AnyG.takeNC (i := 27) rfl (by kernel_rfl) (fun _ _ _ h => h) (by first | (simp [Region.wanted, yielded]; done) | simp [Region.wanted, yielded, undef]) hS ?_
                      try simp only [Act.put, List.getElem_toArray, List.getElem_cons_succ, List.getElem_cons_zero, List.setIfInBounds_toArray, List.set_cons_zero, List.set_cons_succ]
                      refine AnyG.takeNC (i := 28) rfl (by kernel_rfl) (fun _ _ _ h => h) (by first | (simp [Region.wanted, yielded]; done) | simp [Region.wanted, yielded, undef]) hS ?_
                      try simp only [Act.put, List.getElem_toArray, List.getElem_cons_succ, List.getElem_cons_zero, List.setIfInBounds_toArray, List.set_cons_zero, List.set_cons_succ]
                      refine AnyG.takeNC (i := 29) rfl (by kernel_rfl) (fun _ _ _ h => h) (by first | (simp [Region.wanted, yielded]; done) | simp [Region.wanted, yielded, undef]) hS ?_
                      try simp only [Act.put, List.getElem_toArray, List.getElem_cons_succ, List.getElem_cons_zero, List.setIfInBounds_toArray, List.set_cons_zero, List.set_cons_succ]
                      refine AnyG.takeNC (i := 30) rfl (by kernel_rfl) (fun _ _ _ h => h) (by first | (simp [Region.wanted, yielded]; done) | simp [Region.wanted, yielded, undef]) hS ?_
                      try simp only [Act.put, List.getElem_toArray, List.getElem_cons_succ, List.getElem_cons_zero, List.setIfInBounds_toArray, List.set_cons_zero, List.set_cons_succ]
                      refine AnyG.takeNC (i := 31) rfl (by kernel_rfl) (fun _ _ _ h => h) (by first | (simp [Region.wanted, yielded]; done) | simp [Region.wanted, yielded, undef]) hS ?_
                      try simp only [Act.put, List.getElem_toArray, List.getElem_cons_succ, List.getElem_cons_zero, List.setIfInBounds_toArray, List.set_cons_zero, List.set_cons_succ]
                      refine AnyG.takeNC (i := 32) rfl (by kernel_rfl) (fun _ _ _ h => h) (by first | (simp [Region.wanted, yielded]; done) | simp [Region.wanted, yielded, undef]) hS ?_
                      try simp only [Act.put, List.getElem_toArray, List.getElem_cons_succ, List.getElem_cons_zero, List.setIfInBounds_toArray, List.set_cons_zero, List.set_cons_succ]
                      refine AnyG.takeNC (i := 33) rfl (by kernel_rfl) (fun _ _ _ h => h) (by first | (simp [Region.wanted, yielded]; done) | simp [Region.wanted, yielded, undef]) hS ?_
                      try simp only [Act.put, List.getElem_toArray, List.getElem_cons_succ, List.getElem_cons_zero, List.setIfInBounds_toArray, List.set_cons_zero, List.set_cons_succ]
                      refine AnyG.takeNC (i := 34) rfl (by kernel_rfl) (fun _ _ _ h => h) (by first | (simp [Region.wanted, yielded]; done) | simp [Region.wanted, yielded, undef]) hS ?_
                      try simp only [Act.put, List.getElem_toArray, List.getElem_cons_succ, List.getElem_cons_zero, List.setIfInBounds_toArray, List.set_cons_zero, List.set_cons_succ]
                      refine AnyG.takeC (i := 35) (v := ?_) rfl (by kernel_rfl) (fun _ _ _ h => h) rfl ?_ hS ?_
                      rotate_left
                      · (intro w' hSw; (try dsimp only at hSw); go_simp; try with_reducible rfl)
                      try simp only [Act.put, List.getElem_toArray, List.getElem_cons_succ, List.getElem_cons_zero, List.setIfInBounds_toArray, List.set_cons_zero, List.set_cons_succ]
                      refine AnyG.done (by kernel_rfl) ?_ _
                      go_simp
                      go_wp2_with fail
                      go_meet
                      exact ⟨by rw [hokd]; simp, (Below.refl _ _).drew⟩
                  · obtain ⟨b5, hb5⟩ : ∃ q, (s != sh) = q := ⟨_, rfl⟩
                    have hokd : okd st ⟨3, sh, ld, c0, c1⟩ z (j : Int) = !b5 := by rw [okd_go (by omega) (by omega) (by simp) (by simp), hs]; exact congrArg _ hb5
                    refine AnyG.startC (by kernel_rfl) ?_
                    refine AnyG.takeP (i := 0) (v := ?_) rfl (by kernel_rfl) (fun _ _ _ h => h) rfl ?_ ?_
                    rotate_left
                    · (intro w'; go_simp; try with_reducible rfl)
                    try simp only [Act.put, List.getElem_toArray, List.getElem_cons_succ, List.getElem_cons_zero, List.setIfInBounds_toArray, List.set_cons_zero, List.set_cons_succ]
                    refine AnyG.takeP (i := 1) (v := ?_) rfl (by kernel_rfl) (fun _ _ _ h => h) rfl ?_ ?_
                    rotate_left
                    · (intro w'; go_simp; try with_reducible rfl)
                    try simp only [Act.put, List.getElem_toArray, List.getElem_cons_succ, List.getElem_cons_zero, List.setIfInBounds_toArray, List.set_cons_zero, List.set_cons_succ]
                    refine AnyG.takeP (i := 2) (v := ?_) rfl (by kernel_rfl) (fun _ _ _ h => h) rfl ?_ ?_
                    rotate_left
                    · (intro w'; go_simp; try with_reducible rfl)
                    try simp only [Act.put, List.getElem_toArray, List.getElem_cons_succ, List.getElem_cons_zero, List.setIfInBounds_toArray, List.set_cons_zero, List.set_cons_succ]
                    refine AnyG.enter (fun w' : World => Below wi.heap.size wi w') (fun i => true) ?_
                    have hS : (fun w' : World => Below wi.heap.size wi w') (World.drew _) := (Below.refl _ _).drew
                    refine AnyG.takeGC (i := 3) (v := ?_) rfl (by kernel_rfl) (fun _ _ _ h => h) (by first | (simp [Region.wanted, yielded]; done) | simp [Region.wanted, yielded, undef]) ?_ hS ?_
                    rotate_left
                    · (intro w' hSw; (try dsimp only at hSw); go_simp; try with_reducible rfl)
                    try simp only [Act.put, List.getElem_toArray, List.getElem_cons_succ, List.getElem_cons_zero, List.setIfInBounds_toArray, List.set_cons_zero, List.set_cons_succ]
                    refine AnyG.takeGC (i := 4) (v := ?_) rfl (by kernel_rfl) (fun _ _ _ h => h) (by first | (simp [Region.wanted, yielded]; done) | simp [Region.wanted, yielded, undef]) ?_ hS ?_
                    rotate_left
                    · (intro w' hSw; (try dsimp only at hSw); go_simp; try with_reducible rfl)
                    try simp only [Act.put, List.getElem_toArray, List.getElem_cons_succ, List.getElem_cons_zero, List.setIfInBounds_toArray, List.set_cons_zero, List.set_cons_succ]
                    refine AnyG.takeC (i := 5) (v := ?_) rfl (by kernel_rfl) (fun _ _ _ h => h) rfl ?_ hS ?_
                    rotate_left
                    · (intro w' hSw; (try dsimp only at hSw); go_simp; try with_reducible rfl)
                    try simp only [Act.put, List.getElem_toArray, List.getElem_cons_succ, List.getElem_cons_zero, List.setIfInBounds_toArray, List.set_cons_zero, List.set_cons_succ]
                    refine AnyG.takeC (i := 6) (v := ?_) rfl (by kernel_rfl) (fun _ _ _ h => h) rfl ?_ hS ?_
                    rotate_left
                    · (intro w' hSw; (try dsimp only at hSw); go_simp; try with_reducible rfl)
                    try simp only [Act.put, List.getElem_toArray, List.getElem_cons_succ, List.getElem_cons_zero, List.setIfInBounds_toArray, List.set_cons_zero, List.set_cons_succ]
                    refine AnyG.takeGC (i := 7) (v := ?_) rfl (by kernel_rfl) (fun _ _ _ h => h) (by first | (simp [Region.wanted, yielded]; done) | simp [Region.wanted, yielded, undef]) ?_ hS ?_
                    rotate_left
                    · (intro w' hSw; (try dsimp only at hSw); go_simp; try with_reducible rfl)
                    try simp only [Act.put, List.getElem_toArray, List.getElem_cons_succ, List.getElem_cons_zero, List.setIfInBounds_toArray, List.set_cons_zero, List.set_cons_succ]
                    refine AnyG.takeGC (i := 8) (v := ?_) rfl (by kernel_rfl) (fun _ _ _ h => h) (by first | (simp [Region.wanted, yielded]; done) | simp [Region.wanted, yielded, undef]) ?_ hS ?_
                    rotate_left
                    · (intro w' hSw; (try dsimp only at hSw); obtain ⟨e0, e1, e2, e3, e4, ef, ez⟩ := (kEi.call hSw).five; obtain ⟨l0, l1, l2, l3, lf, lz⟩ := (kLi.call hSw).four; go_simp; try with_reducible rfl)
                    try simp only [Act.put, List.getElem_toArray, List.getElem_cons_succ, List.getElem_cons_zero, List.setIfInBounds_toArray, List.set_cons_zero, List.set_cons_succ]
                    refine AnyG.takeGC (i := 9) (v := ?_) rfl (by kernel_rfl) (fun _ _ _ h => h) (by first | (simp [Region.wanted, yielded]; done) | simp [Region.wanted, yielded, undef]) ?_ hS ?_
                    rotate_left
                    · (intro w' hSw; (try dsimp only at hSw); go_simp; try with_reducible rfl)
                    try simp only [Act.put, List.getElem_toArray, List.getElem_cons_succ, List.getElem_cons_zero, List.setIfInBounds_toArray, List.set_cons_zero, List.set_cons_succ]
                    refine AnyG.takeGC (i := 10) (v := ?_) rfl (by kernel_rfl) (fun _ _ _ h => h) (by first | (simp [Region.wanted, yielded]; done) | simp [Region.wanted, yielded, undef]) ?_ hS ?_
                    rotate_left
                    · (intro w' hSw; (try dsimp only at hSw); go_simp; try with_reducible rfl)
                    try simp only [Act.put, List.getElem_toArray, List.getElem_cons_succ, List.getElem_cons_zero, List.setIfInBounds_toArray, List.set_cons_zero, List.set_cons_succ]
                    refine AnyG.takeNC (i := 11) rfl (by kernel_rfl) (fun _ _ _ h => h) (by first | (simp [Region.wanted, yielded]; done) | simp [Region.wanted, yielded, undef]) hS ?_
                    try simp only [Act.put, List.getElem_toArray, List.getElem_cons_succ, List.getElem_cons_zero, List.setIfInBounds_toArray, List.set_cons_zero, List.set_cons_succ]
                    refine AnyG.takeNC (i := 12) rfl (by kernel_rfl) (fun _ _ _ h => h) (by first | (simp [Region.wanted, yielded]; done) | simp [Region.wanted, yielded, undef]) hS ?_
                    try simp only [Act.put, List.getElem_toArray, List.getElem_cons_succ, List.getElem_cons_zero, List.setIfInBounds_toArray, List.set_cons_zero, List.set_cons_succ]
                    refine AnyG.takeGC (i := 13) (v := ?_) rfl (by kernel_rfl) (fun _ _ _ h => h) (by first | (simp [Region.wanted, yielded]; done) | simp [Region.wanted, yielded, undef]) ?_ hS ?_
                    rotate_left
                    · (intro w' hSw; (try dsimp only at hSw); go_simp; try with_reducible rfl)
                    try simp only [Act.put, List.getElem_toArray, List.getElem_cons_succ, List.getElem_cons_zero, List.setIfInBounds_toArray, List.set_cons_zero, List.set_cons_succ]
                    refine AnyG.takeC (i := 14) (v := ?_) rfl (by kernel_rfl) (fun _ _ _ h => h) rfl ?_ hS ?_
                    rotate_left
                    · (intro w' hSw; (try dsimp only at hSw); go_simp; try with_reducible rfl)
                    try simp only [Act.put, List.getElem_toArray, List.getElem_cons_succ, List.getElem_cons_zero, List.setIfInBounds_toArray, List.set_cons_zero, List.set_cons_succ]
                    refine AnyG.takeC (i := 15) (v := ?_) rfl (by kernel_rfl) (fun _ _ _ h => h) rfl ?_ hS ?_
                    rotate_left
                    · (intro w' hSw; (try dsimp only at hSw); go_simp; try with_reducible rfl)
                    try simp only [Act.put, List.getElem_toArray, List.getElem_cons_succ, List.getElem_cons_zero, List.setIfInBounds_toArray, List.set_cons_zero, List.set_cons_succ]
                    refine AnyG.takeGC (i := 16) (v := ?_) rfl (by kernel_rfl) (fun _ _ _ h => h) (by first | (simp [Region.wanted, yielded]; done) | simp [Region.wanted, yielded, undef]) ?_ hS ?_
                    rotate_left
                    · (intro w' hSw; (try dsimp only at hSw); go_simp; try with_reducible rfl)
                    try simp only [Act.put, List.getElem_toArray, List.getElem_cons_succ, List.getElem_cons_zero, List.setIfInBounds_toArray, List.set_cons_zero, List.set_cons_succ]
                    refine AnyG.takeGC (i := 17) (v := ?_) rfl (by kernel_rfl) (fun _ _ _ h => h) (by first | (simp [Region.wanted, yielded]; done) | simp [Region.wanted, yielded, undef]) ?_ hS ?_
                    rotate_left
                    · (intro w' hSw; (try dsimp only at hSw); obtain ⟨e0, e1, e2, e3, e4, ef, ez⟩ := (kEi.call hSw).five; obtain ⟨l0, l1, l2, l3, lf, lz⟩ := (kLi.call hSw).four; go_simp; try with_reducible rfl)
                    try simp only [Act.put, List.getElem_toArray, List.getElem_cons_succ, List.getElem_cons_zero, List.setIfInBounds_toArray, List.set_cons_zero, List.set_cons_succ]
                    refine AnyG.takeGC (i := 18) (v := ?_) rfl (by kernel_rfl) (fun _ _ _ h => h) (by first | (simp [Region.wanted, yielded]; done) | simp [Region.wanted, yielded, undef]) ?_ hS ?_
                    rotate_left
                    · (intro w' hSw; (try dsimp only at hSw); go_simp; try with_reducible rfl)
                    try simp only [Act.put, List.getElem_toArray, List.getElem_cons_succ, List.getElem_cons_zero, List.setIfInBounds_toArray, List.set_cons_zero, List.set_cons_succ]
                    refine AnyG.takeGC (i := 19) (v := ?_) rfl (by kernel_rfl) (fun _ _ _ h => h) (by first | (simp [Region.wanted, yielded]; done) | simp [Region.wanted, yielded, undef]) ?_ hS ?_
                    rotate_left
                    · (intro w' hSw; (try dsimp only at hSw); go_simp; try with_reducible rfl)
                    try simp only [Act.put, List.getElem_toArray, List.getElem_cons_succ, List.getElem_cons_zero, List.setIfInBounds_toArray, List.set_cons_zero, List.set_cons_succ]
                    refine AnyG.takeNC (i := 20) rfl (by kernel_rfl) (fun _ _ _ h => h) (by first | (simp [Region.wanted, yielded]; done) | simp [Region.wanted, yielded, undef]) hS ?_
                    try simp only [Act.put, List.getElem_toArray, List.getElem_cons_succ, List.getElem_cons_zero, List.setIfInBounds_toArray, List.set_cons_zero, List.set_cons_succ]
                    refine AnyG.takeNC (i := 21) rfl (by kernel_rfl) (fun _ _ _ h => h) (by first | (simp [Region.wanted, yielded]; done) | simp [Region.wanted, yielded, undef]) hS ?_
                    try simp only [Act.put, List.getElem_toArray, List.getElem_cons_succ, List.getElem_cons_zero, List.setIfInBounds_toArray, List.set_cons_zero, List.set_cons_succ]
                    refine AnyG.takeNC (i := 22) rfl (by kernel_rfl) (fun _ _ _ h => h) (by first | (simp [Region.wanted, yielded]; done) | simp [Region.wanted, yielded, undef]) hS ?_
                    try simp only [Act.put, List.getElem_toArray, List.getElem_cons_succ, List.getElem_cons_zero, List.setIfInBounds_toArray, List.set_cons_zero, List.set_cons_succ]
                    refine AnyG.takeNC (i := 23) rfl (by kernel_rfl) (fun _ _ _ h => h) (by first | (simp [Region.wanted, yielded]; done) | simp [Region.wanted, yielded, undef]) hS ?_
                    try simp only [Act.put, List.getElem_toArray, List.getElem_cons_succ, List.getElem_cons_zero, List.setIfInBounds_toArray, List.set_cons_zero, List.set_cons_succ]
                    refine AnyG.takeGC (i := 24) (v := ?_) rfl (by kernel_rfl) (fun _ _ _ h => h) (by first | (simp [Region.wanted, yielded]; done) | simp [Region.wanted, yielded, undef]) ?_ hS ?_
                    rotate_left
                    · (intro w' hSw; (try dsimp only at hSw); go_simp; try with_reducible rfl)
                    try simp only [Act.put, List.getElem_toArray, List.getElem_cons_succ, List.getElem_cons_zero, List.setIfInBounds_toArray, List.set_cons_zero, List.set_cons_succ]
                    refine AnyG.takeC (i := 25) (v := ?_) rfl (by kernel_rfl) (fun _ _ _ h => h) rfl ?_ hS ?_
                    rotate_left
                    · (intro w' hSw; (try dsimp only at hSw); go_simp; try with_reducible rfl)
                    try simp only [Act.put, List.getElem_toArray, List.getElem_cons_succ, List.getElem_cons_zero, List.setIfInBounds_toArray, List.set_cons_zero, List.set_cons_succ]
                    refine AnyG.takeC (i := 26) (v := ?_) rfl (by kernel_rfl) (fun _ _ _ h => h) rfl ?_ hS ?_
                    rotate_left
                    · (intro w' hSw; (try dsimp only at hSw); go_simp; try with_reducible rfl)
                    try simp only [Act.put, List.getElem_toArray, List.getElem_cons_succ, List.getElem_cons_zero, List.setIfInBounds_toArray, List.set_cons_zero, List.set_cons_succ]
                    refine AnyG.takeGC (i := 27) (v := ?_) rfl (by kernel_rfl) (fun _ _ _ h => h) (by first | (simp [Region.wanted, yielded]; done) | simp [Region.wanted, yielded, undef]) ?_ hS ?_
                    rotate_left
                    · (intro w' hSw; (try dsimp only at hSw); go_simp; try with_reducible rfl)
                    try simp only [Act.put, List.getElem_toArray, List.getElem_cons_succ, List.getElem_cons_zero, List.setIfInBounds_toArray, List.set_cons_zero, List.set_cons_succ]
                    refine AnyG.takeGC (i := 28) (v := ?_) rfl (by kernel_rfl) (fun _ _ _ h => h) (by first | (simp [Region.wanted, yielded]; done) | simp [Region.wanted, yielded, undef]) ?_ hS ?_
                    rotate_left
                    · (intro w' hSw; (try dsimp only at hSw); obtain ⟨e0, e1, e2, e3, e4, ef, ez⟩ := (kEi.call hSw).five; obtain ⟨l0, l1, l2, l3, lf, lz⟩ := (kLi.call hSw).four; go_simp; try with_reducible rfl)
                    try simp only [Act.put, List.getElem_toArray, List.getElem_cons_succ, List.getElem_cons_zero, List.setIfInBounds_toArray, List.set_cons_zero, List.set_cons_succ]
                    refine AnyG.takeGC (i := 29) (v := ?_) rfl (by kernel_rfl) (fun _ _ _ h => h) (by first | (simp [Region.wanted, yielded]; done) | simp [Region.wanted, yielded, undef]) ?_ hS ?_
                    rotate_left
                    · (intro w' hSw; (try dsimp only at hSw); go_simp; try with_reducible rfl)
                    try simp only [Act.put, List.getElem_toArray, List.getElem_cons_succ, List.getElem_cons_zero, List.setIfInBounds_toArray, List.set_cons_zero, List.set_cons_succ]
                    refine AnyG.takeGC (i := 30) (v := ?_) rfl (by kernel_rfl) (fun _ _ _ h => h) (by first | (simp [Region.wanted, yielded]; done) | simp [Region.wanted, yielded, undef]) ?_ hS ?_
                    rotate_left
                    · (intro w' hSw; (try dsimp only at hSw); go_simp; try with_reducible rfl)
                    try simp only [Act.put, List.getElem_toArray, List.getElem_cons_succ, List.getElem_cons_zero, List.setIfInBounds_toArray, List.set_cons_zero, List.set_cons_succ]
                    refine AnyG.takeGC (i := 32) (v := ?_) rfl (by kernel_rfl) (fun _ _ _ h => h) (by first | (simp [Region.wanted, yielded]; done) | simp [Region.wanted, yielded, undef]) ?_ hS ?_
                    rotate_left
                    · (intro w' hSw; (try dsimp only at hSw); go_simp; try with_reducible rfl)
                    try simp only [Act.put, List.getElem_toArray, List.getElem_cons_succ, List.getElem_cons_zero, List.setIfInBounds_toArray, List.set_cons_zero, List.set_cons_succ]
                    refine AnyG.takeGC (i := 33) (v := ?_) rfl (by kernel_rfl) (fun _ _ _ h => h) (by first | (simp [Region.wanted, yielded]; done) | simp [Region.wanted, yielded, undef]) ?_ hS ?_
                    rotate_left
                    · (intro w' hSw; (try dsimp only at hSw); obtain ⟨e0, e1, e2, e3, e4, ef, ez⟩ := (kEi.call hSw).five; obtain ⟨l0, l1, l2, l3, lf, lz⟩ := (kLi.call hSw).four; go_simp; try with_reducible rfl)
                    try simp only [Act.put, List.getElem_toArray, List.getElem_cons_succ, List.getElem_cons_zero, List.setIfInBounds_toArray, List.set_cons_zero, List.set_cons_succ]
                    refine AnyG.oneC (i := 31) (by kernel_rfl) rfl (by first | (simp [Region.wanted, yielded]; done) | simp [Region.wanted, yielded, undef]) ?_
                    go_simp
                    refine (shows_any st (j : Int) z _ (by omega) (by omega) (by omega) (by omega) (by omega) (by omega)).mono ?_
                    rintro er y31 ⟨rfl, rfl⟩
                    rw [hs]
                    refine Onward.on hS (fun hS2 => ?_)
                    clear hS
                    have hS := hS2
                    clear hS2
                    try simp only [Act.put, List.getElem_toArray, List.getElem_cons_succ, List.getElem_cons_zero, List.setIfInBounds_toArray, List.set_cons_zero, List.set_cons_succ]
                    refine AnyG.takeGC (i := 34) (v := ?_) rfl (by kernel_rfl) (fun _ _ _ h => h) (by first | (simp [Region.wanted, yielded]; done) | simp [Region.wanted, yielded, undef]) ?_ hS ?_
                    rotate_left
                    · (intro w' hSw; (try dsimp only at hSw); go_simp; try with_reducible rfl)
                    try simp only [Act.put, List.getElem_toArray, List.getElem_cons_succ, List.getElem_cons_zero, List.setIfInBounds_toArray, List.set_cons_zero, List.set_cons_succ]
                    refine AnyG.takeC (i := 35) (v := ?_) rfl (by kernel_rfl) (fun _ _ _ h => h) rfl ?_ hS ?_
                    rotate_left
                    · (intro w' hSw; (try dsimp only at hSw); go_simp; try with_reducible rfl)
                    try simp only [Act.put, List.getElem_toArray, List.getElem_cons_succ, List.getElem_cons_zero, List.setIfInBounds_toArray, List.set_cons_zero, List.set_cons_succ]
                    refine AnyG.done (by kernel_rfl) ?_ _
                    go_simp
                    go_wp2_with fail
                    go_meet
                    exact ⟨by rw [hokd]; simp, (Below.refl _ _).drew⟩
            case rest =>
              obtain ⟨w2, rfl⟩ : ∃ w2, w2 = wc := ⟨_, rfl⟩
              obtain ⟨rfl, hq14⟩ := hcut
              have I3 : TI b w1 row0 u3 n2 (L ++ (upTo (f0 + c0) m).flatMap (tG st z0 z1 es ⟨kd, sh, ld, c0, c1⟩ d zs ns) ++ (upTo 0 j).flatMap (tH st z0 z1 es ⟨kd, sh, ld, c0, c1⟩ d zs ns z)) w2 := ⟨I2.facts.bel hq14, grown_trans I2.gr (grown_below hq14), I2.ow⟩
              have kL2 := kLi.call hq14
              have kF2 := kFi.call hq14
              clear kEi kLi kFi hq14 I2
              obtain ⟨ok, hok1⟩ : ∃ x, okd st ⟨kd, sh, ld, c0, c1⟩ z (j : Int) = x := ⟨_, rfl⟩
              rw [hok1]
              have HOK := Lib.hid hok1
              clear hok1
              have hup : (upTo 0 (j + 1)).flatMap (tH st z0 z1 es ⟨kd, sh, ld, c0, c1⟩ d zs ns z) = (upTo 0 j).flatMap (tH st z0 z1 es ⟨kd, sh, ld, c0, c1⟩ d zs ns z) ++ (if ok = true then exs st z0 z1 30 es d (zs ++ [z], ns ++ [(j : Int)]) else []) := by
                rw [upTo_succ, List.flatMap_append, List.flatMap_singleton, Int.zero_add, ← HOK.out]
                rfl
              have HUP := Lib.hid hup
              clear hup
              cases ok
              · go_wp2_with fail
                go_roundw
                case rel => exact ⟨j + 1, n2, by go_num, by omega, by have h := HUP.out; simp only [Bool.false_eq_true, if_false, List.append_nil] at h; rw [h]; exact I3⟩
                case measure => simp [intOf]; omega
              · have hzb1 := okd_bd HOK.out
                have hbnd : n2 + 300 ^ d ≤ 1000000000000 := by
                  have hl := I3.facts.len
                  have hA := flat_len (tG st z0 z1 es ⟨kd, sh, ld, c0, c1⟩ d zs ns) (31 * 300 ^ d) (upTo (f0 + c0) m) fun x _ => tG_len hcw hzw d zs ns x
                  have hB := flat_len (tH st z0 z1 es ⟨kd, sh, ld, c0, c1⟩ d zs ns z) (300 ^ d) (upTo 0 j) fun x _ => tH_len hcw hzw d zs ns z x
                  rw [List.length_append, List.length_append, HLN.out] at hl
                  rw [upTo_len] at hA hB
                  have hm5 : m ≤ 5 := by omega
                  have h1 := Nat.mul_le_mul_right (31 * 300 ^ d) hm5
                  have h2 := Nat.mul_le_mul_right (300 ^ d) (show j ≤ 30 by omega)
                  rw [Nat.pow_succ] at hn
                  omega
                have HBND := Lib.hid hbnd
                clear hbnd
                have hF2 := HF1.out w2 I3.gr
                obtain ⟨ZA2, zc2, NA2, nc2, hre, hr1, hr2⟩ := hF2
                simp only [List.cons.injEq, Value.slice.injEq, and_true] at hre
                obtain ⟨⟨rfl, -, rfl⟩, ⟨rfl, -, rfl⟩⟩ := hre
                have hZw := own_sl2 hr1 rfl
                have hNw := own_sl2 hr2 rfl
                clear hr1 hr2
                have hE2 : EvsAt w2 b (some ea) es := Sl.below hE1 ((Below.refl b w1).grown I3.gr hbw1 (fun k hk => HRB.out k hk))
                have hbw2 : b ≤ w2.heap.size := Nat.le_trans hbw1 I3.gr.size
                go_upto_region 15 with fail
                obtain ⟨i3, hi3, hz3, hs3, iy3⟩ := info_parts info3'
                refine AnyG.startC (by kernel_rfl) ?_
                refine AnyG.takeP (i := 1) (v := ?_) rfl (by kernel_rfl) (fun _ _ _ h => h) rfl ?_ ?_
                rotate_left
                · (intro w'; go_simp; try with_reducible rfl)
                try simp only [Act.put, List.getElem_toArray, List.getElem_cons_succ, List.getElem_cons_zero, List.setIfInBounds_toArray, List.set_cons_zero, List.set_cons_succ]
                refine AnyG.takeP (i := 4) (v := ?_) rfl (by kernel_rfl) (fun _ _ _ h => h) rfl ?_ ?_
                rotate_left
                · (intro w'; go_simp; try with_reducible rfl)
                try simp only [Act.put, List.getElem_toArray, List.getElem_cons_succ, List.getElem_cons_zero, List.setIfInBounds_toArray, List.set_cons_zero, List.set_cons_succ]
                refine AnyG.takeP (i := 7) (v := ?_) rfl (by kernel_rfl) (fun _ _ _ h => h) rfl ?_ ?_
                rotate_left
                · (intro w'; go_simp; try with_reducible rfl)
                try simp only [Act.put, List.getElem_toArray, List.getElem_cons_succ, List.getElem_cons_zero, List.setIfInBounds_toArray, List.set_cons_zero, List.set_cons_succ]
                refine AnyG.takeP (i := 10) (v := ?_) rfl (by kernel_rfl) (fun _ _ _ h => h) rfl ?_ ?_
                rotate_left
                · (intro w'; go_simp; try with_reducible rfl)
                try simp only [Act.put, List.getElem_toArray, List.getElem_cons_succ, List.getElem_cons_zero, List.setIfInBounds_toArray, List.set_cons_zero, List.set_cons_succ]
                refine AnyG.takeP (i := 14) (v := ?_) rfl (by kernel_rfl) (fun _ _ _ h => h) rfl ?_ ?_
                rotate_left
                · (intro w'; go_simp; try with_reducible rfl)
                try simp only [Act.put, List.getElem_toArray, List.getElem_cons_succ, List.getElem_cons_zero, List.setIfInBounds_toArray, List.set_cons_zero, List.set_cons_succ]
                refine AnyG.takeP (i := 15) (v := ?_) rfl (by kernel_rfl) (fun _ _ _ h => h) rfl ?_ ?_
                rotate_left
                · (intro w'; go_simp; try with_reducible rfl)
                try simp only [Act.put, List.getElem_toArray, List.getElem_cons_succ, List.getElem_cons_zero, List.setIfInBounds_toArray, List.set_cons_zero, List.set_cons_succ]
                refine AnyG.enter (fun w' : World => Below w2.heap.size w2 w') (fun i => i != 16 && i != 17) ?_
                have hS : (fun w' : World => Below w2.heap.size w2 w') (World.drew _) := (Below.refl _ _).drew
                refine AnyG.takeC (i := 0) (v := ?_) rfl (by kernel_rfl) (fun _ _ _ h => h) rfl ?_ hS ?_
                rotate_left
                · (intro w' hSw; (try dsimp only at hSw); obtain ⟨l0, l1, l2, l3, lf, lz⟩ := (kL2.call hSw).four; obtain ⟨a0, a1, af, az⟩ := (kF2.call hSw).two; go_simp; try with_reducible rfl)
                try simp only [Act.put, List.getElem_toArray, List.getElem_cons_succ, List.getElem_cons_zero, List.setIfInBounds_toArray, List.set_cons_zero, List.set_cons_succ]
                refine AnyG.takeC (i := 2) (v := ?_) rfl (by kernel_rfl) (fun _ _ _ h => h) rfl ?_ hS ?_
                rotate_left
                · (intro w' hSw; (try dsimp only at hSw); obtain ⟨l0, l1, l2, l3, lf, lz⟩ := (kL2.call hSw).four; obtain ⟨a0, a1, af, az⟩ := (kF2.call hSw).two; go_simp; try with_reducible rfl)
                try simp only [Act.put, List.getElem_toArray, List.getElem_cons_succ, List.getElem_cons_zero, List.setIfInBounds_toArray, List.set_cons_zero, List.set_cons_succ]
                refine AnyG.takeC (i := 8) (v := ?_) rfl (by kernel_rfl) (fun _ _ _ h => h) rfl ?_ hS ?_
                rotate_left
                · (intro w' hSw; (try dsimp only at hSw); obtain ⟨l0, l1, l2, l3, lf, lz⟩ := (kL2.call hSw).four; obtain ⟨a0, a1, af, az⟩ := (kF2.call hSw).two; go_simp; try with_reducible rfl)
                try simp only [Act.put, List.getElem_toArray, List.getElem_cons_succ, List.getElem_cons_zero, List.setIfInBounds_toArray, List.set_cons_zero, List.set_cons_succ]
                replace hS : Below w2.heap.size w2 w2.drew := hS
                obtain ⟨y0, hy0⟩ : ∃ y, w2.drew = y := ⟨_, rfl⟩
                rw [hy0] at hS ⊢
                clear hy0
                refine AnyG.all (rs := [3, 5, 11]) (by kernel_rfl) (by simp) ?_
                intro ii hii
                simp only [List.mem_cons, List.not_mem_nil, or_false] at hii
                rcases hii with rfl | rfl | rfl
                · refine ⟨_, rfl, rfl, ?_⟩
                  go_simp
                  refine (ints_any ZA i zc zs _ (by omega) HZ.out.1 ((hZw.below hS).more hS.size)).mono ?_
                  rintro er y3 ⟨⟨A3, c3, rfl, o3⟩, hq3⟩
                  replace o3 := ownsRow_up (b' := w2.heap.size) o3 (fun q e => Nat.le_trans hS.size (o3.lt q e).1)
                  have hSn := hS.trans (hq3.mono hS.size)
                  clear hS
                  refine Onward.on hSn (fun hS => ?_)
                  clear hSn
                  try simp only [Act.put, List.getElem_toArray, List.getElem_cons_succ, List.getElem_cons_zero, List.setIfInBounds_toArray, List.set_cons_zero, List.set_cons_succ]
                  clear hq3
                  refine AnyG.all (rs := [5, 11]) (by kernel_rfl) (by simp) ?_
                  intro ii hii
                  simp only [List.mem_cons, List.not_mem_nil, or_false] at hii
                  rcases hii with rfl | rfl
                  · refine ⟨_, rfl, rfl, ?_⟩
                    go_simp
                    have k5 := Bx.new y3 3 #[.int .i64 z]
                    have hp5 : w2.heap.size ≤ y3.heap.size := hS.size
                    have nk5_o3 : some y3.heap.size ≠ (Value.slice A3 i c3).ownBlock := fun h => by have := (o3.lt _ h.symm).2; omega
                    replace o3 := o3.alloc (.cells #[.int .i64 z] 3)
                    have hSn := hS.alloc hS.size (.cells #[.int .i64 z] 3)
                    clear hS
                    refine Onward.on hSn (fun hS => ?_)
                    clear hSn
                    try simp only [Act.put, List.getElem_toArray, List.getElem_cons_succ, List.getElem_cons_zero, List.setIfInBounds_toArray, List.set_cons_zero, List.set_cons_succ]
                    obtain ⟨y5, hy5⟩ : ∃ y, y3.alloc (.cells #[.int .i64 z] 3) = y := ⟨_, rfl⟩
                    rw [hy5] at o3 k5 hS ⊢
                    clear hy5
                    obtain ⟨p5, ep5⟩ : ∃ p, y3.heap.size = p := ⟨_, rfl⟩
                    rw [ep5] at k5 hp5 nk5_o3 ⊢
                    clear ep5
                    refine AnyG.all (rs := [6, 11]) (by kernel_rfl) (by simp) ?_
                    intro ii hii
                    simp only [List.mem_cons, List.not_mem_nil, or_false] at hii
                    rcases hii with rfl | rfl
                    · refine ⟨_, rfl, rfl, ?_⟩
                      refine wp_app2 (.tmp 108) (.tmp 110) 29 rfl w2.heap.size 3 i3 _ 1 8 Try.underlying29 hi3 hz3 hs3 iy3 rfl (by decide) (.slice A3 i c3) i (ints zs).flatten (by simp [Act.eval]) o3 ⟨p5, 0, none⟩ 1 1 [.int .i64 z] (by simp [Act.eval]) rfl (bx_news k5) (by simp [Value.oneCell']) (by unfold maxLen; omega) (by omega) hS.size ?_
                      intro v6 y6 o6 g6 x6 r6
                      obtain ⟨A6, c6, rfl⟩ := own_shape o6
                      clear x6
                      rw [show (ints zs).flatten ++ [Value.int .i64 z] = (ints (zs ++ [z])).flatten by simp [ints]] at o6
                      have hSn := hS.grown g6 hS.size (fun q e => (o3.lt q e).1)
                      clear hS
                      refine Onward.on hSn (fun hS => ?_)
                      clear hSn
                      try simp only [Act.put, List.getElem_toArray, List.getElem_cons_succ, List.getElem_cons_zero, List.setIfInBounds_toArray, List.set_cons_zero, List.set_cons_succ]
                      clear o3 k5 r6
                      refine AnyG.all (rs := [9, 11]) (by kernel_rfl) (by simp) ?_
                      intro ii hii
                      simp only [List.mem_cons, List.not_mem_nil, or_false] at hii
                      rcases hii with rfl | rfl
                      · refine ⟨_, rfl, rfl, ?_⟩
                        go_simp
                        refine (ints_any NA i nc ns _ (by omega) HZ.out.2 ((hNw.below hS).more hS.size)).mono ?_
                        rintro er y9 ⟨⟨A9, c9, rfl, o9⟩, hq9⟩
                        have n6_9 : (Value.slice A6 (i + 1) c6).ownBlock = none ∨ (Value.slice A6 (i + 1) c6).ownBlock ≠ (Value.slice A9 i c9).ownBlock := by
                          cases h6 : (Value.slice A6 (i + 1) c6).ownBlock with
                          | none => exact .inl rfl
                          | some q => exact .inr fun h => by have := (o6.lt q h6).2; have := (o9.lt q h.symm).1; omega
                        replace o9 := ownsRow_up (b' := w2.heap.size) o9 (fun q e => Nat.le_trans hS.size (o9.lt q e).1)
                        replace o6 := own_bel o6 hq9
                        have hSn := hS.trans (hq9.mono hS.size)
                        clear hS
                        refine Onward.on hSn (fun hS => ?_)
                        clear hSn
                        try simp only [Act.put, List.getElem_toArray, List.getElem_cons_succ, List.getElem_cons_zero, List.setIfInBounds_toArray, List.set_cons_zero, List.set_cons_succ]
                        clear hq9
                        refine AnyG.one (i := 11) (by kernel_rfl) rfl rfl ?_
                        go_simp
                        have k11 := Bx.new y9 3 #[.int .i64 (j : Int)]
                        have hp11 : w2.heap.size ≤ y9.heap.size := hS.size
                        have nk11_o6 : some y9.heap.size ≠ (Value.slice A6 (i + 1) c6).ownBlock := fun h => by have := (o6.lt _ h.symm).2; omega
                        replace o6 := o6.alloc (.cells #[.int .i64 (j : Int)] 3)
                        have nk11_o9 : some y9.heap.size ≠ (Value.slice A9 i c9).ownBlock := fun h => by have := (o9.lt _ h.symm).2; omega
                        replace o9 := o9.alloc (.cells #[.int .i64 (j : Int)] 3)
                        have hSn := hS.alloc hS.size (.cells #[.int .i64 (j : Int)] 3)
                        clear hS
                        refine Onward.on hSn (fun hS => ?_)
                        clear hSn
                        try simp only [Act.put, List.getElem_toArray, List.getElem_cons_succ, List.getElem_cons_zero, List.setIfInBounds_toArray, List.set_cons_zero, List.set_cons_succ]
                        obtain ⟨y11, hy11⟩ : ∃ y, y9.alloc (.cells #[.int .i64 (j : Int)] 3) = y := ⟨_, rfl⟩
                        rw [hy11] at o6 o9 k11 hS ⊢
                        clear hy11
                        obtain ⟨p11, ep11⟩ : ∃ p, y9.heap.size = p := ⟨_, rfl⟩
                        rw [ep11] at k11 hp11 nk11_o6 nk11_o9 ⊢
                        clear ep11
                        refine AnyG.one (i := 12) (by kernel_rfl) rfl rfl ?_
                        refine wp_app2 (.tmp 114) (.tmp 116) 29 rfl w2.heap.size 3 i3 _ 1 8 Try.underlying29 hi3 hz3 hs3 iy3 rfl (by decide) (.slice A9 i c9) i (ints ns).flatten (by simp [Act.eval]) o9 ⟨p11, 0, none⟩ 1 1 [.int .i64 (j : Int)] (by simp [Act.eval]) rfl (bx_news k11) (by simp [Value.oneCell']) (by unfold maxLen; omega) (by omega) hS.size ?_
                        intro v12 y12 o12 g12 x12 r12
                        obtain ⟨A12, c12, rfl⟩ := own_shape o12
                        clear x12
                        rw [show (ints ns).flatten ++ [Value.int .i64 (j : Int)] = (ints (ns ++ [(j : Int)])).flatten by simp [ints]] at o12
                        replace o6 := o6.kept g12 n6_9
                        have hSn := hS.grown g12 hS.size (fun q e => (o9.lt q e).1)
                        clear hS
                        refine Onward.on hSn (fun hS => ?_)
                        clear hSn
                        try simp only [Act.put, List.getElem_toArray, List.getElem_cons_succ, List.getElem_cons_zero, List.setIfInBounds_toArray, List.set_cons_zero, List.set_cons_succ]
                        clear o9 k11 r12
                        refine AnyG.one (i := 13) (by kernel_rfl) rfl rfl ?_
                        go_simp
                        refine Onward.on hS (fun hS2 => ?_)
                        clear hS2
                        try simp only [Act.put, List.getElem_toArray, List.getElem_cons_succ, List.getElem_cons_zero, List.setIfInBounds_toArray, List.set_cons_zero, List.set_cons_succ]
                        refine AnyG.one (i := 16) (by kernel_rfl) rfl rfl ?_
                        have hSy := hS
                        go_simp
                        have hEy : EvsAt y12 b (some ea) es := Sl.below hE2 (hS.mono hbw2)
                        have hLy := I3.facts.bel hS
                        have hc := ih (zs ++ [z]) (ns ++ [(j : Int)]) A6 c6 A12 c12 u3 n2 (L ++ (upTo (f0 + c0) m).flatMap (tG st z0 z1 es ⟨kd, sh, ld, c0, c1⟩ d zs ns) ++ (upTo 0 j).flatMap (tH st z0 z1 es ⟨kd, sh, ld, c0, c1⟩ d zs ns z)) y12 (by rw [List.length_append]; have := HZ.out.1; have := HHL.out; simp; omega) (by simp; have := HZ.out; omega) (Nat.le_trans hbw2 hS.size) hEy ⟨A6, c6, A12, c12, rfl, ?_, ?_⟩ (fun x hx => ?_) hLy HBND.out
                        rotate_left
                        · rw [show (zs ++ [z]).length = i + 1 by simp; exact HZ.out.1]; exact ownsRow_up o6 (fun q e => Nat.le_trans hbw2 (o6.lt q e).1)
                        · rw [show (ns ++ [(j : Int)]).length = i + 1 by simp; exact HZ.out.2]; exact ownsRow_up o12 (fun q e => Nat.le_trans hbw2 (o12.lt q e).1)
                        · rcases List.mem_append.1 hx with hx | hx
                          · exact hzb x hx
                          · obtain rfl := List.mem_singleton.1 hx; omega
                        rw [show (zs ++ [z]).length = i + 1 by simp; exact HZ.out.1, show (ns ++ [(j : Int)]).length = i + 1 by simp; exact HZ.out.2] at hc
                        refine hc.mono ?_
                        rintro er y16 ⟨v9, n9, rfl, hF9, hg9, ho9⟩
                        clear hc
                        refine Onward.last rfl ?_
                        try simp only [Act.put, List.getElem_toArray, List.getElem_cons_succ, List.getElem_cons_zero, List.setIfInBounds_toArray, List.set_cons_zero, List.set_cons_succ]
                        refine AnyG.one (i := 17) (by kernel_rfl) rfl rfl ?_
                        go_simp
                        refine Onward.last rfl ?_
                        try simp only [Act.put, List.getElem_toArray, List.getElem_cons_succ, List.getElem_cons_zero, List.setIfInBounds_toArray, List.set_cons_zero, List.set_cons_succ]
                        refine AnyG.done (by kernel_rfl) ?_ _
                        go_simp
                        go_wp2_with fail
                        go_roundw
                        case rel => exact ⟨j + 1, n9, by go_num, by omega, by have h := HUP.out; simp only [if_true] at h; rw [h, ← List.append_assoc]; exact ⟨hF9, grown_step (grown_trans I3.gr (grown_below hSy)) hg9 I3.ow, step_own I3.ow ho9 (Nat.le_trans I3.gr.size hSy.size)⟩⟩
                        case measure => simp [intOf]; omega
                      · refine ⟨_, rfl, rfl, ?_⟩
                        go_simp
                        have k11 := Bx.new y6 3 #[.int .i64 (j : Int)]
                        have hp11 : w2.heap.size ≤ y6.heap.size := hS.size
                        have nk11_o6 : some y6.heap.size ≠ (Value.slice A6 (i + 1) c6).ownBlock := fun h => by have := (o6.lt _ h.symm).2; omega
                        replace o6 := o6.alloc (.cells #[.int .i64 (j : Int)] 3)
                        have hSn := hS.alloc hS.size (.cells #[.int .i64 (j : Int)] 3)
                        clear hS
                        refine Onward.on hSn (fun hS => ?_)
                        clear hSn
                        try simp only [Act.put, List.getElem_toArray, List.getElem_cons_succ, List.getElem_cons_zero, List.setIfInBounds_toArray, List.set_cons_zero, List.set_cons_succ]
                        obtain ⟨y11, hy11⟩ : ∃ y, y6.alloc (.cells #[.int .i64 (j : Int)] 3) = y := ⟨_, rfl⟩
                        rw [hy11] at o6 k11 hS ⊢
                        clear hy11
                        obtain ⟨p11, ep11⟩ : ∃ p, y6.heap.size = p := ⟨_, rfl⟩
                        rw [ep11] at k11 hp11 nk11_o6 ⊢
                        clear ep11
                        refine AnyG.one (i := 9) (by kernel_rfl) rfl rfl ?_
                        go_simp
                        refine (ints_any NA i nc ns _ (by omega) HZ.out.2 ((hNw.below hS).more hS.size)).mono ?_
                        rintro er y9 ⟨⟨A9, c9, rfl, o9⟩, hq9⟩
                        have nk11_o9 : some p11 ≠ (Value.slice A9 i c9).ownBlock := fun h => by have := (o9.lt _ h.symm).1; have := k11.lt; omega
                        have n6_9 : (Value.slice A6 (i + 1) c6).ownBlock = none ∨ (Value.slice A6 (i + 1) c6).ownBlock ≠ (Value.slice A9 i c9).ownBlock := by
                          cases h6 : (Value.slice A6 (i + 1) c6).ownBlock with
                          | none => exact .inl rfl
                          | some q => exact .inr fun h => by have := (o6.lt q h6).2; have := (o9.lt q h.symm).1; omega
                        replace o9 := ownsRow_up (b' := w2.heap.size) o9 (fun q e => Nat.le_trans hS.size (o9.lt q e).1)
                        replace k11 := k11.call hq9
                        replace o6 := own_bel o6 hq9
                        have hSn := hS.trans (hq9.mono hS.size)
                        clear hS
                        refine Onward.on hSn (fun hS => ?_)
                        clear hSn
                        try simp only [Act.put, List.getElem_toArray, List.getElem_cons_succ, List.getElem_cons_zero, List.setIfInBounds_toArray, List.set_cons_zero, List.set_cons_succ]
                        clear hq9
                        refine AnyG.one (i := 12) (by kernel_rfl) rfl rfl ?_
                        refine wp_app2 (.tmp 114) (.tmp 116) 29 rfl w2.heap.size 3 i3 _ 1 8 Try.underlying29 hi3 hz3 hs3 iy3 rfl (by decide) (.slice A9 i c9) i (ints ns).flatten (by simp [Act.eval]) o9 ⟨p11, 0, none⟩ 1 1 [.int .i64 (j : Int)] (by simp [Act.eval]) rfl (bx_news k11) (by simp [Value.oneCell']) (by unfold maxLen; omega) (by omega) hS.size ?_
                        intro v12 y12 o12 g12 x12 r12
                        obtain ⟨A12, c12, rfl⟩ := own_shape o12
                        clear x12
                        rw [show (ints ns).flatten ++ [Value.int .i64 (j : Int)] = (ints (ns ++ [(j : Int)])).flatten by simp [ints]] at o12
                        replace o6 := o6.kept g12 n6_9
                        have hSn := hS.grown g12 hS.size (fun q e => (o9.lt q e).1)
                        clear hS
                        refine Onward.on hSn (fun hS => ?_)
                        clear hSn
                        try simp only [Act.put, List.getElem_toArray, List.getElem_cons_succ, List.getElem_cons_zero, List.setIfInBounds_toArray, List.set_cons_zero, List.set_cons_succ]
                        clear o9 k11 r12
                        refine AnyG.one (i := 13) (by kernel_rfl) rfl rfl ?_
                        go_simp
                        refine Onward.on hS (fun hS2 => ?_)
                        clear hS2
                        try simp only [Act.put, List.getElem_toArray, List.getElem_cons_succ, List.getElem_cons_zero, List.setIfInBounds_toArray, List.set_cons_zero, List.set_cons_succ]
                        refine AnyG.one (i := 16) (by kernel_rfl) rfl rfl ?_
                        have hSy := hS
                        go_simp
                        have hEy : EvsAt y12 b (some ea) es := Sl.below hE2 (hS.mono hbw2)
                        have hLy := I3.facts.bel hS
                        have hc := ih (zs ++ [z]) (ns ++ [(j : Int)]) A6 c6 A12 c12 u3 n2 (L ++ (upTo (f0 + c0) m).flatMap (tG st z0 z1 es ⟨kd, sh, ld, c0, c1⟩ d zs ns) ++ (upTo 0 j).flatMap (tH st z0 z1 es ⟨kd, sh, ld, c0, c1⟩ d zs ns z)) y12 (by rw [List.length_append]; have := HZ.out.1; have := HHL.out; simp; omega) (by simp; have := HZ.out; omega) (Nat.le_trans hbw2 hS.size) hEy ⟨A6, c6, A12, c12, rfl, ?_, ?_⟩ (fun x hx => ?_) hLy HBND.out
                        rotate_left
                        · rw [show (zs ++ [z]).length = i + 1 by simp; exact HZ.out.1]; exact ownsRow_up o6 (fun q e => Nat.le_trans hbw2 (o6.lt q e).1)
                        · rw [show (ns ++ [(j : Int)]).length = i + 1 by simp; exact HZ.out.2]; exact ownsRow_up o12 (fun q e => Nat.le_trans hbw2 (o12.lt q e).1)
                        · rcases List.mem_append.1 hx with hx | hx
                          · exact hzb x hx
                          · obtain rfl := List.mem_singleton.1 hx; omega
                        rw [show (zs ++ [z]).length = i + 1 by simp; exact HZ.out.1, show (ns ++ [(j : Int)]).length = i + 1 by simp; exact HZ.out.2] at hc
                        refine hc.mono ?_
                        rintro er y16 ⟨v9, n9, rfl, hF9, hg9, ho9⟩
                        clear hc
                        refine Onward.last rfl ?_
                        try simp only [Act.put, List.getElem_toArray, List.getElem_cons_succ, List.getElem_cons_zero, List.setIfInBounds_toArray, List.set_cons_zero, List.set_cons_succ]
                        refine AnyG.one (i := 17) (by kernel_rfl) rfl rfl ?_
                        go_simp
                        refine Onward.last rfl ?_
                        try simp only [Act.put, List.getElem_toArray, List.getElem_cons_succ, List.getElem_cons_zero, List.setIfInBounds_toArray, List.set_cons_zero, List.set_cons_succ]
                        refine AnyG.done (by kernel_rfl) ?_ _
                        go_simp
                        go_wp2_with fail
                        go_roundw
                        case rel => exact ⟨j + 1, n9, by go_num, by omega, by have h := HUP.out; simp only [if_true] at h; rw [h, ← List.append_assoc]; exact ⟨hF9, grown_step (grown_trans I3.gr (grown_below hSy)) hg9 I3.ow, step_own I3.ow ho9 (Nat.le_trans I3.gr.size hSy.size)⟩⟩
                        case measure => simp [intOf]; omega
                    · refine ⟨_, rfl, rfl, ?_⟩
                      go_simp
                      have k11 := Bx.new y5 3 #[.int .i64 (j : Int)]
                      have hp11 : w2.heap.size ≤ y5.heap.size := hS.size
                      have nk11_o3 : some y5.heap.size ≠ (Value.slice A3 i c3).ownBlock := fun h => by have := (o3.lt _ h.symm).2; omega
                      replace o3 := o3.alloc (.cells #[.int .i64 (j : Int)] 3)
                      replace k5 := k5.alloc (.cells #[.int .i64 (j : Int)] 3)
                      have hSn := hS.alloc hS.size (.cells #[.int .i64 (j : Int)] 3)
                      clear hS
                      refine Onward.on hSn (fun hS => ?_)
                      clear hSn
                      try simp only [Act.put, List.getElem_toArray, List.getElem_cons_succ, List.getElem_cons_zero, List.setIfInBounds_toArray, List.set_cons_zero, List.set_cons_succ]
                      obtain ⟨y11, hy11⟩ : ∃ y, y5.alloc (.cells #[.int .i64 (j : Int)] 3) = y := ⟨_, rfl⟩
                      rw [hy11] at o3 k5 k11 hS ⊢
                      clear hy11
                      obtain ⟨p11, ep11⟩ : ∃ p, y5.heap.size = p := ⟨_, rfl⟩
                      rw [ep11] at k11 hp11 nk11_o3 ⊢
                      clear ep11
                      refine AnyG.one (i := 6) (by kernel_rfl) rfl rfl ?_
                      refine wp_app2 (.tmp 108) (.tmp 110) 29 rfl w2.heap.size 3 i3 _ 1 8 Try.underlying29 hi3 hz3 hs3 iy3 rfl (by decide) (.slice A3 i c3) i (ints zs).flatten (by simp [Act.eval]) o3 ⟨p5, 0, none⟩ 1 1 [.int .i64 z] (by simp [Act.eval]) rfl (bx_news k5) (by simp [Value.oneCell']) (by unfold maxLen; omega) (by omega) hS.size ?_
                      intro v6 y6 o6 g6 x6 r6
                      obtain ⟨A6, c6, rfl⟩ := own_shape o6
                      clear x6
                      rw [show (ints zs).flatten ++ [Value.int .i64 z] = (ints (zs ++ [z])).flatten by simp [ints]] at o6
                      replace k11 := k11.grown g6 nk11_o3
                      have hSn := hS.grown g6 hS.size (fun q e => (o3.lt q e).1)
                      clear hS
                      refine Onward.on hSn (fun hS => ?_)
                      clear hSn
                      try simp only [Act.put, List.getElem_toArray, List.getElem_cons_succ, List.getElem_cons_zero, List.setIfInBounds_toArray, List.set_cons_zero, List.set_cons_succ]
                      clear o3 k5 r6
                      refine AnyG.one (i := 9) (by kernel_rfl) rfl rfl ?_
                      go_simp
                      refine (ints_any NA i nc ns _ (by omega) HZ.out.2 ((hNw.below hS).more hS.size)).mono ?_
                      rintro er y9 ⟨⟨A9, c9, rfl, o9⟩, hq9⟩
                      have nk11_o9 : some p11 ≠ (Value.slice A9 i c9).ownBlock := fun h => by have := (o9.lt _ h.symm).1; have := k11.lt; omega
                      have n6_9 : (Value.slice A6 (i + 1) c6).ownBlock = none ∨ (Value.slice A6 (i + 1) c6).ownBlock ≠ (Value.slice A9 i c9).ownBlock := by
                        cases h6 : (Value.slice A6 (i + 1) c6).ownBlock with
                        | none => exact .inl rfl
                        | some q => exact .inr fun h => by have := (o6.lt q h6).2; have := (o9.lt q h.symm).1; omega
                      replace o9 := ownsRow_up (b' := w2.heap.size) o9 (fun q e => Nat.le_trans hS.size (o9.lt q e).1)
                      replace k11 := k11.call hq9
                      replace o6 := own_bel o6 hq9
                      have hSn := hS.trans (hq9.mono hS.size)
                      clear hS
                      refine Onward.on hSn (fun hS => ?_)
                      clear hSn
                      try simp only [Act.put, List.getElem_toArray, List.getElem_cons_succ, List.getElem_cons_zero, List.setIfInBounds_toArray, List.set_cons_zero, List.set_cons_succ]
                      clear hq9
                      refine AnyG.one (i := 12) (by kernel_rfl) rfl rfl ?_
                      refine wp_app2 (.tmp 114) (.tmp 116) 29 rfl w2.heap.size 3 i3 _ 1 8 Try.underlying29 hi3 hz3 hs3 iy3 rfl (by decide) (.slice A9 i c9) i (ints ns).flatten (by simp [Act.eval]) o9 ⟨p11, 0, none⟩ 1 1 [.int .i64 (j : Int)] (by simp [Act.eval]) rfl (bx_news k11) (by simp [Value.oneCell']) (by unfold maxLen; omega) (by omega) hS.size ?_
                      intro v12 y12 o12 g12 x12 r12
                      obtain ⟨A12, c12, rfl⟩ := own_shape o12
                      clear x12
                      rw [show (ints ns).flatten ++ [Value.int .i64 (j : Int)] = (ints (ns ++ [(j : Int)])).flatten by simp [ints]] at o12
                      replace o6 := o6.kept g12 n6_9
                      have hSn := hS.grown g12 hS.size (fun q e => (o9.lt q e).1)
                      clear hS
                      refine Onward.on hSn (fun hS => ?_)
                      clear hSn
                      try simp only [Act.put, List.getElem_toArray, List.getElem_cons_succ, List.getElem_cons_zero, List.setIfInBounds_toArray, List.set_cons_zero, List.set_cons_succ]
                      clear o9 k11 r12
                      refine AnyG.one (i := 13) (by kernel_rfl) rfl rfl ?_
                      go_simp
                      refine Onward.on hS (fun hS2 => ?_)
                      clear hS2
                      try simp only [Act.put, List.getElem_toArray, List.getElem_cons_succ, List.getElem_cons_zero, List.setIfInBounds_toArray, List.set_cons_zero, List.set_cons_succ]
                      refine AnyG.one (i := 16) (by kernel_rfl) rfl rfl ?_
                      have hSy := hS
                      go_simp
                      have hEy : EvsAt y12 b (some ea) es := Sl.below hE2 (hS.mono hbw2)
                      have hLy := I3.facts.bel hS
                      have hc := ih (zs ++ [z]) (ns ++ [(j : Int)]) A6 c6 A12 c12 u3 n2 (L ++ (upTo (f0 + c0) m).flatMap (tG st z0 z1 es ⟨kd, sh, ld, c0, c1⟩ d zs ns) ++ (upTo 0 j).flatMap (tH st z0 z1 es ⟨kd, sh, ld, c0, c1⟩ d zs ns z)) y12 (by rw [List.length_append]; have := HZ.out.1; have := HHL.out; simp; omega) (by simp; have := HZ.out; omega) (Nat.le_trans hbw2 hS.size) hEy ⟨A6, c6, A12, c12, rfl, ?_, ?_⟩ (fun x hx => ?_) hLy HBND.out
                      rotate_left
                      · rw [show (zs ++ [z]).length = i + 1 by simp; exact HZ.out.1]; exact ownsRow_up o6 (fun q e => Nat.le_trans hbw2 (o6.lt q e).1)
                      · rw [show (ns ++ [(j : Int)]).length = i + 1 by simp; exact HZ.out.2]; exact ownsRow_up o12 (fun q e => Nat.le_trans hbw2 (o12.lt q e).1)
                      · rcases List.mem_append.1 hx with hx | hx
                        · exact hzb x hx
                        · obtain rfl := List.mem_singleton.1 hx; omega
                      rw [show (zs ++ [z]).length = i + 1 by simp; exact HZ.out.1, show (ns ++ [(j : Int)]).length = i + 1 by simp; exact HZ.out.2] at hc
                      refine hc.mono ?_
                      rintro er y16 ⟨v9, n9, rfl, hF9, hg9, ho9⟩
                      clear hc
                      refine Onward.last rfl ?_
                      try simp only [Act.put, List.getElem_toArray, List.getElem_cons_succ, List.getElem_cons_zero, List.setIfInBounds_toArray, List.set_cons_zero, List.set_cons_succ]
                      refine AnyG.one (i := 17) (by kernel_rfl) rfl rfl ?_
                      go_simp
                      refine Onward.last rfl ?_
                      try simp only [Act.put, List.getElem_toArray, List.getElem_cons_succ, List.getElem_cons_zero, List.setIfInBounds_toArray, List.set_cons_zero, List.set_cons_succ]
                      refine AnyG.done (by kernel_rfl) ?_ _
                      go_simp
                      go_wp2_with fail
                      go_roundw
                      case rel => exact ⟨j + 1, n9, by go_num, by omega, by have h := HUP.out; simp only [if_true] at h; rw [h, ← List.append_assoc]; exact ⟨hF9, grown_step (grown_trans I3.gr (grown_below hSy)) hg9 I3.ow, step_own I3.ow ho9 (Nat.le_trans I3.gr.size hSy.size)⟩⟩
                      case measure => simp [intOf]; omega
                  · refine ⟨_, rfl, rfl, ?_⟩
                    go_simp
                    have k11 := Bx.new y3 3 #[.int .i64 (j : Int)]
                    have hp11 : w2.heap.size ≤ y3.heap.size := hS.size
                    have nk11_o3 : some y3.heap.size ≠ (Value.slice A3 i c3).ownBlock := fun h => by have := (o3.lt _ h.symm).2; omega
                    replace o3 := o3.alloc (.cells #[.int .i64 (j : Int)] 3)
                    have hSn := hS.alloc hS.size (.cells #[.int .i64 (j : Int)] 3)
                    clear hS
                    refine Onward.on hSn (fun hS => ?_)
                    clear hSn
                    try simp only [Act.put, List.getElem_toArray, List.getElem_cons_succ, List.getElem_cons_zero, List.setIfInBounds_toArray, List.set_cons_zero, List.set_cons_succ]
                    obtain ⟨y11, hy11⟩ : ∃ y, y3.alloc (.cells #[.int .i64 (j : Int)] 3) = y := ⟨_, rfl⟩
                    rw [hy11] at o3 k11 hS ⊢
                    clear hy11
                    obtain ⟨p11, ep11⟩ : ∃ p, y3.heap.size = p := ⟨_, rfl⟩
                    rw [ep11] at k11 hp11 nk11_o3 ⊢
                    clear ep11
                    refine AnyG.one (i := 5) (by kernel_rfl) rfl rfl ?_
                    go_simp
                    have k5 := Bx.new y11 3 #[.int .i64 z]
                    have hp5 : w2.heap.size ≤ y11.heap.size := hS.size
                    have nk5_o3 : some y11.heap.size ≠ (Value.slice A3 i c3).ownBlock := fun h => by have := (o3.lt _ h.symm).2; omega
                    replace o3 := o3.alloc (.cells #[.int .i64 z] 3)
                    replace k11 := k11.alloc (.cells #[.int .i64 z] 3)
                    have hSn := hS.alloc hS.size (.cells #[.int .i64 z] 3)
                    clear hS
                    refine Onward.on hSn (fun hS => ?_)
                    clear hSn
                    try simp only [Act.put, List.getElem_toArray, List.getElem_cons_succ, List.getElem_cons_zero, List.setIfInBounds_toArray, List.set_cons_zero, List.set_cons_succ]
                    obtain ⟨y5, hy5⟩ : ∃ y, y11.alloc (.cells #[.int .i64 z] 3) = y := ⟨_, rfl⟩
                    rw [hy5] at o3 k11 k5 hS ⊢
                    clear hy5
                    obtain ⟨p5, ep5⟩ : ∃ p, y11.heap.size = p := ⟨_, rfl⟩
                    rw [ep5] at k5 hp5 nk5_o3 ⊢
                    clear ep5
                    refine AnyG.one (i := 6) (by kernel_rfl) rfl rfl ?_
                    refine wp_app2 (.tmp 108) (.tmp 110) 29 rfl w2.heap.size 3 i3 _ 1 8 Try.underlying29 hi3 hz3 hs3 iy3 rfl (by decide) (.slice A3 i c3) i (ints zs).flatten (by simp [Act.eval]) o3 ⟨p5, 0, none⟩ 1 1 [.int .i64 z] (by simp [Act.eval]) rfl (bx_news k5) (by simp [Value.oneCell']) (by unfold maxLen; omega) (by omega) hS.size ?_
                    intro v6 y6 o6 g6 x6 r6
                    obtain ⟨A6, c6, rfl⟩ := own_shape o6
                    clear x6
                    rw [show (ints zs).flatten ++ [Value.int .i64 z] = (ints (zs ++ [z])).flatten by simp [ints]] at o6
                    replace k11 := k11.grown g6 nk11_o3
                    have hSn := hS.grown g6 hS.size (fun q e => (o3.lt q e).1)
                    clear hS
                    refine Onward.on hSn (fun hS => ?_)
                    clear hSn
                    try simp only [Act.put, List.getElem_toArray, List.getElem_cons_succ, List.getElem_cons_zero, List.setIfInBounds_toArray, List.set_cons_zero, List.set_cons_succ]
                    clear o3 k5 r6
                    refine AnyG.one (i := 9) (by kernel_rfl) rfl rfl ?_
                    go_simp
                    refine (ints_any NA i nc ns _ (by omega) HZ.out.2 ((hNw.below hS).more hS.size)).mono ?_
                    rintro er y9 ⟨⟨A9, c9, rfl, o9⟩, hq9⟩
                    have nk11_o9 : some p11 ≠ (Value.slice A9 i c9).ownBlock := fun h => by have := (o9.lt _ h.symm).1; have := k11.lt; omega
                    have n6_9 : (Value.slice A6 (i + 1) c6).ownBlock = none ∨ (Value.slice A6 (i + 1) c6).ownBlock ≠ (Value.slice A9 i c9).ownBlock := by
                      cases h6 : (Value.slice A6 (i + 1) c6).ownBlock with
                      | none => exact .inl rfl
                      | some q => exact .inr fun h => by have := (o6.lt q h6).2; have := (o9.lt q h.symm).1; omega
                    replace o9 := ownsRow_up (b' := w2.heap.size) o9 (fun q e => Nat.le_trans hS.size (o9.lt q e).1)
                    replace k11 := k11.call hq9
                    replace o6 := own_bel o6 hq9
                    have hSn := hS.trans (hq9.mono hS.size)
                    clear hS
                    refine Onward.on hSn (fun hS => ?_)
                    clear hSn
                    try simp only [Act.put, List.getElem_toArray, List.getElem_cons_succ, List.getElem_cons_zero, List.setIfInBounds_toArray, List.set_cons_zero, List.set_cons_succ]
                    clear hq9
                    refine AnyG.one (i := 12) (by kernel_rfl) rfl rfl ?_
                    refine wp_app2 (.tmp 114) (.tmp 116) 29 rfl w2.heap.size 3 i3 _ 1 8 Try.underlying29 hi3 hz3 hs3 iy3 rfl (by decide) (.slice A9 i c9) i (ints ns).flatten (by simp [Act.eval]) o9 ⟨p11, 0, none⟩ 1 1 [.int .i64 (j : Int)] (by simp [Act.eval]) rfl (bx_news k11) (by simp [Value.oneCell']) (by unfold maxLen; omega) (by omega) hS.size ?_
                    intro v12 y12 o12 g12 x12 r12
                    obtain ⟨A12, c12, rfl⟩ := own_shape o12
                    clear x12
                    rw [show (ints ns).flatten ++ [Value.int .i64 (j : Int)] = (ints (ns ++ [(j : Int)])).flatten by simp [ints]] at o12
                    replace o6 := o6.kept g12 n6_9
                    have hSn := hS.grown g12 hS.size (fun q e => (o9.lt q e).1)
                    clear hS
                    refine Onward.on hSn (fun hS => ?_)
                    clear hSn
                    try simp only [Act.put, List.getElem_toArray, List.getElem_cons_succ, List.getElem_cons_zero, List.setIfInBounds_toArray, List.set_cons_zero, List.set_cons_succ]
                    clear o9 k11 r12
                    refine AnyG.one (i := 13) (by kernel_rfl) rfl rfl ?_
                    go_simp
                    refine Onward.on hS (fun hS2 => ?_)
                    clear hS2
                    try simp only [Act.put, List.getElem_toArray, List.getElem_cons_succ, List.getElem_cons_zero, List.setIfInBounds_toArray, List.set_cons_zero, List.set_cons_succ]
                    refine AnyG.one (i := 16) (by kernel_rfl) rfl rfl ?_
                    have hSy := hS
                    go_simp
                    have hEy : EvsAt y12 b (some ea) es := Sl.below hE2 (hS.mono hbw2)
                    have hLy := I3.facts.bel hS
                    have hc := ih (zs ++ [z]) (ns ++ [(j : Int)]) A6 c6 A12 c12 u3 n2 (L ++ (upTo (f0 + c0) m).flatMap (tG st z0 z1 es ⟨kd, sh, ld, c0, c1⟩ d zs ns) ++ (upTo 0 j).flatMap (tH st z0 z1 es ⟨kd, sh, ld, c0, c1⟩ d zs ns z)) y12 (by rw [List.length_append]; have := HZ.out.1; have := HHL.out; simp; omega) (by simp; have := HZ.out; omega) (Nat.le_trans hbw2 hS.size) hEy ⟨A6, c6, A12, c12, rfl, ?_, ?_⟩ (fun x hx => ?_) hLy HBND.out
                    rotate_left
                    · rw [show (zs ++ [z]).length = i + 1 by simp; exact HZ.out.1]; exact ownsRow_up o6 (fun q e => Nat.le_trans hbw2 (o6.lt q e).1)
                    · rw [show (ns ++ [(j : Int)]).length = i + 1 by simp; exact HZ.out.2]; exact ownsRow_up o12 (fun q e => Nat.le_trans hbw2 (o12.lt q e).1)
                    · rcases List.mem_append.1 hx with hx | hx
                      · exact hzb x hx
                      · obtain rfl := List.mem_singleton.1 hx; omega
                    rw [show (zs ++ [z]).length = i + 1 by simp; exact HZ.out.1, show (ns ++ [(j : Int)]).length = i + 1 by simp; exact HZ.out.2] at hc
                    refine hc.mono ?_
                    rintro er y16 ⟨v9, n9, rfl, hF9, hg9, ho9⟩
                    clear hc
                    refine Onward.last rfl ?_
                    try simp only [Act.put, List.getElem_toArray, List.getElem_cons_succ, List.getElem_cons_zero, List.setIfInBounds_toArray, List.set_cons_zero, List.set_cons_succ]
                    refine AnyG.one (i := 17) (by kernel_rfl) rfl rfl ?_
                    go_simp
                    refine Onward.last rfl ?_
                    try simp only [Act.put, List.getElem_toArray, List.getElem_cons_succ, List.getElem_cons_zero, List.setIfInBounds_toArray, List.set_cons_zero, List.set_cons_succ]
                    refine AnyG.done (by kernel_rfl) ?_ _
                    go_simp
                    go_wp2_with fail
                    go_roundw
                    case rel => exact ⟨j + 1, n9, by go_num, by omega, by have h := HUP.out; simp only [if_true] at h; rw [h, ← List.append_assoc]; exact ⟨hF9, grown_step (grown_trans I3.gr (grown_below hSy)) hg9 I3.ow, step_own I3.ow ho9 (Nat.le_trans I3.gr.size hSy.size)⟩⟩
                    case measure => simp [intOf]; omega
                · refine ⟨_, rfl, rfl, ?_⟩
                  go_simp
                  have k5 := Bx.new y0 3 #[.int .i64 z]
                  have hp5 : w2.heap.size ≤ y0.heap.size := hS.size
                  have hSn := hS.alloc hS.size (.cells #[.int .i64 z] 3)
                  clear hS
                  refine Onward.on hSn (fun hS => ?_)
                  clear hSn
                  try simp only [Act.put, List.getElem_toArray, List.getElem_cons_succ, List.getElem_cons_zero, List.setIfInBounds_toArray, List.set_cons_zero, List.set_cons_succ]
                  obtain ⟨y5, hy5⟩ : ∃ y, y0.alloc (.cells #[.int .i64 z] 3) = y := ⟨_, rfl⟩
                  rw [hy5] at k5 hS ⊢
                  clear hy5
                  obtain ⟨p5, ep5⟩ : ∃ p, y0.heap.size = p := ⟨_, rfl⟩
                  rw [ep5] at k5 hp5 ⊢
                  clear ep5
                  refine AnyG.all (rs := [3, 11]) (by kernel_rfl) (by simp) ?_
                  intro ii hii
                  simp only [List.mem_cons, List.not_mem_nil, or_false] at hii
                  rcases hii with rfl | rfl
                  · refine ⟨_, rfl, rfl, ?_⟩
                    go_simp
                    refine (ints_any ZA i zc zs _ (by omega) HZ.out.1 ((hZw.below hS).more hS.size)).mono ?_
                    rintro er y3 ⟨⟨A3, c3, rfl, o3⟩, hq3⟩
                    have nk5_o3 : some p5 ≠ (Value.slice A3 i c3).ownBlock := fun h => by have := (o3.lt _ h.symm).1; have := k5.lt; omega
                    replace o3 := ownsRow_up (b' := w2.heap.size) o3 (fun q e => Nat.le_trans hS.size (o3.lt q e).1)
                    replace k5 := k5.call hq3
                    have hSn := hS.trans (hq3.mono hS.size)
                    clear hS
                    refine Onward.on hSn (fun hS => ?_)
                    clear hSn
                    try simp only [Act.put, List.getElem_toArray, List.getElem_cons_succ, List.getElem_cons_zero, List.setIfInBounds_toArray, List.set_cons_zero, List.set_cons_succ]
                    clear hq3
                    refine AnyG.all (rs := [6, 11]) (by kernel_rfl) (by simp) ?_
                    intro ii hii
                    simp only [List.mem_cons, List.not_mem_nil, or_false] at hii
                    rcases hii with rfl | rfl
                    · refine ⟨_, rfl, rfl, ?_⟩
                      refine wp_app2 (.tmp 108) (.tmp 110) 29 rfl w2.heap.size 3 i3 _ 1 8 Try.underlying29 hi3 hz3 hs3 iy3 rfl (by decide) (.slice A3 i c3) i (ints zs).flatten (by simp [Act.eval]) o3 ⟨p5, 0, none⟩ 1 1 [.int .i64 z] (by simp [Act.eval]) rfl (bx_news k5) (by simp [Value.oneCell']) (by unfold maxLen; omega) (by omega) hS.size ?_
                      intro v6 y6 o6 g6 x6 r6
                      obtain ⟨A6, c6, rfl⟩ := own_shape o6
                      clear x6
                      rw [show (ints zs).flatten ++ [Value.int .i64 z] = (ints (zs ++ [z])).flatten by simp [ints]] at o6
                      have hSn := hS.grown g6 hS.size (fun q e => (o3.lt q e).1)
                      clear hS
                      refine Onward.on hSn (fun hS => ?_)
                      clear hSn
                      try simp only [Act.put, List.getElem_toArray, List.getElem_cons_succ, List.getElem_cons_zero, List.setIfInBounds_toArray, List.set_cons_zero, List.set_cons_succ]
                      clear o3 k5 r6
                      refine AnyG.all (rs := [9, 11]) (by kernel_rfl) (by simp) ?_
                      intro ii hii
                      simp only [List.mem_cons, List.not_mem_nil, or_false] at hii
                      rcases hii with rfl | rfl
                      · refine ⟨_, rfl, rfl, ?_⟩
                        go_simp
                        refine (ints_any NA i nc ns _ (by omega) HZ.out.2 ((hNw.below hS).more hS.size)).mono ?_
                        rintro er y9 ⟨⟨A9, c9, rfl, o9⟩, hq9⟩
                        have n6_9 : (Value.slice A6 (i + 1) c6).ownBlock = none ∨ (Value.slice A6 (i + 1) c6).ownBlock ≠ (Value.slice A9 i c9).ownBlock := by
                          cases h6 : (Value.slice A6 (i + 1) c6).ownBlock with
                          | none => exact .inl rfl
                          | some q => exact .inr fun h => by have := (o6.lt q h6).2; have := (o9.lt q h.symm).1; omega
                        replace o9 := ownsRow_up (b' := w2.heap.size) o9 (fun q e => Nat.le_trans hS.size (o9.lt q e).1)
                        replace o6 := own_bel o6 hq9
                        have hSn := hS.trans (hq9.mono hS.size)
                        clear hS
                        refine Onward.on hSn (fun hS => ?_)
                        clear hSn
                        try simp only [Act.put, List.getElem_toArray, List.getElem_cons_succ, List.getElem_cons_zero, List.setIfInBounds_toArray, List.set_cons_zero, List.set_cons_succ]
                        clear hq9
                        refine AnyG.one (i := 11) (by kernel_rfl) rfl rfl ?_
                        go_simp
                        have k11 := Bx.new y9 3 #[.int .i64 (j : Int)]
                        have hp11 : w2.heap.size ≤ y9.heap.size := hS.size
                        have nk11_o6 : some y9.heap.size ≠ (Value.slice A6 (i + 1) c6).ownBlock := fun h => by have := (o6.lt _ h.symm).2; omega
                        replace o6 := o6.alloc (.cells #[.int .i64 (j : Int)] 3)
                        have nk11_o9 : some y9.heap.size ≠ (Value.slice A9 i c9).ownBlock := fun h => by have := (o9.lt _ h.symm).2; omega
                        replace o9 := o9.alloc (.cells #[.int .i64 (j : Int)] 3)
                        have hSn := hS.alloc hS.size (.cells #[.int .i64 (j : Int)] 3)
                        clear hS
                        refine Onward.on hSn (fun hS => ?_)
                        clear hSn
                        try simp only [Act.put, List.getElem_toArray, List.getElem_cons_succ, List.getElem_cons_zero, List.setIfInBounds_toArray, List.set_cons_zero, List.set_cons_succ]
                        obtain ⟨y11, hy11⟩ : ∃ y, y9.alloc (.cells #[.int .i64 (j : Int)] 3) = y := ⟨_, rfl⟩
                        rw [hy11] at o6 o9 k11 hS ⊢
                        clear hy11
                        obtain ⟨p11, ep11⟩ : ∃ p, y9.heap.size = p := ⟨_, rfl⟩
                        rw [ep11] at k11 hp11 nk11_o6 nk11_o9 ⊢
                        clear ep11
                        refine AnyG.one (i := 12) (by kernel_rfl) rfl rfl ?_
                        refine wp_app2 (.tmp 114) (.tmp 116) 29 rfl w2.heap.size 3 i3 _ 1 8 Try.underlying29 hi3 hz3 hs3 iy3 rfl (by decide) (.slice A9 i c9) i (ints ns).flatten (by simp [Act.eval]) o9 ⟨p11, 0, none⟩ 1 1 [.int .i64 (j : Int)] (by simp [Act.eval]) rfl (bx_news k11) (by simp [Value.oneCell']) (by unfold maxLen; omega) (by omega) hS.size ?_
                        intro v12 y12 o12 g12 x12 r12
                        obtain ⟨A12, c12, rfl⟩ := own_shape o12
                        clear x12
                        rw [show (ints ns).flatten ++ [Value.int .i64 (j : Int)] = (ints (ns ++ [(j : Int)])).flatten by simp [ints]] at o12
                        replace o6 := o6.kept g12 n6_9
                        have hSn := hS.grown g12 hS.size (fun q e => (o9.lt q e).1)
                        clear hS
                        refine Onward.on hSn (fun hS => ?_)
                        clear hSn
                        try simp only [Act.put, List.getElem_toArray, List.getElem_cons_succ, List.getElem_cons_zero, List.setIfInBounds_toArray, List.set_cons_zero, List.set_cons_succ]
                        clear o9 k11 r12
                        refine AnyG.one (i := 13) (by kernel_rfl) rfl rfl ?_
                        go_simp
                        refine Onward.on hS (fun hS2 => ?_)
                        clear hS2
                        try simp only [Act.put, List.getElem_toArray, List.getElem_cons_succ, List.getElem_cons_zero, List.setIfInBounds_toArray, List.set_cons_zero, List.set_cons_succ]
                        refine AnyG.one (i := 16) (by kernel_rfl) rfl rfl ?_
                        have hSy := hS
                        go_simp
                        have hEy : EvsAt y12 b (some ea) es := Sl.below hE2 (hS.mono hbw2)
                        have hLy := I3.facts.bel hS
                        have hc := ih (zs ++ [z]) (ns ++ [(j : Int)]) A6 c6 A12 c12 u3 n2 (L ++ (upTo (f0 + c0) m).flatMap (tG st z0 z1 es ⟨kd, sh, ld, c0, c1⟩ d zs ns) ++ (upTo 0 j).flatMap (tH st z0 z1 es ⟨kd, sh, ld, c0, c1⟩ d zs ns z)) y12 (by rw [List.length_append]; have := HZ.out.1; have := HHL.out; simp; omega) (by simp; have := HZ.out; omega) (Nat.le_trans hbw2 hS.size) hEy ⟨A6, c6, A12, c12, rfl, ?_, ?_⟩ (fun x hx => ?_) hLy HBND.out
                        rotate_left
                        · rw [show (zs ++ [z]).length = i + 1 by simp; exact HZ.out.1]; exact ownsRow_up o6 (fun q e => Nat.le_trans hbw2 (o6.lt q e).1)
                        · rw [show (ns ++ [(j : Int)]).length = i + 1 by simp; exact HZ.out.2]; exact ownsRow_up o12 (fun q e => Nat.le_trans hbw2 (o12.lt q e).1)
                        · rcases List.mem_append.1 hx with hx | hx
                          · exact hzb x hx
                          · obtain rfl := List.mem_singleton.1 hx; omega
                        rw [show (zs ++ [z]).length = i + 1 by simp; exact HZ.out.1, show (ns ++ [(j : Int)]).length = i + 1 by simp; exact HZ.out.2] at hc
                        refine hc.mono ?_
                        rintro er y16 ⟨v9, n9, rfl, hF9, hg9, ho9⟩
                        clear hc
                        refine Onward.last rfl ?_
                        try simp only [Act.put, List.getElem_toArray, List.getElem_cons_succ, List.getElem_cons_zero, List.setIfInBounds_toArray, List.set_cons_zero, List.set_cons_succ]
                        refine AnyG.one (i := 17) (by kernel_rfl) rfl rfl ?_
                        go_simp
                        refine Onward.last rfl ?_
                        try simp only [Act.put, List.getElem_toArray, List.getElem_cons_succ, List.getElem_cons_zero, List.setIfInBounds_toArray, List.set_cons_zero, List.set_cons_succ]
                        refine AnyG.done (by kernel_rfl) ?_ _
                        go_simp
                        go_wp2_with fail
                        go_roundw
                        case rel => exact ⟨j + 1, n9, by go_num, by omega, by have h := HUP.out; simp only [if_true] at h; rw [h, ← List.append_assoc]; exact ⟨hF9, grown_step (grown_trans I3.gr (grown_below hSy)) hg9 I3.ow, step_own I3.ow ho9 (Nat.le_trans I3.gr.size hSy.size)⟩⟩
                        case measure => simp [intOf]; omega
                      · refine ⟨_, rfl, rfl, ?_⟩
                        go_simp
                        have k11 := Bx.new y6 3 #[.int .i64 (j : Int)]
                        have hp11 : w2.heap.size ≤ y6.heap.size := hS.size
                        have nk11_o6 : some y6.heap.size ≠ (Value.slice A6 (i + 1) c6).ownBlock := fun h => by have := (o6.lt _ h.symm).2; omega
                        replace o6 := o6.alloc (.cells #[.int .i64 (j : Int)] 3)
                        have hSn := hS.alloc hS.size (.cells #[.int .i64 (j : Int)] 3)
                        clear hS
                        refine Onward.on hSn (fun hS => ?_)
                        clear hSn
                        try simp only [Act.put, List.getElem_toArray, List.getElem_cons_succ, List.getElem_cons_zero, List.setIfInBounds_toArray, List.set_cons_zero, List.set_cons_succ]
                        obtain ⟨y11, hy11⟩ : ∃ y, y6.alloc (.cells #[.int .i64 (j : Int)] 3) = y := ⟨_, rfl⟩
                        rw [hy11] at o6 k11 hS ⊢
                        clear hy11
                        obtain ⟨p11, ep11⟩ : ∃ p, y6.heap.size = p := ⟨_, rfl⟩
                        rw [ep11] at k11 hp11 nk11_o6 ⊢
                        clear ep11
                        refine AnyG.one (i := 9) (by kernel_rfl) rfl rfl ?_
                        go_simp
                        refine (ints_any NA i nc ns _ (by omega) HZ.out.2 ((hNw.below hS).more hS.size)).mono ?_
                        rintro er y9 ⟨⟨A9, c9, rfl, o9⟩, hq9⟩
                        have nk11_o9 : some p11 ≠ (Value.slice A9 i c9).ownBlock := fun h => by have := (o9.lt _ h.symm).1; have := k11.lt; omega
                        have n6_9 : (Value.slice A6 (i + 1) c6).ownBlock = none ∨ (Value.slice A6 (i + 1) c6).ownBlock ≠ (Value.slice A9 i c9).ownBlock := by
                          cases h6 : (Value.slice A6 (i + 1) c6).ownBlock with
                          | none => exact .inl rfl
                          | some q => exact .inr fun h => by have := (o6.lt q h6).2; have := (o9.lt q h.symm).1; omega
                        replace o9 := ownsRow_up (b' := w2.heap.size) o9 (fun q e => Nat.le_trans hS.size (o9.lt q e).1)
                        replace k11 := k11.call hq9
                        replace o6 := own_bel o6 hq9
                        have hSn := hS.trans (hq9.mono hS.size)
                        clear hS
                        refine Onward.on hSn (fun hS => ?_)
                        clear hSn
                        try simp only [Act.put, List.getElem_toArray, List.getElem_cons_succ, List.getElem_cons_zero, List.setIfInBounds_toArray, List.set_cons_zero, List.set_cons_succ]
                        clear hq9
                        refine AnyG.one (i := 12) (by kernel_rfl) rfl rfl ?_
                        refine wp_app2 (.tmp 114) (.tmp 116) 29 rfl w2.heap.size 3 i3 _ 1 8 Try.underlying29 hi3 hz3 hs3 iy3 rfl (by decide) (.slice A9 i c9) i (ints ns).flatten (by simp [Act.eval]) o9 ⟨p11, 0, none⟩ 1 1 [.int .i64 (j : Int)] (by simp [Act.eval]) rfl (bx_news k11) (by simp [Value.oneCell']) (by unfold maxLen; omega) (by omega) hS.size ?_
                        intro v12 y12 o12 g12 x12 r12
                        obtain ⟨A12, c12, rfl⟩ := own_shape o12
                        clear x12
                        rw [show (ints ns).flatten ++ [Value.int .i64 (j : Int)] = (ints (ns ++ [(j : Int)])).flatten by simp [ints]] at o12
                        replace o6 := o6.kept g12 n6_9
                        have hSn := hS.grown g12 hS.size (fun q e => (o9.lt q e).1)
                        clear hS
                        refine Onward.on hSn (fun hS => ?_)
                        clear hSn
                        try simp only [Act.put, List.getElem_toArray, List.getElem_cons_succ, List.getElem_cons_zero, List.setIfInBounds_toArray, List.set_cons_zero, List.set_cons_succ]
                        clear o9 k11 r12
                        refine AnyG.one (i := 13) (by kernel_rfl) rfl rfl ?_
                        go_simp
                        refine Onward.on hS (fun hS2 => ?_)
                        clear hS2
                        try simp only [Act.put, List.getElem_toArray, List.getElem_cons_succ, List.getElem_cons_zero, List.setIfInBounds_toArray, List.set_cons_zero, List.set_cons_succ]
                        refine AnyG.one (i := 16) (by kernel_rfl) rfl rfl ?_
                        have hSy := hS
                        go_simp
                        have hEy : EvsAt y12 b (some ea) es := Sl.below hE2 (hS.mono hbw2)
                        have hLy := I3.facts.bel hS
                        have hc := ih (zs ++ [z]) (ns ++ [(j : Int)]) A6 c6 A12 c12 u3 n2 (L ++ (upTo (f0 + c0) m).flatMap (tG st z0 z1 es ⟨kd, sh, ld, c0, c1⟩ d zs ns) ++ (upTo 0 j).flatMap (tH st z0 z1 es ⟨kd, sh, ld, c0, c1⟩ d zs ns z)) y12 (by rw [List.length_append]; have := HZ.out.1; have := HHL.out; simp; omega) (by simp; have := HZ.out; omega) (Nat.le_trans hbw2 hS.size) hEy ⟨A6, c6, A12, c12, rfl, ?_, ?_⟩ (fun x hx => ?_) hLy HBND.out
                        rotate_left
                        · rw [show (zs ++ [z]).length = i + 1 by simp; exact HZ.out.1]; exact ownsRow_up o6 (fun q e => Nat.le_trans hbw2 (o6.lt q e).1)
                        · rw [show (ns ++ [(j : Int)]).length = i + 1 by simp; exact HZ.out.2]; exact ownsRow_up o12 (fun q e => Nat.le_trans hbw2 (o12.lt q e).1)
                        · rcases List.mem_append.1 hx with hx | hx
                          · exact hzb x hx
                          · obtain rfl := List.mem_singleton.1 hx; omega
                        rw [show (zs ++ [z]).length = i + 1 by simp; exact HZ.out.1, show (ns ++ [(j : Int)]).length = i + 1 by simp; exact HZ.out.2] at hc
                        refine hc.mono ?_
                        rintro er y16 ⟨v9, n9, rfl, hF9, hg9, ho9⟩
                        clear hc
                        refine Onward.last rfl ?_
                        try simp only [Act.put, List.getElem_toArray, List.getElem_cons_succ, List.getElem_cons_zero, List.setIfInBounds_toArray, List.set_cons_zero, List.set_cons_succ]
                        refine AnyG.one (i := 17) (by kernel_rfl) rfl rfl ?_
                        go_simp
                        refine Onward.last rfl ?_
                        try simp only [Act.put, List.getElem_toArray, List.getElem_cons_succ, List.getElem_cons_zero, List.setIfInBounds_toArray, List.set_cons_zero, List.set_cons_succ]
                        refine AnyG.done (by kernel_rfl) ?_ _
                        go_simp
                        go_wp2_with fail
                        go_roundw
                        case rel => exact ⟨j + 1, n9, by go_num, by omega, by have h := HUP.out; simp only [if_true] at h; rw [h, ← List.append_assoc]; exact ⟨hF9, grown_step (grown_trans I3.gr (grown_below hSy)) hg9 I3.ow, step_own I3.ow ho9 (Nat.le_trans I3.gr.size hSy.size)⟩⟩
                        case measure => simp [intOf]; omega
                    · refine ⟨_, rfl, rfl, ?_⟩
                      go_simp
                      have k11 := Bx.new y3 3 #[.int .i64 (j : Int)]
                      have hp11 : w2.heap.size ≤ y3.heap.size := hS.size
                      have nk11_o3 : some y3.heap.size ≠ (Value.slice A3 i c3).ownBlock := fun h => by have := (o3.lt _ h.symm).2; omega
                      replace o3 := o3.alloc (.cells #[.int .i64 (j : Int)] 3)
                      replace k5 := k5.alloc (.cells #[.int .i64 (j : Int)] 3)
                      have hSn := hS.alloc hS.size (.cells #[.int .i64 (j : Int)] 3)
                      clear hS
                      refine Onward.on hSn (fun hS => ?_)
                      clear hSn
                      try simp only [Act.put, List.getElem_toArray, List.getElem_cons_succ, List.getElem_cons_zero, List.setIfInBounds_toArray, List.set_cons_zero, List.set_cons_succ]
                      obtain ⟨y11, hy11⟩ : ∃ y, y3.alloc (.cells #[.int .i64 (j : Int)] 3) = y := ⟨_, rfl⟩
                      rw [hy11] at o3 k5 k11 hS ⊢
                      clear hy11
                      obtain ⟨p11, ep11⟩ : ∃ p, y3.heap.size = p := ⟨_, rfl⟩
                      rw [ep11] at k11 hp11 nk11_o3 ⊢
                      clear ep11
                      refine AnyG.one (i := 6) (by kernel_rfl) rfl rfl ?_
                      refine wp_app2 (.tmp 108) (.tmp 110) 29 rfl w2.heap.size 3 i3 _ 1 8 Try.underlying29 hi3 hz3 hs3 iy3 rfl (by decide) (.slice A3 i c3) i (ints zs).flatten (by simp [Act.eval]) o3 ⟨p5, 0, none⟩ 1 1 [.int .i64 z] (by simp [Act.eval]) rfl (bx_news k5) (by simp [Value.oneCell']) (by unfold maxLen; omega) (by omega) hS.size ?_
                      intro v6 y6 o6 g6 x6 r6
                      obtain ⟨A6, c6, rfl⟩ := own_shape o6
                      clear x6
                      rw [show (ints zs).flatten ++ [Value.int .i64 z] = (ints (zs ++ [z])).flatten by simp [ints]] at o6
                      replace k11 := k11.grown g6 nk11_o3
                      have hSn := hS.grown g6 hS.size (fun q e => (o3.lt q e).1)
                      clear hS
                      refine Onward.on hSn (fun hS => ?_)
                      clear hSn
                      try simp only [Act.put, List.getElem_toArray, List.getElem_cons_succ, List.getElem_cons_zero, List.setIfInBounds_toArray, List.set_cons_zero, List.set_cons_succ]
                      clear o3 k5 r6
                      refine AnyG.one (i := 9) (by kernel_rfl) rfl rfl ?_
                      go_simp
                      refine (ints_any NA i nc ns _ (by omega) HZ.out.2 ((hNw.below hS).more hS.size)).mono ?_
                      rintro er y9 ⟨⟨A9, c9, rfl, o9⟩, hq9⟩
                      have nk11_o9 : some p11 ≠ (Value.slice A9 i c9).ownBlock := fun h => by have := (o9.lt _ h.symm).1; have := k11.lt; omega
                      have n6_9 : (Value.slice A6 (i + 1) c6).ownBlock = none ∨ (Value.slice A6 (i + 1) c6).ownBlock ≠ (Value.slice A9 i c9).ownBlock := by
                        cases h6 : (Value.slice A6 (i + 1) c6).ownBlock with
                        | none => exact .inl rfl
                        | some q => exact .inr fun h => by have := (o6.lt q h6).2; have := (o9.lt q h.symm).1; omega
                      replace o9 := ownsRow_up (b' := w2.heap.size) o9 (fun q e => Nat.le_trans hS.size (o9.lt q e).1)
                      replace k11 := k11.call hq9
                      replace o6 := own_bel o6 hq9
                      have hSn := hS.trans (hq9.mono hS.size)
                      clear hS
                      refine Onward.on hSn (fun hS => ?_)
                      clear hSn
                      try simp only [Act.put, List.getElem_toArray, List.getElem_cons_succ, List.getElem_cons_zero, List.setIfInBounds_toArray, List.set_cons_zero, List.set_cons_succ]
                      clear hq9
                      refine AnyG.one (i := 12) (by kernel_rfl) rfl rfl ?_
                      refine wp_app2 (.tmp 114) (.tmp 116) 29 rfl w2.heap.size 3 i3 _ 1 8 Try.underlying29 hi3 hz3 hs3 iy3 rfl (by decide) (.slice A9 i c9) i (ints ns).flatten (by simp [Act.eval]) o9 ⟨p11, 0, none⟩ 1 1 [.int .i64 (j : Int)] (by simp [Act.eval]) rfl (bx_news k11) (by simp [Value.oneCell']) (by unfold maxLen; omega) (by omega) hS.size ?_
                      intro v12 y12 o12 g12 x12 r12
                      obtain ⟨A12, c12, rfl⟩ := own_shape o12
                      clear x12
                      rw [show (ints ns).flatten ++ [Value.int .i64 (j : Int)] = (ints (ns ++ [(j : Int)])).flatten by simp [ints]] at o12
                      replace o6 := o6.kept g12 n6_9
                      have hSn := hS.grown g12 hS.size (fun q e => (o9.lt q e).1)
                      clear hS
                      refine Onward.on hSn (fun hS => ?_)
                      clear hSn
                      try simp only [Act.put, List.getElem_toArray, List.getElem_cons_succ, List.getElem_cons_zero, List.setIfInBounds_toArray, List.set_cons_zero, List.set_cons_succ]
                      clear o9 k11 r12
                      refine AnyG.one (i := 13) (by kernel_rfl) rfl rfl ?_
                      go_simp
                      refine Onward.on hS (fun hS2 => ?_)
                      clear hS2
                      try simp only [Act.put, List.getElem_toArray, List.getElem_cons_succ, List.getElem_cons_zero, List.setIfInBounds_toArray, List.set_cons_zero, List.set_cons_succ]
                      refine AnyG.one (i := 16) (by kernel_rfl) rfl rfl ?_
                      have hSy := hS
                      go_simp
                      have hEy : EvsAt y12 b (some ea) es := Sl.below hE2 (hS.mono hbw2)
                      have hLy := I3.facts.bel hS
                      have hc := ih (zs ++ [z]) (ns ++ [(j : Int)]) A6 c6 A12 c12 u3 n2 (L ++ (upTo (f0 + c0) m).flatMap (tG st z0 z1 es ⟨kd, sh, ld, c0, c1⟩ d zs ns) ++ (upTo 0 j).flatMap (tH st z0 z1 es ⟨kd, sh, ld, c0, c1⟩ d zs ns z)) y12 (by rw [List.length_append]; have := HZ.out.1; have := HHL.out; simp; omega) (by simp; have := HZ.out; omega) (Nat.le_trans hbw2 hS.size) hEy ⟨A6, c6, A12, c12, rfl, ?_, ?_⟩ (fun x hx => ?_) hLy HBND.out
                      rotate_left
                      · rw [show (zs ++ [z]).length = i + 1 by simp; exact HZ.out.1]; exact ownsRow_up o6 (fun q e => Nat.le_trans hbw2 (o6.lt q e).1)
                      · rw [show (ns ++ [(j : Int)]).length = i + 1 by simp; exact HZ.out.2]; exact ownsRow_up o12 (fun q e => Nat.le_trans hbw2 (o12.lt q e).1)
                      · rcases List.mem_append.1 hx with hx | hx
                        · exact hzb x hx
                        · obtain rfl := List.mem_singleton.1 hx; omega
                      rw [show (zs ++ [z]).length = i + 1 by simp; exact HZ.out.1, show (ns ++ [(j : Int)]).length = i + 1 by simp; exact HZ.out.2] at hc
                      refine hc.mono ?_
                      rintro er y16 ⟨v9, n9, rfl, hF9, hg9, ho9⟩
                      clear hc
                      refine Onward.last rfl ?_
                      try simp only [Act.put, List.getElem_toArray, List.getElem_cons_succ, List.getElem_cons_zero, List.setIfInBounds_toArray, List.set_cons_zero, List.set_cons_succ]
                      refine AnyG.one (i := 17) (by kernel_rfl) rfl rfl ?_
                      go_simp
                      refine Onward.last rfl ?_
                      try simp only [Act.put, List.getElem_toArray, List.getElem_cons_succ, List.getElem_cons_zero, List.setIfInBounds_toArray, List.set_cons_zero, List.set_cons_succ]
                      refine AnyG.done (by kernel_rfl) ?_ _
                      go_simp
                      go_wp2_with fail
                      go_roundw
                      case rel => exact ⟨j + 1, n9, by go_num, by omega, by have h := HUP.out; simp only [if_true] at h; rw [h, ← List.append_assoc]; exact ⟨hF9, grown_step (grown_trans I3.gr (grown_below hSy)) hg9 I3.ow, step_own I3.ow ho9 (Nat.le_trans I3.gr.size hSy.size)⟩⟩
                      case measure => simp [intOf]; omega
                  · refine ⟨_, rfl, rfl, ?_⟩
                    go_simp
                    have k11 := Bx.new y5 3 #[.int .i64 (j : Int)]
                    have hp11 : w2.heap.size ≤ y5.heap.size := hS.size
                    replace k5 := k5.alloc (.cells #[.int .i64 (j : Int)] 3)
                    have hSn := hS.alloc hS.size (.cells #[.int .i64 (j : Int)] 3)
                    clear hS
                    refine Onward.on hSn (fun hS => ?_)
                    clear hSn
                    try simp only [Act.put, List.getElem_toArray, List.getElem_cons_succ, List.getElem_cons_zero, List.setIfInBounds_toArray, List.set_cons_zero, List.set_cons_succ]
                    obtain ⟨y11, hy11⟩ : ∃ y, y5.alloc (.cells #[.int .i64 (j : Int)] 3) = y := ⟨_, rfl⟩
                    rw [hy11] at k5 k11 hS ⊢
                    clear hy11
                    obtain ⟨p11, ep11⟩ : ∃ p, y5.heap.size = p := ⟨_, rfl⟩
                    rw [ep11] at k11 hp11 ⊢
                    clear ep11
                    refine AnyG.one (i := 3) (by kernel_rfl) rfl rfl ?_
                    go_simp
                    refine (ints_any ZA i zc zs _ (by omega) HZ.out.1 ((hZw.below hS).more hS.size)).mono ?_
                    rintro er y3 ⟨⟨A3, c3, rfl, o3⟩, hq3⟩
                    have nk5_o3 : some p5 ≠ (Value.slice A3 i c3).ownBlock := fun h => by have := (o3.lt _ h.symm).1; have := k5.lt; omega
                    have nk11_o3 : some p11 ≠ (Value.slice A3 i c3).ownBlock := fun h => by have := (o3.lt _ h.symm).1; have := k11.lt; omega
                    replace o3 := ownsRow_up (b' := w2.heap.size) o3 (fun q e => Nat.le_trans hS.size (o3.lt q e).1)
                    replace k5 := k5.call hq3
                    replace k11 := k11.call hq3
                    have hSn := hS.trans (hq3.mono hS.size)
                    clear hS
                    refine Onward.on hSn (fun hS => ?_)
                    clear hSn
                    try simp only [Act.put, List.getElem_toArray, List.getElem_cons_succ, List.getElem_cons_zero, List.setIfInBounds_toArray, List.set_cons_zero, List.set_cons_succ]
                    clear hq3
                    refine AnyG.one (i := 6) (by kernel_rfl) rfl rfl ?_
                    refine wp_app2 (.tmp 108) (.tmp 110) 29 rfl w2.heap.size 3 i3 _ 1 8 Try.underlying29 hi3 hz3 hs3 iy3 rfl (by decide) (.slice A3 i c3) i (ints zs).flatten (by simp [Act.eval]) o3 ⟨p5, 0, none⟩ 1 1 [.int .i64 z] (by simp [Act.eval]) rfl (bx_news k5) (by simp [Value.oneCell']) (by unfold maxLen; omega) (by omega) hS.size ?_
                    intro v6 y6 o6 g6 x6 r6
                    obtain ⟨A6, c6, rfl⟩ := own_shape o6
                    clear x6
                    rw [show (ints zs).flatten ++ [Value.int .i64 z] = (ints (zs ++ [z])).flatten by simp [ints]] at o6
                    replace k11 := k11.grown g6 nk11_o3
                    have hSn := hS.grown g6 hS.size (fun q e => (o3.lt q e).1)
                    clear hS
                    refine Onward.on hSn (fun hS => ?_)
                    clear hSn
                    try simp only [Act.put, List.getElem_toArray, List.getElem_cons_succ, List.getElem_cons_zero, List.setIfInBounds_toArray, List.set_cons_zero, List.set_cons_succ]
                    clear o3 k5 r6
                    refine AnyG.one (i := 9) (by kernel_rfl) rfl rfl ?_
                    go_simp
                    refine (ints_any NA i nc ns _ (by omega) HZ.out.2 ((hNw.below hS).more hS.size)).mono ?_
                    rintro er y9 ⟨⟨A9, c9, rfl, o9⟩, hq9⟩
                    have nk11_o9 : some p11 ≠ (Value.slice A9 i c9).ownBlock := fun h => by have := (o9.lt _ h.symm).1; have := k11.lt; omega
                    have n6_9 : (Value.slice A6 (i + 1) c6).ownBlock = none ∨ (Value.slice A6 (i + 1) c6).ownBlock ≠ (Value.slice A9 i c9).ownBlock := by
                      cases h6 : (Value.slice A6 (i + 1) c6).ownBlock with
                      | none => exact .inl rfl
                      | some q => exact .inr fun h => by have := (o6.lt q h6).2; have := (o9.lt q h.symm).1; omega
                    replace o9 := ownsRow_up (b' := w2.heap.size) o9 (fun q e => Nat.le_trans hS.size (o9.lt q e).1)
                    replace k11 := k11.call hq9
                    replace o6 := own_bel o6 hq9
                    have hSn := hS.trans (hq9.mono hS.size)
                    clear hS
                    refine Onward.on hSn (fun hS => ?_)
                    clear hSn
                    try simp only [Act.put, List.getElem_toArray, List.getElem_cons_succ, List.getElem_cons_zero, List.setIfInBounds_toArray, List.set_cons_zero, List.set_cons_succ]
                    clear hq9
                    refine AnyG.one (i := 12) (by kernel_rfl) rfl rfl ?_
                    refine wp_app2 (.tmp 114) (.tmp 116) 29 rfl w2.heap.size 3 i3 _ 1 8 Try.underlying29 hi3 hz3 hs3 iy3 rfl (by decide) (.slice A9 i c9) i (ints ns).flatten (by simp [Act.eval]) o9 ⟨p11, 0, none⟩ 1 1 [.int .i64 (j : Int)] (by simp [Act.eval]) rfl (bx_news k11) (by simp [Value.oneCell']) (by unfold maxLen; omega) (by omega) hS.size ?_
                    intro v12 y12 o12 g12 x12 r12
                    obtain ⟨A12, c12, rfl⟩ := own_shape o12
                    clear x12
                    rw [show (ints ns).flatten ++ [Value.int .i64 (j : Int)] = (ints (ns ++ [(j : Int)])).flatten by simp [ints]] at o12
                    replace o6 := o6.kept g12 n6_9
                    have hSn := hS.grown g12 hS.size (fun q e => (o9.lt q e).1)
                    clear hS
                    refine Onward.on hSn (fun hS => ?_)
                    clear hSn
                    try simp only [Act.put, List.getElem_toArray, List.getElem_cons_succ, List.getElem_cons_zero, List.setIfInBounds_toArray, List.set_cons_zero, List.set_cons_succ]
                    clear o9 k11 r12
                    refine AnyG.one (i := 13) (by kernel_rfl) rfl rfl ?_
                    go_simp
                    refine Onward.on hS (fun hS2 => ?_)
                    clear hS2
                    try simp only [Act.put, List.getElem_toArray, List.getElem_cons_succ, List.getElem_cons_zero, List.setIfInBounds_toArray, List.set_cons_zero, List.set_cons_succ]
                    refine AnyG.one (i := 16) (by kernel_rfl) rfl rfl ?_
                    have hSy := hS
                    go_simp
                    have hEy : EvsAt y12 b (some ea) es := Sl.below hE2 (hS.mono hbw2)
                    have hLy := I3.facts.bel hS
                    have hc := ih (zs ++ [z]) (ns ++ [(j : Int)]) A6 c6 A12 c12 u3 n2 (L ++ (upTo (f0 + c0) m).flatMap (tG st z0 z1 es ⟨kd, sh, ld, c0, c1⟩ d zs ns) ++ (upTo 0 j).flatMap (tH st z0 z1 es ⟨kd, sh, ld, c0, c1⟩ d zs ns z)) y12 (by rw [List.length_append]; have := HZ.out.1; have := HHL.out; simp; omega) (by simp; have := HZ.out; omega) (Nat.le_trans hbw2 hS.size) hEy ⟨A6, c6, A12, c12, rfl, ?_, ?_⟩ (fun x hx => ?_) hLy HBND.out
                    rotate_left
                    · rw [show (zs ++ [z]).length = i + 1 by simp; exact HZ.out.1]; exact ownsRow_up o6 (fun q e => Nat.le_trans hbw2 (o6.lt q e).1)
                    · rw [show (ns ++ [(j : Int)]).length = i + 1 by simp; exact HZ.out.2]; exact ownsRow_up o12 (fun q e => Nat.le_trans hbw2 (o12.lt q e).1)
                    · rcases List.mem_append.1 hx with hx | hx
                      · exact hzb x hx
                      · obtain rfl := List.mem_singleton.1 hx; omega
                    rw [show (zs ++ [z]).length = i + 1 by simp; exact HZ.out.1, show (ns ++ [(j : Int)]).length = i + 1 by simp; exact HZ.out.2] at hc
                    refine hc.mono ?_
                    rintro er y16 ⟨v9, n9, rfl, hF9, hg9, ho9⟩
                    clear hc
                    refine Onward.last rfl ?_
                    try simp only [Act.put, List.getElem_toArray, List.getElem_cons_succ, List.getElem_cons_zero, List.setIfInBounds_toArray, List.set_cons_zero, List.set_cons_succ]
                    refine AnyG.one (i := 17) (by kernel_rfl) rfl rfl ?_
                    go_simp
                    refine Onward.last rfl ?_
                    try simp only [Act.put, List.getElem_toArray, List.getElem_cons_succ, List.getElem_cons_zero, List.setIfInBounds_toArray, List.set_cons_zero, List.set_cons_succ]
                    refine AnyG.done (by kernel_rfl) ?_ _
                    go_simp
                    go_wp2_with fail
                    go_roundw
                    case rel => exact ⟨j + 1, n9, by go_num, by omega, by have h := HUP.out; simp only [if_true] at h; rw [h, ← List.append_assoc]; exact ⟨hF9, grown_step (grown_trans I3.gr (grown_below hSy)) hg9 I3.ow, step_own I3.ow ho9 (Nat.le_trans I3.gr.size hSy.size)⟩⟩
                    case measure => simp [intOf]; omega
                · refine ⟨_, rfl, rfl, ?_⟩
                  go_simp
                  have k11 := Bx.new y0 3 #[.int .i64 (j : Int)]
                  have hp11 : w2.heap.size ≤ y0.heap.size := hS.size
                  have hSn := hS.alloc hS.size (.cells #[.int .i64 (j : Int)] 3)
                  clear hS
                  refine Onward.on hSn (fun hS => ?_)
                  clear hSn
                  try simp only [Act.put, List.getElem_toArray, List.getElem_cons_succ, List.getElem_cons_zero, List.setIfInBounds_toArray, List.set_cons_zero, List.set_cons_succ]
                  obtain ⟨y11, hy11⟩ : ∃ y, y0.alloc (.cells #[.int .i64 (j : Int)] 3) = y := ⟨_, rfl⟩
                  rw [hy11] at k11 hS ⊢
                  clear hy11
                  obtain ⟨p11, ep11⟩ : ∃ p, y0.heap.size = p := ⟨_, rfl⟩
                  rw [ep11] at k11 hp11 ⊢
                  clear ep11
                  refine AnyG.all (rs := [3, 5]) (by kernel_rfl) (by simp) ?_
                  intro ii hii
                  simp only [List.mem_cons, List.not_mem_nil, or_false] at hii
                  rcases hii with rfl | rfl
                  · refine ⟨_, rfl, rfl, ?_⟩
                    go_simp
                    refine (ints_any ZA i zc zs _ (by omega) HZ.out.1 ((hZw.below hS).more hS.size)).mono ?_
                    rintro er y3 ⟨⟨A3, c3, rfl, o3⟩, hq3⟩
                    have nk11_o3 : some p11 ≠ (Value.slice A3 i c3).ownBlock := fun h => by have := (o3.lt _ h.symm).1; have := k11.lt; omega
                    replace o3 := ownsRow_up (b' := w2.heap.size) o3 (fun q e => Nat.le_trans hS.size (o3.lt q e).1)
                    replace k11 := k11.call hq3
                    have hSn := hS.trans (hq3.mono hS.size)
                    clear hS
                    refine Onward.on hSn (fun hS => ?_)
                    clear hSn
                    try simp only [Act.put, List.getElem_toArray, List.getElem_cons_succ, List.getElem_cons_zero, List.setIfInBounds_toArray, List.set_cons_zero, List.set_cons_succ]
                    clear hq3
                    refine AnyG.one (i := 5) (by kernel_rfl) rfl rfl ?_
                    go_simp
                    have k5 := Bx.new y3 3 #[.int .i64 z]
                    have hp5 : w2.heap.size ≤ y3.heap.size := hS.size
                    have nk5_o3 : some y3.heap.size ≠ (Value.slice A3 i c3).ownBlock := fun h => by have := (o3.lt _ h.symm).2; omega
                    replace o3 := o3.alloc (.cells #[.int .i64 z] 3)
                    replace k11 := k11.alloc (.cells #[.int .i64 z] 3)
                    have hSn := hS.alloc hS.size (.cells #[.int .i64 z] 3)
                    clear hS
                    refine Onward.on hSn (fun hS => ?_)
                    clear hSn
                    try simp only [Act.put, List.getElem_toArray, List.getElem_cons_succ, List.getElem_cons_zero, List.setIfInBounds_toArray, List.set_cons_zero, List.set_cons_succ]
                    obtain ⟨y5, hy5⟩ : ∃ y, y3.alloc (.cells #[.int .i64 z] 3) = y := ⟨_, rfl⟩
                    rw [hy5] at o3 k11 k5 hS ⊢
                    clear hy5
                    obtain ⟨p5, ep5⟩ : ∃ p, y3.heap.size = p := ⟨_, rfl⟩
                    rw [ep5] at k5 hp5 nk5_o3 ⊢
                    clear ep5
                    refine AnyG.one (i := 6) (by kernel_rfl) rfl rfl ?_
                    refine wp_app2 (.tmp 108) (.tmp 110) 29 rfl w2.heap.size 3 i3 _ 1 8 Try.underlying29 hi3 hz3 hs3 iy3 rfl (by decide) (.slice A3 i c3) i (ints zs).flatten (by simp [Act.eval]) o3 ⟨p5, 0, none⟩ 1 1 [.int .i64 z] (by simp [Act.eval]) rfl (bx_news k5) (by simp [Value.oneCell']) (by unfold maxLen; omega) (by omega) hS.size ?_
                    intro v6 y6 o6 g6 x6 r6
                    obtain ⟨A6, c6, rfl⟩ := own_shape o6
                    clear x6
                    rw [show (ints zs).flatten ++ [Value.int .i64 z] = (ints (zs ++ [z])).flatten by simp [ints]] at o6
                    replace k11 := k11.grown g6 nk11_o3
                    have hSn := hS.grown g6 hS.size (fun q e => (o3.lt q e).1)
                    clear hS
                    refine Onward.on hSn (fun hS => ?_)
                    clear hSn
                    try simp only [Act.put, List.getElem_toArray, List.getElem_cons_succ, List.getElem_cons_zero, List.setIfInBounds_toArray, List.set_cons_zero, List.set_cons_succ]
                    clear o3 k5 r6
                    refine AnyG.one (i := 9) (by kernel_rfl) rfl rfl ?_
                    go_simp
                    refine (ints_any NA i nc ns _ (by omega) HZ.out.2 ((hNw.below hS).more hS.size)).mono ?_
                    rintro er y9 ⟨⟨A9, c9, rfl, o9⟩, hq9⟩
                    have nk11_o9 : some p11 ≠ (Value.slice A9 i c9).ownBlock := fun h => by have := (o9.lt _ h.symm).1; have := k11.lt; omega
                    have n6_9 : (Value.slice A6 (i + 1) c6).ownBlock = none ∨ (Value.slice A6 (i + 1) c6).ownBlock ≠ (Value.slice A9 i c9).ownBlock := by
                      cases h6 : (Value.slice A6 (i + 1) c6).ownBlock with
                      | none => exact .inl rfl
                      | some q => exact .inr fun h => by have := (o6.lt q h6).2; have := (o9.lt q h.symm).1; omega
                    replace o9 := ownsRow_up (b' := w2.heap.size) o9 (fun q e => Nat.le_trans hS.size (o9.lt q e).1)
                    replace k11 := k11.call hq9
                    replace o6 := own_bel o6 hq9
                    have hSn := hS.trans (hq9.mono hS.size)
                    clear hS
                    refine Onward.on hSn (fun hS => ?_)
                    clear hSn
                    try simp only [Act.put, List.getElem_toArray, List.getElem_cons_succ, List.getElem_cons_zero, List.setIfInBounds_toArray, List.set_cons_zero, List.set_cons_succ]
                    clear hq9
                    refine AnyG.one (i := 12) (by kernel_rfl) rfl rfl ?_
                    refine wp_app2 (.tmp 114) (.tmp 116) 29 rfl w2.heap.size 3 i3 _ 1 8 Try.underlying29 hi3 hz3 hs3 iy3 rfl (by decide) (.slice A9 i c9) i (ints ns).flatten (by simp [Act.eval]) o9 ⟨p11, 0, none⟩ 1 1 [.int .i64 (j : Int)] (by simp [Act.eval]) rfl (bx_news k11) (by simp [Value.oneCell']) (by unfold maxLen; omega) (by omega) hS.size ?_
                    intro v12 y12 o12 g12 x12 r12
                    obtain ⟨A12, c12, rfl⟩ := own_shape o12
                    clear x12
                    rw [show (ints ns).flatten ++ [Value.int .i64 (j : Int)] = (ints (ns ++ [(j : Int)])).flatten by simp [ints]] at o12
                    replace o6 := o6.kept g12 n6_9
                    have hSn := hS.grown g12 hS.size (fun q e => (o9.lt q e).1)
                    clear hS
                    refine Onward.on hSn (fun hS => ?_)
                    clear hSn
                    try simp only [Act.put, List.getElem_toArray, List.getElem_cons_succ, List.getElem_cons_zero, List.setIfInBounds_toArray, List.set_cons_zero, List.set_cons_succ]
                    clear o9 k11 r12
                    refine AnyG.one (i := 13) (by kernel_rfl) rfl rfl ?_
                    go_simp
                    refine Onward.on hS (fun hS2 => ?_)
                    clear hS2
                    try simp only [Act.put, List.getElem_toArray, List.getElem_cons_succ, List.getElem_cons_zero, List.setIfInBounds_toArray, List.set_cons_zero, List.set_cons_succ]
                    refine AnyG.one (i := 16) (by kernel_rfl) rfl rfl ?_
                    have hSy := hS
                    go_simp
                    have hEy : EvsAt y12 b (some ea) es := Sl.below hE2 (hS.mono hbw2)
                    have hLy := I3.facts.bel hS
                    have hc := ih (zs ++ [z]) (ns ++ [(j : Int)]) A6 c6 A12 c12 u3 n2 (L ++ (upTo (f0 + c0) m).flatMap (tG st z0 z1 es ⟨kd, sh, ld, c0, c1⟩ d zs ns) ++ (upTo 0 j).flatMap (tH st z0 z1 es ⟨kd, sh, ld, c0, c1⟩ d zs ns z)) y12 (by rw [List.length_append]; have := HZ.out.1; have := HHL.out; simp; omega) (by simp; have := HZ.out; omega) (Nat.le_trans hbw2 hS.size) hEy ⟨A6, c6, A12, c12, rfl, ?_, ?_⟩ (fun x hx => ?_) hLy HBND.out
                    rotate_left
                    · rw [show (zs ++ [z]).length = i + 1 by simp; exact HZ.out.1]; exact ownsRow_up o6 (fun q e => Nat.le_trans hbw2 (o6.lt q e).1)
                    · rw [show (ns ++ [(j : Int)]).length = i + 1 by simp; exact HZ.out.2]; exact ownsRow_up o12 (fun q e => Nat.le_trans hbw2 (o12.lt q e).1)
                    · rcases List.mem_append.1 hx with hx | hx
                      · exact hzb x hx
                      · obtain rfl := List.mem_singleton.1 hx; omega
                    rw [show (zs ++ [z]).length = i + 1 by simp; exact HZ.out.1, show (ns ++ [(j : Int)]).length = i + 1 by simp; exact HZ.out.2] at hc
                    refine hc.mono ?_
                    rintro er y16 ⟨v9, n9, rfl, hF9, hg9, ho9⟩
                    clear hc
                    refine Onward.last rfl ?_
                    try simp only [Act.put, List.getElem_toArray, List.getElem_cons_succ, List.getElem_cons_zero, List.setIfInBounds_toArray, List.set_cons_zero, List.set_cons_succ]
                    refine AnyG.one (i := 17) (by kernel_rfl) rfl rfl ?_
                    go_simp
                    refine Onward.last rfl ?_
                    try simp only [Act.put, List.getElem_toArray, List.getElem_cons_succ, List.getElem_cons_zero, List.setIfInBounds_toArray, List.set_cons_zero, List.set_cons_succ]
                    refine AnyG.done (by kernel_rfl) ?_ _
                    go_simp
                    go_wp2_with fail
                    go_roundw
                    case rel => exact ⟨j + 1, n9, by go_num, by omega, by have h := HUP.out; simp only [if_true] at h; rw [h, ← List.append_assoc]; exact ⟨hF9, grown_step (grown_trans I3.gr (grown_below hSy)) hg9 I3.ow, step_own I3.ow ho9 (Nat.le_trans I3.gr.size hSy.size)⟩⟩
                    case measure => simp [intOf]; omega
                  · refine ⟨_, rfl, rfl, ?_⟩
                    go_simp
                    have k5 := Bx.new y11 3 #[.int .i64 z]
                    have hp5 : w2.heap.size ≤ y11.heap.size := hS.size
                    replace k11 := k11.alloc (.cells #[.int .i64 z] 3)
                    have hSn := hS.alloc hS.size (.cells #[.int .i64 z] 3)
                    clear hS
                    refine Onward.on hSn (fun hS => ?_)
                    clear hSn
                    try simp only [Act.put, List.getElem_toArray, List.getElem_cons_succ, List.getElem_cons_zero, List.setIfInBounds_toArray, List.set_cons_zero, List.set_cons_succ]
                    obtain ⟨y5, hy5⟩ : ∃ y, y11.alloc (.cells #[.int .i64 z] 3) = y := ⟨_, rfl⟩
                    rw [hy5] at k11 k5 hS ⊢
                    clear hy5
                    obtain ⟨p5, ep5⟩ : ∃ p, y11.heap.size = p := ⟨_, rfl⟩
                    rw [ep5] at k5 hp5 ⊢
                    clear ep5
                    refine AnyG.one (i := 3) (by kernel_rfl) rfl rfl ?_
                    go_simp
                    refine (ints_any ZA i zc zs _ (by omega) HZ.out.1 ((hZw.below hS).more hS.size)).mono ?_
                    rintro er y3 ⟨⟨A3, c3, rfl, o3⟩, hq3⟩
                    have nk5_o3 : some p5 ≠ (Value.slice A3 i c3).ownBlock := fun h => by have := (o3.lt _ h.symm).1; have := k5.lt; omega
                    have nk11_o3 : some p11 ≠ (Value.slice A3 i c3).ownBlock := fun h => by have := (o3.lt _ h.symm).1; have := k11.lt; omega
                    replace o3 := ownsRow_up (b' := w2.heap.size) o3 (fun q e => Nat.le_trans hS.size (o3.lt q e).1)
                    replace k5 := k5.call hq3
                    replace k11 := k11.call hq3
                    have hSn := hS.trans (hq3.mono hS.size)
                    clear hS
                    refine Onward.on hSn (fun hS => ?_)
                    clear hSn
                    try simp only [Act.put, List.getElem_toArray, List.getElem_cons_succ, List.getElem_cons_zero, List.setIfInBounds_toArray, List.set_cons_zero, List.set_cons_succ]
                    clear hq3
                    refine AnyG.one (i := 6) (by kernel_rfl) rfl rfl ?_
                    refine wp_app2 (.tmp 108) (.tmp 110) 29 rfl w2.heap.size 3 i3 _ 1 8 Try.underlying29 hi3 hz3 hs3 iy3 rfl (by decide) (.slice A3 i c3) i (ints zs).flatten (by simp [Act.eval]) o3 ⟨p5, 0, none⟩ 1 1 [.int .i64 z] (by simp [Act.eval]) rfl (bx_news k5) (by simp [Value.oneCell']) (by unfold maxLen; omega) (by omega) hS.size ?_
                    intro v6 y6 o6 g6 x6 r6
                    obtain ⟨A6, c6, rfl⟩ := own_shape o6
                    clear x6
                    rw [show (ints zs).flatten ++ [Value.int .i64 z] = (ints (zs ++ [z])).flatten by simp [ints]] at o6
                    replace k11 := k11.grown g6 nk11_o3
                    have hSn := hS.grown g6 hS.size (fun q e => (o3.lt q e).1)
                    clear hS
                    refine Onward.on hSn (fun hS => ?_)
                    clear hSn
                    try simp only [Act.put, List.getElem_toArray, List.getElem_cons_succ, List.getElem_cons_zero, List.setIfInBounds_toArray, List.set_cons_zero, List.set_cons_succ]
                    clear o3 k5 r6
                    refine AnyG.one (i := 9) (by kernel_rfl) rfl rfl ?_
                    go_simp
                    refine (ints_any NA i nc ns _ (by omega) HZ.out.2 ((hNw.below hS).more hS.size)).mono ?_
                    rintro er y9 ⟨⟨A9, c9, rfl, o9⟩, hq9⟩
                    have nk11_o9 : some p11 ≠ (Value.slice A9 i c9).ownBlock := fun h => by have := (o9.lt _ h.symm).1; have := k11.lt; omega
                    have n6_9 : (Value.slice A6 (i + 1) c6).ownBlock = none ∨ (Value.slice A6 (i + 1) c6).ownBlock ≠ (Value.slice A9 i c9).ownBlock := by
                      cases h6 : (Value.slice A6 (i + 1) c6).ownBlock with
                      | none => exact .inl rfl
                      | some q => exact .inr fun h => by have := (o6.lt q h6).2; have := (o9.lt q h.symm).1; omega
                    replace o9 := ownsRow_up (b' := w2.heap.size) o9 (fun q e => Nat.le_trans hS.size (o9.lt q e).1)
                    replace k11 := k11.call hq9
                    replace o6 := own_bel o6 hq9
                    have hSn := hS.trans (hq9.mono hS.size)
                    clear hS
                    refine Onward.on hSn (fun hS => ?_)
                    clear hSn
                    try simp only [Act.put, List.getElem_toArray, List.getElem_cons_succ, List.getElem_cons_zero, List.setIfInBounds_toArray, List.set_cons_zero, List.set_cons_succ]
                    clear hq9
                    refine AnyG.one (i := 12) (by kernel_rfl) rfl rfl ?_
                    refine wp_app2 (.tmp 114) (.tmp 116) 29 rfl w2.heap.size 3 i3 _ 1 8 Try.underlying29 hi3 hz3 hs3 iy3 rfl (by decide) (.slice A9 i c9) i (ints ns).flatten (by simp [Act.eval]) o9 ⟨p11, 0, none⟩ 1 1 [.int .i64 (j : Int)] (by simp [Act.eval]) rfl (bx_news k11) (by simp [Value.oneCell']) (by unfold maxLen; omega) (by omega) hS.size ?_
                    intro v12 y12 o12 g12 x12 r12
                    obtain ⟨A12, c12, rfl⟩ := own_shape o12
                    clear x12
                    rw [show (ints ns).flatten ++ [Value.int .i64 (j : Int)] = (ints (ns ++ [(j : Int)])).flatten by simp [ints]] at o12
                    replace o6 := o6.kept g12 n6_9
                    have hSn := hS.grown g12 hS.size (fun q e => (o9.lt q e).1)
                    clear hS
                    refine Onward.on hSn (fun hS => ?_)
                    clear hSn
                    try simp only [Act.put, List.getElem_toArray, List.getElem_cons_succ, List.getElem_cons_zero, List.setIfInBounds_toArray, List.set_cons_zero, List.set_cons_succ]
                    clear o9 k11 r12
                    refine AnyG.one (i := 13) (by kernel_rfl) rfl rfl ?_
                    go_simp
                    refine Onward.on hS (fun hS2 => ?_)
                    clear hS2
                    try simp only [Act.put, List.getElem_toArray, List.getElem_cons_succ, List.getElem_cons_zero, List.setIfInBounds_toArray, List.set_cons_zero, List.set_cons_succ]
                    refine AnyG.one (i := 16) (by kernel_rfl) rfl rfl ?_
                    have hSy := hS
                    go_simp
                    have hEy : EvsAt y12 b (some ea) es := Sl.below hE2 (hS.mono hbw2)
                    have hLy := I3.facts.bel hS
                    have hc := ih (zs ++ [z]) (ns ++ [(j : Int)]) A6 c6 A12 c12 u3 n2 (L ++ (upTo (f0 + c0) m).flatMap (tG st z0 z1 es ⟨kd, sh, ld, c0, c1⟩ d zs ns) ++ (upTo 0 j).flatMap (tH st z0 z1 es ⟨kd, sh, ld, c0, c1⟩ d zs ns z)) y12 (by rw [List.length_append]; have := HZ.out.1; have := HHL.out; simp; omega) (by simp; have := HZ.out; omega) (Nat.le_trans hbw2 hS.size) hEy ⟨A6, c6, A12, c12, rfl, ?_, ?_⟩ (fun x hx => ?_) hLy HBND.out
                    rotate_left
                    · rw [show (zs ++ [z]).length = i + 1 by simp; exact HZ.out.1]; exact ownsRow_up o6 (fun q e => Nat.le_trans hbw2 (o6.lt q e).1)
                    · rw [show (ns ++ [(j : Int)]).length = i + 1 by simp; exact HZ.out.2]; exact ownsRow_up o12 (fun q e => Nat.le_trans hbw2 (o12.lt q e).1)
                    · rcases List.mem_append.1 hx with hx | hx
                      · exact hzb x hx
                      · obtain rfl := List.mem_singleton.1 hx; omega
                    rw [show (zs ++ [z]).length = i + 1 by simp; exact HZ.out.1, show (ns ++ [(j : Int)]).length = i + 1 by simp; exact HZ.out.2] at hc
                    refine hc.mono ?_
                    rintro er y16 ⟨v9, n9, rfl, hF9, hg9, ho9⟩
                    clear hc
                    refine Onward.last rfl ?_
                    try simp only [Act.put, List.getElem_toArray, List.getElem_cons_succ, List.getElem_cons_zero, List.setIfInBounds_toArray, List.set_cons_zero, List.set_cons_succ]
                    refine AnyG.one (i := 17) (by kernel_rfl) rfl rfl ?_
                    go_simp
                    refine Onward.last rfl ?_
                    try simp only [Act.put, List.getElem_toArray, List.getElem_cons_succ, List.getElem_cons_zero, List.setIfInBounds_toArray, List.set_cons_zero, List.set_cons_succ]
                    refine AnyG.done (by kernel_rfl) ?_ _
                    go_simp
                    go_wp2_with fail
                    go_roundw
                    case rel => exact ⟨j + 1, n9, by go_num, by omega, by have h := HUP.out; simp only [if_true] at h; rw [h, ← List.append_assoc]; exact ⟨hF9, grown_step (grown_trans I3.gr (grown_below hSy)) hg9 I3.ow, step_own I3.ow ho9 (Nat.le_trans I3.gr.size hSy.size)⟩⟩
                    case measure => simp [intOf]; omega
          · obtain rfl : j = 31 := by omega
            go_wp2_with fail
            go_roundw
            case rel => exact ⟨m + 1, z + 1, n2, rfl, by omega, by omega, by rw [upTo_succ, List.flatMap_append, ← List.append_assoc, List.flatMap_singleton, ← HZZ.out]; exact I2⟩
            case measure => simp [intOf]; omega
      · go_wp2_with fail
        go_ret
        have hmm : m = (f1 + c1 - (f0 + c0) + 1).toNat := by omega
        subst hmm
        exact ⟨_, n1, rfl, I.facts, by rw [HROW.out]; exact grown_trans HGW.out I.gr, by rw [HROW.out]; exact I.ow.imp id fun h k hk => Nat.le_trans hWw1 (h k hk)⟩
end Go.Proofs.Ytgbogdckmfencaa
