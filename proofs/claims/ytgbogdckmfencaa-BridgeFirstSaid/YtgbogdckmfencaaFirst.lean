/- BridgeFirst: Conflict names the first event that contradicts those before it. -/
import Derived.Test.YtgbogdckmfencaaLo
import Derived.Test.YtgbogdckmfencaaFi
import Derived.Test.YtgbogdckmfencaaAk
set_option linter.unusedSimpArgs false
set_option linter.unusedVariables false
namespace Go.Proofs.Ytgbogdckmfencaa
open Go Go.RowKit
/-- A valid log of one's own in a box, beside a feed. -/
structure FI (g : Nat) (w : World) (st z0 z1 : Int) (bL : Nat) (A : Option Addr) (C k : Nat) (b : Int) (es : List Ev) (wr : World) : Prop where
  k8 : k ≤ 14
  len : es.length = k
  ck : ckL st z0 z1 es = 0
  sh : ∀ e ∈ es, -b ≤ e.sh ∧ e.sh ≤ b
  kL : Bx wr bL 26 #[.int .i64 st, .int .i64 z0, .int .i64 z1, .slice A k C]
  own : wr.ownsRow w.heap.size 28 5 (.slice A k C) k (es.map Ev.cells).flatten
  fd : Fd g wr
  hb : Below w.heap.size w wr
theorem FI.ft {g : Nat} {w : World} {st z0 z1 : Int} {bL : Nat} {A : Option Addr} {C k : Nat} {b : Int} {es : List Ev} {wr x : World} (I : FI g w st z0 z1 bL A C k b es wr) (h : FT g wr x) (hg : w.heap.size ≤ g) (hL : bL ≠ g) : FI g w st z0 z1 bL A C k b es x :=
  ⟨I.k8, I.len, I.ck, I.sh, h.bx I.kL hL, I.own.kept h.1 (.inr fun e => by
    obtain ⟨y, _, _, hy⟩ := I.fd
    exact own_bx I.own hy (by decide) e.symm), h.2, I.hb.grown h.1 I.hb.size (fun k e => by cases e; exact hg)⟩
theorem FI.bel {g : Nat} {w : World} {st z0 z1 : Int} {bL : Nat} {A : Option Addr} {C k : Nat} {b : Int} {es : List Ev} {wr x : World} (I : FI g w st z0 z1 bL A C k b es wr) (h : Below wr.heap.size wr x) : FI g w st z0 z1 bL A C k b es x :=
  ⟨I.k8, I.len, I.ck, I.sh, I.kL.call h, I.own.kept (grown_below (row := none) h) (by cases h : (Value.slice A k C).ownBlock <;> simp), by obtain ⟨y, h1, h2, h3⟩ := I.fd; exact ⟨y, h1, h2, h3.call h⟩, I.hb.trans (h.mono I.hb.size)⟩
theorem FI.evs {g : Nat} {w : World} {st z0 z1 : Int} {bL : Nat} {A : Option Addr} {C k : Nat} {b : Int} {es : List Ev} {wr : World} (I : FI g w st z0 z1 bL A C k b es wr) : EvsAt wr wr.heap.size A es := by
  obtain ⟨A', c', he, hs⟩ := own_sl I.own (evs_len es) (by rw [List.length_map]; exact I.len)
  simp only [Value.slice.injEq] at he
  obtain ⟨rfl, _, rfl⟩ := he
  exact hs
theorem add_q (q j : Nat) : (⟨q, 0, none⟩ : Addr).add j = ⟨q, j, none⟩ := by unfold Addr.add; split <;> simp_all
theorem FI.sh_at {g : Nat} {w : World} {st z0 z1 : Int} {bL q : Nat} {C k : Nat} {b : Int} {es : List Ev} {wr : World} (I : FI g w st z0 z1 bL (some ⟨q, 0, none⟩) C k b es wr) {r : Nat} {e : Ev} (he : es[r]? = some e) : wr.cell? ⟨q, r * 5 + 1, none⟩ = some (.int .i64 e.sh) := by
  have hr : r < es.length := (List.getElem?_eq_some_iff.1 he).1
  obtain ⟨ad, h1, _, _, h3, _⟩ := I.evs.at_ hr
  simp only [Option.some.injEq] at h1
  subst h1
  rw [add_q] at h3
  rw [List.getElem?_eq_getElem hr] at he
  rw [← Option.some.inj he]
  exact h3
theorem FI.cap {g : Nat} {w : World} {st z0 z1 : Int} {bL : Nat} {A : Option Addr} {C k : Nat} {b : Int} {es : List Ev} {wr : World} (I : FI g w st z0 z1 bL A C k b es wr) : k ≤ C := by
  rcases I.own.2 with ⟨h, h0⟩ | ⟨q', cap, cur, h, _, hg, hc, _⟩
  · omega
  · simp only [Value.slice.injEq] at h
    omega
theorem FI.row_free {g : Nat} {w : World} {st z0 z1 : Int} {bL q : Nat} {C k : Nat} {b : Int} {es : List Ev} {wr : World} (I : FI g w st z0 z1 bL (some ⟨q, 0, none⟩) C k b es wr) : ∀ o, wr.frozen? ⟨q, o, none⟩ = false := by
  rcases I.own.2 with ⟨h, _⟩ | ⟨q', cap, cur, h, _, hg, _⟩
  · simp at h
  · simp only [Value.slice.injEq, Option.some.injEq, Addr.mk.injEq, and_true, true_and] at h
    obtain ⟨rfl, rfl⟩ := h
    exact Bx.free (show Bx wr q 28 cur from hg)
set_option maxRecDepth 100000 in
set_option maxHeartbeats 8000000 in
theorem first_run (A : Option Addr) (n c : Nat) (L : List Int) (w : World) (hn : n ≤ 9000000000000000000) (hl : L.length = n) (hA : Sl w w.heap.size 1 A (ints L)) : Calls Try.prog 8 #[.slice A n c] w fun e w' => e = .returned (.bool true) ∧ Below w.heap.size w w' := by
  have HL := Lib.hid hl
  clear hl
  go_enter Try.func8, Try.ntmps8
  go_upto_region 3 with (first
    | (go_at_call 16; refine (feedOf_any A n c L _ hn HL.out hA).mono ?_; rintro e w1 ⟨⟨g, rfl, hg0, hfd⟩, hb1⟩)
    | (go_at_call 15; refine (logOf_any g 8 60 false _ hfd (by omega) (by omega) (by omega) (by omega)).mono ?_; rintro e w2 ⟨st, z0, z1, ts, z, ev, zv, nv, rfl, ⟨hs1, hs2, -, hz0, hz01, hz1⟩, hmd, hlen, hoe, hoz, hon, -, hfd2, hgr2⟩; obtain ⟨EA, EC, rfl⟩ := own_shape hoe; obtain ⟨ZA, ZC, rfl⟩ := own_shape hoz; obtain ⟨NA, NC, rfl⟩ := own_shape hon)
    | fail)
  have hBw : Below w.heap.size w w2 := hb1.grown hgr2 hb1.size (fun k e => by cases e; exact hg0)
  have hgl2 := hfd2.lt
  obtain ⟨k, hk⟩ : ∃ k, ts.length = k := ⟨_, rfl⟩
  rw [hk] at hoe hlen ⊢
  have hsz1 := hb1.size
  have I0 : FI g w st z0 z1 w2.heap.size EA EC k 600 (evsOf ts) ((w2.alloc (.cells #[.int .i64 st, .int .i64 z0, .int .i64 z1, .slice EA k EC] 26)).alloc (.cells #[.slice ZA k ZC, .slice NA k NC] 32)) :=
    ⟨by omega, by rw [← hk]; simp [evsOf], hmd.ck hs1 (by omega) hz0 hz01 hz1 (by omega) (by omega), fun e he => by have := made_sh hmd hs1 (by omega) hz0 hz1 (by omega) e he; omega, (Bx.new _ _ _).alloc _, ((ownsRow_up hoe (fun q e => by have := hoe.lt q e; omega)).alloc _).alloc _, (hfd2.alloc _).alloc _, (hBw.alloc hBw.size _).alloc (by have := hBw.size; simp; omega) _⟩
  clear hoe hoz hon hfd hgr2 hmd
  obtain ⟨V, hV⟩ : ∃ V, (w2.alloc (.cells #[.int .i64 st, .int .i64 z0, .int .i64 z1, .slice EA k EC] 26)).alloc (.cells #[.slice ZA k ZC, .slice NA k NC] 32) = V := ⟨_, rfl⟩
  rw [hV] at I0 ⊢
  clear hV hlen
  obtain ⟨bL, hbL⟩ : ∃ b, w2.heap.size = b := ⟨_, rfl⟩
  have hwL : w.heap.size ≤ bL := by rw [← hbL]; exact hBw.size
  have hgL : g < bL := by rw [← hbL]; exact hgl2
  rw [hbL] at I0 ⊢
  clear hBw hgl2
  obtain ⟨es0, hes0⟩ : ∃ x, evsOf ts = x := ⟨_, rfl⟩
  rw [hes0] at I0
  clear hes0 hk
  have HI := Lib.hid I0
  clear I0
  go_cut [31] (fun v wr => ∃ b : Bool, v = .bool b ∧ (b = true → 0 < k) ∧ FI g w st z0 z1 bL EA EC k 600 es0 wr)
  case first =>
    obtain ⟨l0, l1, l2, l3, lf, lz⟩ := HI.out.kL.four
    by_cases hk : 0 < k
    · go_wp2_with (first | (go_at_call 37; refine (often_any g _ _ _ HI.out.fd (by omega) (by omega)).mono ?_; rintro e w5 ⟨⟨q, rfl⟩, hf5, hg5⟩; have I5 := HI.out.ft ⟨hg5, hf5⟩ hg0 (by omega)) | fail)
      go_meet
      exact ⟨q, rfl, fun _ => hk, I5⟩
    · obtain rfl : k = 0 := by omega
      go_wp2_with fail
      go_meet
      exact ⟨false, rfl, by simp, HI.out⟩
  case rest =>
    clear HI
    obtain ⟨b, rfl, hb, I⟩ := hcut
    have HI := Lib.hid I
    have HB := Lib.hid hb
    clear I hb
    go_upto_if 31 with fail
    go_cut [4] (fun v wr => v = .pointer (some ⟨bL, 0, none⟩) ∧ ∃ es, FI g w st z0 z1 bL EA EC k 1200 es wr)
    case first =>
      cases b
      · go_wp2_with fail
        go_meet
        have I := HI.out
        exact ⟨rfl, es0, I.k8, I.len, I.ck, fun e he => by have := I.sh e he; omega, I.kL, I.own, I.fd, I.hb⟩
      · have hk : 0 < k := HB.out rfl
        have hk8 := HI.out.k8
        obtain ⟨q, rfl⟩ : ∃ q, EA = some ⟨q, 0, none⟩ := by
          rcases HI.out.own.2 with ⟨h, h0⟩ | ⟨q, cap, cur, h, _⟩
          · omega
          · simp only [Value.slice.injEq] at h; exact ⟨q, h.1⟩
        go_wp2_with fail
        refine AnyG.start (FT g wc) (fun i => true) (by kernel_rfl) ?_
        have hS : (FT g wc) (World.drew _) := ⟨grown_drew _ _, HI.out.fd.drew⟩
        refine AnyG.take (i := 0) (v := ?_) rfl (by kernel_rfl) (fun _ _ _ h => h) rfl ?_ hS ?_
        rotate_left
        · (intro w' hSw; (try dsimp only at hSw); go_simp; try with_reducible rfl)
        try simp only [Act.put, List.getElem_toArray, List.getElem_cons_succ, List.getElem_cons_zero, List.setIfInBounds_toArray, List.set_cons_zero, List.set_cons_succ]
        refine AnyG.take (i := 1) (v := ?_) rfl (by kernel_rfl) (fun _ _ _ h => h) rfl ?_ hS ?_
        rotate_left
        · (intro w' hSw; (try dsimp only at hSw); obtain ⟨l0, l1, l2, l3, lf, lz⟩ := (hSw.bx HI.out.kL (by omega)).four; go_simp; try with_reducible rfl)
        try simp only [Act.put, List.getElem_toArray, List.getElem_cons_succ, List.getElem_cons_zero, List.setIfInBounds_toArray, List.set_cons_zero, List.set_cons_succ]
        refine AnyG.take (i := 2) (v := ?_) rfl (by kernel_rfl) (fun _ _ _ h => h) rfl ?_ hS ?_
        rotate_left
        · (intro w' hSw; (try dsimp only at hSw); go_simp; try with_reducible rfl)
        try simp only [Act.put, List.getElem_toArray, List.getElem_cons_succ, List.getElem_cons_zero, List.setIfInBounds_toArray, List.set_cons_zero, List.set_cons_succ]
        refine AnyG.take (i := 3) (v := ?_) rfl (by kernel_rfl) (fun _ _ _ h => h) rfl ?_ hS ?_
        rotate_left
        · (intro w' hSw; (try dsimp only at hSw); go_simp; try with_reducible rfl)
        try simp only [Act.put, List.getElem_toArray, List.getElem_cons_succ, List.getElem_cons_zero, List.setIfInBounds_toArray, List.set_cons_zero, List.set_cons_succ]
        refine AnyG.take (i := 4) (v := ?_) rfl (by kernel_rfl) (fun _ _ _ h => h) rfl ?_ hS ?_
        rotate_left
        · (intro w' hSw; (try dsimp only at hSw); obtain ⟨l0, l1, l2, l3, lf, lz⟩ := (hSw.bx HI.out.kL (by omega)).four; go_simp; try with_reducible rfl)
        try simp only [Act.put, List.getElem_toArray, List.getElem_cons_succ, List.getElem_cons_zero, List.setIfInBounds_toArray, List.set_cons_zero, List.set_cons_succ]
        refine AnyG.take (i := 5) (v := ?_) rfl (by kernel_rfl) (fun _ _ _ h => h) rfl ?_ hS ?_
        rotate_left
        · (intro w' hSw; (try dsimp only at hSw); go_simp; try with_reducible rfl)
        try simp only [Act.put, List.getElem_toArray, List.getElem_cons_succ, List.getElem_cons_zero, List.setIfInBounds_toArray, List.set_cons_zero, List.set_cons_succ]
        refine AnyG.one (i := 6) (by kernel_rfl) rfl rfl ?_
        go_simp
        refine (below_any g _ _ hS.2 (by omega) (by omega)).mono ?_
        rintro e x1 ⟨⟨r0, rfl, hr1, hr2⟩, hf, hg⟩
        obtain ⟨r, rfl⟩ := Int.eq_ofNat_of_zero_le hr1
        have hrk : r < k := by omega
        refine Onward.on ⟨grown_trans hS.1 hg, hf⟩ (fun hS2 => ?_)
        clear hS
        have hS := hS2
        clear hS2
        try simp only [Act.put, List.getElem_toArray, List.getElem_cons_succ, List.getElem_cons_zero, List.setIfInBounds_toArray, List.set_cons_zero, List.set_cons_succ]
        refine AnyG.take (i := 7) (v := ?_) rfl (by kernel_rfl) (fun _ _ _ h => h) rfl ?_ hS ?_
        rotate_left
        · (intro w' hSw; (try dsimp only at hSw); go_simp; try with_reducible rfl)
        try simp only [Act.put, List.getElem_toArray, List.getElem_cons_succ, List.getElem_cons_zero, List.setIfInBounds_toArray, List.set_cons_zero, List.set_cons_succ]
        refine AnyG.take (i := 8) (v := ?_) rfl (by kernel_rfl) (fun _ _ _ h => h) rfl ?_ hS ?_
        rotate_left
        · (intro w' hSw; (try dsimp only at hSw); go_simp; try with_reducible rfl)
        try simp only [Act.put, List.getElem_toArray, List.getElem_cons_succ, List.getElem_cons_zero, List.setIfInBounds_toArray, List.set_cons_zero, List.set_cons_succ]
        refine AnyG.done (by kernel_rfl) ?_ _
        go_simp
        go_wp2_with fail
        have hI1 := Lib.hid (HI.out.ft hS hg0 (by omega))
        have hre : r < es0.length := by rw [HI.out.len]; exact hrk
        obtain ⟨e, he⟩ : ∃ e, es0[r]? = some e := ⟨_, List.getElem?_eq_getElem hre⟩
        have HE := Lib.hid he
        have hsb := HI.out.sh e (List.mem_of_getElem? he)
        clear he hre hS hf hg HI
        refine AnyG.start (FT g x1) (fun i => i != 14) (by kernel_rfl) ?_
        have hS : (FT g x1) (World.drew _) := ⟨grown_drew _ _, hI1.out.fd.drew⟩
        refine AnyG.take (i := 0) (v := ?_) rfl (by kernel_rfl) (fun _ _ _ h => h) rfl ?_ hS ?_
        rotate_left
        · (intro w' hSw; (try dsimp only at hSw); go_simp; try with_reducible rfl)
        try simp only [Act.put, List.getElem_toArray, List.getElem_cons_succ, List.getElem_cons_zero, List.setIfInBounds_toArray, List.set_cons_zero, List.set_cons_succ]
        refine AnyG.take (i := 1) (v := ?_) rfl (by kernel_rfl) (fun _ _ _ h => h) rfl ?_ hS ?_
        rotate_left
        · (intro w' hSw; (try dsimp only at hSw); go_simp; try with_reducible rfl)
        try simp only [Act.put, List.getElem_toArray, List.getElem_cons_succ, List.getElem_cons_zero, List.setIfInBounds_toArray, List.set_cons_zero, List.set_cons_succ]
        refine AnyG.take (i := 2) (v := ?_) rfl (by kernel_rfl) (fun _ _ _ h => h) rfl ?_ hS ?_
        rotate_left
        · (intro w' hSw; (try dsimp only at hSw); go_simp; try with_reducible rfl)
        try simp only [Act.put, List.getElem_toArray, List.getElem_cons_succ, List.getElem_cons_zero, List.setIfInBounds_toArray, List.set_cons_zero, List.set_cons_succ]
        refine AnyG.take (i := 3) (v := ?_) rfl (by kernel_rfl) (fun _ _ _ h => h) rfl ?_ hS ?_
        rotate_left
        · (intro w' hSw; (try dsimp only at hSw); go_simp; try with_reducible rfl)
        try simp only [Act.put, List.getElem_toArray, List.getElem_cons_succ, List.getElem_cons_zero, List.setIfInBounds_toArray, List.set_cons_zero, List.set_cons_succ]
        refine AnyG.take (i := 4) (v := ?_) rfl (by kernel_rfl) (fun _ _ _ h => h) rfl ?_ hS ?_
        rotate_left
        · (intro w' hSw; (try dsimp only at hSw); have p1 := (hI1.out.ft hSw hg0 (by omega)).sh_at HE.out; go_simp; try with_reducible rfl)
        try simp only [Act.put, List.getElem_toArray, List.getElem_cons_succ, List.getElem_cons_zero, List.setIfInBounds_toArray, List.set_cons_zero, List.set_cons_succ]
        refine AnyG.take (i := 5) (v := ?_) rfl (by kernel_rfl) (fun _ _ _ h => h) rfl ?_ hS ?_
        rotate_left
        · (intro w' hSw; (try dsimp only at hSw); go_simp; try with_reducible rfl)
        try simp only [Act.put, List.getElem_toArray, List.getElem_cons_succ, List.getElem_cons_zero, List.setIfInBounds_toArray, List.set_cons_zero, List.set_cons_succ]
        refine AnyG.take (i := 8) (v := ?_) rfl (by kernel_rfl) (fun _ _ _ h => h) rfl ?_ hS ?_
        rotate_left
        · (intro w' hSw; (try dsimp only at hSw); go_simp; try with_reducible rfl)
        try simp only [Act.put, List.getElem_toArray, List.getElem_cons_succ, List.getElem_cons_zero, List.setIfInBounds_toArray, List.set_cons_zero, List.set_cons_succ]
        refine AnyG.take (i := 9) (v := ?_) rfl (by kernel_rfl) (fun _ _ _ h => h) rfl ?_ hS ?_
        rotate_left
        · (intro w' hSw; (try dsimp only at hSw); obtain ⟨l0, l1, l2, l3, lf, lz⟩ := (hSw.bx hI1.out.kL (by omega)).four; go_simp; try with_reducible rfl)
        try simp only [Act.put, List.getElem_toArray, List.getElem_cons_succ, List.getElem_cons_zero, List.setIfInBounds_toArray, List.set_cons_zero, List.set_cons_succ]
        refine AnyG.one (i := 6) (by kernel_rfl) rfl rfl ?_
        go_simp
        have kb6 := Bx.new x1.drew 3 #[.int .i64 (-3), .int .i64 (-1), .int .i64 1, .int .i64 2]
        refine Onward.on (hS.alloc _) (fun hS2 => ?_)
        clear hS
        have hS := hS2
        clear hS2
        try simp only [Act.put, List.getElem_toArray, List.getElem_cons_succ, List.getElem_cons_zero, List.setIfInBounds_toArray, List.set_cons_zero, List.set_cons_succ]
        refine AnyG.one (i := 7) (by kernel_rfl) rfl rfl ?_
        go_simp
        refine (either_any g _ 4 _ (fun d => d = -3 ∨ d = -1 ∨ d = 1 ∨ d = 2) _ hS.2 kb6 (by have := hI1.out.fd.lt; simp; omega) (by omega) (by omega) (bx4 _ (by omega) (by omega) (by omega) (by omega))).mono ?_
        rintro e7 x2 ⟨⟨d, rfl, hd⟩, hf, hg⟩
        have hmul : -60 ≤ d * st ∧ d * st ≤ 40 := by rcases hd with rfl | rfl | rfl | rfl <;> omega
        clear hd
        refine Onward.on (hS.call hg hf) (fun hS2 => ?_)
        clear hS
        have hS := hS2
        clear hS2
        try simp only [Act.put, List.getElem_toArray, List.getElem_cons_succ, List.getElem_cons_zero, List.setIfInBounds_toArray, List.set_cons_zero, List.set_cons_succ]
        refine AnyG.take (i := 10) (v := ?_) rfl (by kernel_rfl) (fun _ _ _ h => h) rfl ?_ hS ?_
        rotate_left
        · (intro w' hSw; (try dsimp only at hSw); go_simp; try with_reducible rfl)
        try simp only [Act.put, List.getElem_toArray, List.getElem_cons_succ, List.getElem_cons_zero, List.setIfInBounds_toArray, List.set_cons_zero, List.set_cons_succ]
        refine AnyG.take (i := 11) (v := ?_) rfl (by kernel_rfl) (fun _ _ _ h => h) rfl ?_ hS ?_
        rotate_left
        · (intro w' hSw; (try dsimp only at hSw); go_simp; try with_reducible rfl)
        try simp only [Act.put, List.getElem_toArray, List.getElem_cons_succ, List.getElem_cons_zero, List.setIfInBounds_toArray, List.set_cons_zero, List.set_cons_succ]
        refine AnyG.one (i := 12) (by kernel_rfl) rfl rfl ?_
        go_simp
        refine Onward.on hS (fun hS2 => ?_)
        clear hS
        have hS := hS2
        clear hS2
        try simp only [Act.put, List.getElem_toArray, List.getElem_cons_succ, List.getElem_cons_zero, List.setIfInBounds_toArray, List.set_cons_zero, List.set_cons_succ]
        refine AnyG.one (i := 13) (by kernel_rfl) rfl rfl ?_
        go_simp
        refine Onward.on hS (fun hS2 => ?_)
        clear hS
        have hS := hS2
        clear hS2
        try simp only [Act.put, List.getElem_toArray, List.getElem_cons_succ, List.getElem_cons_zero, List.setIfInBounds_toArray, List.set_cons_zero, List.set_cons_succ]
        refine AnyG.one (i := 14) (by kernel_rfl) rfl rfl ?_
        have HS := Lib.hid hS
        clear hS
        have p1 := (hI1.out.ft HS.out hg0 (by omega)).sh_at HE.out
        have pf := (hI1.out.ft HS.out hg0 (by omega)).row_free
        go_simp
        have hS := HS.out
        refine Onward.last rfl ?_
        try simp only [Act.put, List.getElem_toArray, List.getElem_cons_succ, List.getElem_cons_zero, List.setIfInBounds_toArray, List.set_cons_zero, List.set_cons_succ]
        refine AnyG.done (by kernel_rfl) ?_ _
        go_simp
        go_wp2_with fail
        go_meet
        refine ⟨rfl, es0.set r { e with sh := e.sh + d * st }, ?_⟩
        have I := hI1.out.ft hS hg0 (by omega)
        have hwr : IntKind.i64.wrap (e.sh + IntKind.i64.wrap (d * st)) = e.sh + d * st := by rw [IntWalk.i64_in (d * st) (by omega), IntWalk.i64_in _ (by omega)]
        have heb : ckE st e = 0 := ckEs_mem.1 (ckEs_all (ckL_iff.1 I.ck).2.2.2.2) e (List.mem_of_getElem? HE.out)
        refine ⟨I.k8, by rw [List.length_set]; exact I.len, ckL_set I.ck r (ckE_more heb d (by omega) (by omega)), fun x hx => ?_, ?_, ?_, ?_, ?_⟩
        · rcases List.mem_or_eq_of_mem_set hx with hx | rfl
          · have := I.sh x hx; omega
          · dsimp only; omega
        · exact I.kL.far (by simp; exact fun h => own_bx I.own I.kL (by decide) (by rw [h]; rfl)) _
        · rw [hwr, ← evs_set_sh _ _ _ HE.out]
          exact own_store I.own (r * 5 + 1) _ (by omega)
        · obtain ⟨y, y1, y2, y3⟩ := I.fd
          exact ⟨y, y1, y2, y3.far (by simp; exact fun h => own_bx I.own y3 (by decide) (by rw [h]; rfl)) _⟩
        · exact I.hb.setCell (I.own.lt q rfl).1 _
    case rest =>
      clear HI HB
      obtain ⟨rfl, es, I⟩ := hcut
      obtain ⟨l0, l1, l2, l3, lf, lz⟩ := I.kL.four
      have hI := Lib.hid I
      clear I
      obtain ⟨m, hfit⟩ := fits_some st z0 z1 es
      have HM := Lib.hid hfit
      clear hfit
      have hmk : m ≤ k := by have := HM.out.le; have := hI.out.len; omega
      by_cases hm : m = k
      · subst hm
        go_wp2_with (first
          | (go_at_call 20; refine (conflict_ok st z0 z1 EA m EC es _ hI.out.len hI.out.evs hI.out.ck HM.out).mono ?_; rintro e x1 ⟨rfl, hq1⟩; have hI1 := Lib.hid (hI.out.bel hq1); clear l0 l1 l2 l3 lf lz; obtain ⟨l0, l1, l2, l3, lf, lz⟩ := hI1.out.kL.four)
          | (go_at_call 18; refine (zeros_all st z0 z1 EA m EC es _ hI1.out.len hI1.out.evs hI1.out.ck (by rw [← hI1.out.len]; rw [hI1.out.len]; exact HM.out)).mono ?_; rintro e x2 ⟨⟨A', c', rfl, -⟩, hq2⟩; have hI2 := Lib.hid (hI1.out.bel hq2))
          | (go_at_call 14; refine (awake_any _).mono ?_; rintro e x3 ⟨rfl, hq3⟩; have hI3 := Lib.hid (hI2.out.bel hq3))
          | fail)
        go_ret
        exact ⟨rfl, hI3.out.hb⟩
      · have hmk2 : m < k := by omega
        go_wp2_with (first
          | (go_at_call 20; refine (conflict_at st z0 z1 EA k EC es _ hI.out.len hI.out.evs hI.out.ck m HM.out hmk2).mono ?_; rintro e x1 ⟨rfl, hq1⟩; have hI1 := Lib.hid (hI.out.bel hq1); clear l0 l1 l2 l3 lf lz; obtain ⟨l0, l1, l2, l3, lf, lz⟩ := hI1.out.kL.four)
          | (go_at_call 18; refine (zeros_none st z0 z1 EA k EC es _ hI1.out.len hI1.out.evs hI1.out.ck m HM.out hmk2).mono ?_; rintro e x2 ⟨rfl, hq2⟩; have hI2 := Lib.hid (hI1.out.bel hq2); clear l0 l1 l2 l3 lf lz; obtain ⟨l0, l1, l2, l3, lf, lz⟩ := hI2.out.kL.four)
          | fail)
        go_upto_region 12 with fail
        clear l0 l1 l2 l3 lf lz
        have hx2 := hI2.out.kL.lt
        go_cut [11, 12] (fun v11 v12 wr => ∃ p q : Nat, v11 = .pointer (some ⟨p, 0, none⟩) ∧ v12 = .pointer (some ⟨q, 0, none⟩) ∧ p ≠ q ∧ x2.heap.size ≤ p ∧ x2.heap.size ≤ q ∧ Bx wr p 26 #[.int .i64 st, .int .i64 z0, .int .i64 z1, .slice EA k EC] ∧ Bx wr q 26 #[.int .i64 st, .int .i64 z0, .int .i64 z1, .slice EA k EC] ∧ Below x2.heap.size x2 wr)
        case first =>
          refine AnyG.start (fun w' : World => Below x2.heap.size x2 w') (fun i => true) (by kernel_rfl) ?_
          have hS : (fun w' : World => Below x2.heap.size x2 w') (World.drew _) := (Below.refl _ _).drew
          refine AnyG.take (i := 0) (v := ?_) rfl (by kernel_rfl) (fun _ _ _ h => h) rfl ?_ hS ?_
          rotate_left
          · (intro w' hSw; (try dsimp only at hSw); obtain ⟨l0, l1, l2, l3, lf, lz⟩ := (hI2.out.kL.call hSw).four; go_simp; try with_reducible rfl)
          try simp only [Act.put, List.getElem_toArray, List.getElem_cons_succ, List.getElem_cons_zero, List.setIfInBounds_toArray, List.set_cons_zero, List.set_cons_succ]
          refine AnyG.take (i := 1) (v := ?_) rfl (by kernel_rfl) (fun _ _ _ h => h) rfl ?_ hS ?_
          rotate_left
          · (intro w' hSw; (try dsimp only at hSw); obtain ⟨l0, l1, l2, l3, lf, lz⟩ := (hI2.out.kL.call hSw).four; go_simp; try with_reducible rfl)
          try simp only [Act.put, List.getElem_toArray, List.getElem_cons_succ, List.getElem_cons_zero, List.setIfInBounds_toArray, List.set_cons_zero, List.set_cons_succ]
          refine AnyG.all (rs := [2, 3]) (by kernel_rfl) (by simp) ?_
          intro i hi
          simp only [List.mem_cons, List.not_mem_nil, or_false] at hi
          rcases hi with rfl | rfl
          · refine ⟨_, rfl, rfl, ?_⟩
            go_simp
            refine Onward.on (Below.alloc hS (Nat.le_of_eq rfl) _) (fun hS2 => ?_)
            clear hS
            have hS := hS2
            clear hS2
            try simp only [Act.put, List.getElem_toArray, List.getElem_cons_succ, List.getElem_cons_zero, List.setIfInBounds_toArray, List.set_cons_zero, List.set_cons_succ]
            refine AnyG.one (i := 3) (by kernel_rfl) rfl rfl ?_
            go_simp
            refine Onward.on (Below.alloc hS hS.size _) (fun hS2 => ?_)
            clear hS
            have hS := hS2
            clear hS2
            try simp only [Act.put, List.getElem_toArray, List.getElem_cons_succ, List.getElem_cons_zero, List.setIfInBounds_toArray, List.set_cons_zero, List.set_cons_succ]
            refine AnyG.one (i := 4) (by kernel_rfl) rfl rfl ?_
            go_simp
            refine Onward.on ((((Below.refl _ _).alloc (Nat.le_refl _) _).alloc (by simp) _).drew) (fun hS2 => ?_)
            clear hS2
            try simp only [Act.put, List.getElem_toArray, List.getElem_cons_succ, List.getElem_cons_zero, List.setIfInBounds_toArray, List.set_cons_zero, List.set_cons_succ]
            refine AnyG.one (i := 5) (by kernel_rfl) rfl rfl ?_
            go_simp
            refine Onward.on ((((Below.refl _ _).alloc (Nat.le_refl _) _).alloc (by simp) _).drew) (fun hS2 => ?_)
            clear hS2
            try simp only [Act.put, List.getElem_toArray, List.getElem_cons_succ, List.getElem_cons_zero, List.setIfInBounds_toArray, List.set_cons_zero, List.set_cons_succ]
            clear hS
            refine AnyG.done (by kernel_rfl) ?_ _
            go_simp
            go_wp2_with fail
            go_meet
            exact ⟨_, _, rfl, rfl, by omega, by omega, by omega, ((Bx.new x2 26 #[.int .i64 st, .int .i64 z0, .int .i64 z1, .slice EA k EC]).alloc (.cells #[.int .i64 st, .int .i64 z0, .int .i64 z1, .slice EA k EC] 26)).drew, (Bx.at (x2.alloc (.cells #[.int .i64 st, .int .i64 z0, .int .i64 z1, .slice EA k EC] 26)) 26 #[.int .i64 st, .int .i64 z0, .int .i64 z1, .slice EA k EC] (n := x2.heap.size + 1) (by simp)).drew, (((Below.refl _ _).alloc (Nat.le_refl _) _).alloc (by simp) _).drew⟩
          · refine ⟨_, rfl, rfl, ?_⟩
            go_simp
            refine Onward.on (Below.alloc hS (Nat.le_of_eq rfl) _) (fun hS2 => ?_)
            clear hS
            have hS := hS2
            clear hS2
            try simp only [Act.put, List.getElem_toArray, List.getElem_cons_succ, List.getElem_cons_zero, List.setIfInBounds_toArray, List.set_cons_zero, List.set_cons_succ]
            refine AnyG.one (i := 2) (by kernel_rfl) rfl rfl ?_
            go_simp
            refine Onward.on (Below.alloc hS hS.size _) (fun hS2 => ?_)
            clear hS
            have hS := hS2
            clear hS2
            try simp only [Act.put, List.getElem_toArray, List.getElem_cons_succ, List.getElem_cons_zero, List.setIfInBounds_toArray, List.set_cons_zero, List.set_cons_succ]
            refine AnyG.one (i := 4) (by kernel_rfl) rfl rfl ?_
            go_simp
            refine Onward.on ((((Below.refl _ _).alloc (Nat.le_refl _) _).alloc (by simp) _).drew) (fun hS2 => ?_)
            clear hS2
            try simp only [Act.put, List.getElem_toArray, List.getElem_cons_succ, List.getElem_cons_zero, List.setIfInBounds_toArray, List.set_cons_zero, List.set_cons_succ]
            refine AnyG.one (i := 5) (by kernel_rfl) rfl rfl ?_
            go_simp
            refine Onward.on ((((Below.refl _ _).alloc (Nat.le_refl _) _).alloc (by simp) _).drew) (fun hS2 => ?_)
            clear hS2
            try simp only [Act.put, List.getElem_toArray, List.getElem_cons_succ, List.getElem_cons_zero, List.setIfInBounds_toArray, List.set_cons_zero, List.set_cons_succ]
            clear hS
            refine AnyG.done (by kernel_rfl) ?_ _
            go_simp
            go_wp2_with fail
            go_meet
            exact ⟨_, _, rfl, rfl, by omega, by omega, by omega, (Bx.at (x2.alloc (.cells #[.int .i64 st, .int .i64 z0, .int .i64 z1, .slice EA k EC] 26)) 26 #[.int .i64 st, .int .i64 z0, .int .i64 z1, .slice EA k EC] (n := x2.heap.size + 1) (by simp)).drew, ((Bx.new x2 26 #[.int .i64 st, .int .i64 z0, .int .i64 z1, .slice EA k EC]).alloc (.cells #[.int .i64 st, .int .i64 z0, .int .i64 z1, .slice EA k EC] 26)).drew, (((Below.refl _ _).alloc (Nat.le_refl _) _).alloc (by simp) _).drew⟩
        case rest =>
          obtain ⟨p, q, rfl, rfl, hpq, hp, hq, kp, kq, hq3⟩ := hcut
          have hI3 := Lib.hid (hI2.out.bel hq3)
          have hpb : bL ≠ p := by omega
          have hqb : bL ≠ q := by omega
          have kL := hI3.out.kL
          have hk14 := hI3.out.k8
          have hmEC : m ≤ EC := by have := hI3.out.cap; omega
          have hm1EC : m + 1 ≤ EC := by have := hI3.out.cap; omega
          have hwm : IntKind.i64.wrap ((m : Int) + 1) = (m : Int) + 1 := IntWalk.i64_in _ (by omega)
          have htn : ((m : Int) + 1).toNat = m + 1 := by omega
          have hib : (m : Int) + 1 ≤ (EC : Int) := by omega
          have hi0 : (0 : Int) ≤ (m : Int) + 1 := by omega
          go_wp2_with fail
          refine AnyG.start (fun w' : World => Below x2.heap.size x2 w' ∧ Bx w' bL 26 #[.int .i64 st, .int .i64 z0, .int .i64 z1, .slice EA k EC]) (fun i => true) (by kernel_rfl) ?_
          have hS : (fun w' : World => Below x2.heap.size x2 w' ∧ Bx w' bL 26 #[.int .i64 st, .int .i64 z0, .int .i64 z1, .slice EA k EC]) (World.drew _) := ⟨hq3.drew, kL.drew⟩
          refine AnyG.take (i := 0) (v := ?_) rfl (by kernel_rfl) (fun _ _ _ h => h) rfl ?_ hS ?_
          rotate_left
          · (intro w' hSw; (try dsimp only at hSw); go_simp; try with_reducible rfl)
          try simp only [Act.put, List.getElem_toArray, List.getElem_cons_succ, List.getElem_cons_zero, List.setIfInBounds_toArray, List.set_cons_zero, List.set_cons_succ]
          refine AnyG.take (i := 1) (v := ?_) rfl (by kernel_rfl) (fun _ _ _ h => h) rfl ?_ hS ?_
          rotate_left
          · (intro w' hSw; (try dsimp only at hSw); obtain ⟨l0, l1, l2, l3, lf, lz⟩ := hSw.2.four; go_simp; try with_reducible rfl)
          try simp only [Act.put, List.getElem_toArray, List.getElem_cons_succ, List.getElem_cons_zero, List.setIfInBounds_toArray, List.set_cons_zero, List.set_cons_succ]
          refine AnyG.take (i := 2) (v := ?_) rfl (by kernel_rfl) (fun _ _ _ h => h) rfl ?_ hS ?_
          rotate_left
          · (intro w' hSw; (try dsimp only at hSw); go_simp; try with_reducible rfl)
          try simp only [Act.put, List.getElem_toArray, List.getElem_cons_succ, List.getElem_cons_zero, List.setIfInBounds_toArray, List.set_cons_zero, List.set_cons_succ]
          refine AnyG.take (i := 4) (v := ?_) rfl (by kernel_rfl) (fun _ _ _ h => h) rfl ?_ hS ?_
          rotate_left
          · (intro w' hSw; (try dsimp only at hSw); go_simp; try with_reducible rfl)
          try simp only [Act.put, List.getElem_toArray, List.getElem_cons_succ, List.getElem_cons_zero, List.setIfInBounds_toArray, List.set_cons_zero, List.set_cons_succ]
          refine AnyG.take (i := 5) (v := ?_) rfl (by kernel_rfl) (fun _ _ _ h => h) rfl ?_ hS ?_
          rotate_left
          · (intro w' hSw; (try dsimp only at hSw); obtain ⟨l0, l1, l2, l3, lf, lz⟩ := hSw.2.four; go_simp; try with_reducible rfl)
          try simp only [Act.put, List.getElem_toArray, List.getElem_cons_succ, List.getElem_cons_zero, List.setIfInBounds_toArray, List.set_cons_zero, List.set_cons_succ]
          refine AnyG.take (i := 6) (v := ?_) rfl (by kernel_rfl) (fun _ _ _ h => h) rfl ?_ hS ?_
          rotate_left
          · (intro w' hSw; (try dsimp only at hSw); go_simp; try with_reducible rfl)
          try simp only [Act.put, List.getElem_toArray, List.getElem_cons_succ, List.getElem_cons_zero, List.setIfInBounds_toArray, List.set_cons_zero, List.set_cons_succ]
          refine AnyG.take (i := 7) (v := ?_) rfl (by kernel_rfl) (fun _ _ _ h => h) rfl ?_ hS ?_
          rotate_left
          · (intro w' hSw; (try dsimp only at hSw); go_simp; try with_reducible rfl)
          try simp only [Act.put, List.getElem_toArray, List.getElem_cons_succ, List.getElem_cons_zero, List.setIfInBounds_toArray, List.set_cons_zero, List.set_cons_succ]
          refine AnyG.take (i := 3) (v := ?_) rfl (by kernel_rfl) (fun _ _ _ h => h) rfl ?_ hS ?_
          rotate_left
          · (intro w' hSw; (try dsimp only at hSw); go_simp; try with_reducible rfl)
          try simp only [Act.put, List.getElem_toArray, List.getElem_cons_succ, List.getElem_cons_zero, List.setIfInBounds_toArray, List.set_cons_zero, List.set_cons_succ]
          refine AnyG.take (i := 8) (v := ?_) rfl (by kernel_rfl) (fun _ _ _ h => h) rfl ?_ hS ?_
          rotate_left
          · (intro w' hSw; (try dsimp only at hSw); go_simp; try with_reducible rfl)
          try simp only [Act.put, List.getElem_toArray, List.getElem_cons_succ, List.getElem_cons_zero, List.setIfInBounds_toArray, List.set_cons_zero, List.set_cons_succ]
          refine AnyG.take (i := 9) (v := ?_) rfl (by kernel_rfl) (fun _ _ _ h => h) rfl ?_ hS ?_
          rotate_left
          · (intro w' hSw; (try dsimp only at hSw); go_simp; try with_reducible rfl)
          try simp only [Act.put, List.getElem_toArray, List.getElem_cons_succ, List.getElem_cons_zero, List.setIfInBounds_toArray, List.set_cons_zero, List.set_cons_succ]
          refine AnyG.one (i := 10) (by kernel_rfl) rfl rfl ?_
          obtain ⟨m0, m1, m2, m3, mf, mz⟩ := kp.drew.four
          go_simp
          clear m0 m1 m2 m3 mf mz
          refine Onward.on ⟨hS.1.setCell (by simpa using hp) _, hS.2.far (by simpa using hpb) _⟩ (fun hS2 => ?_)
          clear hS
          have hS := hS2
          clear hS2
          try simp only [Act.put, List.getElem_toArray, List.getElem_cons_succ, List.getElem_cons_zero, List.setIfInBounds_toArray, List.set_cons_zero, List.set_cons_succ]
          refine AnyG.one (i := 11) (by kernel_rfl) rfl rfl ?_
          go_simp
          refine Onward.on hS (fun hS2 => ?_)
          clear hS
          have hS := hS2
          clear hS2
          try simp only [Act.put, List.getElem_toArray, List.getElem_cons_succ, List.getElem_cons_zero, List.setIfInBounds_toArray, List.set_cons_zero, List.set_cons_succ]
          refine AnyG.one (i := 12) (by kernel_rfl) rfl rfl ?_
          obtain ⟨m0, m1, m2, m3, mf, mz⟩ := kq.four
          go_simp
          clear m0 m1 m2 m3 mf mz
          refine Onward.on ⟨hS.1.setCell (by simpa using hq) _, hS.2.far (by simpa using hqb) _⟩ (fun hS2 => ?_)
          clear hS
          have hS := hS2
          clear hS2
          try simp only [Act.put, List.getElem_toArray, List.getElem_cons_succ, List.getElem_cons_zero, List.setIfInBounds_toArray, List.set_cons_zero, List.set_cons_succ]
          refine AnyG.done (by kernel_rfl) ?_ _
          have hI4 := Lib.hid (hI2.out.bel hS.1)
          have YP := ((kp.set_ 3 (.slice EA m EC)).far (p := ⟨q, 3, none⟩) hpq (.slice EA (m + 1) EC)).drew
          have YQ := ((kq.far (p := ⟨p, 3, none⟩) (Ne.symm hpq) (.slice EA m EC)).set_ 3 (.slice EA (m + 1) EC)).drew
          replace YP : Bx ((World.setCell (World.setCell wc ⟨p, 3, none⟩ (.slice EA m EC)) ⟨q, 3, none⟩ (.slice EA (m + 1) EC)).drew) p 26 #[.int .i64 st, .int .i64 z0, .int .i64 z1, .slice EA m EC] := by simpa using YP
          replace YQ : Bx ((World.setCell (World.setCell wc ⟨p, 3, none⟩ (.slice EA m EC)) ⟨q, 3, none⟩ (.slice EA (m + 1) EC)).drew) q 26 #[.int .i64 st, .int .i64 z0, .int .i64 z1, .slice EA (m + 1) EC] := by simpa using YQ
          go_simp
          obtain ⟨Y, hY⟩ : ∃ Y, (World.setCell (World.setCell wc ⟨p, 3, none⟩ (.slice EA m EC)) ⟨q, 3, none⟩ (.slice EA (m + 1) EC)).drew = Y := ⟨_, rfl⟩
          rw [hY] at hI4 YP YQ ⊢
          clear hY hS hI3 kL kp kq
          obtain ⟨l0, l1, l2, l3, lf, lz⟩ := YP.four
          have hmL : (es.take m).length = m := by rw [List.length_take]; have := hI4.out.len; omega
          have hmL1 : (es.take (m + 1)).length = m + 1 := by rw [List.length_take]; have := hI4.out.len; omega
          have HL1 := Lib.hid hmL
          have HL2 := Lib.hid hmL1
          clear hmL hmL1
          go_wp2_with (first
            | (go_at_call 18; first
              | (have _t := hq5; clear _t; refine (zeros_none st z0 z1 EA (m + 1) EC (es.take (m + 1)) _ HL2.out (hI5.out.evs.take _) (ckL_take hI5.out.ck _) m (fits_take1 HM.out (by rw [hI5.out.len]; exact hmk2)) (by omega)).mono ?_; rintro e x6 ⟨rfl, hq6⟩; have hI6 := Lib.hid (hI5.out.bel hq6))
              | (refine (zeros_all st z0 z1 EA m EC (es.take m) _ HL1.out (hI4.out.evs.take _) (ckL_take hI4.out.ck _) (by have := fits_take HM.out; exact this)).mono ?_; rintro e x5 ⟨⟨A5, c5, rfl, -⟩, hq5⟩; have hI5 := Lib.hid (hI4.out.bel hq5); clear l0 l1 l2 l3 lf lz; obtain ⟨l0, l1, l2, l3, lf, lz⟩ := (YQ.call hq5).four))
            | (go_at_call 14; refine (awake_any _).mono ?_; rintro e x7 ⟨rfl, hq7⟩; have hI7 := Lib.hid (hI6.out.bel hq7))
            | fail)
          go_ret
          exact ⟨rfl, hI7.out.hb⟩
end Go.Proofs.Ytgbogdckmfencaa
