/- StowageOf. -/
import Derived.Test.YtfcpjkofbejleaaYd
set_option linter.unusedSimpArgs false
set_option linter.unusedVariables false
namespace Go.Proofs.Ytfcpjkofbejleaa
open Go Go.RowKit
/-- A row of numbers that a function gives. -/
def rw_ (f : Int → Int) (n : Nat) : Array Value := ((List.range n).map fun (k : Nat) => Value.int .i64 (f k)).toArray
theorem rw_at {f : Int → Int} {n k : Nat} (hk : k < n) : (rw_ f n)[k]? = some (.int .i64 (f k)) := by
  simp [rw_, hk]
theorem rw_set {f h : Int → Int} {n k : Nat} (z : Int) (hz : z = h k) (hg : ∀ j : Int, j ≠ k → h j = f j) : (rw_ f n).setIfInBounds k (.int .i64 z) = rw_ h n := by
  subst hz
  apply Array.ext_getElem?
  intro i
  simp only [rw_, Array.getElem?_setIfInBounds, List.size_toArray, List.length_map, List.length_range, List.getElem?_toArray, List.getElem?_map]
  by_cases hi : i < n
  · rw [List.getElem?_range hi]
    by_cases hki : k = i
    · subst hki; simp [hi]
    · rw [if_neg hki]; simp only [Option.map_some]; rw [hg i (by omega)]
  · rw [List.getElem?_eq_none (by simpa using hi)]
    by_cases hki : k = i
    · subst hki; simp [hi]
    · rw [if_neg hki]; rfl
theorem rw_congr {f h : Int → Int} {n : Nat} (e : ∀ k : Nat, k < n → f k = h k) : rw_ f n = rw_ h n := by
  unfold rw_
  congr 1
  exact List.map_congr_left fun k hk => by rw [e k (List.mem_range.1 hk)]
def StPost (g : Nat) (v : Vg) (n : Nat) (w : World) (e : Ending) (w' : World) : Prop :=
  (∃ (A : Option Addr) (c : Nat) (l : List Int), e = .returned (.slice A n c) ∧ l.length = n ∧ ckSt v l = 0 ∧ Sl w' w'.heap.size 1 A (inr l)) ∧ FT g w w'
set_option maxRecDepth 100000 in
set_option maxHeartbeats 8000000 in
theorem stowageOf_any (g : Nat) (v : Vg) (p : Vp) (w : World) (h : Fd g w) (hck : ckV v = 0) (hV : VoyAt w w.heap.size v p) :
    Calls Try.prog 19 #[.pointer (some ⟨g, 0, none⟩), .agg (vcs v p)] w (StPost g v p.ln w) := by
  have hgl := h.lt
  have ho := ckV_ok hck
  have hHn := hV.hl
  have h3 : p.hn ≤ 3 := by rw [← hHn]; exact ho.h3
  have h1 : 1 ≤ p.hn := by rw [← hHn]; exact ho.h1
  have h6 : p.ln ≤ 6 := by rw [← hV.ll]; exact ho.l6
  obtain ⟨i3, hi3, hz3, hs3, iy3⟩ := info_parts info3'
  have U0 := ((FT.self h).alloc (.cells (vcs v p) 26)).alloc (.cells (fil p.hn 0) 3)
  have k0 := (Bx.new w 26 (vcs v p)).alloc (.cells (fil p.hn 0) 3)
  have kR := Bx.at (w.alloc (.cells (vcs v p) 26)) 3 (fil p.hn 0) (n := w.heap.size + 1) (by simp)
  have hf : fil p.hn 0 = rw_ (fun k => sumH (abd v.ls []) k) p.hn := by
    simp only [sumH_nil]
    rcases (show p.hn = 1 ∨ p.hn = 2 ∨ p.hn = 3 by omega) with e | e | e <;> rw [e] <;> rfl
  have hmk := make27 p.hn (by omega)
  have hw1 : IntKind.i64.wrap ((p.hn : Int) - 1) = (p.hn : Int) - 1 := IntWalk.i64_in _ (by omega)
  have HMK := Lib.hid hmk
  have HF := Lib.hid hf
  have HV := Lib.hid hV
  have HO := Lib.hid ho
  have HHN := Lib.hid hHn
  rw [vcs_def] at k0 kR U0
  clear hf hV ho hmk hHn
  obtain ⟨c0, c1, c2, c3, c4, c5, c6, cf, cz⟩ := (Bx.new w 26 #[.int .i64 v.li, .int .i64 v.un, .int .i64 v.tr, .slice p.HA p.hn p.hc, .int .i64 v.le, .slice p.SA p.sn p.sc, .slice p.LA p.ln p.lc]).seven
  go_enter Try.func19, Try.ntmps19
  rw [vcs_def]
  go_wp2_with (first | (rw [HMK.out]) | fail)
  have kR0 := kR
  go_loopw [5, 7] (fun lv i wr => ∃ (k : Nat) (l : List Int) (LA : Option Addr) (lc : Nat), lv = .slice LA k lc ∧ i = .int .i64 k ∧ k ≤ p.ln ∧ l.length = k ∧ (∀ z ∈ l, -1 ≤ z ∧ z < p.hn) ∧ (∀ j : Nat, j < p.hn → sumH (abd v.ls l) j ≤ (hd v.hs j).rm) ∧ FT g w wr ∧ Bx wr w.heap.size 26 #[.int .i64 v.li, .int .i64 v.un, .int .i64 v.tr, .slice p.HA p.hn p.hc, .int .i64 v.le, .slice p.SA p.sn p.sc, .slice p.LA p.ln p.lc] ∧ Bx wr (w.heap.size + 1) 3 (rw_ (fun k => sumH (abd v.ls l) k) p.hn) ∧ wr.ownsRow (w.heap.size + 2) 3 1 (.slice LA k lc) k (inr l).flatten) (fun _ i _ => p.ln - (intOf i).toNat)
  case atStart =>
    refine ⟨0, [], none, 0, rfl, rfl, by omega, rfl, by simp, fun j hj => ?_, ?_, ?_, ?_, World.ownsRow_nil _ _ _ _⟩
    · rw [sumH_nil]
      exact (hd_ok HO.out (x := (j : Int)) rfl (by rw [HHN.out]; exact hj)).rm.1
    · exact U0
    · exact k0
    · rw [← HF.out]; exact kR
  case round =>
    obtain ⟨k, l, LA, lc, rfl, rfl, hk, hll, hin, hsum, hT, kv, kR, oL⟩ := hrel
    obtain ⟨c0, c1, c2, c3, c4, c5, c6, cf, cz⟩ := kv.seven
    have HLL := Lib.hid hll
    have HIN := Lib.hid hin
    have HSUM := Lib.hid hsum
    clear hll hin hsum
    by_cases hks : k < p.ln
    · have hiw : IntKind.i64.wrap ((k : Int) + 1) = (k : Int) + 1 := IntWalk.i64_in _ (by omega)
      go_wp2_with (first | (go_at_call 48; refine (between_any g (-1) ((p.hn : Int) - 1) _ hT.2 (by omega) (by omega) (by omega) (by omega)).mono ?_; rintro e y1 ⟨⟨x, rfl, x1, x2⟩, hf, hg⟩; have T2 := hT.call hg hf; have kv2 := FT.bx ⟨hg, hf⟩ kv (by omega); have kR2 := FT.bx ⟨hg, hf⟩ kR (by omega); have oL2 := own_fd oL hT.2 hg (by decide)) | fail)
      clear hT kv kR oL hf hg c0 c1 c2 c3 c4 c5 c6 cf cz
      have kv := kv2
      by_cases hx : x < 0
      · obtain rfl : x = -1 := by omega
        refine AnyG.startC (by kernel_rfl) ?_
        refine AnyG.takeP (i := 0) (v := ?_) rfl (by kernel_rfl) (fun _ _ _ h => h) rfl ?_ ?_
        rotate_left
        · (intro w'; go_simp; try with_reducible rfl)
        try simp only [Act.put, List.getElem_toArray, List.getElem_cons_succ, List.getElem_cons_zero, List.setIfInBounds_toArray, List.set_cons_zero, List.set_cons_succ]
        refine AnyG.takeP (i := 1) (v := ?_) rfl (by kernel_rfl) (fun _ _ _ h => h) rfl ?_ ?_
        rotate_left
        · (intro w'; go_simp; try with_reducible rfl)
        try simp only [Act.put, List.getElem_toArray, List.getElem_cons_succ, List.getElem_cons_zero, List.setIfInBounds_toArray, List.set_cons_zero, List.set_cons_succ]
        refine AnyG.takeP (i := 2) (v := ?_) rfl (by kernel_rfl) (fun _ _ _ h => h) rfl ?_ ?_
        rotate_left
        · (intro w'; go_simp; try with_reducible rfl)
        try simp only [Act.put, List.getElem_toArray, List.getElem_cons_succ, List.getElem_cons_zero, List.setIfInBounds_toArray, List.set_cons_zero, List.set_cons_succ]
        refine AnyG.enter (fun w' : World => Bx w' w.heap.size 26 #[.int .i64 v.li, .int .i64 v.un, .int .i64 v.tr, .slice p.HA p.hn p.hc, .int .i64 v.le, .slice p.SA p.sn p.sc, .slice p.LA p.ln p.lc] ∧ Below y1.heap.size y1 w') (fun i => true) ?_
        have hS : (fun w' : World => Bx w' w.heap.size 26 #[.int .i64 v.li, .int .i64 v.un, .int .i64 v.tr, .slice p.HA p.hn p.hc, .int .i64 v.le, .slice p.SA p.sn p.sc, .slice p.LA p.ln p.lc] ∧ Below y1.heap.size y1 w') (World.drew _) := ⟨kv.drew, (Below.refl _ _).drew⟩
        refine AnyG.takeNC (i := 3) rfl (by kernel_rfl) (fun _ _ _ h => h) (by first | (simp [Region.wanted, yielded]; done) | simp [Region.wanted, yielded, undef]) hS ?_
        try simp only [Act.put, List.getElem_toArray, List.getElem_cons_succ, List.getElem_cons_zero, List.setIfInBounds_toArray, List.set_cons_zero, List.set_cons_succ]
        refine AnyG.takeNC (i := 4) rfl (by kernel_rfl) (fun _ _ _ h => h) (by first | (simp [Region.wanted, yielded]; done) | simp [Region.wanted, yielded, undef]) hS ?_
        try simp only [Act.put, List.getElem_toArray, List.getElem_cons_succ, List.getElem_cons_zero, List.setIfInBounds_toArray, List.set_cons_zero, List.set_cons_succ]
        refine AnyG.takeNC (i := 5) rfl (by kernel_rfl) (fun _ _ _ h => h) (by first | (simp [Region.wanted, yielded]; done) | simp [Region.wanted, yielded, undef]) hS ?_
        try simp only [Act.put, List.getElem_toArray, List.getElem_cons_succ, List.getElem_cons_zero, List.setIfInBounds_toArray, List.set_cons_zero, List.set_cons_succ]
        refine AnyG.takeNC (i := 6) rfl (by kernel_rfl) (fun _ _ _ h => h) (by first | (simp [Region.wanted, yielded]; done) | simp [Region.wanted, yielded, undef]) hS ?_
        try simp only [Act.put, List.getElem_toArray, List.getElem_cons_succ, List.getElem_cons_zero, List.setIfInBounds_toArray, List.set_cons_zero, List.set_cons_succ]
        refine AnyG.takeNC (i := 7) rfl (by kernel_rfl) (fun _ _ _ h => h) (by first | (simp [Region.wanted, yielded]; done) | simp [Region.wanted, yielded, undef]) hS ?_
        try simp only [Act.put, List.getElem_toArray, List.getElem_cons_succ, List.getElem_cons_zero, List.setIfInBounds_toArray, List.set_cons_zero, List.set_cons_succ]
        refine AnyG.takeNC (i := 8) rfl (by kernel_rfl) (fun _ _ _ h => h) (by first | (simp [Region.wanted, yielded]; done) | simp [Region.wanted, yielded, undef]) hS ?_
        try simp only [Act.put, List.getElem_toArray, List.getElem_cons_succ, List.getElem_cons_zero, List.setIfInBounds_toArray, List.set_cons_zero, List.set_cons_succ]
        refine AnyG.takeNC (i := 9) rfl (by kernel_rfl) (fun _ _ _ h => h) (by first | (simp [Region.wanted, yielded]; done) | simp [Region.wanted, yielded, undef]) hS ?_
        try simp only [Act.put, List.getElem_toArray, List.getElem_cons_succ, List.getElem_cons_zero, List.setIfInBounds_toArray, List.set_cons_zero, List.set_cons_succ]
        refine AnyG.takeNC (i := 10) rfl (by kernel_rfl) (fun _ _ _ h => h) (by first | (simp [Region.wanted, yielded]; done) | simp [Region.wanted, yielded, undef]) hS ?_
        try simp only [Act.put, List.getElem_toArray, List.getElem_cons_succ, List.getElem_cons_zero, List.setIfInBounds_toArray, List.set_cons_zero, List.set_cons_succ]
        refine AnyG.takeNC (i := 11) rfl (by kernel_rfl) (fun _ _ _ h => h) (by first | (simp [Region.wanted, yielded]; done) | simp [Region.wanted, yielded, undef]) hS ?_
        try simp only [Act.put, List.getElem_toArray, List.getElem_cons_succ, List.getElem_cons_zero, List.setIfInBounds_toArray, List.set_cons_zero, List.set_cons_succ]
        refine AnyG.takeNC (i := 12) rfl (by kernel_rfl) (fun _ _ _ h => h) (by first | (simp [Region.wanted, yielded]; done) | simp [Region.wanted, yielded, undef]) hS ?_
        try simp only [Act.put, List.getElem_toArray, List.getElem_cons_succ, List.getElem_cons_zero, List.setIfInBounds_toArray, List.set_cons_zero, List.set_cons_succ]
        refine AnyG.takeNC (i := 13) rfl (by kernel_rfl) (fun _ _ _ h => h) (by first | (simp [Region.wanted, yielded]; done) | simp [Region.wanted, yielded, undef]) hS ?_
        try simp only [Act.put, List.getElem_toArray, List.getElem_cons_succ, List.getElem_cons_zero, List.setIfInBounds_toArray, List.set_cons_zero, List.set_cons_succ]
        refine AnyG.takeNC (i := 14) rfl (by kernel_rfl) (fun _ _ _ h => h) (by first | (simp [Region.wanted, yielded]; done) | simp [Region.wanted, yielded, undef]) hS ?_
        try simp only [Act.put, List.getElem_toArray, List.getElem_cons_succ, List.getElem_cons_zero, List.setIfInBounds_toArray, List.set_cons_zero, List.set_cons_succ]
        refine AnyG.takeNC (i := 15) rfl (by kernel_rfl) (fun _ _ _ h => h) (by first | (simp [Region.wanted, yielded]; done) | simp [Region.wanted, yielded, undef]) hS ?_
        try simp only [Act.put, List.getElem_toArray, List.getElem_cons_succ, List.getElem_cons_zero, List.setIfInBounds_toArray, List.set_cons_zero, List.set_cons_succ]
        refine AnyG.takeNC (i := 16) rfl (by kernel_rfl) (fun _ _ _ h => h) (by first | (simp [Region.wanted, yielded]; done) | simp [Region.wanted, yielded, undef]) hS ?_
        try simp only [Act.put, List.getElem_toArray, List.getElem_cons_succ, List.getElem_cons_zero, List.setIfInBounds_toArray, List.set_cons_zero, List.set_cons_succ]
        refine AnyG.takeNC (i := 17) rfl (by kernel_rfl) (fun _ _ _ h => h) (by first | (simp [Region.wanted, yielded]; done) | simp [Region.wanted, yielded, undef]) hS ?_
        try simp only [Act.put, List.getElem_toArray, List.getElem_cons_succ, List.getElem_cons_zero, List.setIfInBounds_toArray, List.set_cons_zero, List.set_cons_succ]
        refine AnyG.takeNC (i := 18) rfl (by kernel_rfl) (fun _ _ _ h => h) (by first | (simp [Region.wanted, yielded]; done) | simp [Region.wanted, yielded, undef]) hS ?_
        try simp only [Act.put, List.getElem_toArray, List.getElem_cons_succ, List.getElem_cons_zero, List.setIfInBounds_toArray, List.set_cons_zero, List.set_cons_succ]
        refine AnyG.takeNC (i := 19) rfl (by kernel_rfl) (fun _ _ _ h => h) (by first | (simp [Region.wanted, yielded]; done) | simp [Region.wanted, yielded, undef]) hS ?_
        try simp only [Act.put, List.getElem_toArray, List.getElem_cons_succ, List.getElem_cons_zero, List.setIfInBounds_toArray, List.set_cons_zero, List.set_cons_succ]
        refine AnyG.takeNC (i := 20) rfl (by kernel_rfl) (fun _ _ _ h => h) (by first | (simp [Region.wanted, yielded]; done) | simp [Region.wanted, yielded, undef]) hS ?_
        try simp only [Act.put, List.getElem_toArray, List.getElem_cons_succ, List.getElem_cons_zero, List.setIfInBounds_toArray, List.set_cons_zero, List.set_cons_succ]
        refine AnyG.takeNC (i := 21) rfl (by kernel_rfl) (fun _ _ _ h => h) (by first | (simp [Region.wanted, yielded]; done) | simp [Region.wanted, yielded, undef]) hS ?_
        try simp only [Act.put, List.getElem_toArray, List.getElem_cons_succ, List.getElem_cons_zero, List.setIfInBounds_toArray, List.set_cons_zero, List.set_cons_succ]
        refine AnyG.takeC (i := 22) (v := ?_) rfl (by kernel_rfl) (fun _ _ _ h => h) rfl ?_ hS ?_
        rotate_left
        · (intro w' hSw; (try dsimp only at hSw); go_simp; try with_reducible rfl)
        try simp only [Act.put, List.getElem_toArray, List.getElem_cons_succ, List.getElem_cons_zero, List.setIfInBounds_toArray, List.set_cons_zero, List.set_cons_succ]
        refine AnyG.done (by kernel_rfl) ?_ _
        obtain ⟨y2, hy2⟩ : ∃ y, y1.drew = y := ⟨_, rfl⟩
        rw [hy2] at hS ⊢
        have T3 := T2.bel hS.2
        have kR3 := kR2.call hS.2
        have oL3 := own_bel oL2 hS.2
        have kv3 := hS.1
        clear hS hy2 T2 kR2 oL2 kv kv2
        have kn := Bx.new y2 3 #[.int .i64 (-1)]
        have O6 := own_bel oL3 (bel1 y2 (.cells #[.int .i64 (-1)] 3))
        have Tn := T3.alloc (.cells #[.int .i64 (-1)] 3)
        have kvn := kv3.alloc (.cells #[.int .i64 (-1)] 3)
        have kRn := kR3.alloc (.cells #[.int .i64 (-1)] 3)
        have hYs := T3.size
        go_wp2_with (first
          | (at_builtin; refine wpList_append_own _ rfl (.tmp 66) (.tmp 68) 27 rfl (w.heap.size + 2) 3 i3 _ 1 8 Try.underlying27 hi3 hz3 hs3 iy3 rfl (by decide) (.slice LA k lc) k (inr l).flatten rfl O6 ⟨y2.heap.size, 0, none⟩ 1 1 [.int .i64 (-1)] rfl rfl (bx_news kn) (by simp [Value.oneCell']) (by unfold maxLen; omega) (by omega) (by have := kR3.lt; simp; omega) ?_; intro v' w' o1 o2 o3; obtain ⟨X', x', rfl⟩ := own_shape o1)
          | fail)
        have hll := HLL.out
        go_roundw
        case rel =>
          refine ⟨k + 1, l ++ [-1], X', x', rfl, by go_num, by omega, by simp [hll], ?_, ?_, Tn.own O6 o2 (by omega) (by decide), kvn.grown o2 (own_bx O6 kvn (by decide)), ?_, by rw [inr_snoc]; exact o1⟩
          · intro z hz
            rcases List.mem_append.1 hz with hz | hz
            · exact HIN.out z hz
            · obtain rfl := List.mem_singleton.1 hz; omega
          · intro j hj
            rw [sumH_abd v.ls l (-1) (by have := HV.out.ll; omega) j (.inr (by omega)), if_neg (by omega)]
            have := HSUM.out j hj
            omega
          · rw [rw_congr (h := fun k => sumH (abd v.ls l) k) (fun j hj => by rw [sumH_abd v.ls l (-1) (by have := HV.out.ll; omega) j (.inr (by omega)), if_neg (by omega)]; omega)]
            exact kRn.grown o2 (fun e => by have := (O6.lt _ e.symm).1; omega)
        case measure => simp [intOf]; omega
      · obtain ⟨xn, rfl⟩ : ∃ n : Nat, x = n := ⟨x.toNat, by omega⟩
        have hxn : xn < p.hn := by omega
        have hVy : VoyAt y1 y1.heap.size v p := T2.voy h HV.out
        obtain ⟨aH, hHA, hHb, g2, -, -⟩ := hd_at hVy.hs (k := xn) (by rw [HHN.out]; exact hxn)
        obtain ⟨aL, hLA, hLb, -, g1, -⟩ := cg_at hVy.ls (k := k) (by rw [HV.out.ll]; exact hks)
        have g0 := (kR2.cell xn).trans (rw_at hxn)
        have R2 := kR2.lt
        have hsb := sumH_bd (L := abd v.ls l) (fun z hz => by have := HO.out.ls _ (abd_mem hz).1; exact ⟨Int.le_trans this.t0 this.t01, this.t1⟩) (xn : Int)
        have hrb := HSUM.out xn hxn
        have hrm := (hd_ok HO.out (x := (xn : Int)) rfl (by rw [HHN.out]; exact hxn)).rm
        have hhd : hd v.hs (xn : Int) = v.hs[xn]'(by rw [HHN.out]; exact hxn) := by unfold hd; rw [Int.toNat_natCast, List.getElem?_eq_getElem (by rw [HHN.out]; exact hxn)]; rfl
        have htv := HO.out.ls _ (List.getElem_mem (l := v.ls) (n := k) (by rw [HV.out.ll]; exact hks))
        rw [← hhd] at g2
        obtain ⟨rmv, hrv⟩ : ∃ z, (hd v.hs (xn : Int)).rm = z := ⟨_, rfl⟩
        obtain ⟨tv, htv1⟩ : ∃ z, (v.ls[k]'(by rw [HV.out.ll]; exact hks)).t1 = z := ⟨_, rfl⟩
        obtain ⟨sv, hsv⟩ : ∃ z, sumH (abd v.ls l) (xn : Int) = z := ⟨_, rfl⟩
        have htb : 0 ≤ tv ∧ tv ≤ 5000 := by rw [← htv1]; exact ⟨Int.le_trans htv.t0 htv.t01, htv.t1⟩
        rw [hrv] at g2 hrb hrm
        rw [htv1] at g1
        rw [hsv] at g0 hsb hrb
        have HRV := Lib.hid hrv
        have HTV := Lib.hid htv1
        have HSV := Lib.hid hsv
        have wst : IntKind.i64.wrap (sv + tv) = sv + tv := IntWalk.i64_in _ (by omega)
        rw [hHA, hLA] at kv
        obtain ⟨aR, haR⟩ : ∃ a : Addr, (⟨w.heap.size + 1, 0, none⟩ : Addr) = a := ⟨_, rfl⟩
        have g0 : y1.cell? (aR.add xn) = some (.int .i64 sv) := by
          rw [← haR]
          by_cases e : xn = 0
          · subst e; simpa [Addr.add] using g0
          · simpa [Addr.add, e] using g0
        have hHb2 := hHb
        have hLb2 := hLb
        have HHA := Lib.hid hHA
        have HLA := Lib.hid hLA
        have HAR := Lib.hid haR
        rw [haR]
        clear hsb hhd htv hrv htv1 hsv hVy hHA hLA haR
        by_cases hov : rmv < sv + tv
        ·
          refine AnyG.startC (by kernel_rfl) ?_
          refine AnyG.takeP (i := 0) (v := ?_) rfl (by kernel_rfl) (fun _ _ _ h => h) rfl ?_ ?_
          rotate_left
          · (intro w'; go_simp; try with_reducible rfl)
          try simp only [Act.put, List.getElem_toArray, List.getElem_cons_succ, List.getElem_cons_zero, List.setIfInBounds_toArray, List.set_cons_zero, List.set_cons_succ]
          refine AnyG.takeP (i := 1) (v := ?_) rfl (by kernel_rfl) (fun _ _ _ h => h) rfl ?_ ?_
          rotate_left
          · (intro w'; go_simp; try with_reducible rfl)
          try simp only [Act.put, List.getElem_toArray, List.getElem_cons_succ, List.getElem_cons_zero, List.setIfInBounds_toArray, List.set_cons_zero, List.set_cons_succ]
          refine AnyG.takeP (i := 2) (v := ?_) rfl (by kernel_rfl) (fun _ _ _ h => h) rfl ?_ ?_
          rotate_left
          · (intro w'; go_simp; try with_reducible rfl)
          try simp only [Act.put, List.getElem_toArray, List.getElem_cons_succ, List.getElem_cons_zero, List.setIfInBounds_toArray, List.set_cons_zero, List.set_cons_succ]
          refine AnyG.enter (fun w' : World => Bx w' w.heap.size 26 #[.int .i64 v.li, .int .i64 v.un, .int .i64 v.tr, .slice (some aH) p.hn p.hc, .int .i64 v.le, .slice p.SA p.sn p.sc, .slice (some aL) p.ln p.lc] ∧ Below y1.heap.size y1 w') (fun i => true) ?_
          have hS : (fun w' : World => Bx w' w.heap.size 26 #[.int .i64 v.li, .int .i64 v.un, .int .i64 v.tr, .slice (some aH) p.hn p.hc, .int .i64 v.le, .slice p.SA p.sn p.sc, .slice (some aL) p.ln p.lc] ∧ Below y1.heap.size y1 w') (World.drew _) := ⟨kv.drew, (Below.refl _ _).drew⟩
          refine AnyG.takeGC (i := 3) (v := ?_) rfl (by kernel_rfl) (fun _ _ _ h => h) (by first | (simp [Region.wanted, yielded]; done) | simp [Region.wanted, yielded, undef]) ?_ hS ?_
          rotate_left
          · (intro w' hSw; (try dsimp only at hSw); go_simp; try with_reducible rfl)
          try simp only [Act.put, List.getElem_toArray, List.getElem_cons_succ, List.getElem_cons_zero, List.setIfInBounds_toArray, List.set_cons_zero, List.set_cons_succ]
          refine AnyG.takeGC (i := 4) (v := ?_) rfl (by kernel_rfl) (fun _ _ _ h => h) (by first | (simp [Region.wanted, yielded]; done) | simp [Region.wanted, yielded, undef]) ?_ hS ?_
          rotate_left
          · (intro w' hSw; (try dsimp only at hSw); go_simp; try with_reducible rfl)
          try simp only [Act.put, List.getElem_toArray, List.getElem_cons_succ, List.getElem_cons_zero, List.setIfInBounds_toArray, List.set_cons_zero, List.set_cons_succ]
          refine AnyG.takeGC (i := 5) (v := ?_) rfl (by kernel_rfl) (fun _ _ _ h => h) (by first | (simp [Region.wanted, yielded]; done) | simp [Region.wanted, yielded, undef]) ?_ hS ?_
          rotate_left
          · (intro w' hSw; (try dsimp only at hSw); go_simp; try with_reducible rfl)
          try simp only [Act.put, List.getElem_toArray, List.getElem_cons_succ, List.getElem_cons_zero, List.setIfInBounds_toArray, List.set_cons_zero, List.set_cons_succ]
          refine AnyG.takeGC (i := 6) (v := ?_) rfl (by kernel_rfl) (fun _ _ _ h => h) (by first | (simp [Region.wanted, yielded]; done) | simp [Region.wanted, yielded, undef]) ?_ hS ?_
          rotate_left
          · (intro w' hSw; (try dsimp only at hSw); have g0 := cellC hSw.2 g0; go_simp; try with_reducible rfl)
          try simp only [Act.put, List.getElem_toArray, List.getElem_cons_succ, List.getElem_cons_zero, List.setIfInBounds_toArray, List.set_cons_zero, List.set_cons_succ]
          refine AnyG.takeGC (i := 7) (v := ?_) rfl (by kernel_rfl) (fun _ _ _ h => h) (by first | (simp [Region.wanted, yielded]; done) | simp [Region.wanted, yielded, undef]) ?_ hS ?_
          rotate_left
          · (intro w' hSw; (try dsimp only at hSw); go_simp; try with_reducible rfl)
          try simp only [Act.put, List.getElem_toArray, List.getElem_cons_succ, List.getElem_cons_zero, List.setIfInBounds_toArray, List.set_cons_zero, List.set_cons_succ]
          refine AnyG.takeGC (i := 8) (v := ?_) rfl (by kernel_rfl) (fun _ _ _ h => h) (by first | (simp [Region.wanted, yielded]; done) | simp [Region.wanted, yielded, undef]) ?_ hS ?_
          rotate_left
          · (intro w' hSw; (try dsimp only at hSw); obtain ⟨l0, l1, l2, l3, l4, l5, l6, lf, lz⟩ := hSw.1.seven; go_simp; try with_reducible rfl)
          try simp only [Act.put, List.getElem_toArray, List.getElem_cons_succ, List.getElem_cons_zero, List.setIfInBounds_toArray, List.set_cons_zero, List.set_cons_succ]
          refine AnyG.takeGC (i := 9) (v := ?_) rfl (by kernel_rfl) (fun _ _ _ h => h) (by first | (simp [Region.wanted, yielded]; done) | simp [Region.wanted, yielded, undef]) ?_ hS ?_
          rotate_left
          · (intro w' hSw; (try dsimp only at hSw); go_simp; try with_reducible rfl)
          try simp only [Act.put, List.getElem_toArray, List.getElem_cons_succ, List.getElem_cons_zero, List.setIfInBounds_toArray, List.set_cons_zero, List.set_cons_succ]
          refine AnyG.takeGC (i := 10) (v := ?_) rfl (by kernel_rfl) (fun _ _ _ h => h) (by first | (simp [Region.wanted, yielded]; done) | simp [Region.wanted, yielded, undef]) ?_ hS ?_
          rotate_left
          · (intro w' hSw; (try dsimp only at hSw); go_simp; try with_reducible rfl)
          try simp only [Act.put, List.getElem_toArray, List.getElem_cons_succ, List.getElem_cons_zero, List.setIfInBounds_toArray, List.set_cons_zero, List.set_cons_succ]
          refine AnyG.takeGC (i := 11) (v := ?_) rfl (by kernel_rfl) (fun _ _ _ h => h) (by first | (simp [Region.wanted, yielded]; done) | simp [Region.wanted, yielded, undef]) ?_ hS ?_
          rotate_left
          · (intro w' hSw; (try dsimp only at hSw); go_simp; try with_reducible rfl)
          try simp only [Act.put, List.getElem_toArray, List.getElem_cons_succ, List.getElem_cons_zero, List.setIfInBounds_toArray, List.set_cons_zero, List.set_cons_succ]
          refine AnyG.takeGC (i := 12) (v := ?_) rfl (by kernel_rfl) (fun _ _ _ h => h) (by first | (simp [Region.wanted, yielded]; done) | simp [Region.wanted, yielded, undef]) ?_ hS ?_
          rotate_left
          · (intro w' hSw; (try dsimp only at hSw); go_simp; try with_reducible rfl)
          try simp only [Act.put, List.getElem_toArray, List.getElem_cons_succ, List.getElem_cons_zero, List.setIfInBounds_toArray, List.set_cons_zero, List.set_cons_succ]
          refine AnyG.takeGC (i := 13) (v := ?_) rfl (by kernel_rfl) (fun _ _ _ h => h) (by first | (simp [Region.wanted, yielded]; done) | simp [Region.wanted, yielded, undef]) ?_ hS ?_
          rotate_left
          · (intro w' hSw; (try dsimp only at hSw); have g1 := cellC hSw.2 g1; go_simp; try with_reducible rfl)
          try simp only [Act.put, List.getElem_toArray, List.getElem_cons_succ, List.getElem_cons_zero, List.setIfInBounds_toArray, List.set_cons_zero, List.set_cons_succ]
          refine AnyG.takeGC (i := 14) (v := ?_) rfl (by kernel_rfl) (fun _ _ _ h => h) (by first | (simp [Region.wanted, yielded]; done) | simp [Region.wanted, yielded, undef]) ?_ hS ?_
          rotate_left
          · (intro w' hSw; (try dsimp only at hSw); go_simp; try with_reducible rfl)
          try simp only [Act.put, List.getElem_toArray, List.getElem_cons_succ, List.getElem_cons_zero, List.setIfInBounds_toArray, List.set_cons_zero, List.set_cons_succ]
          refine AnyG.takeGC (i := 15) (v := ?_) rfl (by kernel_rfl) (fun _ _ _ h => h) (by first | (simp [Region.wanted, yielded]; done) | simp [Region.wanted, yielded, undef]) ?_ hS ?_
          rotate_left
          · (intro w' hSw; (try dsimp only at hSw); go_simp; try with_reducible rfl)
          try simp only [Act.put, List.getElem_toArray, List.getElem_cons_succ, List.getElem_cons_zero, List.setIfInBounds_toArray, List.set_cons_zero, List.set_cons_succ]
          refine AnyG.takeGC (i := 16) (v := ?_) rfl (by kernel_rfl) (fun _ _ _ h => h) (by first | (simp [Region.wanted, yielded]; done) | simp [Region.wanted, yielded, undef]) ?_ hS ?_
          rotate_left
          · (intro w' hSw; (try dsimp only at hSw); obtain ⟨l0, l1, l2, l3, l4, l5, l6, lf, lz⟩ := hSw.1.seven; go_simp; try with_reducible rfl)
          try simp only [Act.put, List.getElem_toArray, List.getElem_cons_succ, List.getElem_cons_zero, List.setIfInBounds_toArray, List.set_cons_zero, List.set_cons_succ]
          refine AnyG.takeGC (i := 17) (v := ?_) rfl (by kernel_rfl) (fun _ _ _ h => h) (by first | (simp [Region.wanted, yielded]; done) | simp [Region.wanted, yielded, undef]) ?_ hS ?_
          rotate_left
          · (intro w' hSw; (try dsimp only at hSw); go_simp; try with_reducible rfl)
          try simp only [Act.put, List.getElem_toArray, List.getElem_cons_succ, List.getElem_cons_zero, List.setIfInBounds_toArray, List.set_cons_zero, List.set_cons_succ]
          refine AnyG.takeGC (i := 18) (v := ?_) rfl (by kernel_rfl) (fun _ _ _ h => h) (by first | (simp [Region.wanted, yielded]; done) | simp [Region.wanted, yielded, undef]) ?_ hS ?_
          rotate_left
          · (intro w' hSw; (try dsimp only at hSw); go_simp; try with_reducible rfl)
          try simp only [Act.put, List.getElem_toArray, List.getElem_cons_succ, List.getElem_cons_zero, List.setIfInBounds_toArray, List.set_cons_zero, List.set_cons_succ]
          refine AnyG.takeGC (i := 19) (v := ?_) rfl (by kernel_rfl) (fun _ _ _ h => h) (by first | (simp [Region.wanted, yielded]; done) | simp [Region.wanted, yielded, undef]) ?_ hS ?_
          rotate_left
          · (intro w' hSw; (try dsimp only at hSw); go_simp; try with_reducible rfl)
          try simp only [Act.put, List.getElem_toArray, List.getElem_cons_succ, List.getElem_cons_zero, List.setIfInBounds_toArray, List.set_cons_zero, List.set_cons_succ]
          refine AnyG.takeGC (i := 20) (v := ?_) rfl (by kernel_rfl) (fun _ _ _ h => h) (by first | (simp [Region.wanted, yielded]; done) | simp [Region.wanted, yielded, undef]) ?_ hS ?_
          rotate_left
          · (intro w' hSw; (try dsimp only at hSw); have g2 := cellC hSw.2 g2; go_simp; try with_reducible rfl)
          try simp only [Act.put, List.getElem_toArray, List.getElem_cons_succ, List.getElem_cons_zero, List.setIfInBounds_toArray, List.set_cons_zero, List.set_cons_succ]
          refine AnyG.takeGC (i := 21) (v := ?_) rfl (by kernel_rfl) (fun _ _ _ h => h) (by first | (simp [Region.wanted, yielded]; done) | simp [Region.wanted, yielded, undef]) ?_ hS ?_
          rotate_left
          · (intro w' hSw; (try dsimp only at hSw); go_simp; try with_reducible rfl)
          try simp only [Act.put, List.getElem_toArray, List.getElem_cons_succ, List.getElem_cons_zero, List.setIfInBounds_toArray, List.set_cons_zero, List.set_cons_succ]
          refine AnyG.takeC (i := 22) (v := ?_) rfl (by kernel_rfl) (fun _ _ _ h => h) rfl ?_ hS ?_
          rotate_left
          · (intro w' hSw; (try dsimp only at hSw); go_simp; try with_reducible rfl)
          try simp only [Act.put, List.getElem_toArray, List.getElem_cons_succ, List.getElem_cons_zero, List.setIfInBounds_toArray, List.set_cons_zero, List.set_cons_succ]
          refine AnyG.done (by kernel_rfl) ?_ _
          obtain ⟨y2, hy2⟩ : ∃ y, y1.drew = y := ⟨_, rfl⟩
          rw [hy2] at hS ⊢
          have T3 := T2.bel hS.2
          have kR3 := kR2.call hS.2
          have oL3 := own_bel oL2 hS.2
          have kv3 := hS.1
          rw [← HHA.out, ← HLA.out] at kv3
          rw [← HAR.out]
          clear hS hy2 T2 kR2 oL2 kv kv2
          have kn := Bx.new y2 3 #[.int .i64 (-1)]
          have O6 := own_bel oL3 (bel1 y2 (.cells #[.int .i64 (-1)] 3))
          have Tn := T3.alloc (.cells #[.int .i64 (-1)] 3)
          have kvn := kv3.alloc (.cells #[.int .i64 (-1)] 3)
          have kRn := kR3.alloc (.cells #[.int .i64 (-1)] 3)
          have hYs := T3.size
          go_wp2_with (first
            | (at_builtin; refine wpList_append_own _ rfl (.tmp 66) (.tmp 68) 27 rfl (w.heap.size + 2) 3 i3 _ 1 8 Try.underlying27 hi3 hz3 hs3 iy3 rfl (by decide) (.slice LA k lc) k (inr l).flatten rfl O6 ⟨y2.heap.size, 0, none⟩ 1 1 [.int .i64 (-1)] rfl rfl (bx_news kn) (by simp [Value.oneCell']) (by unfold maxLen; omega) (by omega) (by have := kR3.lt; simp; omega) ?_; intro v' w' o1 o2 o3; obtain ⟨X', x', rfl⟩ := own_shape o1)
            | fail)
          have hll := HLL.out
          go_roundw
          case rel =>
            refine ⟨k + 1, l ++ [-1], X', x', rfl, by go_num, by omega, by simp [hll], ?_, ?_, Tn.own O6 o2 (by omega) (by decide), kvn.grown o2 (own_bx O6 kvn (by decide)), ?_, by rw [inr_snoc]; exact o1⟩
            · intro z hz
              rcases List.mem_append.1 hz with hz | hz
              · exact HIN.out z hz
              · obtain rfl := List.mem_singleton.1 hz; omega
            · intro j hj
              rw [sumH_abd v.ls l (-1) (by have := HV.out.ll; omega) j (.inr (by omega)), if_neg (by omega)]
              have := HSUM.out j hj
              omega
            · rw [rw_congr (h := fun k => sumH (abd v.ls l) k) (fun j hj => by rw [sumH_abd v.ls l (-1) (by have := HV.out.ll; omega) j (.inr (by omega)), if_neg (by omega)]; omega)]
              exact kRn.grown o2 (fun e => by have := (O6.lt _ e.symm).1; omega)
          case measure => simp [intOf]; omega
        ·
          refine AnyG.startC (by kernel_rfl) ?_
          refine AnyG.takeP (i := 0) (v := ?_) rfl (by kernel_rfl) (fun _ _ _ h => h) rfl ?_ ?_
          rotate_left
          · (intro w'; go_simp; try with_reducible rfl)
          try simp only [Act.put, List.getElem_toArray, List.getElem_cons_succ, List.getElem_cons_zero, List.setIfInBounds_toArray, List.set_cons_zero, List.set_cons_succ]
          refine AnyG.takeP (i := 1) (v := ?_) rfl (by kernel_rfl) (fun _ _ _ h => h) rfl ?_ ?_
          rotate_left
          · (intro w'; go_simp; try with_reducible rfl)
          try simp only [Act.put, List.getElem_toArray, List.getElem_cons_succ, List.getElem_cons_zero, List.setIfInBounds_toArray, List.set_cons_zero, List.set_cons_succ]
          refine AnyG.takeP (i := 2) (v := ?_) rfl (by kernel_rfl) (fun _ _ _ h => h) rfl ?_ ?_
          rotate_left
          · (intro w'; go_simp; try with_reducible rfl)
          try simp only [Act.put, List.getElem_toArray, List.getElem_cons_succ, List.getElem_cons_zero, List.setIfInBounds_toArray, List.set_cons_zero, List.set_cons_succ]
          refine AnyG.enter (fun w' : World => Bx w' w.heap.size 26 #[.int .i64 v.li, .int .i64 v.un, .int .i64 v.tr, .slice (some aH) p.hn p.hc, .int .i64 v.le, .slice p.SA p.sn p.sc, .slice (some aL) p.ln p.lc] ∧ Below y1.heap.size y1 w') (fun i => true) ?_
          have hS : (fun w' : World => Bx w' w.heap.size 26 #[.int .i64 v.li, .int .i64 v.un, .int .i64 v.tr, .slice (some aH) p.hn p.hc, .int .i64 v.le, .slice p.SA p.sn p.sc, .slice (some aL) p.ln p.lc] ∧ Below y1.heap.size y1 w') (World.drew _) := ⟨kv.drew, (Below.refl _ _).drew⟩
          refine AnyG.takeGC (i := 3) (v := ?_) rfl (by kernel_rfl) (fun _ _ _ h => h) (by first | (simp [Region.wanted, yielded]; done) | simp [Region.wanted, yielded, undef]) ?_ hS ?_
          rotate_left
          · (intro w' hSw; (try dsimp only at hSw); go_simp; try with_reducible rfl)
          try simp only [Act.put, List.getElem_toArray, List.getElem_cons_succ, List.getElem_cons_zero, List.setIfInBounds_toArray, List.set_cons_zero, List.set_cons_succ]
          refine AnyG.takeGC (i := 4) (v := ?_) rfl (by kernel_rfl) (fun _ _ _ h => h) (by first | (simp [Region.wanted, yielded]; done) | simp [Region.wanted, yielded, undef]) ?_ hS ?_
          rotate_left
          · (intro w' hSw; (try dsimp only at hSw); go_simp; try with_reducible rfl)
          try simp only [Act.put, List.getElem_toArray, List.getElem_cons_succ, List.getElem_cons_zero, List.setIfInBounds_toArray, List.set_cons_zero, List.set_cons_succ]
          refine AnyG.takeGC (i := 5) (v := ?_) rfl (by kernel_rfl) (fun _ _ _ h => h) (by first | (simp [Region.wanted, yielded]; done) | simp [Region.wanted, yielded, undef]) ?_ hS ?_
          rotate_left
          · (intro w' hSw; (try dsimp only at hSw); go_simp; try with_reducible rfl)
          try simp only [Act.put, List.getElem_toArray, List.getElem_cons_succ, List.getElem_cons_zero, List.setIfInBounds_toArray, List.set_cons_zero, List.set_cons_succ]
          refine AnyG.takeGC (i := 6) (v := ?_) rfl (by kernel_rfl) (fun _ _ _ h => h) (by first | (simp [Region.wanted, yielded]; done) | simp [Region.wanted, yielded, undef]) ?_ hS ?_
          rotate_left
          · (intro w' hSw; (try dsimp only at hSw); have g0 := cellC hSw.2 g0; go_simp; try with_reducible rfl)
          try simp only [Act.put, List.getElem_toArray, List.getElem_cons_succ, List.getElem_cons_zero, List.setIfInBounds_toArray, List.set_cons_zero, List.set_cons_succ]
          refine AnyG.takeGC (i := 7) (v := ?_) rfl (by kernel_rfl) (fun _ _ _ h => h) (by first | (simp [Region.wanted, yielded]; done) | simp [Region.wanted, yielded, undef]) ?_ hS ?_
          rotate_left
          · (intro w' hSw; (try dsimp only at hSw); go_simp; try with_reducible rfl)
          try simp only [Act.put, List.getElem_toArray, List.getElem_cons_succ, List.getElem_cons_zero, List.setIfInBounds_toArray, List.set_cons_zero, List.set_cons_succ]
          refine AnyG.takeGC (i := 8) (v := ?_) rfl (by kernel_rfl) (fun _ _ _ h => h) (by first | (simp [Region.wanted, yielded]; done) | simp [Region.wanted, yielded, undef]) ?_ hS ?_
          rotate_left
          · (intro w' hSw; (try dsimp only at hSw); obtain ⟨l0, l1, l2, l3, l4, l5, l6, lf, lz⟩ := hSw.1.seven; go_simp; try with_reducible rfl)
          try simp only [Act.put, List.getElem_toArray, List.getElem_cons_succ, List.getElem_cons_zero, List.setIfInBounds_toArray, List.set_cons_zero, List.set_cons_succ]
          refine AnyG.takeGC (i := 9) (v := ?_) rfl (by kernel_rfl) (fun _ _ _ h => h) (by first | (simp [Region.wanted, yielded]; done) | simp [Region.wanted, yielded, undef]) ?_ hS ?_
          rotate_left
          · (intro w' hSw; (try dsimp only at hSw); go_simp; try with_reducible rfl)
          try simp only [Act.put, List.getElem_toArray, List.getElem_cons_succ, List.getElem_cons_zero, List.setIfInBounds_toArray, List.set_cons_zero, List.set_cons_succ]
          refine AnyG.takeGC (i := 10) (v := ?_) rfl (by kernel_rfl) (fun _ _ _ h => h) (by first | (simp [Region.wanted, yielded]; done) | simp [Region.wanted, yielded, undef]) ?_ hS ?_
          rotate_left
          · (intro w' hSw; (try dsimp only at hSw); go_simp; try with_reducible rfl)
          try simp only [Act.put, List.getElem_toArray, List.getElem_cons_succ, List.getElem_cons_zero, List.setIfInBounds_toArray, List.set_cons_zero, List.set_cons_succ]
          refine AnyG.takeGC (i := 11) (v := ?_) rfl (by kernel_rfl) (fun _ _ _ h => h) (by first | (simp [Region.wanted, yielded]; done) | simp [Region.wanted, yielded, undef]) ?_ hS ?_
          rotate_left
          · (intro w' hSw; (try dsimp only at hSw); go_simp; try with_reducible rfl)
          try simp only [Act.put, List.getElem_toArray, List.getElem_cons_succ, List.getElem_cons_zero, List.setIfInBounds_toArray, List.set_cons_zero, List.set_cons_succ]
          refine AnyG.takeGC (i := 12) (v := ?_) rfl (by kernel_rfl) (fun _ _ _ h => h) (by first | (simp [Region.wanted, yielded]; done) | simp [Region.wanted, yielded, undef]) ?_ hS ?_
          rotate_left
          · (intro w' hSw; (try dsimp only at hSw); go_simp; try with_reducible rfl)
          try simp only [Act.put, List.getElem_toArray, List.getElem_cons_succ, List.getElem_cons_zero, List.setIfInBounds_toArray, List.set_cons_zero, List.set_cons_succ]
          refine AnyG.takeGC (i := 13) (v := ?_) rfl (by kernel_rfl) (fun _ _ _ h => h) (by first | (simp [Region.wanted, yielded]; done) | simp [Region.wanted, yielded, undef]) ?_ hS ?_
          rotate_left
          · (intro w' hSw; (try dsimp only at hSw); have g1 := cellC hSw.2 g1; go_simp; try with_reducible rfl)
          try simp only [Act.put, List.getElem_toArray, List.getElem_cons_succ, List.getElem_cons_zero, List.setIfInBounds_toArray, List.set_cons_zero, List.set_cons_succ]
          refine AnyG.takeGC (i := 14) (v := ?_) rfl (by kernel_rfl) (fun _ _ _ h => h) (by first | (simp [Region.wanted, yielded]; done) | simp [Region.wanted, yielded, undef]) ?_ hS ?_
          rotate_left
          · (intro w' hSw; (try dsimp only at hSw); go_simp; try with_reducible rfl)
          try simp only [Act.put, List.getElem_toArray, List.getElem_cons_succ, List.getElem_cons_zero, List.setIfInBounds_toArray, List.set_cons_zero, List.set_cons_succ]
          refine AnyG.takeGC (i := 15) (v := ?_) rfl (by kernel_rfl) (fun _ _ _ h => h) (by first | (simp [Region.wanted, yielded]; done) | simp [Region.wanted, yielded, undef]) ?_ hS ?_
          rotate_left
          · (intro w' hSw; (try dsimp only at hSw); go_simp; try with_reducible rfl)
          try simp only [Act.put, List.getElem_toArray, List.getElem_cons_succ, List.getElem_cons_zero, List.setIfInBounds_toArray, List.set_cons_zero, List.set_cons_succ]
          refine AnyG.takeGC (i := 16) (v := ?_) rfl (by kernel_rfl) (fun _ _ _ h => h) (by first | (simp [Region.wanted, yielded]; done) | simp [Region.wanted, yielded, undef]) ?_ hS ?_
          rotate_left
          · (intro w' hSw; (try dsimp only at hSw); obtain ⟨l0, l1, l2, l3, l4, l5, l6, lf, lz⟩ := hSw.1.seven; go_simp; try with_reducible rfl)
          try simp only [Act.put, List.getElem_toArray, List.getElem_cons_succ, List.getElem_cons_zero, List.setIfInBounds_toArray, List.set_cons_zero, List.set_cons_succ]
          refine AnyG.takeGC (i := 17) (v := ?_) rfl (by kernel_rfl) (fun _ _ _ h => h) (by first | (simp [Region.wanted, yielded]; done) | simp [Region.wanted, yielded, undef]) ?_ hS ?_
          rotate_left
          · (intro w' hSw; (try dsimp only at hSw); go_simp; try with_reducible rfl)
          try simp only [Act.put, List.getElem_toArray, List.getElem_cons_succ, List.getElem_cons_zero, List.setIfInBounds_toArray, List.set_cons_zero, List.set_cons_succ]
          refine AnyG.takeGC (i := 18) (v := ?_) rfl (by kernel_rfl) (fun _ _ _ h => h) (by first | (simp [Region.wanted, yielded]; done) | simp [Region.wanted, yielded, undef]) ?_ hS ?_
          rotate_left
          · (intro w' hSw; (try dsimp only at hSw); go_simp; try with_reducible rfl)
          try simp only [Act.put, List.getElem_toArray, List.getElem_cons_succ, List.getElem_cons_zero, List.setIfInBounds_toArray, List.set_cons_zero, List.set_cons_succ]
          refine AnyG.takeGC (i := 19) (v := ?_) rfl (by kernel_rfl) (fun _ _ _ h => h) (by first | (simp [Region.wanted, yielded]; done) | simp [Region.wanted, yielded, undef]) ?_ hS ?_
          rotate_left
          · (intro w' hSw; (try dsimp only at hSw); go_simp; try with_reducible rfl)
          try simp only [Act.put, List.getElem_toArray, List.getElem_cons_succ, List.getElem_cons_zero, List.setIfInBounds_toArray, List.set_cons_zero, List.set_cons_succ]
          refine AnyG.takeGC (i := 20) (v := ?_) rfl (by kernel_rfl) (fun _ _ _ h => h) (by first | (simp [Region.wanted, yielded]; done) | simp [Region.wanted, yielded, undef]) ?_ hS ?_
          rotate_left
          · (intro w' hSw; (try dsimp only at hSw); have g2 := cellC hSw.2 g2; go_simp; try with_reducible rfl)
          try simp only [Act.put, List.getElem_toArray, List.getElem_cons_succ, List.getElem_cons_zero, List.setIfInBounds_toArray, List.set_cons_zero, List.set_cons_succ]
          refine AnyG.takeGC (i := 21) (v := ?_) rfl (by kernel_rfl) (fun _ _ _ h => h) (by first | (simp [Region.wanted, yielded]; done) | simp [Region.wanted, yielded, undef]) ?_ hS ?_
          rotate_left
          · (intro w' hSw; (try dsimp only at hSw); go_simp; try with_reducible rfl)
          try simp only [Act.put, List.getElem_toArray, List.getElem_cons_succ, List.getElem_cons_zero, List.setIfInBounds_toArray, List.set_cons_zero, List.set_cons_succ]
          refine AnyG.takeC (i := 22) (v := ?_) rfl (by kernel_rfl) (fun _ _ _ h => h) rfl ?_ hS ?_
          rotate_left
          · (intro w' hSw; (try dsimp only at hSw); go_simp; try with_reducible rfl)
          try simp only [Act.put, List.getElem_toArray, List.getElem_cons_succ, List.getElem_cons_zero, List.setIfInBounds_toArray, List.set_cons_zero, List.set_cons_succ]
          refine AnyG.done (by kernel_rfl) ?_ _
          obtain ⟨y2, hy2⟩ : ∃ y, y1.drew = y := ⟨_, rfl⟩
          rw [hy2] at hS ⊢
          have T3 := T2.bel hS.2
          have kR3 := kR2.call hS.2
          have oL3 := own_bel oL2 hS.2
          have kv3 := hS.1
          have g0 := cellC hS.2 g0
          have g1 := cellC hS.2 g1
          have had : aR.add xn = ⟨w.heap.size + 1, xn, none⟩ := by
            rw [← HAR.out]
            by_cases e : xn = 0
            · subst e; simp [Addr.add]
            · simp [Addr.add, e]
          have gF : y2.drew.frozen? (aR.add xn) = false := by rw [had]; exact kR3.free xn
          have HAD := Lib.hid had
          have HTVL : Hid ((v.ls[l.length]'(by have := HV.out.ll; have := HLL.out; omega)).t1 = tv) := Lib.hid (by have := HLL.out; subst this; exact HTV.out)
          clear hS hy2 T2 kR2 oL2 kv kv2 had
          go_wp2_with fail
          refine AnyG.startC (by kernel_rfl) ?_
          refine AnyG.takeP (i := 0) (v := ?_) rfl (by kernel_rfl) (fun _ _ _ h => h) rfl ?_ ?_
          rotate_left
          · (intro w'; go_simp; try with_reducible rfl)
          try simp only [Act.put, List.getElem_toArray, List.getElem_cons_succ, List.getElem_cons_zero, List.setIfInBounds_toArray, List.set_cons_zero, List.set_cons_succ]
          refine AnyG.takeP (i := 1) (v := ?_) rfl (by kernel_rfl) (fun _ _ _ h => h) rfl ?_ ?_
          rotate_left
          · (intro w'; go_simp; try with_reducible rfl)
          try simp only [Act.put, List.getElem_toArray, List.getElem_cons_succ, List.getElem_cons_zero, List.setIfInBounds_toArray, List.set_cons_zero, List.set_cons_succ]
          refine AnyG.takeP (i := 2) (v := ?_) rfl (by kernel_rfl) (fun _ _ _ h => h) rfl ?_ ?_
          rotate_left
          · (intro w'; go_simp; try with_reducible rfl)
          try simp only [Act.put, List.getElem_toArray, List.getElem_cons_succ, List.getElem_cons_zero, List.setIfInBounds_toArray, List.set_cons_zero, List.set_cons_succ]
          refine AnyG.takeP (i := 3) (v := ?_) rfl (by kernel_rfl) (fun _ _ _ h => h) rfl ?_ ?_
          rotate_left
          · (intro w'; go_simp; try with_reducible rfl)
          try simp only [Act.put, List.getElem_toArray, List.getElem_cons_succ, List.getElem_cons_zero, List.setIfInBounds_toArray, List.set_cons_zero, List.set_cons_succ]
          refine AnyG.takeP (i := 4) (v := ?_) rfl (by kernel_rfl) (fun _ _ _ h => h) rfl ?_ ?_
          rotate_left
          · (intro w'; go_simp; try with_reducible rfl)
          try simp only [Act.put, List.getElem_toArray, List.getElem_cons_succ, List.getElem_cons_zero, List.setIfInBounds_toArray, List.set_cons_zero, List.set_cons_succ]
          refine AnyG.takeP (i := 6) (v := ?_) rfl (by kernel_rfl) (fun _ _ _ h => h) rfl ?_ ?_
          rotate_left
          · (intro w'; go_simp; try with_reducible rfl)
          try simp only [Act.put, List.getElem_toArray, List.getElem_cons_succ, List.getElem_cons_zero, List.setIfInBounds_toArray, List.set_cons_zero, List.set_cons_succ]
          refine AnyG.takeP (i := 8) (v := ?_) rfl (by kernel_rfl) (fun _ _ _ h => h) rfl ?_ ?_
          rotate_left
          · (intro w'; go_simp; try with_reducible rfl)
          try simp only [Act.put, List.getElem_toArray, List.getElem_cons_succ, List.getElem_cons_zero, List.setIfInBounds_toArray, List.set_cons_zero, List.set_cons_succ]
          refine AnyG.enter (fun w' : World => Bx w' w.heap.size 26 #[.int .i64 v.li, .int .i64 v.un, .int .i64 v.tr, .slice (some aH) p.hn p.hc, .int .i64 v.le, .slice p.SA p.sn p.sc, .slice (some aL) p.ln p.lc] ∧ Below y2.heap.size y2 w') (fun i => i != 15) ?_
          have hS : (fun w' : World => Bx w' w.heap.size 26 #[.int .i64 v.li, .int .i64 v.un, .int .i64 v.tr, .slice (some aH) p.hn p.hc, .int .i64 v.le, .slice p.SA p.sn p.sc, .slice (some aL) p.ln p.lc] ∧ Below y2.heap.size y2 w') (World.drew _) := ⟨kv3.drew, (Below.refl _ _).drew⟩
          refine AnyG.takeC (i := 5) (v := ?_) rfl (by kernel_rfl) (fun _ _ _ h => h) rfl ?_ hS ?_
          rotate_left
          · (intro w' hSw; (try dsimp only at hSw); have g0 := cellC hSw.2 g0; go_simp; try with_reducible rfl)
          try simp only [Act.put, List.getElem_toArray, List.getElem_cons_succ, List.getElem_cons_zero, List.setIfInBounds_toArray, List.set_cons_zero, List.set_cons_succ]
          refine AnyG.takeC (i := 7) (v := ?_) rfl (by kernel_rfl) (fun _ _ _ h => h) rfl ?_ hS ?_
          rotate_left
          · (intro w' hSw; (try dsimp only at hSw); obtain ⟨l0, l1, l2, l3, l4, l5, l6, lf, lz⟩ := hSw.1.seven; go_simp; try with_reducible rfl)
          try simp only [Act.put, List.getElem_toArray, List.getElem_cons_succ, List.getElem_cons_zero, List.setIfInBounds_toArray, List.set_cons_zero, List.set_cons_succ]
          refine AnyG.takeC (i := 9) (v := ?_) rfl (by kernel_rfl) (fun _ _ _ h => h) rfl ?_ hS ?_
          rotate_left
          · (intro w' hSw; (try dsimp only at hSw); go_simp; try with_reducible rfl)
          try simp only [Act.put, List.getElem_toArray, List.getElem_cons_succ, List.getElem_cons_zero, List.setIfInBounds_toArray, List.set_cons_zero, List.set_cons_succ]
          refine AnyG.takeC (i := 10) (v := ?_) rfl (by kernel_rfl) (fun _ _ _ h => h) rfl ?_ hS ?_
          rotate_left
          · (intro w' hSw; (try dsimp only at hSw); go_simp; try with_reducible rfl)
          try simp only [Act.put, List.getElem_toArray, List.getElem_cons_succ, List.getElem_cons_zero, List.setIfInBounds_toArray, List.set_cons_zero, List.set_cons_succ]
          refine AnyG.takeC (i := 11) (v := ?_) rfl (by kernel_rfl) (fun _ _ _ h => h) rfl ?_ hS ?_
          rotate_left
          · (intro w' hSw; (try dsimp only at hSw); go_simp; try with_reducible rfl)
          try simp only [Act.put, List.getElem_toArray, List.getElem_cons_succ, List.getElem_cons_zero, List.setIfInBounds_toArray, List.set_cons_zero, List.set_cons_succ]
          refine AnyG.takeC (i := 12) (v := ?_) rfl (by kernel_rfl) (fun _ _ _ h => h) rfl ?_ hS ?_
          rotate_left
          · (intro w' hSw; (try dsimp only at hSw); have g1 := cellC hSw.2 g1; go_simp; try with_reducible rfl)
          try simp only [Act.put, List.getElem_toArray, List.getElem_cons_succ, List.getElem_cons_zero, List.setIfInBounds_toArray, List.set_cons_zero, List.set_cons_succ]
          refine AnyG.takeC (i := 13) (v := ?_) rfl (by kernel_rfl) (fun _ _ _ h => h) rfl ?_ hS ?_
          rotate_left
          · (intro w' hSw; (try dsimp only at hSw); go_simp; try with_reducible rfl)
          try simp only [Act.put, List.getElem_toArray, List.getElem_cons_succ, List.getElem_cons_zero, List.setIfInBounds_toArray, List.set_cons_zero, List.set_cons_succ]
          refine AnyG.takeC (i := 14) (v := ?_) rfl (by kernel_rfl) (fun _ _ _ h => h) rfl ?_ hS ?_
          rotate_left
          · (intro w' hSw; (try dsimp only at hSw); go_simp; try with_reducible rfl)
          try simp only [Act.put, List.getElem_toArray, List.getElem_cons_succ, List.getElem_cons_zero, List.setIfInBounds_toArray, List.set_cons_zero, List.set_cons_succ]
          refine AnyG.one (i := 15) (by kernel_rfl) rfl rfl ?_
          go_simp
          refine Onward.last rfl ?_
          try simp only [Act.put, List.getElem_toArray, List.getElem_cons_succ, List.getElem_cons_zero, List.setIfInBounds_toArray, List.set_cons_zero, List.set_cons_succ]
          refine AnyG.done (by kernel_rfl) ?_ _
          rw [HAD.out]
          obtain ⟨Z, hZ⟩ : ∃ Z, (y2.setCell ⟨w.heap.size + 1, xn, none⟩ (.int .i64 (sv + tv))).drew = Z := ⟨_, rfl⟩
          have T4 := (T3.set_ (b := w.heap.size + 1) (by omega) (by omega) xn (.int .i64 (sv + tv))).drew
          have kR4 := (kR3.set_ xn (.int .i64 (sv + tv))).drew
          have kv4 := (kv3.far (p := ⟨w.heap.size + 1, xn, none⟩) (by simp) (.int .i64 (sv + tv))).drew
          have oL4 := (own_set (q := w.heap.size + 1) (o := xn) oL3 (fun e => by have := (oL3.lt _ e.symm).1; omega) (.int .i64 (sv + tv))).drew
          rw [rw_set (h := fun k => sumH (abd v.ls (l ++ [(xn : Int)])) k) (sv + tv) (by rw [sumH_abd v.ls l (xn : Int) (by have := HV.out.ll; have := HLL.out; omega) (xn : Int) (.inl (by omega)), if_pos rfl, HSV.out, HTVL.out]) (fun j hj => by rw [sumH_abd v.ls l (xn : Int) (by have := HV.out.ll; have := HLL.out; omega) j (.inl (by omega)), if_neg (fun e => hj e.symm)]; omega)] at kR4
          rw [hZ] at T4 kR4 kv4 oL4 ⊢
          rw [← HHA.out, ← HLA.out] at kv4
          rw [← HAR.out]
          clear hS hZ T3 kR3 oL3 kv3 g0 g1 gF
          have kn := Bx.new Z 3 #[.int .i64 (xn : Int)]
          have O6 := own_bel oL4 (bel1 Z (.cells #[.int .i64 (xn : Int)] 3))
          have Tn := T4.alloc (.cells #[.int .i64 (xn : Int)] 3)
          have kvn := kv4.alloc (.cells #[.int .i64 (xn : Int)] 3)
          have kRn := kR4.alloc (.cells #[.int .i64 (xn : Int)] 3)
          have hYs := T4.size
          go_wp2_with (first
            | (at_builtin; refine wpList_append_own _ rfl (.tmp 66) (.tmp 68) 27 rfl (w.heap.size + 2) 3 i3 _ 1 8 Try.underlying27 hi3 hz3 hs3 iy3 rfl (by decide) (.slice LA k lc) k (inr l).flatten rfl O6 ⟨Z.heap.size, 0, none⟩ 1 1 [.int .i64 (xn : Int)] rfl rfl (bx_news kn) (by simp [Value.oneCell']) (by unfold maxLen; omega) (by omega) (by have := kR4.lt; simp; omega) ?_; intro v' w' o1 o2 o3; obtain ⟨X', x', rfl⟩ := own_shape o1)
            | fail)
          have hll := HLL.out
          go_roundw
          case rel =>
            refine ⟨k + 1, l ++ [(xn : Int)], X', x', rfl, by go_num, by omega, by simp [hll], ?_, ?_, Tn.own O6 o2 (by omega) (by decide), kvn.grown o2 (own_bx O6 kvn (by decide)), ?_, by rw [inr_snoc]; exact o1⟩
            · intro z hz
              rcases List.mem_append.1 hz with hz | hz
              · exact HIN.out z hz
              · obtain rfl := List.mem_singleton.1 hz; omega
            · intro j hj
              have hadd := sumH_abd v.ls l (xn : Int) (by have := HV.out.ll; omega) (j : Int) (.inl (by omega))
              rw [hadd]
              have := HSUM.out j hj
              by_cases e : (xn : Int) = j
              · rw [if_pos e, ← e, HSV.out, HRV.out]
                have := HTVL.out
                omega
              · rw [if_neg e]; omega
            · exact kRn.grown o2 (fun e => by have := (O6.lt _ e.symm).1; omega)
          case measure => simp [intOf]; omega
    · obtain rfl : k = p.ln := by omega
      have hVw := HV.out
      have hst : ckSt v l = 0 := st_ok hck (by rw [HLL.out, hVw.ll]) (fun z hz => by have := HIN.out z hz; rw [HHN.out]; exact this) (fun j hj => HSUM.out j (by rw [← HHN.out]; exact hj))
      have HST := Lib.hid hst
      clear hst hVw hck
      go_wp2_with fail
      go_ret
      exact ⟨⟨LA, lc, l, rfl, HLL.out, HST.out, own_inr oL HLL.out⟩, hT⟩
end Go.Proofs.Ytfcpjkofbejleaa
