/- BridgeTrue: whatever zeros and loads truly are. -/
import Derived.Test.YtgbogdckmfencaaKp
import Derived.Test.YtgbogdckmfencaaLo
import Derived.Test.YtgbogdckmfencaaAk
import Derived.Test.YtgbogdckmfencaaMa
import Derived.Deep.CutBlock
set_option linter.unusedSimpArgs false
set_option linter.unusedVariables false
namespace Go.Proofs.Ytgbogdckmfencaa
open Go Go.RowKit
def atD (N : List Int) (x : Int) : Int := match N[x.toNat]? with
  | some y => y
  | none => 0
theorem sumD_bd {N l : List Int} (hb : ∀ y ∈ N, 0 ≤ y ∧ y ≤ 50000) : 0 ≤ (l.map (atD N)).sum ∧ (l.map (atD N)).sum ≤ (l.length : Int) * 50000 := by
  induction l with
  | nil => simp
  | cons a r ih =>
    have ha : 0 ≤ atD N a ∧ atD N a ≤ 50000 := by
      unfold atD
      cases hv : N[a.toNat]? with
      | none => dsimp only; omega
      | some y => exact hb y (List.mem_of_getElem? hv)
    rw [List.map_cons, List.sum_cons, List.length_cons]
    push_cast
    omega
set_option maxRecDepth 100000 in
set_option maxHeartbeats 2000000 in
theorem sumOf_any (A : Option Addr) (n c : Nat) (l : List Int) (NA : Option Addr) (k NC : Nat) (N : List Int) (w : World) (hn : n ≤ 4) (hk14 : k ≤ 14) (hl : l.length = n) (hN : N.length = k) (hA : Sl w w.heap.size 1 A (ints l)) (hNA : Sl w w.heap.size 1 NA (ints N)) (hm : ∀ x ∈ l, 0 ≤ x ∧ x < (k : Int)) (hb : ∀ y ∈ N, 0 ≤ y ∧ y ≤ 50000) :
    Calls Try.prog 43 #[.slice A n c, .slice NA k NC] w fun e w' => e = .returned (.int .i64 (l.map (atD N)).sum) ∧ w = w' := by
  have HL := Lib.hid hl
  have HN := Lib.hid hN
  have HM := Lib.hid hm
  have HB := Lib.hid hb
  clear hl hN hm hb
  go_enter Try.func43, Try.ntmps43
  go_wp2_with fail
  go_loopw [5, 6] (fun v5 v6 wr => ∃ i : Nat, i ≤ n ∧ v6 = .int .i64 i ∧ v5 = .int .i64 ((l.take i).map (atD N)).sum ∧ w = wr) (fun _ v6 _ => n - (intOf v6).toNat)
  case atStart => exact ⟨0, by omega, rfl, by simp, rfl⟩
  case round =>
    obtain ⟨i, hi, rfl, rfl, rfl⟩ := hrel
    by_cases hin : i < n
    · have hil : i < l.length := by rw [HL.out]; exact hin
      obtain ⟨r, hr⟩ := Int.eq_ofNat_of_zero_le (HM.out l[i] (List.getElem_mem hil)).1
      have hrk : r < k := by have := (HM.out l[i] (List.getElem_mem hil)).2; omega
      have hrN : r < N.length := by rw [HN.out]; exact hrk
      obtain ⟨a, rfl, hab, p0⟩ := ints_at hA hil
      obtain ⟨b, rfl, hbb, q0⟩ := ints_at hNA hrN
      rw [hr] at p0
      have hs := sumD_bd (l := l.take i) HB.out
      have hy := HB.out N[r] (List.getElem_mem hrN)
      have hlen : ((l.take i).length : Int) ≤ 4 := by rw [List.length_take]; omega
      have hst : ((l.take (i + 1)).map (atD N)).sum = ((l.take i).map (atD N)).sum + N[r] := by
        rw [List.take_succ_eq_append_getElem hil, List.map_append, List.sum_append]
        have : atD N l[i] = N[r] := by unfold atD; rw [hr, Int.toNat_natCast, List.getElem?_eq_getElem hrN]
        simp [this]
      have HST := Lib.hid hst
      obtain ⟨y, hyy⟩ : ∃ y, N[r] = y := ⟨_, rfl⟩
      rw [hyy] at hy HST q0
      obtain ⟨T, hT⟩ : ∃ T, ((l.take i).map (atD N)).sum = T := ⟨_, rfl⟩
      rw [hT] at hs HST ⊢
      have hw : IntKind.i64.wrap (T + y) = T + y := IntWalk.i64_in _ (by omega)
      clear hst hyy hT
      go_wp2_with fail
      go_roundw
      case rel => exact ⟨i + 1, by omega, by go_num, by rw [HST.out], trivial⟩
      case measure => simp [intOf]; omega
    · obtain rfl : i = n := by omega
      have ht : l.take i = l := List.take_of_length_le (by rw [HL.out]; exact Nat.le_refl _)
      rw [ht]
      go_wp2_with fail
      go_ret
      exact ⟨rfl, rfl⟩
theorem bxx2 {x y : Int} (P : Int → Prop) (h1 : P x) (h2 : P y) : ∀ i, i < 2 → ∃ q, (#[Value.int .i64 x, .int .i64 y] : Array Value)[i]? = some (.int .i64 q) ∧ P q := by
  intro i hi
  match i, hi with
  | 0, _ => exact ⟨x, rfl, h1⟩
  | 1, _ => exact ⟨y, rfl, h2⟩
theorem zOf_get {ts : List (Ev × Int × Int)} {i : Nat} (h : i < ts.length) : (ts.map (·.2.1))[i]? = some (zOf ts i) := by
  unfold zOf
  rw [List.getElem?_map, List.getElem?_eq_getElem h]
  rfl
theorem nOf_at (ts : List (Ev × Int × Int)) (x : Int) : atD (ts.map (·.2.2)) x = nOf ts x.toNat := by
  unfold atD nOf
  rw [List.getElem?_map]
  cases ts[x.toNat]? <;> rfl
theorem trueNet_at (ts : List (Ev × Int × Int)) (F B : List Int) : trueNet ts F B = (F.map (atD (ts.map (·.2.2)))).sum - (B.map (atD (ts.map (·.2.2)))).sum := by
  unfold trueNet
  rw [List.map_congr_left (g := atD (ts.map (·.2.2))) (fun x _ => (nOf_at ts x).symm), List.map_congr_left (l := B) (g := atD (ts.map (·.2.2))) (fun x _ => (nOf_at ts x).symm)]
structure Halted (p : Prop) : Prop where
  out : p
theorem Halted.go {p : Prop} (h : Halted p) : p := h.out
theorem pay_eq {NT d : Int} (h1 : -1000000 ≤ NT) (h2 : NT ≤ 1000000) (hd1 : 0 ≤ d) (hd2 : d ≤ 1000) : (0 ≤ NT → wrap64 ((wrap64 (NT * (1000 - d))).tdiv 1000) = cleanOf NT d) ∧ (NT ≤ 0 → wrap64 ((wrap64 0).tdiv 1000) = cleanOf NT d) := by
  have hcb := clean_bd (n := NT) (d := d) (b := 1000000) h2 (by omega) hd1 hd2
  have hci := clean_in (n := NT) (d := d) (by omega) hd1 hd2
  constructor
  · intro h
    have hm : max 0 NT = NT := by omega
    rw [hm] at hcb
    have htd : (NT * (1000 - d)).tdiv 1000 = cleanOf NT d := by unfold cleanOf; rw [hm, Int.tdiv_eq_ediv_of_nonneg hcb.1]
    rw [IntWalk.wrap64_in (NT * (1000 - d)) (by omega), htd, IntWalk.wrap64_in _ (by omega)]
  · intro h
    have hm : max 0 NT = 0 := by omega
    have : cleanOf NT d = 0 := by unfold cleanOf; rw [hm]; simp
    rw [this, IntWalk.wrap64_in 0 (by omega), Int.zero_tdiv, IntWalk.wrap64_in 0 (by omega)]
theorem zrows_at {w : World} {B : Nat} {A : Option Addr} {f : Nat → Int × Int} {n i : Nat} (h : Sl w B 2 A (zrows f n)) (hi : i < n) : ∃ ad, A = some ad ∧ ad.block < B ∧ w.cell? (ad.add (i * 2)) = some (.int .i64 (f i).1) ∧ w.cell? ⟨(ad.add (i * 2)).block, (ad.add (i * 2)).off + 1, none⟩ = some (.int .i64 (f i).2) := by
  obtain ⟨ad, h1, h2, h3⟩ := h.at_ (k := i) (by simp [zrows]; exact hi)
  simp only [zrows, List.getElem_map, List.getElem_range] at h3
  exact ⟨ad, h1, h2, h3.head rfl, h3.next 0 rfl⟩
set_option maxRecDepth 100000 in
set_option maxHeartbeats 8000000 in
theorem true_run (A : Option Addr) (n c : Nat) (L : List Int) (w : World) (hn : n ≤ 9000000000000000000) (hl : L.length = n) (hA : Sl w w.heap.size 1 A (ints L)) : Calls Try.prog 6 #[.slice A n c] w fun e w' => e = .returned (.bool true) ∧ Below w.heap.size w w' := by
  have HL := Lib.hid hl
  clear hl
  go_enter Try.func6, Try.ntmps6
  go_upto_region 3 with (first
    | (go_at_call 16; refine (feedOf_any A n c L _ hn HL.out hA).mono ?_; rintro e w1 ⟨⟨g, rfl, hg0, hfd⟩, hb1⟩; have hgl := hfd.lt)
    | (go_at_call 40; refine (either_any g w1.heap.size 3 #[.int .i64 9, .int .i64 100, .int .i64 30000] (fun r => 0 ≤ r ∧ r ≤ 30000) _ (hfd.alloc _) (Bx.new _ _ _) (by omega) (by omega) (by omega) (bx3 _ ⟨by omega, by omega⟩ ⟨by omega, by omega⟩ ⟨by omega, by omega⟩)).mono ?_; rintro e wa ⟨⟨ld, rfl, hld0, hld1⟩, hfda, hgra⟩)
    | (go_at_call 15; refine (logOf_any g 10 ld false _ hfda (by omega) (by omega) (by omega) (by omega)).mono ?_; rintro e w2 ⟨st, z0, z1, ts, z, ev, zv, nv, rfl, ⟨hs1, hs2, -, hz0, hz01, hz1⟩, hmd, hlen, hoe, hoz, hon, -, hfd2, hgr2⟩; obtain ⟨EA, EC, rfl⟩ := own_shape hoe; obtain ⟨ZA, ZC, rfl⟩ := own_shape hoz; obtain ⟨NA, NC, rfl⟩ := own_shape hon)
    | fail)
  have hBa : Below w.heap.size w wa := (hb1.alloc hb1.size _).grown hgra (by have := hb1.size; simp; omega) (fun k e => by cases e; exact hg0)
  have hBw : Below w.heap.size w w2 := hBa.grown hgr2 hBa.size (fun k e => by cases e; exact hg0)
  have hgl2 := hfd2.lt
  obtain ⟨k, hk⟩ : ∃ k, ts.length = k := ⟨_, rfl⟩
  have hk14 : k ≤ 14 := by omega
  have hck := hmd.ck hs1 (by omega) hz0 hz01 hz1 (by omega) (by omega)
  have hfit := hmd.fit hs1 hz0 hz1 (by omega) (by omega)
  have hzst := fun i hi => hmd.zst hs1 hz0 hz1 (by omega) (by omega) i hi
  have hnet := fun (h : 1 ≤ ts.length) (F B : List Int) a b c d e => hmd.net hs1 (by omega) hz0 hz01 hz1 (by omega) (by omega) h (F := F) (B := B) a b c d e
  have hall := fun p hp => (hmd.all hz0 hz1 (by omega) p hp).1
  have hsz2 := hoz.lt
  rw [hk] at hoe hoz hon hlen hfit hzst hnet ⊢
  have hel : (evsOf ts).length = k := by rw [evsOf_len]; exact hk
  have hzl : (ts.map (·.2.1)).length = k := by rw [List.length_map]; exact hk
  have hnl : (ts.map (·.2.2)).length = k := by rw [List.length_map]; exact hk
  have hE0 : EvsAt ((w2.alloc (.cells #[.int .i64 st, .int .i64 z0, .int .i64 z1, .slice EA k EC] 26)).alloc (.cells #[.slice ZA k ZC, .slice NA k NC] 32)) ((w2.alloc (.cells #[.int .i64 st, .int .i64 z0, .int .i64 z1, .slice EA k EC] 26)).alloc (.cells #[.slice ZA k ZC, .slice NA k NC] 32)).heap.size EA (evsOf ts) := (((own_evs2 hoe hel).alloc (Nat.le_refl _) _).alloc (by simp) _).more (by simp; omega)
  have hZ0 : Sl ((w2.alloc (.cells #[.int .i64 st, .int .i64 z0, .int .i64 z1, .slice EA k EC] 26)).alloc (.cells #[.slice ZA k ZC, .slice NA k NC] 32)) ((w2.alloc (.cells #[.int .i64 st, .int .i64 z0, .int .i64 z1, .slice EA k EC] 26)).alloc (.cells #[.slice ZA k ZC, .slice NA k NC] 32)).heap.size 1 ZA (ints (ts.map (·.2.1))) := (((own_sl2 hoz hzl).alloc (Nat.le_refl _) _).alloc (by simp) _).more (by simp; omega)
  have hN0 : Sl ((w2.alloc (.cells #[.int .i64 st, .int .i64 z0, .int .i64 z1, .slice EA k EC] 26)).alloc (.cells #[.slice ZA k ZC, .slice NA k NC] 32)) ((w2.alloc (.cells #[.int .i64 st, .int .i64 z0, .int .i64 z1, .slice EA k EC] 26)).alloc (.cells #[.slice ZA k ZC, .slice NA k NC] 32)).heap.size 1 NA (ints (ts.map (·.2.2))) := (((own_sl2 hon hnl).alloc (Nat.le_refl _) _).alloc (by simp) _).more (by simp; omega)
  have hf0 : Fd g ((w2.alloc (.cells #[.int .i64 st, .int .i64 z0, .int .i64 z1, .slice EA k EC] 26)).alloc (.cells #[.slice ZA k ZC, .slice NA k NC] 32)) := (hfd2.alloc _).alloc _
  have kL0 := (Bx.new w2 26 #[.int .i64 st, .int .i64 z0, .int .i64 z1, .slice EA k EC]).alloc (.cells #[.slice ZA k ZC, .slice NA k NC] 32)
  have kT0 := Bx.at (w2.alloc (.cells #[.int .i64 st, .int .i64 z0, .int .i64 z1, .slice EA k EC] 26)) 32 #[.slice ZA k ZC, .slice NA k NC] (n := w2.heap.size + 1) (by simp)
  have hB0 : Below w.heap.size w ((w2.alloc (.cells #[.int .i64 st, .int .i64 z0, .int .i64 z1, .slice EA k EC] 26)).alloc (.cells #[.slice ZA k ZC, .slice NA k NC] 32)) := (hBw.alloc hBw.size _).alloc (by have := hBw.size; simp; omega) _
  obtain ⟨X0, hX0⟩ : ∃ V, (w2.alloc (.cells #[.int .i64 st, .int .i64 z0, .int .i64 z1, .slice EA k EC] 26)).alloc (.cells #[.slice ZA k ZC, .slice NA k NC] 32) = V := ⟨_, rfl⟩
  rw [hX0] at hE0 hZ0 hN0 hf0 kL0 kT0 hB0 ⊢
  obtain ⟨bL, hbL⟩ : ∃ b, w2.heap.size = b := ⟨_, rfl⟩
  have hgL : g ≠ bL := by omega
  have hgT : g ≠ bL + 1 := by omega
  rw [hbL] at kL0 kT0 ⊢
  have HCK := Lib.hid hck
  have HFIT := Lib.hid hfit
  have HEL := Lib.hid hel
  have HZL := Lib.hid hzl
  have HNL := Lib.hid hnl
  have HK := Lib.hid hk
  have HZS := Lib.hid hzst
  have HNE := Lib.hid hnet
  have HAL := Lib.hid hall
  clear hoe hoz hon hfd hfda hgra hgr2 hmd hX0 hbL hk hck hfit hel hzl hnl hzst hnet hall hBw hBa hfd2 hgl2 hb1 hgl hsz2
  obtain ⟨l0, l1, l2, l3, lf, lz⟩ := kL0.four
  go_upto_region 4 with (first | (go_at_call 18; refine (zeros_all st z0 z1 EA k EC (evsOf ts) _ HEL.out hE0 HCK.out HFIT.out).mono ?_; rintro e x1 ⟨⟨QA, QC, rfl, hQ⟩, hq1⟩) | fail)
  clear l0 l1 l2 l3 lf lz
  obtain ⟨l0, l1, l2, l3, lf, lz⟩ := (kL0.call hq1).four
  have hE1 := (Sl.below hE0 hq1).more hq1.size
  go_upto_region 5 with (first | (go_at_call 20; refine (conflict_ok st z0 z1 EA k EC (evsOf ts) _ HEL.out hE1 HCK.out HFIT.out).mono ?_; rintro e x2 ⟨rfl, hq2⟩) | fail)
  clear l0 l1 l2 l3 lf lz
  have hq := hq1.trans (hq2.mono hq1.size)
  have hQ2 := (hQ.below hq2).more hq2.size
  have kL2 := kL0.call hq
  have kT2 := kT0.call hq
  have hZ2 := (hZ0.below hq).more hq.size
  have hN2 := (hN0.below hq).more hq.size
  have hE2 := (Sl.below hE0 hq).more hq.size
  have hf2 : Fd g x2 := by obtain ⟨y, h1, h2, h3⟩ := hf0; exact ⟨y, h1, h2, h3.call hq⟩
  have hB2 := hB0.trans (hq.mono hB0.size)
  clear hq1 hq2 hq hQ hE1 hE0 hZ0 hN0 hf0 kL0 kT0 hB0
  obtain ⟨l0, l1, l2, l3, lf, lz⟩ := kL2.four
  go_wp2_with fail
  go_loopw [10] (fun v10 wr => ∃ i : Nat, i ≤ k ∧ v10 = .int .i64 i ∧ Below x2.heap.size x2 wr) (fun v10 _ => k - (intOf v10).toNat)
  case atStart => exact ⟨0, by omega, rfl, Below.refl _ _⟩
  case round =>
    clear l0 l1 l2 l3 lf lz
    obtain ⟨i, hi, rfl, hB⟩ := hrel
    by_cases hik : i < k
    · obtain ⟨qa, rfl, hqa, q0, q1⟩ := zrows_at (hQ2.below hB) hik
      obtain ⟨za, rfl, hza, y0⟩ := ints_at (hZ2.below hB) (k := i) (by rw [HZL.out]; exact hik)
      have hzv : (ts.map (·.2.1))[i]'(by rw [HZL.out]; exact hik) = zOf ts i := by
        have h1 := zOf_get (ts := ts) (i := i) (by rw [HK.out]; exact hik)
        rw [List.getElem?_eq_getElem (by rw [HZL.out]; exact hik)] at h1
        exact Option.some.inj h1
      rw [hzv] at y0
      have hin := HZS.out i hik
      have hdec : decide ((Go.Proofs.Ytgbogdckmfencaa.zst st z0 z1 (evsOf ts) 0 i).1 ≤ zOf ts i ∧ zOf ts i ≤ (Go.Proofs.Ytgbogdckmfencaa.zst st z0 z1 (evsOf ts) 0 i).2) = true := decide_eq_true hin
      have HDEC := Lib.hid hdec
      obtain ⟨a, ha⟩ : ∃ a, (Go.Proofs.Ytgbogdckmfencaa.zst st z0 z1 (evsOf ts) 0 i).1 = a := ⟨_, rfl⟩
      obtain ⟨b, hb⟩ : ∃ b, (Go.Proofs.Ytgbogdckmfencaa.zst st z0 z1 (evsOf ts) 0 i).2 = b := ⟨_, rfl⟩
      obtain ⟨y, hy⟩ : ∃ y, zOf ts i = y := ⟨_, rfl⟩
      rw [ha] at q0 HDEC
      rw [hb] at q1 HDEC
      rw [hy] at y0 HDEC
      have HQ := Lib.hid (And.intro q0 (And.intro q1 y0))
      have kT := kT2.call hB
      clear ha hb hy hdec hin hzv q0 q1 y0
      obtain ⟨t0, t1, tf, tz⟩ := kT.two
      go_wp2_with fail
      clear t0 t1 tf tz
      refine AnyG.start (fun w' : World => Below wr.heap.size wr w') (fun i => true) (by kernel_rfl) ?_
      have hS : (fun w' : World => Below wr.heap.size wr w') (World.drew _) := (Below.refl _ _).drew
      refine AnyG.take (i := 0) (v := ?_) rfl (by kernel_rfl) (fun _ _ _ h => h) rfl ?_ hS ?_
      rotate_left
      · (intro w' hSw; (try dsimp only at hSw); go_simp; try with_reducible rfl)
      try simp only [Act.put, List.getElem_toArray, List.getElem_cons_succ, List.getElem_cons_zero, List.setIfInBounds_toArray, List.set_cons_zero, List.set_cons_succ]
      refine AnyG.take (i := 1) (v := ?_) rfl (by kernel_rfl) (fun _ _ _ h => h) rfl ?_ hS ?_
      rotate_left
      · (intro w' hSw; (try dsimp only at hSw); go_simp; try with_reducible rfl)
      try simp only [Act.put, List.getElem_toArray, List.getElem_cons_succ, List.getElem_cons_zero, List.setIfInBounds_toArray, List.set_cons_zero, List.set_cons_succ]
      refine AnyG.take (i := 2) (v := ?_) rfl (by kernel_rfl) (fun _ _ _ h => h) rfl ?_ hS ?_
      rotate_left
      · (intro w' hSw; (try dsimp only at hSw); go_simp; try with_reducible rfl)
      try simp only [Act.put, List.getElem_toArray, List.getElem_cons_succ, List.getElem_cons_zero, List.setIfInBounds_toArray, List.set_cons_zero, List.set_cons_succ]
      refine AnyG.take (i := 3) (v := ?_) rfl (by kernel_rfl) (fun _ _ _ h => h) rfl ?_ hS ?_
      rotate_left
      · (intro w' hSw; (try dsimp only at hSw); have q0 := (hSw.cell (p := qa.add (i * 2)) (by rw [add_block]; have := hB.size; omega)).trans HQ.out.1; have q1 := (hSw.cell (p := ⟨(qa.add (i * 2)).block, (qa.add (i * 2)).off + 1, none⟩) (by show (qa.add (i * 2)).block < _; rw [add_block]; have := hB.size; omega)).trans HQ.out.2.1; go_simp; try with_reducible rfl)
      try simp only [Act.put, List.getElem_toArray, List.getElem_cons_succ, List.getElem_cons_zero, List.setIfInBounds_toArray, List.set_cons_zero, List.set_cons_succ]
      refine AnyG.take (i := 4) (v := ?_) rfl (by kernel_rfl) (fun _ _ _ h => h) rfl ?_ hS ?_
      rotate_left
      · (intro w' hSw; (try dsimp only at hSw); go_simp; try with_reducible rfl)
      try simp only [Act.put, List.getElem_toArray, List.getElem_cons_succ, List.getElem_cons_zero, List.setIfInBounds_toArray, List.set_cons_zero, List.set_cons_succ]
      refine AnyG.take (i := 5) (v := ?_) rfl (by kernel_rfl) (fun _ _ _ h => h) rfl ?_ hS ?_
      rotate_left
      · (intro w' hSw; (try dsimp only at hSw); obtain ⟨t0, t1, tf, tz⟩ := (kT.call hSw).two; go_simp; try with_reducible rfl)
      try simp only [Act.put, List.getElem_toArray, List.getElem_cons_succ, List.getElem_cons_zero, List.setIfInBounds_toArray, List.set_cons_zero, List.set_cons_succ]
      refine AnyG.take (i := 6) (v := ?_) rfl (by kernel_rfl) (fun _ _ _ h => h) rfl ?_ hS ?_
      rotate_left
      · (intro w' hSw; (try dsimp only at hSw); go_simp; try with_reducible rfl)
      try simp only [Act.put, List.getElem_toArray, List.getElem_cons_succ, List.getElem_cons_zero, List.setIfInBounds_toArray, List.set_cons_zero, List.set_cons_succ]
      refine AnyG.take (i := 7) (v := ?_) rfl (by kernel_rfl) (fun _ _ _ h => h) rfl ?_ hS ?_
      rotate_left
      · (intro w' hSw; (try dsimp only at hSw); go_simp; try with_reducible rfl)
      try simp only [Act.put, List.getElem_toArray, List.getElem_cons_succ, List.getElem_cons_zero, List.setIfInBounds_toArray, List.set_cons_zero, List.set_cons_succ]
      refine AnyG.take (i := 8) (v := ?_) rfl (by kernel_rfl) (fun _ _ _ h => h) rfl ?_ hS ?_
      rotate_left
      · (intro w' hSw; (try dsimp only at hSw); have y0 := (hSw.cell (p := za.add i) (by rw [add_block]; have := hB.size; omega)).trans HQ.out.2.2; go_simp; try with_reducible rfl)
      try simp only [Act.put, List.getElem_toArray, List.getElem_cons_succ, List.getElem_cons_zero, List.setIfInBounds_toArray, List.set_cons_zero, List.set_cons_succ]
      refine AnyG.one (i := 9) (by kernel_rfl) rfl rfl ?_
      go_simp
      refine (inside_any _ _ _ _).mono ?_
      rintro e yy ⟨he, hr⟩
      rw [HDEC.out] at he
      subst he
      have hS2 : Below wr.heap.size wr yy := Below.trans hS (hr.mono hS.size)
      clear hS hr
      refine Onward.on hS2 (fun hS => ?_)
      clear hS2
      try simp only [Act.put, List.getElem_toArray, List.getElem_cons_succ, List.getElem_cons_zero, List.setIfInBounds_toArray, List.set_cons_zero, List.set_cons_succ]
      refine AnyG.take (i := 10) (v := ?_) rfl (by kernel_rfl) (fun _ _ _ h => h) rfl ?_ hS ?_
      rotate_left
      · (intro w' hSw; (try dsimp only at hSw); go_simp; try with_reducible rfl)
      try simp only [Act.put, List.getElem_toArray, List.getElem_cons_succ, List.getElem_cons_zero, List.setIfInBounds_toArray, List.set_cons_zero, List.set_cons_succ]
      refine AnyG.done (by kernel_rfl) ?_ _
      go_simp
      go_wp2_with fail
      go_roundw
      case rel => exact ⟨i + 1, by omega, by go_num, hB.trans (hS.mono hB.size)⟩
      case measure => simp [intOf]; omega
    · obtain rfl : i = k := by omega
      have hB' := hB
      have kL := kL2.call hB
      have kT := kT2.call hB
      have hE3 := (Sl.below hE2 hB).more hB.size
      have hN3 := (hN2.below hB).more hB.size
      have hf3 : Fd g wr := by obtain ⟨y, h1, h2, h3⟩ := hf2; exact ⟨y, h1, h2, h3.call hB⟩
      have hB3 := hB2.trans (hB.mono hB2.size)
      clear hB hB' kL2 kT2 hE2 hN2 hZ2 hf2 hB2 hQ2
      obtain ⟨l0, l1, l2, l3, lf, lz⟩ := kL.four
      go_upto_region 13 with (first
        | (go_at_call 26; refine (slipOf_any g st z0 z1 EA i EC (evsOf ts) 3 _ hf3 HEL.out hk14 hE3 (by omega) (by omega)).mono ?_; rintro e V ⟨FA, fn, fc, BA, bn, bc, fs, bs, d0, d1, F, B, l, j, rfl, hFn, hBn, hF, hBs, ⟨hfc, hbc⟩, hat, hsp, hfs, hbs, dr1, dr2, dr3, hfd, hgr⟩)
        | fail)
      have hEV : EvsAt V V.heap.size EA (evsOf ts) := (Sl.ft hE3 hf3 hgr (evs_no _)).more hgr.size
      have hNV := (Sl.ft hN3 hf3 hgr (ints_no _)).more hgr.size
      have kLV := kL.grown hgr (by simpa using Ne.symm hgL)
      have kTV := kT.grown hgr (by simpa using Ne.symm hgT)
      have hBV : Below w.heap.size w V := hB3.grown hgr hB3.size (fun k e => by cases e; exact hg0)
      have HFN := Lib.hid hFn
      have HBN := Lib.hid hBn
      obtain ⟨ok, hok⟩ : ∃ b, (decide (0 < fn) && decide (0 < bn)) = b := ⟨_, rfl⟩
      rw [hok]
      have HOK := Lib.hid hok
      clear hok hE3 hN3 hf3 hB3 kL kT hgr hFn hBn l0 l1 l2 l3 lf lz
      cases ok
      · go_wp2_with (first | (go_at_call 14; refine (awake_any _).mono ?_; rintro e x7 ⟨rfl, hq7⟩) | fail)
        go_ret
        exact ⟨rfl, (hBV.alloc hBV.size _).trans (hq7.mono (by have := hBV.size; simp; omega))⟩
      · have hok2 : 0 < fn ∧ 0 < bn := by simpa using HOK.out
        have hfn3 : fn ≤ 3 := by have := hsp.fl; rw [HFN.out] at this; omega
        have hbn3 : bn ≤ 3 := by have := hsp.bl; rw [HBN.out] at this; omega
        have hBU := hBV.alloc hBV.size (.cells #[.slice FA fn fc, .slice BA bn bc, .int .i64 fs, .int .i64 bs, .int .i64 d0, .int .i64 d1] 50)
        have kLU := kLV.alloc (.cells #[.slice FA fn fc, .slice BA bn bc, .int .i64 fs, .int .i64 bs, .int .i64 d0, .int .i64 d1] 50)
        have kTU := kTV.alloc (.cells #[.slice FA fn fc, .slice BA bn bc, .int .i64 fs, .int .i64 bs, .int .i64 d0, .int .i64 d1] 50)
        have kSU := Bx.new V 50 #[.slice FA fn fc, .slice BA bn bc, .int .i64 fs, .int .i64 bs, .int .i64 d0, .int .i64 d1]
        have hEU := (Sl.alloc hEV (Nat.le_refl _) (.cells #[.slice FA fn fc, .slice BA bn bc, .int .i64 fs, .int .i64 bs, .int .i64 d0, .int .i64 d1] 50)).more (B' := (V.alloc (.cells #[.slice FA fn fc, .slice BA bn bc, .int .i64 fs, .int .i64 bs, .int .i64 d0, .int .i64 d1] 50)).heap.size) (by simp)
        have hFU := (Sl.alloc hF (Nat.le_refl _) (.cells #[.slice FA fn fc, .slice BA bn bc, .int .i64 fs, .int .i64 bs, .int .i64 d0, .int .i64 d1] 50)).more (B' := (V.alloc (.cells #[.slice FA fn fc, .slice BA bn bc, .int .i64 fs, .int .i64 bs, .int .i64 d0, .int .i64 d1] 50)).heap.size) (by simp)
        have hGU := (Sl.alloc hBs (Nat.le_refl _) (.cells #[.slice FA fn fc, .slice BA bn bc, .int .i64 fs, .int .i64 bs, .int .i64 d0, .int .i64 d1] 50)).more (B' := (V.alloc (.cells #[.slice FA fn fc, .slice BA bn bc, .int .i64 fs, .int .i64 bs, .int .i64 d0, .int .i64 d1] 50)).heap.size) (by simp)
        have hNU := (Sl.alloc hNV (Nat.le_refl _) (.cells #[.slice FA fn fc, .slice BA bn bc, .int .i64 fs, .int .i64 bs, .int .i64 d0, .int .i64 d1] 50)).more (B' := (V.alloc (.cells #[.slice FA fn fc, .slice BA bn bc, .int .i64 fs, .int .i64 bs, .int .i64 d0, .int .i64 d1] 50)).heap.size) (by simp)
        have hfu := hfd.alloc (.cells #[.slice FA fn fc, .slice BA bn bc, .int .i64 fs, .int .i64 bs, .int .i64 d0, .int .i64 d1] 50)
        have hgV := hfd.lt
        obtain ⟨U, hU⟩ : ∃ U, V.alloc (.cells #[.slice FA fn fc, .slice BA bn bc, .int .i64 fs, .int .i64 bs, .int .i64 d0, .int .i64 d1] 50) = U := ⟨_, rfl⟩
        rw [hU] at hBU kLU kTU kSU hEU hFU hGU hNU hfu ⊢
        obtain ⟨sb, hsb⟩ : ∃ b, V.heap.size = b := ⟨_, rfl⟩
        have hsg : sb ≠ g := by omega
        rw [hsb] at kSU ⊢
        clear hU hsb hBV kLV kTV hEV hF hBs hNV hfd hgV
        have hfd := hfu
        go_upto_region 15 with fail
        have HFU := Lib.hid hfu
        clear hfu
        refine AnyG.start (FT g U) (fun i => true) (by kernel_rfl) ?_
        have hS : (FT g U) (World.drew _) := ⟨grown_drew _ _, hfd.drew⟩
        refine AnyG.take (i := 0) (v := ?_) rfl (by kernel_rfl) (fun _ _ _ h => h) rfl ?_ hS ?_
        rotate_left
        · (intro w' _; go_simp; try with_reducible rfl)
        try simp only [Act.put, List.getElem_toArray, List.getElem_cons_succ, List.getElem_cons_zero, List.setIfInBounds_toArray, List.set_cons_zero, List.set_cons_succ]
        refine AnyG.take (i := 3) (v := ?_) rfl (by kernel_rfl) (fun _ _ _ h => h) rfl ?_ hS ?_
        rotate_left
        · (intro w' _; go_simp; try with_reducible rfl)
        try simp only [Act.put, List.getElem_toArray, List.getElem_cons_succ, List.getElem_cons_zero, List.setIfInBounds_toArray, List.set_cons_zero, List.set_cons_succ]
        refine AnyG.take (i := 6) (v := ?_) rfl (by kernel_rfl) (fun _ _ _ h => h) rfl ?_ hS ?_
        rotate_left
        · (intro w' _; go_simp; try with_reducible rfl)
        try simp only [Act.put, List.getElem_toArray, List.getElem_cons_succ, List.getElem_cons_zero, List.setIfInBounds_toArray, List.set_cons_zero, List.set_cons_succ]
        refine AnyG.take (i := 7) (v := ?_) rfl (by kernel_rfl) (fun _ _ _ h => h) rfl ?_ hS ?_
        rotate_left
        · (intro w' _; go_simp; try with_reducible rfl)
        try simp only [Act.put, List.getElem_toArray, List.getElem_cons_succ, List.getElem_cons_zero, List.setIfInBounds_toArray, List.set_cons_zero, List.set_cons_succ]
        refine AnyG.take (i := 8) (v := ?_) rfl (by kernel_rfl) (fun _ _ _ h => h) rfl ?_ hS ?_
        rotate_left
        · (intro w' hSw; (try dsimp only at hSw); obtain ⟨s0, s1, s2, s3, s4, s5, sf, sz⟩ := (hSw.bx kSU hsg).six; go_simp; try with_reducible rfl)
        try simp only [Act.put, List.getElem_toArray, List.getElem_cons_succ, List.getElem_cons_zero, List.setIfInBounds_toArray, List.set_cons_zero, List.set_cons_succ]
        refine RegRel.AnyG.rel3 [0, 3, 6, 7, 8] [] [[], [], [1], [], [], [1, 2, 4], [], [], [], [1, 2, 4, 5], [1, 2, 4, 5, 9], [1, 2, 4, 5, 9, 10], [1, 2, 4, 5, 9, 10, 11]] [(84, 1), (85, 2), (87, 4), (88, 5), (92, 9), (13, 10), (14, 11), (15, 12)] (FT g U) (fun _ => FK g) [(1, fun vs w1 => ∃ (q : Nat) (cs : Array Value), vs 1 = .slice (some ⟨q, 0, none⟩) 2 2 ∧ q ≠ g ∧ Bx w1 q 3 cs ∧ ∀ i, i < 2 → ∃ x, cs[i]? = some (.int .i64 x) ∧ (x = 0 ∨ x = 1)), (2, fun vs w1 => ∃ r : Int, vs 2 = .int .i64 r ∧ (r = 0 ∨ r = 1)), (4, fun vs w1 => ∃ (q : Nat) (cs : Array Value), vs 4 = .slice (some ⟨q, 0, none⟩) 2 2 ∧ q ≠ g ∧ Bx w1 q 3 cs ∧ ∀ i, i < 2 → ∃ x, cs[i]? = some (.int .i64 x) ∧ (x = 0 ∨ x = 1)), (5, fun vs w1 => ∃ r : Int, vs 5 = .int .i64 r ∧ (r = 0 ∨ r = 1)), (9, fun vs w1 => ∃ r : Int, vs 9 = .int .i64 r ∧ d0 ≤ r ∧ r ≤ d1), (10, fun vs w1 => ∃ r : Int, vs 10 = .int .i64 r ∧ (r = 0 ∨ r = 1)), (11, fun vs w1 => ∃ r : Int, vs 11 = .int .i64 r ∧ (r = 0 ∨ r = 1)), (12, fun vs w1 => ∃ r : Int, vs 12 = .int .i64 r ∧ d0 ≤ r ∧ r ≤ d1)]
          (by kernel_rfl) (by kernel_rfl) (by kernel_rfl) (by decide) (by decide) hS (fun _ h => h) (fun _ _ _ h k => h.step k) ?hst ?hcg ?hstep ?hfin
        case hst => exact ⟨fun j vs w1 w2 hjd hjz hjp hji h ht hk => (by obtain ⟨q, cs, e1, e2, e3, e4⟩ := h; exact ⟨q, cs, e1, e2, hk.bx e3 e2, e4⟩), fun j vs w1 w2 hjd hjz hjp hji h ht hk => h, fun j vs w1 w2 hjd hjz hjp hji h ht hk => (by obtain ⟨q, cs, e1, e2, e3, e4⟩ := h; exact ⟨q, cs, e1, e2, hk.bx e3 e2, e4⟩), fun j vs w1 w2 hjd hjz hjp hji h ht hk => h, fun j vs w1 w2 hjd hjz hjp hji h ht hk => h, fun j vs w1 w2 hjd hjz hjp hji h ht hk => h, fun j vs w1 w2 hjd hjz hjp hji h ht hk => h, fun j vs w1 w2 hjd hjz hjp hji h ht hk => h, trivial⟩
        case hcg => exact ⟨fun vs vs2 _ he h => (by dsimp only at h ⊢; rw [he 1 (by simp)]; exact h), fun vs vs2 _ he h => (by dsimp only at h ⊢; rw [he 2 (by simp)]; exact h), fun vs vs2 _ he h => (by dsimp only at h ⊢; rw [he 4 (by simp)]; exact h), fun vs vs2 _ he h => (by dsimp only at h ⊢; rw [he 5 (by simp)]; exact h), fun vs vs2 _ he h => (by dsimp only at h ⊢; rw [he 9 (by simp)]; exact h), fun vs vs2 _ he h => (by dsimp only at h ⊢; rw [he 10 (by simp)]; exact h), fun vs vs2 _ he h => (by dsimp only at h ⊢; rw [he 11 (by simp)]; exact h), fun vs vs2 _ he h => (by dsimp only at h ⊢; rw [he 12 (by simp)]; exact h), trivial⟩
        case hstep =>
          refine ⟨?_, ?_, ?_, ?_, ?_, ?_, ?_, ?_, trivial⟩
          · rintro vs v1 - ⟨hgr, hfd⟩
            refine ⟨_, _, rfl, rfl, ?_⟩
            clear hS
            simp only [RegRel.fillT, List.foldl_cons, List.foldl_nil, List.setIfInBounds_toArray, List.set_cons_zero, List.set_cons_succ]
            go_simp
            have hlt := hfd.lt
            refine ⟨⟨_, rfl, by omega, _, Bx.new _ _ _, bxx2 _ (by omega) (by omega)⟩, FK.alloc _ _ _⟩
          · rintro vs v1 ⟨⟨q1, cs1, h1, hq1, hb1, hc1⟩, -⟩ ⟨hgr, hfd⟩
            refine ⟨_, _, rfl, rfl, ?_⟩
            clear hS
            try dsimp only at h1
            simp only [RegRel.fillT, List.foldl_cons, List.foldl_nil, List.setIfInBounds_toArray, List.set_cons_zero, List.set_cons_succ]
            try simp only [h1]
            try clear h1
            go_simp
            refine (either_any g q1 2 cs1 (fun r => r = 0 ∨ r = 1) _ hfd hb1 hq1 (by omega) (by omega) hc1).mono ?_
            rintro rr v2 ⟨⟨r, rfl, hr1⟩, hf2, hg2⟩
            first | exact ⟨⟨r, rfl, by omega⟩, ⟨hg2, fun _ => hf2⟩, rfl⟩ | exact ⟨⟨r, rfl, by omega⟩, ⟨hg2, fun _ => hf2⟩⟩ | trace_state
          · rintro vs v1 - ⟨hgr, hfd⟩
            refine ⟨_, _, rfl, rfl, ?_⟩
            clear hS
            simp only [RegRel.fillT, List.foldl_cons, List.foldl_nil, List.setIfInBounds_toArray, List.set_cons_zero, List.set_cons_succ]
            go_simp
            have hlt := hfd.lt
            refine ⟨⟨_, rfl, by omega, _, Bx.new _ _ _, bxx2 _ (by omega) (by omega)⟩, FK.alloc _ _ _⟩
          · rintro vs v1 ⟨⟨q1, cs1, h1, hq1, hb1, hc1⟩, ⟨r2, h2, ra2⟩, ⟨q4, cs4, h4, hq4, hb4, hc4⟩, -⟩ ⟨hgr, hfd⟩
            refine ⟨_, _, rfl, rfl, ?_⟩
            clear hS
            try dsimp only at h1 h2 h4
            simp only [RegRel.fillT, List.foldl_cons, List.foldl_nil, List.setIfInBounds_toArray, List.set_cons_zero, List.set_cons_succ]
            try simp only [h1, h2, h4]
            try clear h1 h2 h4
            go_simp
            refine (either_any g q4 2 cs4 (fun r => r = 0 ∨ r = 1) _ hfd hb4 hq4 (by omega) (by omega) hc4).mono ?_
            rintro rr v2 ⟨⟨r, rfl, hr1⟩, hf2, hg2⟩
            first | exact ⟨⟨r, rfl, by omega⟩, ⟨hg2, fun _ => hf2⟩, rfl⟩ | exact ⟨⟨r, rfl, by omega⟩, ⟨hg2, fun _ => hf2⟩⟩ | trace_state
          · rintro vs v1 ⟨⟨q1, cs1, h1, hq1, hb1, hc1⟩, ⟨r2, h2, ra2⟩, ⟨q4, cs4, h4, hq4, hb4, hc4⟩, ⟨r5, h5, ra5⟩, -⟩ ⟨hgr, hfd⟩
            refine ⟨_, _, rfl, rfl, ?_⟩
            clear hS
            try dsimp only at h1 h2 h4 h5
            simp only [RegRel.fillT, List.foldl_cons, List.foldl_nil, List.setIfInBounds_toArray, List.set_cons_zero, List.set_cons_succ]
            try simp only [h1, h2, h4, h5]
            try clear h1 h2 h4 h5
            go_simp
            refine (in_any g d0 d1 _ hfd (by omega) (by omega) (by omega)).mono ?_
            rintro rr v2 ⟨⟨r, rfl, hr1, hr2⟩, hf2, hg2⟩
            first | exact ⟨⟨r, rfl, by omega, by omega⟩, ⟨hg2, fun _ => hf2⟩, rfl⟩ | exact ⟨⟨r, rfl, by omega, by omega⟩, ⟨hg2, fun _ => hf2⟩⟩ | trace_state
          · rintro vs v1 ⟨⟨q1, cs1, h1, hq1, hb1, hc1⟩, ⟨r2, h2, ra2⟩, ⟨q4, cs4, h4, hq4, hb4, hc4⟩, ⟨r5, h5, ra5⟩, ⟨r9, h9, ra9, rb9⟩, -⟩ ⟨hgr, hfd⟩
            refine ⟨_, _, rfl, rfl, ?_⟩
            clear hS
            try dsimp only at h1 h2 h4 h5 h9
            simp only [RegRel.fillT, List.foldl_cons, List.foldl_nil, List.setIfInBounds_toArray, List.set_cons_zero, List.set_cons_succ]
            try simp only [h1, h2, h4, h5, h9]
            try clear h1 h2 h4 h5 h9
            go_simp
            first | exact ⟨⟨r2, rfl, ra2⟩, ⟨grown_refl _ _, fun h => h⟩, rfl⟩ | exact ⟨⟨r2, rfl, ra2⟩, ⟨grown_refl _ _, fun h => h⟩⟩ | trace_state
          · rintro vs v1 ⟨⟨q1, cs1, h1, hq1, hb1, hc1⟩, ⟨r2, h2, ra2⟩, ⟨q4, cs4, h4, hq4, hb4, hc4⟩, ⟨r5, h5, ra5⟩, ⟨r9, h9, ra9, rb9⟩, ⟨r10, h10, ra10⟩, -⟩ ⟨hgr, hfd⟩
            refine ⟨_, _, rfl, rfl, ?_⟩
            clear hS
            try dsimp only at h1 h2 h4 h5 h9 h10
            simp only [RegRel.fillT, List.foldl_cons, List.foldl_nil, List.setIfInBounds_toArray, List.set_cons_zero, List.set_cons_succ]
            try simp only [h1, h2, h4, h5, h9, h10]
            try clear h1 h2 h4 h5 h9 h10
            go_simp
            first | exact ⟨⟨r5, rfl, ra5⟩, ⟨grown_refl _ _, fun h => h⟩, rfl⟩ | exact ⟨⟨r5, rfl, ra5⟩, ⟨grown_refl _ _, fun h => h⟩⟩ | trace_state
          · rintro vs v1 ⟨⟨q1, cs1, h1, hq1, hb1, hc1⟩, ⟨r2, h2, ra2⟩, ⟨q4, cs4, h4, hq4, hb4, hc4⟩, ⟨r5, h5, ra5⟩, ⟨r9, h9, ra9, rb9⟩, ⟨r10, h10, ra10⟩, ⟨r11, h11, ra11⟩, -⟩ ⟨hgr, hfd⟩
            refine ⟨_, _, rfl, rfl, ?_⟩
            clear hS
            try dsimp only at h1 h2 h4 h5 h9 h10 h11
            simp only [RegRel.fillT, List.foldl_cons, List.foldl_nil, List.setIfInBounds_toArray, List.set_cons_zero, List.set_cons_succ]
            try simp only [h1, h2, h4, h5, h9, h10, h11]
            try clear h1 h2 h4 h5 h9 h10 h11
            go_simp
            first | exact ⟨⟨r9, rfl, ra9, rb9⟩, ⟨grown_refl _ _, fun h => h⟩, rfl⟩ | exact ⟨⟨r9, rfl, ra9, rb9⟩, ⟨grown_refl _ _, fun h => h⟩⟩ | trace_state
        case hfin =>
          rintro vs v1 ⟨⟨q1, cs1, h1, hq1, hb1, hc1⟩, ⟨r2, h2, ra2⟩, ⟨q4, cs4, h4, hq4, hb4, hc4⟩, ⟨r5, h5, ra5⟩, ⟨r9, h9, ra9, rb9⟩, ⟨r10, h10, ra10⟩, ⟨r11, h11, ra11⟩, ⟨r12, h12, ra12, rb12⟩, -⟩ ⟨hgr, hfd⟩
          clear hS
          try dsimp only at h1 h2 h4 h5 h9 h10 h11 h12
          simp only [List.filter_cons, List.contains_cons, List.contains_nil, Nat.reduceBEq, Bool.or_false, Bool.not_false, if_true, List.filter_nil]
          simp only [RegRel.fillT, List.foldl_cons, List.foldl_nil, List.setIfInBounds_toArray, List.set_cons_zero, List.set_cons_succ]
          simp only [h1, h2, h4, h5, h9, h10, h11, h12]
          clear h1 h2 h4 h5 h9 h10 h11 h12
          refine RegRel.wpOps_end ?_
          go_simp
          have kL := kLU.grown hgr (by simpa using Ne.symm hgL)
          have kT := kTU.grown hgr (by simpa using Ne.symm hgT)
          have kS := kSU.grown hgr (by simpa using hsg)
          have hfU : Fd g U := HFU.out
          have hE := (Sl.ft hEU hfU hgr (evs_no _)).more hgr.size
          have hF := (Sl.ft hFU hfU hgr (ints_no _)).more hgr.size
          have hG := (Sl.ft hGU hfU hgr (ints_no _)).more hgr.size
          have hN := (Sl.ft hNU hfU hgr (ints_no _)).more hgr.size
          have hBv : Below w.heap.size w v1 := hBU.grown hgr hBU.size (fun k e => by cases e; exact hg0)
          clear kLU kTU kSU hEU hFU hGU hNU hBU hfU hgr HFU hb1 hb4 hc1 hc4
          obtain ⟨s0, s1, s2, s3, s4, s5, sf, sz⟩ := kS.six
          go_upto_if 95 with fail
          go_cut [13] (fun v wr => v1 = wr ∧ ∃ x : Int, v = .int .i64 x ∧ (x = 0 ∨ x = 1) ∧ (fs ≠ 2 → x = fs))
          case first =>
            by_cases hf2 : fs = 2
            · have hfb : (fs != 2) = false := by simpa using hf2
              go_wp2_with fail
              go_meet
              exact ⟨rfl, r10, rfl, ra10, fun h => absurd hf2 h⟩
            · have hfb : (fs != 2) = true := by simpa using hf2
              go_wp2_with fail
              go_meet
              exact ⟨rfl, fs, rfl, by omega, fun _ => rfl⟩
          case rest =>
            obtain ⟨rfl, x, rfl, hx, hfx⟩ := hcut
            go_upto_if 100 with fail
            go_cut [14] (fun v wr => v1 = wr ∧ ∃ y : Int, v = .int .i64 y ∧ (y = 0 ∨ y = 1) ∧ (bs ≠ 2 → y = bs))
            case first =>
              by_cases hf2 : bs = 2
              · have hfb : (bs != 2) = false := by simpa using hf2
                go_wp2_with fail
                go_meet
                exact ⟨rfl, r11, rfl, ra11, fun h => absurd hf2 h⟩
              · have hfb : (bs != 2) = true := by simpa using hf2
                go_wp2_with fail
                go_meet
                exact ⟨rfl, bs, rfl, by omega, fun _ => rfl⟩
            case rest =>
              obtain ⟨rfl, y, rfl, hy, hby⟩ := hcut
              have hdsin := ds_in hfs.1 hfs.2 hbs.1 hbs.2 hx hy hfx hby (by omega) ra12 rb12
              obtain ⟨SF, hSF⟩ : ∃ s, (F.map (atD (ts.map (·.2.2)))).sum = s := ⟨_, rfl⟩
              obtain ⟨SB, hSB⟩ : ∃ s, (B.map (atD (ts.map (·.2.2)))).sum = s := ⟨_, rfl⟩
              have hnsb : ∀ y ∈ ts.map (·.2.2), 0 ≤ y ∧ y ≤ 50000 := fun y hy => by obtain ⟨p, hp, rfl⟩ := List.mem_map.1 hy; have h1 := HAL.out p hp; have h2 := h1.n0; have h3 := h1.n1; exact ⟨h2, by omega⟩
              have hlF : ∀ x ∈ F, ldAt (evsOf ts) x := fun x hx => (hat.mem _ (List.mem_of_mem_take (hsp.fm x hx))).1
              have hlB : ∀ x ∈ B, ldAt (evsOf ts) x := fun x hx => (hat.mem _ (List.mem_of_mem_take (hsp.bm x hx))).1
              have hFm : ∀ x ∈ F, 0 ≤ x ∧ x < (i : Int) := fun x hx => by have h := hlF x hx; have h1 := h.1; have h2 := h.2.1; rw [HEL.out] at h2; exact ⟨h1, h2⟩
              have hBm : ∀ x ∈ B, 0 ≤ x ∧ x < (i : Int) := fun x hx => by have h := hlB x hx; have h1 := h.1; have h2 := h.2.1; rw [HEL.out] at h2; exact ⟨h1, h2⟩
              have s1 := sumD_bd (l := F) hnsb
              have s2 := sumD_bd (l := B) hnsb
              rw [hSF, HFN.out] at s1
              rw [hSB, HBN.out] at s2
              have hi1 : 1 ≤ i := by have h := hFm (F[0]'(by rw [HFN.out]; exact hok2.1)) (List.getElem_mem _); omega
              have htn := HNE.out hi1 F B hsp.fa hsp.ba hFm hBm hsp.ap
              have htr : trueNet ts F B = SF - SB := by rw [trueNet_at, hSF, hSB]
              rw [htr] at htn
              have hs0 : ckS st z0 z1 (evsOf ts) F B fs bs d0 d1 = 0 := ckS_made HCK.out hat hsp (by omega) (by rw [HFN.out]; omega) (by rw [HBN.out]; omega) hfs.1 hfs.2 hbs.1 hbs.2 (by omega) dr2 (by omega)
              have hfit' : Fits st z0 z1 (evsOf ts) (evsOf ts).length := by rw [HEL.out]; exact HFIT.out
              have b0 := net_small (ckL_zero HCK.out) hfit' (by rw [HEL.out]; exact hi1) F B
              rw [HEL.out] at b0
              have b1 := ds_small (fs := fs) (bs := bs) (d0 := d0) (d1 := d1) (by omega) (by omega) (by omega) (by omega)
              unfold Bd at b0 b1
              dsimp only at b1
              obtain ⟨N1, hN1⟩ : ∃ x, (netOf st (evsOf ts) F B (Go.Proofs.Ytgbogdckmfencaa.zst st z0 z1 (evsOf ts) 0) i).1 + dsLo fs bs d0 d1 = x := ⟨_, rfl⟩
              obtain ⟨N2, hN2⟩ : ∃ x, (netOf st (evsOf ts) F B (Go.Proofs.Ytgbogdckmfencaa.zst st z0 z1 (evsOf ts) 0) i).2 + dsHi fs bs d0 d1 = x := ⟨_, rfl⟩
              obtain ⟨P, hP⟩ : ∃ p, x * r12 = p := ⟨_, rfl⟩
              obtain ⟨R, hR⟩ : ∃ p, y * r12 = p := ⟨_, rfl⟩
              have hPb : 0 ≤ P ∧ P ≤ 200 := by rcases hx with h | h <;> rw [h] at hP <;> omega
              have hRb : 0 ≤ R ∧ R ≤ 200 := by rcases hy with h | h <;> rw [h] at hR <;> omega
              rw [hP, hR] at hdsin
              obtain ⟨NT, hNT⟩ : ∃ t, SF - SB - P + R = t := ⟨_, rfl⟩
              have hin : N1 ≤ NT ∧ NT ≤ N2 := by omega
              have hNb : -1000000000 ≤ N1 ∧ N1 ≤ 1000000000 ∧ -1000000000 ≤ N2 ∧ N2 ≤ 1000000000 := by omega
              have HNN := Lib.hid (And.intro hN1 hN2)
              have HIN := Lib.hid (decide_eq_true hin)
              have hNTb : -1000000 ≤ NT ∧ NT ≤ 1000000 := by omega
              have hwa : IntKind.i64.wrap (SF - SB) = SF - SB := IntWalk.i64_in _ (by omega)
              have hwb : IntKind.i64.wrap (x * r12) = P := by rw [hP]; exact IntWalk.i64_in _ (by omega)
              have hwc : IntKind.i64.wrap (SF - SB - P) = SF - SB - P := IntWalk.i64_in _ (by omega)
              have hwd : IntKind.i64.wrap (y * r12) = R := by rw [hR]; exact IntWalk.i64_in _ (by omega)
              have hwe : IntKind.i64.wrap (SF - SB - P + R) = NT := by rw [hNT]; exact IntWalk.i64_in _ (by omega)
              have HIN2 := Lib.hid hin
              have HS0 := Lib.hid hs0
              have HSF := Lib.hid hSF
              have HSB := Lib.hid hSB
              have HNSB := Lib.hid hnsb
              have HFM := Lib.hid hFm
              have HBM := Lib.hid hBm
              clear s0 s1 s2 s3 s4 s5 sf sz hSF hSB hnsb hlF hlB hFm hBm htn htr hs0 hfit' b0 b1 hN1 hN2 hP hR hdsin hNT hat hsp hin
              obtain ⟨s0, s1, s2, s3, s4, s5, sf, sz⟩ := kS.six
              go_upto_region 20 with fail
              clear s0 s1 s2 s3 s4 s5 sf sz
              refine AnyG.start (fun w' : World => Below v1.heap.size v1 w') (fun i => true) (by kernel_rfl) ?_
              have hS : (fun w' : World => Below v1.heap.size v1 w') (World.drew _) := (Below.refl _ _).drew
              refine AnyG.take (i := 0) (v := ?_) rfl (by kernel_rfl) (fun _ _ _ h => h) rfl ?_ hS ?_
              rotate_left
              · (intro w' hSw; (try dsimp only at hSw); go_simp; try with_reducible rfl)
              try simp only [Act.put, List.getElem_toArray, List.getElem_cons_succ, List.getElem_cons_zero, List.setIfInBounds_toArray, List.set_cons_zero, List.set_cons_succ]
              refine AnyG.take (i := 1) (v := ?_) rfl (by kernel_rfl) (fun _ _ _ h => h) rfl ?_ hS ?_
              rotate_left
              · (intro w' hSw; (try dsimp only at hSw); obtain ⟨s0, s1, s2, s3, s4, s5, sf, sz⟩ := (kS.call hSw).six; go_simp; try with_reducible rfl)
              try simp only [Act.put, List.getElem_toArray, List.getElem_cons_succ, List.getElem_cons_zero, List.setIfInBounds_toArray, List.set_cons_zero, List.set_cons_succ]
              refine AnyG.take (i := 2) (v := ?_) rfl (by kernel_rfl) (fun _ _ _ h => h) rfl ?_ hS ?_
              rotate_left
              · (intro w' hSw; (try dsimp only at hSw); go_simp; try with_reducible rfl)
              try simp only [Act.put, List.getElem_toArray, List.getElem_cons_succ, List.getElem_cons_zero, List.setIfInBounds_toArray, List.set_cons_zero, List.set_cons_succ]
              refine AnyG.take (i := 3) (v := ?_) rfl (by kernel_rfl) (fun _ _ _ h => h) rfl ?_ hS ?_
              rotate_left
              · (intro w' hSw; (try dsimp only at hSw); obtain ⟨t0, t1, tf, tz⟩ := (kT.call hSw).two; go_simp; try with_reducible rfl)
              try simp only [Act.put, List.getElem_toArray, List.getElem_cons_succ, List.getElem_cons_zero, List.setIfInBounds_toArray, List.set_cons_zero, List.set_cons_succ]
              refine AnyG.take (i := 5) (v := ?_) rfl (by kernel_rfl) (fun _ _ _ h => h) rfl ?_ hS ?_
              rotate_left
              · (intro w' hSw; (try dsimp only at hSw); go_simp; try with_reducible rfl)
              try simp only [Act.put, List.getElem_toArray, List.getElem_cons_succ, List.getElem_cons_zero, List.setIfInBounds_toArray, List.set_cons_zero, List.set_cons_succ]
              refine AnyG.take (i := 6) (v := ?_) rfl (by kernel_rfl) (fun _ _ _ h => h) rfl ?_ hS ?_
              rotate_left
              · (intro w' hSw; (try dsimp only at hSw); obtain ⟨s0, s1, s2, s3, s4, s5, sf, sz⟩ := (kS.call hSw).six; go_simp; try with_reducible rfl)
              try simp only [Act.put, List.getElem_toArray, List.getElem_cons_succ, List.getElem_cons_zero, List.setIfInBounds_toArray, List.set_cons_zero, List.set_cons_succ]
              refine AnyG.take (i := 7) (v := ?_) rfl (by kernel_rfl) (fun _ _ _ h => h) rfl ?_ hS ?_
              rotate_left
              · (intro w' hSw; (try dsimp only at hSw); go_simp; try with_reducible rfl)
              try simp only [Act.put, List.getElem_toArray, List.getElem_cons_succ, List.getElem_cons_zero, List.setIfInBounds_toArray, List.set_cons_zero, List.set_cons_succ]
              refine AnyG.take (i := 8) (v := ?_) rfl (by kernel_rfl) (fun _ _ _ h => h) rfl ?_ hS ?_
              rotate_left
              · (intro w' hSw; (try dsimp only at hSw); obtain ⟨t0, t1, tf, tz⟩ := (kT.call hSw).two; go_simp; try with_reducible rfl)
              try simp only [Act.put, List.getElem_toArray, List.getElem_cons_succ, List.getElem_cons_zero, List.setIfInBounds_toArray, List.set_cons_zero, List.set_cons_succ]
              refine AnyG.take (i := 11) (v := ?_) rfl (by kernel_rfl) (fun _ _ _ h => h) rfl ?_ hS ?_
              rotate_left
              · (intro w' hSw; (try dsimp only at hSw); go_simp; try with_reducible rfl)
              try simp only [Act.put, List.getElem_toArray, List.getElem_cons_succ, List.getElem_cons_zero, List.setIfInBounds_toArray, List.set_cons_zero, List.set_cons_succ]
              refine AnyG.take (i := 12) (v := ?_) rfl (by kernel_rfl) (fun _ _ _ h => h) rfl ?_ hS ?_
              rotate_left
              · (intro w' hSw; (try dsimp only at hSw); go_simp; try with_reducible rfl)
              try simp only [Act.put, List.getElem_toArray, List.getElem_cons_succ, List.getElem_cons_zero, List.setIfInBounds_toArray, List.set_cons_zero, List.set_cons_succ]
              refine AnyG.take (i := 15) (v := ?_) rfl (by kernel_rfl) (fun _ _ _ h => h) rfl ?_ hS ?_
              rotate_left
              · (intro w' hSw; (try dsimp only at hSw); go_simp; try with_reducible rfl)
              try simp only [Act.put, List.getElem_toArray, List.getElem_cons_succ, List.getElem_cons_zero, List.setIfInBounds_toArray, List.set_cons_zero, List.set_cons_succ]
              refine AnyG.take (i := 16) (v := ?_) rfl (by kernel_rfl) (fun _ _ _ h => h) rfl ?_ hS ?_
              rotate_left
              · (intro w' hSw; (try dsimp only at hSw); go_simp; try with_reducible rfl)
              try simp only [Act.put, List.getElem_toArray, List.getElem_cons_succ, List.getElem_cons_zero, List.setIfInBounds_toArray, List.set_cons_zero, List.set_cons_succ]
              refine AnyG.take (i := 13) (v := ?_) rfl (by kernel_rfl) (fun _ _ _ h => h) rfl ?_ hS ?_
              rotate_left
              · (intro w' hSw; (try dsimp only at hSw); go_simp; try with_reducible rfl)
              try simp only [Act.put, List.getElem_toArray, List.getElem_cons_succ, List.getElem_cons_zero, List.setIfInBounds_toArray, List.set_cons_zero, List.set_cons_succ]
              refine AnyG.take (i := 17) (v := ?_) rfl (by kernel_rfl) (fun _ _ _ h => h) rfl ?_ hS ?_
              rotate_left
              · (intro w' hSw; (try dsimp only at hSw); go_simp; try with_reducible rfl)
              try simp only [Act.put, List.getElem_toArray, List.getElem_cons_succ, List.getElem_cons_zero, List.setIfInBounds_toArray, List.set_cons_zero, List.set_cons_succ]
              refine AnyG.one (i := 4) (by kernel_rfl) rfl rfl ?_
              go_simp
              refine (sumOf_any FA fn fc F NA i NC (ts.map (·.2.2)) _ (by omega) hk14 HFN.out HNL.out ((hF.below hS).more hS.size) ((hN.below hS).more hS.size) HFM.out HNSB.out).mono ?_
              rintro e yy ⟨he, rfl⟩
              rw [HSF.out] at he
              subst he
              refine Onward.on hS (fun hS2 => ?_)
              clear hS2
              try simp only [Act.put, List.getElem_toArray, List.getElem_cons_succ, List.getElem_cons_zero, List.setIfInBounds_toArray, List.set_cons_zero, List.set_cons_succ]
              refine AnyG.one (i := 9) (by kernel_rfl) rfl rfl ?_
              go_simp
              refine (sumOf_any BA bn bc B NA i NC (ts.map (·.2.2)) _ (by omega) hk14 HBN.out HNL.out ((hG.below hS).more hS.size) ((hN.below hS).more hS.size) HBM.out HNSB.out).mono ?_
              rintro e yy ⟨he, rfl⟩
              rw [HSB.out] at he
              subst he
              refine Onward.on hS (fun hS2 => ?_)
              clear hS2
              try simp only [Act.put, List.getElem_toArray, List.getElem_cons_succ, List.getElem_cons_zero, List.setIfInBounds_toArray, List.set_cons_zero, List.set_cons_succ]
              refine AnyG.take (i := 10) (v := ?_) rfl (by kernel_rfl) (fun _ _ _ h => h) rfl ?_ hS ?_
              rotate_left
              · (intro w' hSw; (try dsimp only at hSw); go_simp; try with_reducible rfl)
              try simp only [Act.put, List.getElem_toArray, List.getElem_cons_succ, List.getElem_cons_zero, List.setIfInBounds_toArray, List.set_cons_zero, List.set_cons_succ]
              refine AnyG.take (i := 14) (v := ?_) rfl (by kernel_rfl) (fun _ _ _ h => h) rfl ?_ hS ?_
              rotate_left
              · (intro w' hSw; (try dsimp only at hSw); go_simp; try with_reducible rfl)
              try simp only [Act.put, List.getElem_toArray, List.getElem_cons_succ, List.getElem_cons_zero, List.setIfInBounds_toArray, List.set_cons_zero, List.set_cons_succ]
              refine AnyG.take (i := 18) (v := ?_) rfl (by kernel_rfl) (fun _ _ _ h => h) rfl ?_ hS ?_
              rotate_left
              · (intro w' hSw; (try dsimp only at hSw); go_simp; try with_reducible rfl)
              try simp only [Act.put, List.getElem_toArray, List.getElem_cons_succ, List.getElem_cons_zero, List.setIfInBounds_toArray, List.set_cons_zero, List.set_cons_succ]
              refine AnyG.take (i := 19) (v := ?_) rfl (by kernel_rfl) (fun _ _ _ h => h) rfl ?_ hS ?_
              rotate_left
              · (intro w' hSw; (try dsimp only at hSw); go_simp; try with_reducible rfl)
              try simp only [Act.put, List.getElem_toArray, List.getElem_cons_succ, List.getElem_cons_zero, List.setIfInBounds_toArray, List.set_cons_zero, List.set_cons_succ]
              refine AnyG.done (by kernel_rfl) ?_ _
              go_simp
              have kL1 := kL.call hS
              have kT1 := kT.call hS
              have kS1 := kS.call hS
              have hE1 := (Sl.below hE hS).more hS.size
              have hF1 := (hF.below hS).more hS.size
              have hG1 := (hG.below hS).more hS.size
              have hBv1 := hBv.trans (hS.mono hBv.size)
              have hfd1 : Fd g v1.drew := hfd.drew
              obtain ⟨Y, hY⟩ : ∃ Y, v1.drew = Y := ⟨_, rfl⟩
              rw [hY] at kL1 kT1 kS1 hE1 hF1 hG1 hBv1 hfd1 ⊢
              clear hY hS kL kT kS hE hF hG hN hBv hwa hwb hwc hwd hwe HSF HSB hfd
              go_upto_region 22 with (first | (go_at_call 27; refine (range_any g 0 1000 _ hfd1 (by omega) (by omega) (by omega)).mono ?_; rintro e y1 ⟨⟨qa, qb, rfl, hqa, hqab, hqb⟩, hfd2, hg2⟩) | fail)
              have kD := Bx.new y1 23 #[.int .i64 qa, .int .i64 qb]
              have hfd3 := hfd2.alloc (.cells #[.int .i64 qa, .int .i64 qb] 23)
              have hg3 := grown_alloc hg2 (.cells #[.int .i64 qa, .int .i64 qb] 23)
              have hgy := hfd2.lt
              have hgyb : y1.heap.size ≠ g := by omega
              obtain ⟨Z, hZ⟩ : ∃ Z, y1.alloc (.cells #[.int .i64 qa, .int .i64 qb] 23) = Z := ⟨_, rfl⟩
              rw [hZ] at kD hfd3 hg3 ⊢
              obtain ⟨bD, hbD⟩ : ∃ b, y1.heap.size = b := ⟨_, rfl⟩
              rw [hbD] at kD hgyb ⊢
              clear hZ hbD hg2 hfd2 hgy
              go_cut [18] (fun v wr => Fd g wr ∧ Z.grownBy wr (some g) ∧ ∃ d : Int, v = .int .i64 (cleanOf NT d) ∧ qa ≤ d ∧ d ≤ qb)
              case first =>
                obtain ⟨c0, c1, cf, cz⟩ := kD.two
                go_wp2_with (first | (go_at_call 42; refine (in_any g qa qb _ hfd3 (by omega) (by omega) (by omega)).mono ?_; rintro e z1 ⟨⟨d, rfl, hd1, hd2⟩, hfd4, hg4⟩; have hwx : IntKind.i64.wrap (1000 - d) = 1000 - d := IntWalk.i64_in _ (by omega)) | fail)
                all_goals (go_meet; refine ⟨hfd4, hg4, d, ?_, hd1, hd2⟩; first | rw [(pay_eq hNTb.1 hNTb.2 (by omega) (by omega)).1 (by omega)] | rw [(pay_eq (d := d) hNTb.1 hNTb.2 (by omega) (by omega)).2 (by omega)])
              case rest =>
                obtain ⟨hfd4, hg4, d, rfl, hd1, hd2⟩ := hcut
                have hgw := grown_trans hg3 hg4
                have kL2 := kL1.grown hgw (by simpa using Ne.symm hgL)
                have kS2 := kS1.grown hgw (by simpa using hsg)
                have kD2 := kD.grown hg4 (by simpa using hgyb)
                have hE2 := (Sl.ft hE1 hfd1 hgw (evs_no _)).more hgw.size
                have hF2 := (Sl.ft hF1 hfd1 hgw (ints_no _)).more hgw.size
                have hG2 := (Sl.ft hG1 hfd1 hgw (ints_no _)).more hgw.size
                have hBw2 : Below w.heap.size w wc := hBv1.grown hgw hBv1.size (fun k e => by cases e; exact hg0)
                clear hgw kL1 kS1 kD hE1 hF1 hG1 hBv1 kT1 hfd1 hfd3 hg3 hg4 hfd4
                obtain ⟨l0, l1, l2, l3, lf, lz⟩ := kL2.four
                obtain ⟨s0, s1, s2, s3, s4, s5, sf, sz⟩ := kS2.six
                go_upto_region 24 with (first | (go_at_call 29; refine (net_ok st z0 z1 EA i EC (evsOf ts) FA fn fc BA bn bc fs bs d0 d1 F B _ (by omega) HEL.out hE2 (by omega) (by omega) HFN.out HBN.out hF2 hG2 HS0.out HFIT.out).mono ?_; rintro e y2 ⟨rfl, hq1⟩; rw [HNN.out.1, HNN.out.2]) | fail)
                clear l0 l1 l2 l3 lf lz s0 s1 s2 s3 s4 s5 sf sz
                have hA1 := hq1.alloc hq1.size (.cells #[.int .i64 N1, .int .i64 N2] 23)
                have kN := Bx.new y2 23 #[.int .i64 N1, .int .i64 N2]
                obtain ⟨Y1, hY1⟩ : ∃ V, y2.alloc (.cells #[.int .i64 N1, .int .i64 N2] 23) = V := ⟨_, rfl⟩
                rw [hY1] at hA1 kN ⊢
                clear hY1 hq1
                obtain ⟨l0, l1, l2, l3, lf, lz⟩ := (kL2.call hA1).four
                obtain ⟨s0, s1, s2, s3, s4, s5, sf, sz⟩ := (kS2.call hA1).six
                obtain ⟨c0, c1, cf, cz⟩ := (kD2.call hA1).two
                go_upto_region 25 with (first | (go_at_call 31; refine (paid_ok st z0 z1 EA i EC (evsOf ts) FA fn fc BA bn bc fs bs d0 d1 F B qa qb N1 N2 _ (by omega) HEL.out ((Sl.below hE2 hA1).more hA1.size) (by omega) (by omega) HFN.out HBN.out ((hF2.below hA1).more hA1.size) ((hG2.below hA1).more hA1.size) HS0.out HFIT.out (by omega) hqab hqb HNN.out.1 HNN.out.2 hNb.1 hNb.2.1 hNb.2.2.1 hNb.2.2.2).mono ?_; rintro e y3 ⟨rfl, hq2⟩) | fail)
                clear l0 l1 l2 l3 lf lz s0 s1 s2 s3 s4 s5 sf sz c0 c1 cf cz
                obtain ⟨C1, hC1⟩ : ∃ x, cleanOf N1 qb = x := ⟨_, rfl⟩
                obtain ⟨C2, hC2⟩ : ∃ x, cleanOf N2 qa = x := ⟨_, rfl⟩
                obtain ⟨C, hC⟩ : ∃ x, cleanOf NT d = x := ⟨_, rfl⟩
                have hcl : C1 ≤ C ∧ C ≤ C2 := by rw [← hC1, ← hC2, ← hC]; exact ⟨clean_mono HIN2.out.1 (by omega) hd2 (by omega), clean_mono HIN2.out.2 (by omega) hd1 (by omega)⟩
                have HCL := Lib.hid (decide_eq_true hcl)
                rw [hC1, hC2, hC]
                have hA2 := (hA1.trans (hq2.mono hA1.size)).alloc (by have := hA1.size; have := hq2.size; omega) (.cells #[.int .i64 C1, .int .i64 C2] 23)
                have kC := Bx.new y3 23 #[.int .i64 C1, .int .i64 C2]
                have kN2 := (kN.call hq2).alloc (.cells #[.int .i64 C1, .int .i64 C2] 23)
                obtain ⟨Y2, hY2⟩ : ∃ V, y3.alloc (.cells #[.int .i64 C1, .int .i64 C2] 23) = V := ⟨_, rfl⟩
                rw [hY2] at hA2 kC kN2 ⊢
                clear hY2 hq2 kN hcl hC1 hC2 hC
                obtain ⟨n0, n1, nf, nz⟩ := kN2.two
                obtain ⟨c0, c1, cf, cz⟩ := kC.two
                go_wp2_with (first
            | (go_at_call 41; first
              | (have _t := hq4; clear _t; refine (inside_any _ _ _ _).mono ?_; rintro e y5 ⟨he5, hq5⟩; rw [HCL.out] at he5; subst he5)
              | (refine (inside_any N1 N2 NT _).mono ?_; rintro e y4 ⟨he4, hq4⟩; rw [HIN.out] at he4; subst he4; clear n0 n1 nf nz c0 c1 cf cz; have kC4 := kC.call hq4; obtain ⟨c0, c1, cf, cz⟩ := kC4.two))
            | (go_at_call 14; refine (awake_any _).mono ?_; rintro e y6 ⟨rfl, hq6⟩)
            | fail)
                go_ret
                have hT := ((hq4.trans (hq5.mono hq4.size)).trans (hq6.mono (by have := hq4.size; have := hq5.size; omega)))
                exact ⟨rfl, (hBw2.trans (hA2.mono hBw2.size)).trans (hT.mono (by have := hBw2.size; have := hA2.size; omega))⟩
end Go.Proofs.Ytgbogdckmfencaa
