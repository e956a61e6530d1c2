/- Mathematics of truths, continued; Inside 40, fits 41, Part 46, depth 84. -/
import Derived.Test.YtfcpjkofbejleaaLi2
set_option linter.unusedSimpArgs false
set_option linter.unusedVariables false
namespace Go.Proofs.Ytfcpjkofbejleaa
open Go Go.RowKit
theorem trS_bd {f : Int → Hd → Int} {hs : List Hd} {M : Int} (hM : 0 ≤ M) : ∀ {Z : List (Int × Int)}, (∀ p ∈ Z, 0 ≤ p.2 → 0 ≤ f p.1 (hd hs p.2) ∧ f p.1 (hd hs p.2) ≤ M) → 0 ≤ trS f hs Z ∧ trS f hs Z ≤ M * Z.length
  | [], _ => by simp [trS]
  | p :: r, h => by
    have ih := trS_bd hM (Z := r) fun q hq => h q (by simp [hq])
    unfold trS at ih ⊢
    simp only [List.map_cons, List.sum_cons, List.length_cons]
    have e : M * ((r.length + 1 : Nat) : Int) = M * r.length + M := by rw [Int.natCast_succ, Int.mul_add, Int.mul_one]
    rw [e]
    split
    · have := h p (by simp) (by assumption)
      omega
    · omega
theorem mul_bd5 {a b : Int} (h1 : 0 ≤ a ∧ a ≤ 5000) (h2 : 0 ≤ b ∧ b ≤ 10000) : 0 ≤ a * b ∧ a * b ≤ 50000000 := by
  refine ⟨Int.mul_nonneg h1.1 h2.1, ?_⟩
  have a1 := Int.mul_le_mul_of_nonneg_right h1.2 h2.1
  omega
theorem tru_t {v : Vg} {x : Tru} (ho : v.Ok) (hx : TruOk v x) {n : Int} (hn : n ∈ x.ts) : 0 ≤ n ∧ n ≤ 5000 := by
  obtain ⟨i, hi, e⟩ := List.getElem_of_mem hn
  have hi2 : i < v.ls.length := by rw [← hx.tl]; exact hi
  have := hx.t i v.ls[i] n (List.getElem?_eq_getElem hi2) (by rw [List.getElem?_eq_getElem hi, e])
  have o := ho.ls _ (List.getElem_mem hi2)
  have := o.t0; have := o.t1
  omega
theorem tru_part {v : Vg} {x : Tru} {s : List Int} (h : StOk v s) (hx : TruOk v x) {k : Nat} (hk : k ≤ 6) : (0 ≤ trS (fun n h => n * h.bw) v.hs ((x.ts.zip s).take k) ∧ trS (fun n h => n * h.bw) v.hs ((x.ts.zip s).take k) ≤ 300000000) ∧ 0 ≤ trS (fun n h => n * h.st) v.hs ((x.ts.zip s).take k) ∧ trS (fun n h => n * h.st) v.hs ((x.ts.zip s).take k) ≤ 300000000 := by
  have hmem : ∀ p ∈ (x.ts.zip s).take k, p.1 ∈ x.ts ∧ p.2 ∈ s := fun p hp => List.of_mem_zip (List.mem_of_mem_take hp)
  have hl : ((x.ts.zip s).take k).length ≤ 6 := by simp; omega
  have a := trS_bd (f := fun n h => n * h.bw) (hs := v.hs) (M := 50000000) (by decide) (Z := (x.ts.zip s).take k) fun p hp h0 => mul_bd5 (tru_t h.ok hx (hmem p hp).1) (st_hd h (hmem p hp).2 h0).bw
  have b := trS_bd (f := fun n h => n * h.st) (hs := v.hs) (M := 50000000) (by decide) (Z := (x.ts.zip s).take k) fun p hp h0 => mul_bd5 (tru_t h.ok hx (hmem p hp).1) (st_hd h (hmem p hp).2 h0).st
  omega
theorem tru_w {v : Vg} {x : Tru} (ho : v.Ok) (hx : TruOk v x) {i : Nat} (hi : i < x.ws.length) : 0 ≤ x.ws[i] ∧ x.ws[i] ≤ 2880 := by
  have hi2 : i < v.ss.length := by rw [← hx.wl]; exact hi
  have := hx.w i v.ss[i] x.ws[i] (List.getElem?_eq_getElem hi2) (List.getElem?_eq_getElem hi)
  have o := ho.ss _ (List.getElem_mem hi2)
  have := o.t0; have := o.t1
  omega
/-- The levels of sill i with the depths that are. -/
def truL (v : Vg) (x : Tru) (i : Nat) : List (Int × Int) := ((v.ss[i]?.map fun s => s.lv.map Lv.fr).getD []).zip (x.ds[i]?.getD [])
theorem truS_at {v : Vg} {x : Tru} (hx : TruOk v x) {i : Nat} (hi : i < x.ws.length) : (truS v x)[i]? = some (x.ws[i], truL v x i) := by
  have h1 : i < v.ss.length := by rw [← hx.wl]; exact hi
  have h2 : i < x.ds.length := by rw [hx.dl]; exact h1
  have h3 : i < (x.ws.zip (v.ss.zip x.ds)).length := by simp; omega
  unfold truS truL
  rw [List.getElem?_map, List.getElem?_eq_getElem h3, List.getElem?_eq_getElem h1, List.getElem?_eq_getElem h2]
  simp
theorem salT_drop {v : Vg} {x : Tru} (hx : TruOk v x) {nd a : Int} {i : Nat} (hi : i < x.ws.length) : sal (slT nd ((truS v x).drop i)) a = match ovr (fun m => decide (nd ≤ 1000 * dpt (truL v x i) m)) (a + x.ws[i]) with
    | none => []
    | some m => m :: sal (slT nd ((truS v x).drop (i + 1))) m := by
  obtain ⟨h1, h2⟩ := List.getElem?_eq_some_iff.1 (truS_at hx hi)
  rw [List.drop_eq_getElem_cons h1, h2]
  rfl
theorem dpt_bd2 {L : List (Int × Int)} (h : ∀ p ∈ L, 0 ≤ p.2 ∧ p.2 ≤ 10000) (m : Int) : 0 ≤ dpt L m ∧ dpt L m ≤ 10000 := by
  unfold dpt
  suffices ∀ d : Int, 0 ≤ d ∧ d ≤ 10000 → 0 ≤ L.foldl (fun (d : Int) (x : Int × Int) => if x.1 ≤ m then x.2 else d) d ∧ L.foldl (fun (d : Int) (x : Int × Int) => if x.1 ≤ m then x.2 else d) d ≤ 10000 from this 0 (by omega)
  induction L with
  | nil => intro d hd; exact hd
  | cons l L ih =>
    intro d hd
    simp only [List.foldl_cons]
    refine ih (fun y hy => h y (by simp [hy])) _ ?_
    have o := h l (by simp)
    split
    · exact o
    · exact hd
theorem truL_bd {v : Vg} {x : Tru} (ho : v.Ok) (hx : TruOk v x) (i : Nat) : ∀ p ∈ truL v x i, 0 ≤ p.2 ∧ p.2 ≤ 10000 := by
  intro p hp
  unfold truL at hp
  have h2 := (List.of_mem_zip hp).2
  by_cases hi : i < v.ss.length
  · have hd : i < x.ds.length := by rw [hx.dl]; exact hi
    rw [List.getElem?_eq_getElem hd] at h2
    simp only [Option.getD_some] at h2
    obtain ⟨k, hk, e⟩ := List.getElem_of_mem h2
    have hr := hx.d i v.ss[i] x.ds[i] (List.getElem?_eq_getElem hi) (List.getElem?_eq_getElem hd)
    have hk2 : k < v.ss[i].lv.length := by rw [← hr.1]; exact hk
    have := hr.2 k v.ss[i].lv[k] p.2 (List.getElem?_eq_getElem hk2) (by rw [List.getElem?_eq_getElem hk, e])
    have o := (ho.ss _ (List.getElem_mem hi)).lv _ (List.getElem_mem hk2)
    have := o.d0; have := o.d1
    omega
  · rw [List.getElem?_eq_none (by rw [hx.dl]; omega)] at h2
    simp at h2
theorem dptT_take {lv : List Lv} {r : List Int} {m : Int} {k : Nat} (hk : k < lv.length) (hr : k < r.length) : dpt (((lv.map Lv.fr).zip r).take (k + 1)) m = if lv[k].fr ≤ m then r[k] else dpt (((lv.map Lv.fr).zip r).take k) m := by
  unfold dpt
  rw [List.take_succ_eq_append_getElem (by simp; omega), List.foldl_append]
  simp
/-- No minute from c on is passed before m, but m is. -/
theorem ovr_here {ok : Int → Bool} {c m : Int} (h1 : c ≤ m) (h2 : m ≤ 2880) (h3 : ok m = true) (h4 : ∀ k, c ≤ k → k < m → ok k = false) : ovr ok c = some m := ovr_some.2 ⟨h1, h2, h3, h4⟩
/-- A truth in memory. -/
structure FacAt (w : World) (B : Nat) (x : Tru) (TA WA DA : Option Addr) : Prop where
  ts : Sl w B 1 TA (inr x.ts)
  ws : Sl w B 1 WA (inr x.ws)
  ds : LsAt w B DA x.ds
theorem FacAt.call {w w' : World} {x : Tru} {TA WA DA : Option Addr} (h : FacAt w w.heap.size x TA WA DA) (hb : Below w.heap.size w w') : FacAt w' w'.heap.size x TA WA DA := ⟨h.ts.call hb, h.ws.call hb, h.ds.call hb⟩
theorem Bx.three2 {w : World} {g : Nat} {t : TypeId} {a b c : Value} (k : Bx w g t #[a, b, c]) : w.cell? ⟨g, 0, none⟩ = some a ∧ w.cell? ⟨g, 1, none⟩ = some b ∧ w.cell? ⟨g, 2, none⟩ = some c ∧ (∀ o, w.frozen? ⟨g, o, none⟩ = false) ∧ g < w.heap.size := k.three'
set_option maxRecDepth 100000 in
set_option maxHeartbeats 2000000 in
theorem inside_any (a b n : Int) (h1 : a ≤ n) (h2 : n ≤ b) (w : World) : Calls Try.prog 40 #[.agg #[.int .i64 a, .int .i64 b], .int .i64 n] w fun e w' => e = .returned (.bool true) ∧ Below w.heap.size w w' := by
  have hb0 : Below w.heap.size w (w.alloc (.cells #[.int .i64 a, .int .i64 b] 41)) := (Below.refl _ _).alloc (Nat.le_refl _) _
  go_enter Try.func40, Try.ntmps40
  go_wp2_with fail
  go_ret
  exact ⟨rfl, hb0⟩
theorem fits_any (v : Int) (b : Bool) (h : (v = 1 → b = true) ∧ (v = 2 → b = false) ∧ (v = 1 ∨ v = 2 ∨ v = 3)) (w : World) : Calls Try.prog 41 #[.int .i64 v, .bool b] w fun e w' => e = .returned (.bool true) ∧ Below w.heap.size w w' := by
  obtain ⟨h1, h2, h3⟩ := h
  rcases h3 with rfl | rfl | rfl
  · obtain rfl := h1 rfl
    go_enter Try.func41, Try.ntmps41
    go_wp2_with fail
    go_ret
    exact ⟨rfl, Below.refl _ _⟩
  · obtain rfl := h2 rfl
    go_enter Try.func41, Try.ntmps41
    go_wp2_with fail
    go_ret
    exact ⟨rfl, Below.refl _ _⟩
  · clear h1 h2
    cases b
    all_goals
      go_enter Try.func41, Try.ntmps41
      go_wp2_with fail
      go_ret
      exact ⟨rfl, Below.refl _ _⟩
set_option maxRecDepth 100000 in
set_option maxHeartbeats 4000000 in
theorem tdepth_any (v : Vg) (p : Vp) (x : Tru) (TA : Option Addr) (tn tc : Nat) (WA : Option Addr) (wn wc : Nat) (DA : Option Addr) (dn dc : Nat) (i : Nat) (m : Int) (w : World) (ho : v.Ok) (hx : TruOk v x) (hi : i < p.sn) (hd : x.ds.length = dn) (hV : VoyAt w w.heap.size v p) (hF : FacAt w w.heap.size x TA WA DA) :
    Calls Try.prog 84 #[.agg #[.slice TA tn tc, .slice WA wn wc, .slice DA dn dc], .agg (vcs v p), .int .i64 i, .int .i64 m] w fun e w' => e = .returned (.int .i64 (dpt (truL v x i) m)) ∧ Below w.heap.size w w' := by
  have hi2 : i < v.ss.length := by rw [hV.sl]; exact hi
  have hi3 : i < x.ds.length := by rw [hx.dl]; exact hi2
  have hidn : i < dn := by rw [← hd]; exact hi3
  have hsn4 : p.sn ≤ 4 := by rw [← hV.sl]; exact ho.s4
  have hso := ho.ss _ (List.getElem_mem hi2)
  have hrl := (hx.d i v.ss[i] x.ds[i] (List.getElem?_eq_getElem hi2) (List.getElem?_eq_getElem hi3)).1
  have hE : dpt (truL v x i) m = dpt ((v.ss[i].lv.map Lv.fr).zip x.ds[i]) m := by
    unfold truL
    rw [List.getElem?_eq_getElem hi2, List.getElem?_eq_getElem hi3]
    rfl
  rw [hE]
  have B0 := ((Below.refl w.heap.size w).alloc (Nat.le_refl _) (.cells #[.slice TA tn tc, .slice WA wn wc, .slice DA dn dc] 62)).alloc (by simp) (.cells (vcs v p) 26)
  have k1 := (Bx.new w 62 #[.slice TA tn tc, .slice WA wn wc, .slice DA dn dc]).alloc (.cells (vcs v p) 26)
  have k2 := Bx.at (w.alloc (.cells #[.slice TA tn tc, .slice WA wn wc, .slice DA dn dc] 62)) 26 (vcs v p) (n := w.heap.size + 1) (by simp)
  obtain ⟨aV, G, gc, hSA, hab, z0, z1, z2, hgc, hG⟩ := (hV.call B0).ss.at_ hi2
  obtain ⟨aD, R, rc, hDA, hdb, y0, hR⟩ := (hF.call B0).ds i x.ds[i] (List.getElem?_eq_getElem hi3)
  rw [vcs_def] at k1 k2 B0 z0 z1 z2 hG hR y0 hab hdb ⊢
  obtain ⟨V, hVV⟩ : ∃ V, (w.alloc (.cells #[.slice TA tn tc, .slice WA wn wc, .slice DA dn dc] 62)).alloc (.cells #[.int .i64 v.li, .int .i64 v.un, .int .i64 v.tr, .slice p.HA p.hn p.hc, .int .i64 v.le, .slice p.SA p.sn p.sc, .slice p.LA p.ln p.lc] 26) = V := ⟨_, rfl⟩
  rw [hVV] at k1 k2 B0 z0 z1 z2 hG hR y0 hab hdb
  generalize v.ss[i] = b at *
  generalize x.ds[i] = r at *
  obtain ⟨gn, hgn⟩ : ∃ gn, b.lv.length = gn := ⟨_, rfl⟩
  rw [hgn] at z2 hgc hrl
  have hg6 : gn ≤ 6 := by rw [← hgn]; exact hso.l6
  have HGN := Lib.hid hgn
  rw [hrl] at y0
  have HRL := Lib.hid hrl
  subst hDA
  rw [hSA] at k2 hVV
  rw [hSA]
  have HVV := Lib.hid hVV
  have hzl : ((b.lv.map Lv.fr).zip r).length = gn := by simp; omega
  have HZL := Lib.hid hzl
  obtain ⟨l0, l1, l2, l3, l4, l5, l6, lf', lz⟩ := k2.seven
  obtain ⟨q0, q1, q2, qf, qz⟩ := k1.three2
  have K1 := k1
  have K2 := k2
  clear hVV hgn hrl hE hSA hzl hV hF k1 k2 hso
  go_enter Try.func84, Try.ntmps84
  go_wp2_with fail
  rw [HVV.out]
  go_loopw [9, 10] (fun nv kv wr => ∃ (k : Nat), kv = .int .i64 k ∧ k ≤ gn ∧ nv = .int .i64 (dpt (((b.lv.map Lv.fr).zip r).take k) m) ∧ Below V.heap.size V wr) (fun _ kv _ => gn - (intOf kv).toNat)
  case atStart => exact ⟨0, rfl, by omega, rfl, Below.refl _ _⟩
  case round =>
    clear l0 l1 l2 l3 l4 l5 l6 lf' lz q0 q1 q2 qf qz
    obtain ⟨k, rfl, hk, rfl, hB⟩ := hrel
    have k1r := K1.call hB
    have k2r := K2.call hB
    obtain ⟨l0, l1, l2, l3, l4, l5, l6, lf', lz⟩ := k2r.seven
    obtain ⟨q0, q1, q2, qf, qz⟩ := k1r.three2
    have w0 := (hB.cell (by rw [add_block]; exact hab)).trans z0
    have w1 := (hB.cell (by rw [add_block]; exact hab)).trans z1
    have w2 := (hB.cell (by rw [add_block]; exact hab)).trans z2
    have w3 := (hB.cell (by rw [add_block]; exact hdb)).trans y0
    have hGr := hG.call hB
    have hRr := hR.call hB
    by_cases hkn : k < gn
    · have hkb : k < b.lv.length := by rw [HGN.out]; exact hkn
      have hkr : k < r.length := by rw [HRL.out]; exact hkn
      obtain ⟨e1, rfl, f1, t0, t1, t2⟩ := lv_at hGr hkb
      obtain ⟨e2, rfl, f2, u0⟩ := inr_at hRr hkr
      have HT := Lib.hid (dptT_take (lv := b.lv) (r := r) (m := m) hkb hkr)
      generalize b.lv[k] = l at *
      generalize r[k] = rk at *
      have hkw : IntKind.i64.wrap ((k : Int) + 1) = (k : Int) + 1 := IntWalk.i64_in _ (by omega)
      clear hGr hRr K1 K2 k1r k2r hkb hkr
      by_cases hfm : l.fr ≤ m
      · go_wp2_with fail
        go_roundw
        case rel => exact ⟨k + 1, by go_num, by omega, by rw [HT.out, if_pos hfm], hB⟩
        case measure => simp [intOf]; omega
      · go_wp2_with fail
        go_roundw
        case rel => exact ⟨k + 1, by go_num, by omega, by rw [HT.out, if_neg hfm], hB⟩
        case measure => simp [intOf]; omega
    · obtain rfl : k = gn := by omega
      have hD : dpt (((b.lv.map Lv.fr).zip r).take k) m = dpt ((b.lv.map Lv.fr).zip r) m := by rw [List.take_of_length_le (by rw [HZL.out]; exact Nat.le_refl _)]
      rw [hD]
      have HD := Lib.hid hD
      clear hD K1 K2 k1r k2r hGr hRr
      go_wp2_with fail
      go_ret
      exact ⟨rfl, B0.trans (hB.mono B0.size)⟩
end Go.Proofs.Ytfcpjkofbejleaa
