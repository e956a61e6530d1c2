/- depths. -/
import Derived.Test.YtdlohfglmagneaaDoorVkM
set_option linter.unusedSimpArgs false
set_option linter.unusedVariables false
namespace Go.Proofs.YtdlohfglmagneaaDoor
open Go Go.RowKit Go.Shelf
attribute [local go_sem] Oper.semAt_some
/-- The lots of a stowage, each in a hold that there is. -/
def Held (v : Vg) (s : List Int) : Prop := ∀ x ∈ abd v.ls s, 0 ≤ x.2 ∧ x.2 < v.hs.length
theorem held_hd {v : Vg} {s : List Int} (h : Held v s) {x : Cg × Int} (hx : x ∈ abd v.ls s) : ∃ k : Nat, x.2 = k ∧ k < v.hs.length ∧ ∀ (hk : k < v.hs.length), v.hs[k] = hd v.hs x.2 := by
  obtain ⟨h1, h2⟩ := h x hx
  refine ⟨x.2.toNat, by omega, by omega, fun hk => ?_⟩
  unfold hd
  rw [List.getElem?_eq_getElem hk]
  rfl
theorem hd_ok {v : Vg} (ho : v.Ok) {x : Int} {k : Nat} (hx : x = k) (hk : k < v.hs.length) : (hd v.hs x).Ok := by
  subst hx
  unfold hd
  rw [Int.toNat_natCast, List.getElem?_eq_getElem hk]
  exact ho.hs _ (List.getElem_mem hk)
theorem ton_bd {c : Cg} (h : c.Ok) (g : Bool) : 0 ≤ ton g c ∧ ton g c ≤ 5000 := by
  have := h.t0; have := h.t01; have := h.t1
  cases g <;> simp only [ton] <;> constructor <;> simp <;> omega
theorem mlt_bd {a b : Int} (h1 : 0 ≤ a ∧ a ≤ 5000) (h2 : 0 ≤ b ∧ b ≤ 10000) : 0 ≤ a * b ∧ a * b ≤ 50000000 := by
  have := Int.mul_nonneg h1.1 h2.1
  have := Int.mul_le_mul h1.2 h2.2 h2.1 (by omega)
  omega
theorem sum_bd {α : Type} (f : α → Int) (C : Int) : ∀ (L : List α), (∀ x ∈ L, 0 ≤ f x ∧ f x ≤ C) → 0 ≤ (L.map f).sum ∧ (L.map f).sum ≤ L.length * C
  | [], _ => by simp
  | x :: r, h => by
    have h1 := h x (by simp)
    have h2 := sum_bd f C r fun y hy => h y (by simp [hy])
    simp only [List.map_cons, List.sum_cons, List.length_cons]
    have : ((r.length + 1 : Nat) : Int) * C = r.length * C + C := by rw [Int.natCast_add, Int.add_mul]; simp
    omega
theorem deep_bd {v : Vg} (ho : v.Ok) {s : List Int} (hh : Held v s) (g : Bool) {L : List (Cg × Int)} (hL : ∀ x ∈ L, x ∈ abd v.ls s) (hl : L.length ≤ 6) : 0 ≤ deepB v L g ∧ deepB v L g ≤ 305000000 ∧ 0 ≤ deepS v L g ∧ deepS v L g ≤ 305000000 := by
  have k1 : ∀ x ∈ L, 0 ≤ ton g x.1 * (hd v.hs x.2).bw ∧ ton g x.1 * (hd v.hs x.2).bw ≤ 50000000 := fun x hx => by
    obtain ⟨k, e, hk, _⟩ := held_hd hh (hL x hx)
    exact mlt_bd (ton_bd (ho.ls _ (abd_mem (hL x hx)).1) g) (hd_ok ho e hk).bw
  have k2 : ∀ x ∈ L, 0 ≤ ton g x.1 * (hd v.hs x.2).st ∧ ton g x.1 * (hd v.hs x.2).st ≤ 50000000 := fun x hx => by
    obtain ⟨k, e, hk, _⟩ := held_hd hh (hL x hx)
    exact mlt_bd (ton_bd (ho.ls _ (abd_mem (hL x hx)).1) g) (hd_ok ho e hk).st
  have a := sum_bd _ 50000000 L k1
  have b := sum_bd _ 50000000 L k2
  have := ho.li
  unfold deepB deepS
  have : (L.length : Int) ≤ 6 := by omega
  omega
theorem deep_snoc (v : Vg) (L : List (Cg × Int)) (x : Cg × Int) (g : Bool) : deepB v (L ++ [x]) g = deepB v L g + ton g x.1 * (hd v.hs x.2).bw ∧ deepS v (L ++ [x]) g = deepS v L g + ton g x.1 * (hd v.hs x.2).st := by
  unfold deepB deepS
  rw [List.map_append, List.map_append, List.sum_append, List.sum_append]
  simp
  omega
theorem abd_six {v : Vg} (ho : v.Ok) (s : List Int) : (abd v.ls s).length ≤ 6 := Nat.le_trans (abd_len _ _) ho.l6
set_option maxRecDepth 100000 in
set_option maxHeartbeats 4000000 in
theorem depths_any (v : Vg) (p : Vp) (A : Option Addr) (sn sc : Nat) (s : List Int) (g : Bool) (w : World) (ho : v.Ok) (hV : VoyAt w w.heap.size v p) (hS : Sl w w.heap.size 1 A (inr s)) (hl : s.length = sn) (hsn : sn ≤ p.ln) (hh : Held v s) :
    Calls Tryd.prog 29 #[.agg (vcs v p), .slice A sn sc, .bool g] w fun e w' => e = .returned (.agg #[.int .i64 (deepB v (abd v.ls s) g), .int .i64 (deepS v (abd v.ls s) g)]) ∧ Below w.heap.size w w' := by
  have h6 := ho.l6
  have hln6 : p.ln ≤ 6 := by rw [← hV.ll]; exact h6
  have hli := ho.li
  have wl : IntKind.i64.wrap (1000 * v.li) = 1000 * v.li := IntWalk.i64_in _ (by omega)
  have k3 := (((Bx.at w 26 (vcs v p) rfl).alloc (.cells #[.bool g] 67)).alloc (.cells #[.int .i64 0, .int .i64 0] 69)).alloc (.cells #[.int .i64 (1000 * v.li), .int .i64 (1000 * v.li)] 69)
  have k5 := ((Bx.at (w.alloc (.cells (vcs v p) 26)) 67 #[.bool g] (n := w.heap.size + 1) (by simp)).alloc (.cells #[.int .i64 0, .int .i64 0] 69)).alloc (.cells #[.int .i64 (1000 * v.li), .int .i64 (1000 * v.li)] 69)
  have k6 := (Bx.at ((w.alloc (.cells (vcs v p) 26)).alloc (.cells #[.bool g] 67)) 69 #[.int .i64 0, .int .i64 0] (n := w.heap.size + 1 + 1) (by simp)).alloc (.cells #[.int .i64 (1000 * v.li), .int .i64 (1000 * v.li)] 69)
  have k7 := Bx.at (((w.alloc (.cells (vcs v p) 26)).alloc (.cells #[.bool g] 67)).alloc (.cells #[.int .i64 0, .int .i64 0] 69)) 69 #[.int .i64 (1000 * v.li), .int .i64 (1000 * v.li)] (n := w.heap.size + 1 + 1 + 1) (by simp)
  have B0 := ((((Below.refl w.heap.size w).alloc (Nat.le_refl _) (.cells (vcs v p) 26)).alloc (by simp) (.cells #[.bool g] 67)).alloc (by simp; omega) (.cells #[.int .i64 0, .int .i64 0] 69)).alloc (by simp; omega) (.cells #[.int .i64 (1000 * v.li), .int .i64 (1000 * v.li)] 69)
  rw [vcs_def] at k3 k5 k6 k7 B0
  obtain ⟨V, hVV⟩ : ∃ V, (((w.alloc (.cells #[.int .i64 v.li, .int .i64 v.un, .int .i64 v.tr, .slice p.HA p.hn p.hc, .int .i64 v.le, .slice p.SA p.sn p.sc, .slice p.LA p.ln p.lc] 26)).alloc (.cells #[.bool g] 67)).alloc (.cells #[.int .i64 0, .int .i64 0] 69)).alloc (.cells #[.int .i64 (1000 * v.li), .int .i64 (1000 * v.li)] 69) = V := ⟨_, rfl⟩
  rw [hVV] at k3 k5 k6 k7 B0
  have HVV := Lib.hid hVV
  clear hVV
  have hVb : VoyAt w w.heap.size v p := hV
  have hSb : Sl w w.heap.size 1 A (inr s) := hS
  have B0b : Below w.heap.size w V := B0
  clear hV hS
  refine (callsIn_wide (n := 5)).1 ?_
  refine callsIn_of_wp_marks Tryd.func29 rfl trivial ?_ rfl
  refine wpIn_wide.2 ?_
  simp only [vcs_def, Tryd.ntmps29, List.size_toArray, List.length_cons, List.length_nil, Nat.reduceAdd, Nat.reduceSub, Array.replicate_succ, Array.replicate_zero, List.push_toArray, List.append_toArray, List.nil_append, List.cons_append]
  go_wp2_with (first
    | (go_at_call 39; rw [HVV.out]; refine (aboard_any v p A sn sc V).mono ?_; rintro e w1 ⟨⟨gs, gv, rfl, kgs, kgv, hgs, hgv⟩, hb⟩)
    | fail)
  have h7 := k7.lt
  have k3' := k3.call hb
  have k5' := k5.call hb
  have k6' := k6.call hb
  have k7' := k7.call hb
  have h71 := k7'.lt
  have k70 : Bx w1 (w.heap.size + 1 + 1 + 1) 69 #[.int .i64 (deepB v [] g), .int .i64 (deepS v [] g)] := by unfold deepB deepS; simpa using k7'
  have hB1 := B0b.trans (hb.mono (by omega))
  have hV1 := hVb.below hB1
  have hS1 := hSb.below hB1
  clear k3 k5 k6 k7 B0 B0b hVb hSb hb HVV
  refine (wpIn_wide (n := 5)).1 ?_
  refine range_ab (n := 5) (by omega) (w.heap.size + 1 + 1 + 1) 69 gs gv w.heap.size v p A sn sc s rfl kgs kgv hV1 hS1 (by omega) (by omega) (by omega) (by omega) hsn hl (fun L => #[.int .i64 (deepB v L g), .int .i64 (deepS v L g)]) k70 rfl (fun _ _ => False) (fun _ _ _ _ hs _ _ => hs) ?Fr ?assign ?body ?done ?stop
  case assign =>
    rintro l x W K hK
    obtain ⟨b8, hb8⟩ : ∃ b, W.heap.size = b := ⟨_, rfl⟩
    dsimp only [cgv]
    gi_wp2
    exact hK b8 _ hb8 ((Below.refl _ _).alloc (Nat.le_refl _) _) (Bx.at W 53 _ hb8.symm)
  case body =>
    rintro l pre x b8 W hl ⟨r, hr⟩ hgr k7 h8 hx hlen
    obtain ⟨kk, hxk, hkk, hget⟩ := held_hd hh x.2
    have hHs := (KeepC.grown hgr).sl hV1.hs (by omega)
    obtain ⟨ad, hHA, hadb, z0, z1, z2⟩ := hd_at hHs hkk
    have hab : (ad.add (kk * 3)).block < w.heap.size := by rw [add_block]; exact hadb
    rw [hget hkk] at z0 z1 z2
    have kv := k3'.grown hgr (by simp <;> omega)
    have kl := k5'.grown hgr (by simp <;> omega)
    rw [hHA] at kv
    have hLm : ∀ y ∈ pre.map (·.1) ++ [x.1], y ∈ abd v.ls s := by
      intro y hy
      rcases List.mem_append.1 hy with hy | hy
      · obtain ⟨q, _, rfl⟩ := List.mem_map.1 hy; exact q.2
      · obtain rfl := List.mem_singleton.1 hy; exact x.2
    have hN := abd_six ho s
    have hbd := deep_bd ho hh g hLm (by simp; omega)
    have hbd0 := deep_bd ho hh g (L := pre.map (·.1)) (fun y hy => hLm y (by simp at hy ⊢; exact .inl hy)) (by simp; omega)
    have hsn2 := deep_snoc v (pre.map (·.1)) x.1 g
    have hmb := mlt_bd (ton_bd (ho.ls _ (abd_mem x.2).1) g) (hd_ok ho hxk hkk).bw
    have hms := mlt_bd (ton_bd (ho.ls _ (abd_mem x.2).1) g) (hd_ok ho hxk hkk).st
    have HG : Hid (#[Value.int .i64 (deepB v ((pre ++ [x]).map (·.1)) g), Value.int .i64 (deepS v ((pre ++ [x]).map (·.1)) g)] = #[Value.int .i64 (deepB v (pre.map (·.1)) g + ton g x.1.1 * (hd v.hs x.1.2).bw), Value.int .i64 (deepS v (pre.map (·.1)) g + ton g x.1.1 * (hd v.hs x.1.2).st)]) := Lib.hid (by rw [List.map_append]; show #[Value.int .i64 (deepB v (pre.map (·.1) ++ [x.1]) g), _] = _; rw [hsn2.1]; show #[_, Value.int .i64 (deepS v (pre.map (·.1) ++ [x.1]) g)] = _; rw [hsn2.2])
    rw [hsn2.1, hsn2.2] at hbd
    obtain ⟨P, hP⟩ : ∃ P, deepB v (pre.map (·.1)) g = P := ⟨_, rfl⟩
    obtain ⟨R, hR⟩ : ∃ P, deepS v (pre.map (·.1)) g = P := ⟨_, rfl⟩
    obtain ⟨T, hT⟩ : ∃ P, ton g x.1.1 = P := ⟨_, rfl⟩
    obtain ⟨H, hH⟩ : ∃ P, hd v.hs x.1.2 = P := ⟨_, rfl⟩
    rw [hP, hR] at k7 hbd0
    rw [hP, hR, hT, hH] at hbd HG
    rw [hT, hH] at hmb hms
    rw [hH] at z0 z1 z2
    rw [HG.out, hxk]
    have HT := Lib.hid hT
    have hlW := (Array.getElem?_eq_some_iff.1 hr).1
    have hkn : kk < p.hn := by rw [← hV1.hl]; exact hkk
    have w1' : IntKind.i64.wrap (T * H.bw) = T * H.bw := IntWalk.i64_in _ (by omega)
    have w2' : IntKind.i64.wrap (T * H.st) = T * H.st := IntWalk.i64_in _ (by omega)
    have w3' : IntKind.i64.wrap (P + T * H.bw) = P + T * H.bw := IntWalk.i64_in _ (by omega)
    have w4' : IntKind.i64.wrap (R + T * H.st) = R + T * H.st := IntWalk.i64_in _ (by omega)
    clear hxk hget hHs hLm hbd hbd0 hsn2 hP hR hT hH HG hr hmb hms
    obtain ⟨o0, o1, o2, of, oz⟩ := Bx.three' hx
    obtain ⟨g0, gf, gz⟩ := kl.one
    refine wpIn_block ?_
    gi_wp2_with fail
    refine ⟨trivial, ?_⟩
    refine (CallsIn.inRound l (callsIn_wide.2 (hinders_any g _ _ _))).mono ?_
    rintro e5 U ⟨rfl, hbU⟩
    rw [show (if g = true then x.1.1.t0 else x.1.1.t1) = T from HT.out]
    have kv1 := kv.call hbU
    have k71 := k7.call hbU
    have z0 := cellC hbU z0
    have z1 := cellC hbU z1
    have z2 := cellC hbU z2
    have gU : W.grownBy U (some (w.heap.size + 1 + 1 + 1)) := grown_below hbU
    clear o0 o1 o2 of oz g0 gf gz
    gi_wp2_with fail
    refine AnyG.startCIn (by kernel_rfl) (by kernel_rfl) (fun _ _ h => h) ?_
    refine AnyG.takeP (i := 0) (v := ?_) rfl (by kernel_rfl) (fun _ _ _ h => h) rfl ?_ ?_
    rotate_left
    · (intro w'; go_simp; try with_reducible rfl)
    try simp only [Act.put, List.getElem_toArray, List.getElem_cons_succ, List.getElem_cons_zero, List.setIfInBounds_toArray, List.set_cons_zero, List.set_cons_succ]
    refine AnyG.takeP (i := 2) (v := ?_) rfl (by kernel_rfl) (fun _ _ _ h => h) rfl ?_ ?_
    rotate_left
    · (intro w'; go_simp; try with_reducible rfl)
    try simp only [Act.put, List.getElem_toArray, List.getElem_cons_succ, List.getElem_cons_zero, List.setIfInBounds_toArray, List.set_cons_zero, List.set_cons_succ]
    refine AnyG.takeP (i := 3) (v := ?_) rfl (by kernel_rfl) (fun _ _ _ h => h) rfl ?_ ?_
    rotate_left
    · (intro w'; go_simp; try with_reducible rfl)
    try simp only [Act.put, List.getElem_toArray, List.getElem_cons_succ, List.getElem_cons_zero, List.setIfInBounds_toArray, List.set_cons_zero, List.set_cons_succ]
    refine AnyG.takeP (i := 5) (v := ?_) rfl (by kernel_rfl) (fun _ _ _ h => h) rfl ?_ ?_
    rotate_left
    · (intro w'; go_simp; try with_reducible rfl)
    try simp only [Act.put, List.getElem_toArray, List.getElem_cons_succ, List.getElem_cons_zero, List.setIfInBounds_toArray, List.set_cons_zero, List.set_cons_succ]
    refine AnyG.enter (fun w' : World => Bx w' w.heap.size 26 #[.int .i64 v.li, .int .i64 v.un, .int .i64 v.tr, .slice (some ad) p.hn p.hc, .int .i64 v.le, .slice p.SA p.sn p.sc, .slice p.LA p.ln p.lc] ∧ Bx w' (w.heap.size + 1 + 1 + 1) 69 #[.int .i64 P, .int .i64 R] ∧ Below U.heap.size U w') (fun i => i != 12) ?_
    have hS : (fun w' : World => Bx w' w.heap.size 26 #[.int .i64 v.li, .int .i64 v.un, .int .i64 v.tr, .slice (some ad) p.hn p.hc, .int .i64 v.le, .slice p.SA p.sn p.sc, .slice p.LA p.ln p.lc] ∧ Bx w' (w.heap.size + 1 + 1 + 1) 69 #[.int .i64 P, .int .i64 R] ∧ Below U.heap.size U w') (World.drew _) := ⟨kv1.drew, k71.drew, (Below.refl _ _).drew⟩
    refine AnyG.takeC (i := 1) (v := ?_) rfl (by kernel_rfl) (fun _ _ _ h => h) rfl ?_ hS ?_
    rotate_left
    · (intro w' hSw; (try dsimp only at hSw); obtain ⟨y0, y1, yf, yz⟩ := hSw.2.1.two; go_simp; try with_reducible rfl)
    try simp only [Act.put, List.getElem_toArray, List.getElem_cons_succ, List.getElem_cons_zero, List.setIfInBounds_toArray, List.set_cons_zero, List.set_cons_succ]
    refine AnyG.takeC (i := 4) (v := ?_) rfl (by kernel_rfl) (fun _ _ _ h => h) rfl ?_ hS ?_
    rotate_left
    · (intro w' hSw; (try dsimp only at hSw); obtain ⟨x0, x1, x2, x3, x4, x5, x6, xf, xz⟩ := hSw.1.seven; go_simp; try with_reducible rfl)
    try simp only [Act.put, List.getElem_toArray, List.getElem_cons_succ, List.getElem_cons_zero, List.setIfInBounds_toArray, List.set_cons_zero, List.set_cons_succ]
    refine AnyG.takeC (i := 6) (v := ?_) rfl (by kernel_rfl) (fun _ _ _ h => h) rfl ?_ hS ?_
    rotate_left
    · (intro w' hSw; (try dsimp only at hSw); go_simp; try with_reducible rfl)
    try simp only [Act.put, List.getElem_toArray, List.getElem_cons_succ, List.getElem_cons_zero, List.setIfInBounds_toArray, List.set_cons_zero, List.set_cons_succ]
    refine AnyG.takeC (i := 7) (v := ?_) rfl (by kernel_rfl) (fun _ _ _ h => h) rfl ?_ hS ?_
    rotate_left
    · (intro w' hSw; (try dsimp only at hSw); go_simp; try with_reducible rfl)
    try simp only [Act.put, List.getElem_toArray, List.getElem_cons_succ, List.getElem_cons_zero, List.setIfInBounds_toArray, List.set_cons_zero, List.set_cons_succ]
    refine AnyG.takeC (i := 8) (v := ?_) rfl (by kernel_rfl) (fun _ _ _ h => h) rfl ?_ hS ?_
    rotate_left
    · (intro w' hSw; (try dsimp only at hSw); have z0 := cellC hSw.2.2 z0; have z1 := cellC hSw.2.2 z1; have z2 := cellC hSw.2.2 z2; go_simp; try with_reducible rfl)
    try simp only [Act.put, List.getElem_toArray, List.getElem_cons_succ, List.getElem_cons_zero, List.setIfInBounds_toArray, List.set_cons_zero, List.set_cons_succ]
    refine AnyG.takeC (i := 9) (v := ?_) rfl (by kernel_rfl) (fun _ _ _ h => h) rfl ?_ hS ?_
    rotate_left
    · (intro w' hSw; (try dsimp only at hSw); go_simp; try with_reducible rfl)
    try simp only [Act.put, List.getElem_toArray, List.getElem_cons_succ, List.getElem_cons_zero, List.setIfInBounds_toArray, List.set_cons_zero, List.set_cons_succ]
    refine AnyG.takeC (i := 10) (v := ?_) rfl (by kernel_rfl) (fun _ _ _ h => h) rfl ?_ hS ?_
    rotate_left
    · (intro w' hSw; (try dsimp only at hSw); go_simp; try with_reducible rfl)
    try simp only [Act.put, List.getElem_toArray, List.getElem_cons_succ, List.getElem_cons_zero, List.setIfInBounds_toArray, List.set_cons_zero, List.set_cons_succ]
    refine AnyG.takeC (i := 11) (v := ?_) rfl (by kernel_rfl) (fun _ _ _ h => h) rfl ?_ hS ?_
    rotate_left
    · (intro w' hSw; (try dsimp only at hSw); go_simp; try with_reducible rfl)
    try simp only [Act.put, List.getElem_toArray, List.getElem_cons_succ, List.getElem_cons_zero, List.setIfInBounds_toArray, List.set_cons_zero, List.set_cons_succ]
    refine AnyG.one (i := 12) (by kernel_rfl) rfl rfl ?_
    obtain ⟨y0, y1, yf, yz⟩ := hS.2.1.two
    go_simp
    refine Onward.last rfl ?_
    try simp only [Act.put, List.getElem_toArray, List.getElem_cons_succ, List.getElem_cons_zero, List.setIfInBounds_toArray, List.set_cons_zero, List.set_cons_succ]
    refine AnyG.done (by kernel_rfl) ?_ _
    clear hS
    obtain ⟨U2, hU2⟩ : ∃ X, (U.setCell ⟨w.heap.size + 1 + 1 + 1, 0, none⟩ (.int .i64 (P + T * H.bw))).drew = X := ⟨_, rfl⟩
    have gS : U.grownBy U2 (some (w.heap.size + 1 + 1 + 1)) := by rw [← hU2]; exact grownF_trans (grown_set U _ 0 _) (grown_drew _ _)
    have kv2 := kv1.grown gS (by simp <;> omega)
    have k72 : Bx U2 (w.heap.size + 1 + 1 + 1) 69 #[.int .i64 (P + T * H.bw), .int .i64 R] := by rw [← hU2]; exact (k71.set_ 0 _).drew
    have z0 := gS.cell z0 (by simp <;> omega)
    have z1 := gS.cell z1 (by simp <;> omega)
    have z2 := gS.cell z2 (by simp <;> omega)
    have gU2 := grownF_trans gU gS
    have HU2 := Lib.hid hU2
    clear hU2 gS gU k71 kv1
    rw [HU2.out]
    gi_wp2_with fail
    refine AnyG.startCIn (by kernel_rfl) (by kernel_rfl) (fun _ _ h => h) ?_
    refine AnyG.takeP (i := 0) (v := ?_) rfl (by kernel_rfl) (fun _ _ _ h => h) rfl ?_ ?_
    rotate_left
    · (intro w'; go_simp; try with_reducible rfl)
    try simp only [Act.put, List.getElem_toArray, List.getElem_cons_succ, List.getElem_cons_zero, List.setIfInBounds_toArray, List.set_cons_zero, List.set_cons_succ]
    refine AnyG.takeP (i := 2) (v := ?_) rfl (by kernel_rfl) (fun _ _ _ h => h) rfl ?_ ?_
    rotate_left
    · (intro w'; go_simp; try with_reducible rfl)
    try simp only [Act.put, List.getElem_toArray, List.getElem_cons_succ, List.getElem_cons_zero, List.setIfInBounds_toArray, List.set_cons_zero, List.set_cons_succ]
    refine AnyG.takeP (i := 3) (v := ?_) rfl (by kernel_rfl) (fun _ _ _ h => h) rfl ?_ ?_
    rotate_left
    · (intro w'; go_simp; try with_reducible rfl)
    try simp only [Act.put, List.getElem_toArray, List.getElem_cons_succ, List.getElem_cons_zero, List.setIfInBounds_toArray, List.set_cons_zero, List.set_cons_succ]
    refine AnyG.takeP (i := 5) (v := ?_) rfl (by kernel_rfl) (fun _ _ _ h => h) rfl ?_ ?_
    rotate_left
    · (intro w'; go_simp; try with_reducible rfl)
    try simp only [Act.put, List.getElem_toArray, List.getElem_cons_succ, List.getElem_cons_zero, List.setIfInBounds_toArray, List.set_cons_zero, List.set_cons_succ]
    refine AnyG.enter (fun w' : World => Bx w' w.heap.size 26 #[.int .i64 v.li, .int .i64 v.un, .int .i64 v.tr, .slice (some ad) p.hn p.hc, .int .i64 v.le, .slice p.SA p.sn p.sc, .slice p.LA p.ln p.lc] ∧ Bx w' (w.heap.size + 1 + 1 + 1) 69 #[.int .i64 (P + T * H.bw), .int .i64 R] ∧ Below U2.heap.size U2 w') (fun i => i != 12) ?_
    have hS : (fun w' : World => Bx w' w.heap.size 26 #[.int .i64 v.li, .int .i64 v.un, .int .i64 v.tr, .slice (some ad) p.hn p.hc, .int .i64 v.le, .slice p.SA p.sn p.sc, .slice p.LA p.ln p.lc] ∧ Bx w' (w.heap.size + 1 + 1 + 1) 69 #[.int .i64 (P + T * H.bw), .int .i64 R] ∧ Below U2.heap.size U2 w') (World.drew _) := ⟨kv2.drew, k72.drew, (Below.refl _ _).drew⟩
    refine AnyG.takeC (i := 1) (v := ?_) rfl (by kernel_rfl) (fun _ _ _ h => h) rfl ?_ hS ?_
    rotate_left
    · (intro w' hSw; (try dsimp only at hSw); obtain ⟨y0, y1, yf, yz⟩ := hSw.2.1.two; go_simp; try with_reducible rfl)
    try simp only [Act.put, List.getElem_toArray, List.getElem_cons_succ, List.getElem_cons_zero, List.setIfInBounds_toArray, List.set_cons_zero, List.set_cons_succ]
    refine AnyG.takeC (i := 4) (v := ?_) rfl (by kernel_rfl) (fun _ _ _ h => h) rfl ?_ hS ?_
    rotate_left
    · (intro w' hSw; (try dsimp only at hSw); obtain ⟨x0, x1, x2, x3, x4, x5, x6, xf, xz⟩ := hSw.1.seven; go_simp; try with_reducible rfl)
    try simp only [Act.put, List.getElem_toArray, List.getElem_cons_succ, List.getElem_cons_zero, List.setIfInBounds_toArray, List.set_cons_zero, List.set_cons_succ]
    refine AnyG.takeC (i := 6) (v := ?_) rfl (by kernel_rfl) (fun _ _ _ h => h) rfl ?_ hS ?_
    rotate_left
    · (intro w' hSw; (try dsimp only at hSw); go_simp; try with_reducible rfl)
    try simp only [Act.put, List.getElem_toArray, List.getElem_cons_succ, List.getElem_cons_zero, List.setIfInBounds_toArray, List.set_cons_zero, List.set_cons_succ]
    refine AnyG.takeC (i := 7) (v := ?_) rfl (by kernel_rfl) (fun _ _ _ h => h) rfl ?_ hS ?_
    rotate_left
    · (intro w' hSw; (try dsimp only at hSw); go_simp; try with_reducible rfl)
    try simp only [Act.put, List.getElem_toArray, List.getElem_cons_succ, List.getElem_cons_zero, List.setIfInBounds_toArray, List.set_cons_zero, List.set_cons_succ]
    refine AnyG.takeC (i := 8) (v := ?_) rfl (by kernel_rfl) (fun _ _ _ h => h) rfl ?_ hS ?_
    rotate_left
    · (intro w' hSw; (try dsimp only at hSw); have z0 := cellC hSw.2.2 z0; have z1 := cellC hSw.2.2 z1; have z2 := cellC hSw.2.2 z2; go_simp; try with_reducible rfl)
    try simp only [Act.put, List.getElem_toArray, List.getElem_cons_succ, List.getElem_cons_zero, List.setIfInBounds_toArray, List.set_cons_zero, List.set_cons_succ]
    refine AnyG.takeC (i := 9) (v := ?_) rfl (by kernel_rfl) (fun _ _ _ h => h) rfl ?_ hS ?_
    rotate_left
    · (intro w' hSw; (try dsimp only at hSw); go_simp; try with_reducible rfl)
    try simp only [Act.put, List.getElem_toArray, List.getElem_cons_succ, List.getElem_cons_zero, List.setIfInBounds_toArray, List.set_cons_zero, List.set_cons_succ]
    refine AnyG.takeC (i := 10) (v := ?_) rfl (by kernel_rfl) (fun _ _ _ h => h) rfl ?_ hS ?_
    rotate_left
    · (intro w' hSw; (try dsimp only at hSw); go_simp; try with_reducible rfl)
    try simp only [Act.put, List.getElem_toArray, List.getElem_cons_succ, List.getElem_cons_zero, List.setIfInBounds_toArray, List.set_cons_zero, List.set_cons_succ]
    refine AnyG.takeC (i := 11) (v := ?_) rfl (by kernel_rfl) (fun _ _ _ h => h) rfl ?_ hS ?_
    rotate_left
    · (intro w' hSw; (try dsimp only at hSw); go_simp; try with_reducible rfl)
    try simp only [Act.put, List.getElem_toArray, List.getElem_cons_succ, List.getElem_cons_zero, List.setIfInBounds_toArray, List.set_cons_zero, List.set_cons_succ]
    refine AnyG.one (i := 12) (by kernel_rfl) rfl rfl ?_
    obtain ⟨y0, y1, yf, yz⟩ := hS.2.1.two
    go_simp
    refine Onward.last rfl ?_
    try simp only [Act.put, List.getElem_toArray, List.getElem_cons_succ, List.getElem_cons_zero, List.setIfInBounds_toArray, List.set_cons_zero, List.set_cons_succ]
    refine AnyG.done (by kernel_rfl) ?_ _
    clear hS
    gi_wp2_with fail
    refine ⟨grownF_trans gU2 (grownF_trans (grown_set U2 _ 1 _) (grown_drew _ _)), ?_⟩
    exact (k72.set_ 1 _).drew
  case done =>
    rintro D W hD hgr k7 hKD
    have hbd := deep_bd ho hh g (fun y hy => hy) (abd_six ho s)
    obtain ⟨P, hP⟩ : ∃ P, deepB v (abd v.ls s) g = P := ⟨_, rfl⟩
    obtain ⟨R, hR⟩ : ∃ P, deepS v (abd v.ls s) g = P := ⟨_, rfl⟩
    rw [hP, hR] at k7
    have HP := Lib.hid hP
    have HR := Lib.hid hR
    have k6 := k6'.grown hgr (by simp <;> omega)
    have HKD := Lib.hid hKD
    have hBW : Below w.heap.size w W := hB1.grown hgr hB1.size (fun k e => by cases e; omega)
    clear hKD hP hR hbd
    obtain ⟨t0, t1, tf, tz⟩ := k7.two
    obtain ⟨r0, r1, rf, rz⟩ := k6.two
    go_wp2
    have hDb : w.heap.size + 1 + 1 ≠ D := by omega
    refine leavesM_marks (B := w.heap.size) _ _ ⟨[D], rfl, by simp, fun D' hD' => ?_⟩ ?_
    · obtain rfl : D' = D := by simpa using hD'
      exact ⟨by omega, (Below.heap_setCell _ _ _ _ (Ne.symm hDb)).trans ((Below.heap_setCell _ _ _ _ (Ne.symm hDb)).trans HKD.out)⟩
    · intro W' hb hk _
      have bz : Bx W' (w.heap.size + 1 + 1) 69 #[.int .i64 P, .int .i64 R] := (hk _ (by simp; omega)).trans ((k6.set_ 0 _).set_ 1 _)
      obtain ⟨z0, z1, zf, zz⟩ := bz.two
      refine ⟨.agg #[.int .i64 P, .int .i64 R], by simp [results, Tryd.results29, go_sem, z0, z1], by rw [HP.out, HR.out], ?_⟩
      exact ((hBW.setCell (p := ⟨w.heap.size + 1 + 1, 0, none⟩) (by simp; omega) _).setCell (p := ⟨w.heap.size + 1 + 1, 1, none⟩) (by simp; omega) _).trans hb
  case stop =>
    rintro D pre W _ _ h _
    exact h.elim
end Go.Proofs.YtdlohfglmagneaaDoor
