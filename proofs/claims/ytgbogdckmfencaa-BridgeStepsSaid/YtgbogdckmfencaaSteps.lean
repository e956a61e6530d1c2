/- BridgeSteps: a step more at each full axle. -/
import Derived.Test.YtgbogdckmfencaaKp
import Derived.Test.YtgbogdckmfencaaLo
import Derived.Test.YtgbogdckmfencaaAk
import Derived.Test.YtgbogdckmfencaaBu
import Derived.Deep.CutBlock
set_option linter.unusedSimpArgs false
set_option linter.unusedVariables false
namespace Go.Proofs.Ytgbogdckmfencaa
open Go Go.RowKit
/-- The events of a row of one's own, cell by cell. -/
theorem own_at {w : World} {b q n c : Nat} {es : List Ev} (h : w.ownsRow b 28 5 (.slice (some ⟨q, 0, none⟩) n c) n (es.map Ev.cells).flatten) (hl : es.length = n) {r : Nat} {e : Ev} (he : es[r]? = some e) :
    w.cell? ⟨q, r * 5, none⟩ = some (.int .i64 e.kd) ∧ w.cell? ⟨q, r * 5 + 1, none⟩ = some (.int .i64 e.sh) ∧ w.cell? ⟨q, r * 5 + 2, none⟩ = some (.int .i64 e.ld) ∧ w.cell? ⟨q, r * 5 + 3, none⟩ = some (.int .i64 e.c0) ∧ w.cell? ⟨q, r * 5 + 4, none⟩ = some (.int .i64 e.c1) := by
  have hr : r < es.length := (List.getElem?_eq_some_iff.1 he).1
  obtain ⟨ad, h1, _, p0, p1, p2, p3, p4⟩ := (own_evs2 h hl).at_ hr
  simp only [Option.some.injEq] at h1
  subst h1
  have hq : (⟨q, 0, none⟩ : Addr).add (r * 5) = ⟨q, r * 5, none⟩ := addr_q q _
  rw [hq] at p0 p1 p2 p3 p4
  rw [List.getElem?_eq_getElem hr] at he
  rw [Option.some.inj he] at p0 p1 p2 p3 p4
  exact ⟨p0, p1, p2, p3, p4⟩
theorem own_free {w : World} {b q n c : Nat} {t : TypeId} {s : Nat} {xs : List Value} (h : w.ownsRow b t s (.slice (some ⟨q, 0, none⟩) n c) n xs) : ∀ o, w.frozen? ⟨q, o, none⟩ = false := by
  rcases h.2 with ⟨h, _⟩ | ⟨q', cap, cur, h, _, hg, _⟩
  · simp at h
  · simp only [Value.slice.injEq, Option.some.injEq, Addr.mk.injEq, and_true, true_and] at h
    obtain ⟨rfl, rfl⟩ := h
    exact Bx.free (show Bx w q t cur from hg)
theorem own_some {w : World} {b n c : Nat} {t : TypeId} {s : Nat} {A : Option Addr} {xs : List Value} (h : w.ownsRow b t s (.slice A n c) n xs) (hn : 0 < n) : ∃ q, A = some ⟨q, 0, none⟩ := by
  rcases h.2 with ⟨h, h0⟩ | ⟨q, cap, cur, h, _⟩
  · omega
  · simp only [Value.slice.injEq] at h
    exact ⟨q, h.1⟩
theorem own_bel {w x : World} {b n : Nat} {t : TypeId} {s : Nat} {v : Value} {xs : List Value} (h : w.ownsRow b t s v n xs) (hb : Below w.heap.size w x) : x.ownsRow b t s v n xs :=
  h.kept (grown_below (row := none) hb) (by cases h : v.ownBlock <;> simp)
/-- A log of one's own in a box, beside a feed. -/
structure RI (g : Nat) (w : World) (st z0 z1 : Int) (bL : Nat) (A : Option Addr) (C k : Nat) (es : List Ev) (wr : World) : Prop where
  len : es.length = k
  kL : Bx wr bL 26 #[.int .i64 st, .int .i64 z0, .int .i64 z1, .slice A k C]
  own : wr.ownsRow w.heap.size 28 5 (.slice A k C) k (es.map Ev.cells).flatten
  fd : Fd g wr
  hb : Below w.heap.size w wr
section
variable {g : Nat} {w : World} {st z0 z1 : Int} {bL : Nat} {A : Option Addr} {C k : Nat} {es : List Ev} {wr x : World}
theorem RI.bel (I : RI g w st z0 z1 bL A C k es wr) (h : Below wr.heap.size wr x) : RI g w st z0 z1 bL A C k es x :=
  ⟨I.len, I.kL.call h, own_bel I.own h, by obtain ⟨y, h1, h2, h3⟩ := I.fd; exact ⟨y, h1, h2, h3.call h⟩, I.hb.trans (h.mono I.hb.size)⟩
theorem RI.evs (I : RI g w st z0 z1 bL A C k es wr) : EvsAt wr wr.heap.size A es := own_evs2 I.own I.len
/-- What is shown at an event is stored anew. -/
theorem RI.put {q : Nat} (I : RI g w st z0 z1 bL (some ⟨q, 0, none⟩) C k es wr) {r : Nat} {e : Ev} (he : es[r]? = some e) (s : Int) : RI g w st z0 z1 bL (some ⟨q, 0, none⟩) C k (es.set r { e with sh := s }) (wr.setCell ⟨q, r * 5 + 1, none⟩ (.int .i64 s)) := by
  have hr : r < es.length := (List.getElem?_eq_some_iff.1 he).1
  have hr' : r < k := by rw [← I.len]; exact hr
  refine ⟨by rw [List.length_set]; exact I.len, I.kL.far (by simp; exact fun h => own_bx I.own I.kL (by decide) (by rw [h]; rfl)) _, ?_, ?_, I.hb.setCell (I.own.lt q rfl).1 _⟩
  · rw [← evs_set_sh _ _ _ he]
    exact own_store I.own (r * 5 + 1) _ (by omega)
  · obtain ⟨y, y1, y2, y3⟩ := I.fd
    exact ⟨y, y1, y2, y3.far (by simp; exact fun h => own_bx I.own y3 (by decide) (by rw [h]; rfl)) _⟩
theorem RI.drew (I : RI g w st z0 z1 bL A C k es wr) : RI g w st z0 z1 bL A C k es wr.drew := I.bel (Below.refl _ _).drew
end
theorem flat_ev {s : Nat} : ∀ (xs : List (List Value)), (∀ r ∈ xs, r.length = s) → ∀ (j : Nat) (u : Value), xs.flatten[j]? = some u → ∃ (k r : Nat) (row : List Value), xs[k]? = some row ∧ row[r]? = some u ∧ j = k * s + r := by
  intro xs
  induction xs with
  | nil => intro _ j u h; simp at h
  | cons x xs ih =>
    intro hs j u h
    have hx := hs x (by simp)
    rw [List.flatten_cons] at h
    by_cases hj : j < x.length
    · rw [List.getElem?_append_left hj] at h
      exact ⟨0, j, x, rfl, h, by omega⟩
    · rw [List.getElem?_append_right (by omega)] at h
      obtain ⟨k, r, row, h1, h2, h3⟩ := ih (fun r hr => hs r (by simp [hr])) _ _ h
      refine ⟨k + 1, r, row, by simpa using h1, h2, ?_⟩
      rw [Nat.succ_mul]
      omega
theorem evs_cells {w : World} {B : Nat} {ad : Addr} {es : List Ev} (h : EvsAt w B (some ad) es) : ∀ j u, ((es.map Ev.cells).flatten)[j]? = some u → w.cell? (ad.add j) = some u := by
  intro j u hu
  obtain ⟨k, r, row, h1, h2, rfl⟩ := flat_ev _ (evs_len es) _ _ hu
  obtain ⟨ad', e1, _, h3⟩ := h k row h1
  simp only [Option.some.injEq] at e1
  subst e1
  have := h3 r u h2
  rwa [add_add] at this
set_option maxRecDepth 100000 in
set_option maxHeartbeats 4000000 in
theorem copyLog_any (st z0 z1 : Int) (A : Option Addr) (n c : Nat) (es : List Ev) (w : World) (hn : n ≤ 14) (hl : es.length = n) (hA : EvsAt w w.heap.size A es) :
    Calls Try.prog 17 #[.agg #[.int .i64 st, .int .i64 z0, .int .i64 z1, .slice A n c]] w fun e w' => (∃ A' c', e = .returned (.agg #[.int .i64 st, .int .i64 z0, .int .i64 z1, .slice A' n c']) ∧ w'.ownsRow w.heap.size 28 5 (.slice A' n c') n (es.map Ev.cells).flatten) ∧ Below w.heap.size w w' := by
  have HL := Lib.hid hl
  clear hl
  obtain ⟨i3, hi3, hz3, hs3, iy3⟩ := info_parts info28
  have hb0 : Below w.heap.size w (((w.alloc (.cells #[.int .i64 st, .int .i64 z0, .int .i64 z1, .slice A n c] 26)).alloc (.cells #[.int .i64 0, .int .i64 0, .int .i64 0, .slice none 0 0] 26)).alloc (.cells #[] 28)) := (((Below.refl _ _).alloc (Nat.le_refl _) _).alloc (by simp) _).alloc (by simp; omega) _
  have k1 := ((Bx.new w 26 #[.int .i64 st, .int .i64 z0, .int .i64 z1, .slice A n c]).alloc (.cells #[.int .i64 0, .int .i64 0, .int .i64 0, .slice none 0 0] 26)).alloc (.cells #[] 28)
  have k2 := (Bx.at (w.alloc (.cells #[.int .i64 st, .int .i64 z0, .int .i64 z1, .slice A n c] 26)) 26 #[.int .i64 0, .int .i64 0, .int .i64 0, .slice none 0 0] (n := w.heap.size + 1) (by simp)).alloc (.cells #[] 28)
  have how0 := World.ownsRow_made (w := (w.alloc (.cells #[.int .i64 st, .int .i64 z0, .int .i64 z1, .slice A n c] 26)).alloc (.cells #[.int .i64 0, .int .i64 0, .int .i64 0, .slice none 0 0] 26)) (base := w.heap.size) (e := 28) (size := 5) #[] 0 (by simp; omega) (by unfold maxLen; omega) (by simp)
  have hsz2 : ((w.alloc (.cells #[.int .i64 st, .int .i64 z0, .int .i64 z1, .slice A n c] 26)).alloc (.cells #[.int .i64 0, .int .i64 0, .int .i64 0, .slice none 0 0] 26)).heap.size = w.heap.size + 1 + 1 := by simp
  have how : (((w.alloc (.cells #[.int .i64 st, .int .i64 z0, .int .i64 z1, .slice A n c] 26)).alloc (.cells #[.int .i64 0, .int .i64 0, .int .i64 0, .slice none 0 0] 26)).alloc (.cells #[] 28)).ownsRow w.heap.size 28 5 (.slice (some ⟨w.heap.size + 1 + 1, 0, none⟩) 0 0) 0 [] := hsz2 ▸ how0
  clear how0 hsz2
  have hE := hA.below hb0
  cases A with
  | none =>
    have hn0 : n = 0 := by
      rcases Nat.eq_zero_or_pos n with h | h
      · exact h
      · obtain ⟨ad, h1, _⟩ := hA.at_ (k := 0) (by rw [HL.out]; exact h)
        cases h1
    subst hn0
    go_enter Try.func17, Try.ntmps17
    go_wp2_with fail
    obtain rfl : es = [] := List.eq_nil_of_length_eq_zero HL.out
    refine bodyPost_ret (v := .agg #[.int .i64 st, .int .i64 z0, .int .i64 z1, .slice (some ⟨w.heap.size + 1 + 1, 0, none⟩) 0 0]) (by simp [results, Try.results17, go_sem]) rfl ⟨⟨_, _, rfl, by simp, .inr ⟨w.heap.size + 1 + 1, 0, #[], rfl, by omega, Bx.at _ 28 #[] (by simp), by omega, by unfold maxLen; omega, by simp, by simp⟩⟩, ?_⟩
    exact (((Below.refl _ _).alloc (Nat.le_refl _) _).alloc (by simp) _).alloc (by simp; omega) _
  | some a =>
    have hcs := evs_cells hE
    have h1c : ∀ u ∈ (es.map Ev.cells).flatten, u.oneCell' = true := by
      intro u hu
      obtain ⟨r, hr, hur⟩ := List.mem_flatten.1 hu
      obtain ⟨e, _, rfl⟩ := List.mem_map.1 hr
      simp [Ev.cells] at hur
      rcases hur with rfl | rfl | rfl | rfl | rfl <;> simp [Value.oneCell']
    have hlen : (es.map Ev.cells).flatten.length = n * 5 := by rw [evs_flat, HL.out]
    obtain ⟨xs, hxs⟩ : ∃ xs, (es.map Ev.cells).flatten = xs := ⟨_, rfl⟩
    rw [hxs] at hcs h1c hlen ⊢
    go_enter Try.func17, Try.ntmps17
    go_wp2_with (first
      | (at_builtin; refine wpList_append_own _ rfl (.tmp 3) (.tmp 5) 24 rfl w.heap.size 28 i3 _ 5 40 Try.underlying24 hi3 hz3 hs3 iy3 rfl (by decide) (.slice (some ⟨w.heap.size + 1 + 1, 0, none⟩) 0 0) 0 [] rfl how a n c xs rfl hlen hcs h1c (by unfold maxLen; omega) (by omega) (by simp <;> omega) ?_; intro v' w' o1 o2 o3; obtain ⟨A', C', rfl⟩ := own_shape o1; have k1b := k1.grown o2 (by simp [Value.ownBlock] <;> omega); have k2b := k2.grown o2 (by simp [Value.ownBlock] <;> omega); obtain ⟨a0, a1, a2, a3, af, az⟩ := k1b.four; obtain ⟨r0, r1, r2, r3, rf, rz⟩ := k2b.four)
      | fail)
    have o1' : w'.ownsRow w.heap.size 28 5 (.slice A' n C') n xs := by simpa using o1
    have q1 := own_bx o1' k1b (by decide)
    have q2 := own_bx o1' k2b (by decide)
    have hB : Below w.heap.size w w' := hb0.grown o2 hb0.size (fun k e => by simp [Value.ownBlock] at e <;> omega)
    refine bodyPost_ret (v := .agg #[.int .i64 st, .int .i64 z0, .int .i64 z1, .slice A' n C']) (by simp [results, Try.results17, go_sem, r0, r1, r2, r3, World.cell?_setCell_same', World.cell?_setCell_other]) rfl ⟨⟨_, _, rfl, ?_⟩, ?_⟩
    · exact ((((o1'.kept (grown_set _ _ _ _) (.inr (Ne.symm q1))).kept (grown_set _ _ _ _) (.inr (Ne.symm q2))).kept (grown_set _ _ _ _) (.inr (Ne.symm q2))).kept (grown_set _ _ _ _) (.inr (Ne.symm q2))).kept (grown_set _ _ _ _) (.inr (Ne.symm q2))
    · repeat (first | exact hB | refine Below.setCell ?_ (by simp) _)
def tick (F : List Int) (j : Nat) : Nat → Int := fun x => if (x : Int) ∈ F.take j then 1 else 0
theorem tick_next {F : List Int} (hF : F.Pairwise (· < ·)) {j r : Nat} (hj : j < F.length) (hr : F[j] = (r : Int)) : tick F j r = 0 ∧ tick F (j + 1) r = tick F j r + 1 ∧ ∀ x, x ≠ r → tick F (j + 1) x = tick F j x := by
  have hn : ¬ (r : Int) ∈ F.take j := fun h => by have := take_lt hF hj _ h; omega
  have h1 : (r : Int) ∈ F.take (j + 1) := by rw [← hr]; exact at_take_succ hj
  unfold tick
  refine ⟨if_neg hn, by rw [if_pos h1, if_neg hn]; rfl, fun x hx => ?_⟩
  rw [List.take_succ_eq_append_getElem hj]
  have : (x : Int) ∈ F.take j ++ [F[j]] ↔ (x : Int) ∈ F.take j := by
    rw [List.mem_append, List.mem_singleton, hr]
    constructor
    · rintro (h | h)
      · exact h
      · omega
    · exact .inl
  simp only [this]
theorem steps_nets (st z0 z1 : Int) (EA : Option Addr) (i EC : Nat) (MA : Option Addr) (MC : Nat) (es es2 : List Ev) (FA : Option Addr) (fn fc : Nat) (BA : Option Addr) (bn bc : Nat) (fs bs d0 d1 : Int) (F B l : List Int) (jj : Nat) (Y : World) (hs2 : st ≤ 20) (hel : es.length = i) (hi : i ≤ 14) (hes2 : es.mapIdx (bumpE st fun x => if (x : Int) ∈ F then 1 else 0) = es2) (hlo : ∀ e ∈ es, Loose st e) (hck : ckL st z0 z1 es = 0) (hfit : Fits st z0 z1 es i) (hck2 : ckL st z0 z1 es2 = 0) (hfit2 : Fits st z0 z1 es2 i)
    (hat : AtOk es es.length l) (hsp : SpOk l 3 jj F B) (hfn : F.length = fn) (hbn : B.length = bn) (h1 : 0 < fn) (h2 : 0 < bn) (hfs : 0 ≤ fs ∧ fs ≤ 2) (hbs : 0 ≤ bs ∧ bs ≤ 2) (h3 : 0 ≤ d0) (h4 : d0 ≤ d1) (h5 : d1 ≤ 200) (hE : EvsAt Y Y.heap.size EA es) (hM : EvsAt Y Y.heap.size MA es2) (hF : Sl Y Y.heap.size 1 FA (ints F)) (hB : Sl Y Y.heap.size 1 BA (ints B)) :
    ∃ N1 N2 : Int, (∀ (W : World), Below Y.heap.size Y W → Calls Try.prog 29 #[.agg #[.int .i64 st, .int .i64 z0, .int .i64 z1, .slice EA i EC], .agg #[.slice FA fn fc, .slice BA bn bc, .int .i64 fs, .int .i64 bs, .int .i64 d0, .int .i64 d1]] W fun e w' => e = .returned (.tuple #[.agg #[.int .i64 N1, .int .i64 N2], .int .i64 0]) ∧ Below W.heap.size W w') ∧
      (∀ (W : World), Below Y.heap.size Y W → Calls Try.prog 29 #[.agg #[.int .i64 st, .int .i64 z0, .int .i64 z1, .slice MA i MC], .agg #[.slice FA fn fc, .slice BA bn bc, .int .i64 fs, .int .i64 bs, .int .i64 d0, .int .i64 d1]] W fun e w' => e = .returned (.tuple #[.agg #[.int .i64 (N1 + (fn : Int) * st), .int .i64 (N2 + (fn : Int) * st)], .int .i64 0]) ∧ Below W.heap.size W w') ∧ Bd 2000000 (N1, N2) := by
  have hfl := hsp.fl
  have hbl := hsp.bl
  have hFm : ∀ x ∈ F, ldAt es x := fun x hx => (hat.mem _ (List.mem_of_mem_take (hsp.fm x hx))).1
  have hkd2 : ∀ x, kdAt es2 x = kdAt es x := fun x => by
    rw [← hes2]
    unfold kdAt
    rw [List.getElem?_mapIdx]
    cases es[x.toNat]? with
    | none => rfl
    | some e => simp only [Option.map_some]; exact bump_kd _ _ _ _
  have hl2 : es2.length = es.length := by rw [← hes2, List.length_mapIdx]
  have hat2 : AtOk es2 es2.length l := ⟨hat.asc, fun x hx => by
    obtain ⟨⟨a, b, c⟩, d⟩ := hat.mem x hx
    exact ⟨⟨a, by rw [hl2]; exact b, by rw [hkd2]; exact c⟩, by rw [hl2]; exact d⟩⟩
  have hs0 : ckS st z0 z1 es F B fs bs d0 d1 = 0 := ckS_made hck hat hsp (by omega) (by omega) (by omega) hfs.1 hfs.2 hbs.1 hbs.2 h3 h4 h5
  have hs02 : ckS st z0 z1 es2 F B fs bs d0 d1 = 0 := ckS_made hck2 hat2 hsp (by omega) (by omega) (by omega) hfs.1 hfs.2 hbs.1 hbs.2 h3 h4 h5
  have hlog := ckL_zero hck
  have hlog2 := ckL_zero hck2
  have hfit' : Fits st z0 z1 es es.length := by rw [hel]; exact hfit
  have he1 : 1 ≤ es.length := by
    obtain ⟨a, b, _⟩ := hFm (F[0]'(by omega)) (List.getElem_mem _)
    omega
  have hb := net_bump (fun x => if (x : Int) ∈ F then 1 else 0) hlo hlog (by rw [hes2]; exact hlog2) hfit' he1 hsp.fa (fun x hx => ⟨(hFm x hx).1, (hFm x hx).2.1⟩) hsp.ap (fun x hx => (hFm x hx).2.2) (fun _ => rfl)
  rw [hes2, hel, hfn] at hb
  have b0 := net_small hlog hfit' he1 F B
  rw [hel] at b0
  have b1 := ds_small (fs := fs) (bs := bs) (d0 := d0) (d1 := d1) h3 (by omega) (by omega) h5
  unfold Bd at b0 b1
  dsimp only at b1
  refine ⟨_, _, fun W hW => net_ok st z0 z1 EA i EC es FA fn fc BA bn bc fs bs d0 d1 F B W (by omega) hel ((Sl.below hE hW).more hW.size) (by omega) (by omega) hfn hbn ((hF.below hW).more hW.size) ((hB.below hW).more hW.size) hs0 hfit, fun W hW => ?_, ?_⟩
  · have := net_ok st z0 z1 MA i MC es2 FA fn fc BA bn bc fs bs d0 d1 F B W (by omega) (by omega) ((Sl.below hM hW).more hW.size) (by omega) (by omega) hfn hbn ((hF.below hW).more hW.size) ((hB.below hW).more hW.size) hs02 hfit2
    rw [hb] at this
    dsimp only at this
    rw [Int.add_right_comm, Int.add_right_comm (netOf st es F B (zst st z0 z1 es 0) i).2] at this
    exact this
  · unfold Bd
    dsimp only
    omega
def lim (i : Nat) : Nat → Int := fun j => if j < i then 500 else 0
set_option maxRecDepth 100000 in
set_option maxHeartbeats 8000000 in
theorem steps_run (A : Option Addr) (n c : Nat) (L : List Int) (w : World) (hn : n ≤ 9000000000000000000) (hl : L.length = n) (hA : Sl w w.heap.size 1 A (ints L)) : Calls Try.prog 11 #[.slice A n c] w fun e w' => e = .returned (.bool true) ∧ Below w.heap.size w w' := by
  have HL := Lib.hid hl
  clear hl
  go_enter Try.func11, Try.ntmps11
  go_upto_region 3 with (first
    | (go_at_call 16; refine (feedOf_any A n c L _ hn HL.out hA).mono ?_; rintro e w1 ⟨⟨g, rfl, hg0, hfd⟩, hb1⟩)
    | (go_at_call 15; refine (logOf_any g 8 4000 false _ hfd (by omega) (by omega) (by omega) (by omega)).mono ?_; rintro e w2 ⟨st, z0, z1, ts, z, ev, zv, nv, rfl, ⟨hs1, hs2, -, hz0, hz01, hz1⟩, hmd, hlen, hoe, hoz, hon, -, hfd2, hgr2⟩; obtain ⟨EA, EC, rfl⟩ := own_shape hoe; obtain ⟨ZA, ZC, rfl⟩ := own_shape hoz; obtain ⟨NA, NC, rfl⟩ := own_shape hon)
    | fail)
  have hBw : Below w.heap.size w w2 := hb1.grown hgr2 hb1.size (fun k e => by cases e; exact hg0)
  have hgl2 := hfd2.lt
  obtain ⟨k, hk⟩ : ∃ k, ts.length = k := ⟨_, rfl⟩
  have hk14 : k ≤ 14 := by omega
  have HLO := Lib.hid (steps_loose hmd hs1 hs2 hz0 hz1 (by omega))
  have HMA := Lib.hid (steps_made hmd hs1 hs2 hz0 hz01 hz1 (by omega))
  rw [hk] at hoe hlen HMA ⊢
  have hel : (evsOf ts).length = k := by rw [← hk]; simp [evsOf]
  obtain ⟨es, hes⟩ : ∃ x, evsOf ts = x := ⟨_, rfl⟩
  rw [hes] at hoe hel HLO HMA
  have hsz1 := hb1.size
  have I0 : RI g w st z0 z1 w2.heap.size EA EC k es ((w2.alloc (.cells #[.int .i64 st, .int .i64 z0, .int .i64 z1, .slice EA k EC] 26)).alloc (.cells #[.slice ZA k ZC, .slice NA k NC] 32)) :=
    ⟨hel, (Bx.new _ _ _).alloc _, ((ownsRow_up hoe (fun q e => by have := hoe.lt q e; omega)).alloc _).alloc _, (hfd2.alloc _).alloc _, (hBw.alloc hBw.size _).alloc (by have := hBw.size; simp; omega) _⟩
  obtain ⟨V0, hV0⟩ : ∃ V, (w2.alloc (.cells #[.int .i64 st, .int .i64 z0, .int .i64 z1, .slice EA k EC] 26)).alloc (.cells #[.slice ZA k ZC, .slice NA k NC] 32) = V := ⟨_, rfl⟩
  rw [hV0] at I0 ⊢
  obtain ⟨bL, hbL⟩ : ∃ b, w2.heap.size = b := ⟨_, rfl⟩
  have hwL : w.heap.size ≤ bL := by rw [← hbL]; exact hBw.size
  have hgL : g ≠ bL := by omega
  rw [hbL] at I0 ⊢
  have HEL := Lib.hid hel
  clear hoe hoz hon hfd hgr2 hmd hV0 hbL hes hk hel hBw hfd2 hgl2 hb1
  go_wp2_with fail
  go_loopw [6] (fun v6 wr => ∃ i : Nat, i ≤ k ∧ v6 = .int .i64 i ∧ RI g w st z0 z1 bL EA EC k (es.mapIdx (bumpE st (lim i))) wr) (fun v6 _ => k - (intOf v6).toNat)
  case atStart => exact ⟨0, by omega, rfl, by rw [bump_none (fun i => by unfold lim; rw [if_neg (by omega)])]; exact I0⟩
  case round =>
    clear I0
    obtain ⟨i, hi, rfl, I⟩ := hrel
    by_cases hik : i < k
    · obtain ⟨q, rfl⟩ := own_some I.own (by omega)
      have hie : i < es.length := by rw [HEL.out]; exact hik
      obtain ⟨e, he⟩ : ∃ e, es[i]? = some e := ⟨_, List.getElem?_eq_getElem hie⟩
      have he' : (es.mapIdx (bumpE st (lim i)))[i]? = some e := by
        rw [List.getElem?_mapIdx, he]
        simp only [Option.map_some]
        unfold bumpE lim
        rw [if_neg (Nat.lt_irrefl i), Int.zero_mul, Int.add_zero]
        split <;> rfl
      have hsb := HLO.out (bumpE st (fun _ => 500) i e) (by rw [List.mem_iff_getElem?]; exact ⟨i, by rw [List.getElem?_mapIdx, he]; rfl⟩)
      obtain ⟨l0, l1, l2, l3, lf, lz⟩ := I.kL.four
      obtain ⟨p0, p1, p2, p3, p4⟩ := own_at I.own I.len he'
      by_cases h3 : e.kd = 3
      · have hsh : -15000 ≤ e.sh ∧ e.sh ≤ 15000 := by
          have h1 := hsb.2
          unfold bumpE at h1
          rw [if_pos h3] at h1
          dsimp only at h1
          omega
        rw [h3] at p0
        have HI := Lib.hid I
        have HE' := Lib.hid he'
        have hnext := bump_next he h3 (k := lim i) (k' := lim (i + 1)) (fun j hj => by unfold lim; by_cases h : j < i; (rw [if_pos h, if_pos (by omega)]); (rw [if_neg h, if_neg (by omega)])) (d := 500) (by unfold lim; rw [if_pos (by omega), if_neg (by omega)]; rfl) (st := st)
        have hbe : bumpE st (lim i) i e = e := by
          rw [List.getElem?_mapIdx, he] at he'
          exact Option.some.inj he'
        rw [hbe] at hnext
        have HNX := Lib.hid hnext
        have hw1 : IntKind.i64.wrap (500 * st) = 500 * st := IntWalk.i64_in _ (by omega)
        have hw2 : IntKind.i64.wrap (e.sh + 500 * st) = e.sh + 500 * st := IntWalk.i64_in _ (by omega)
        clear hnext hbe he' hsb I
        go_wp2_with fail
        refine AnyG.start (fun w' : World => Below wr.heap.size wr w') (fun i => i != 15) (by kernel_rfl) ?_
        have hS : (fun w' : World => Below wr.heap.size wr w') (World.drew _) := (Below.refl _ _).drew
        refine AnyG.take (i := 0) (v := ?_) rfl (by kernel_rfl) (fun _ _ _ h => h) rfl ?_ hS ?_
        rotate_left
        · (intro w' hSw; (try dsimp only at hSw); go_simp; try with_reducible rfl)
        try simp only [Act.put, List.getElem_toArray, List.getElem_cons_succ, List.getElem_cons_zero, List.setIfInBounds_toArray, List.set_cons_zero, List.set_cons_succ]
        refine AnyG.take (i := 1) (v := ?_) rfl (by kernel_rfl) (fun _ _ _ h => h) rfl ?_ hS ?_
        rotate_left
        · (intro w' hSw; (try dsimp only at hSw); obtain ⟨l0, l1, l2, l3, lf, lz⟩ := (HI.out.bel hSw).kL.four; go_simp; try with_reducible rfl)
        try simp only [Act.put, List.getElem_toArray, List.getElem_cons_succ, List.getElem_cons_zero, List.setIfInBounds_toArray, List.set_cons_zero, List.set_cons_succ]
        refine AnyG.take (i := 2) (v := ?_) rfl (by kernel_rfl) (fun _ _ _ h => h) rfl ?_ hS ?_
        rotate_left
        · (intro w' hSw; (try dsimp only at hSw); go_simp; try with_reducible rfl)
        try simp only [Act.put, List.getElem_toArray, List.getElem_cons_succ, List.getElem_cons_zero, List.setIfInBounds_toArray, List.set_cons_zero, List.set_cons_succ]
        refine AnyG.take (i := 3) (v := ?_) rfl (by kernel_rfl) (fun _ _ _ h => h) rfl ?_ hS ?_
        rotate_left
        · (intro w' hSw; (try dsimp only at hSw); go_simp; try with_reducible rfl)
        try simp only [Act.put, List.getElem_toArray, List.getElem_cons_succ, List.getElem_cons_zero, List.setIfInBounds_toArray, List.set_cons_zero, List.set_cons_succ]
        refine AnyG.take (i := 4) (v := ?_) rfl (by kernel_rfl) (fun _ _ _ h => h) rfl ?_ hS ?_
        rotate_left
        · (intro w' hSw; (try dsimp only at hSw); obtain ⟨l0, l1, l2, l3, lf, lz⟩ := (HI.out.bel hSw).kL.four; go_simp; try with_reducible rfl)
        try simp only [Act.put, List.getElem_toArray, List.getElem_cons_succ, List.getElem_cons_zero, List.setIfInBounds_toArray, List.set_cons_zero, List.set_cons_succ]
        refine AnyG.take (i := 5) (v := ?_) rfl (by kernel_rfl) (fun _ _ _ h => h) rfl ?_ hS ?_
        rotate_left
        · (intro w' hSw; (try dsimp only at hSw); go_simp; try with_reducible rfl)
        try simp only [Act.put, List.getElem_toArray, List.getElem_cons_succ, List.getElem_cons_zero, List.setIfInBounds_toArray, List.set_cons_zero, List.set_cons_succ]
        refine AnyG.take (i := 6) (v := ?_) rfl (by kernel_rfl) (fun _ _ _ h => h) rfl ?_ hS ?_
        rotate_left
        · (intro w' hSw; (try dsimp only at hSw); go_simp; try with_reducible rfl)
        try simp only [Act.put, List.getElem_toArray, List.getElem_cons_succ, List.getElem_cons_zero, List.setIfInBounds_toArray, List.set_cons_zero, List.set_cons_succ]
        refine AnyG.take (i := 7) (v := ?_) rfl (by kernel_rfl) (fun _ _ _ h => h) rfl ?_ hS ?_
        rotate_left
        · (intro w' hSw; (try dsimp only at hSw); go_simp; try with_reducible rfl)
        try simp only [Act.put, List.getElem_toArray, List.getElem_cons_succ, List.getElem_cons_zero, List.setIfInBounds_toArray, List.set_cons_zero, List.set_cons_succ]
        refine AnyG.take (i := 8) (v := ?_) rfl (by kernel_rfl) (fun _ _ _ h => h) rfl ?_ hS ?_
        rotate_left
        · (intro w' hSw; (try dsimp only at hSw); obtain ⟨p0, p1, p2, p3, p4⟩ := own_at (HI.out.bel hSw).own (HI.out.bel hSw).len HE'.out; go_simp; try with_reducible rfl)
        try simp only [Act.put, List.getElem_toArray, List.getElem_cons_succ, List.getElem_cons_zero, List.setIfInBounds_toArray, List.set_cons_zero, List.set_cons_succ]
        refine AnyG.take (i := 9) (v := ?_) rfl (by kernel_rfl) (fun _ _ _ h => h) rfl ?_ hS ?_
        rotate_left
        · (intro w' hSw; (try dsimp only at hSw); go_simp; try with_reducible rfl)
        try simp only [Act.put, List.getElem_toArray, List.getElem_cons_succ, List.getElem_cons_zero, List.setIfInBounds_toArray, List.set_cons_zero, List.set_cons_succ]
        refine AnyG.take (i := 10) (v := ?_) rfl (by kernel_rfl) (fun _ _ _ h => h) rfl ?_ hS ?_
        rotate_left
        · (intro w' hSw; (try dsimp only at hSw); obtain ⟨l0, l1, l2, l3, lf, lz⟩ := (HI.out.bel hSw).kL.four; go_simp; try with_reducible rfl)
        try simp only [Act.put, List.getElem_toArray, List.getElem_cons_succ, List.getElem_cons_zero, List.setIfInBounds_toArray, List.set_cons_zero, List.set_cons_succ]
        refine AnyG.take (i := 11) (v := ?_) rfl (by kernel_rfl) (fun _ _ _ h => h) rfl ?_ hS ?_
        rotate_left
        · (intro w' hSw; (try dsimp only at hSw); go_simp; try with_reducible rfl)
        try simp only [Act.put, List.getElem_toArray, List.getElem_cons_succ, List.getElem_cons_zero, List.setIfInBounds_toArray, List.set_cons_zero, List.set_cons_succ]
        refine AnyG.take (i := 12) (v := ?_) rfl (by kernel_rfl) (fun _ _ _ h => h) rfl ?_ hS ?_
        rotate_left
        · (intro w' hSw; (try dsimp only at hSw); go_simp; try with_reducible rfl)
        try simp only [Act.put, List.getElem_toArray, List.getElem_cons_succ, List.getElem_cons_zero, List.setIfInBounds_toArray, List.set_cons_zero, List.set_cons_succ]
        refine AnyG.one (i := 13) (by kernel_rfl) rfl rfl ?_
        go_simp
        refine Onward.on hS (fun hS2 => ?_)
        clear hS
        have hS := hS2
        clear hS2
        try simp only [Act.put, List.getElem_toArray, List.getElem_cons_succ, List.getElem_cons_zero, List.setIfInBounds_toArray, List.set_cons_zero, List.set_cons_succ]
        refine AnyG.one (i := 14) (by kernel_rfl) rfl rfl ?_
        go_simp
        refine Onward.on hS (fun hS2 => ?_)
        clear hS
        have hS := hS2
        clear hS2
        try simp only [Act.put, List.getElem_toArray, List.getElem_cons_succ, List.getElem_cons_zero, List.setIfInBounds_toArray, List.set_cons_zero, List.set_cons_succ]
        refine AnyG.one (i := 15) (by kernel_rfl) rfl rfl ?_
        have pf := own_free HI.out.own
        go_simp
        refine Onward.last rfl ?_
        try simp only [Act.put, List.getElem_toArray, List.getElem_cons_succ, List.getElem_cons_zero, List.setIfInBounds_toArray, List.set_cons_zero, List.set_cons_succ]
        refine AnyG.done (by kernel_rfl) ?_ _
        go_simp
        go_wp2_with fail
        go_roundw
        case rel => exact ⟨i + 1, by omega, by go_num, by rw [HNX.out]; exact HI.out.drew.put HE'.out _⟩
        case measure => simp [intOf]; omega
      · have hkb : (e.kd == 3) = false := by simpa using h3
        have hsame := bump_same he h3 (k := lim i) (k' := lim (i + 1)) (fun j hj => by unfold lim; by_cases h : j < i; (rw [if_pos h, if_pos (by omega)]); (rw [if_neg h, if_neg (by omega)])) (st := st)
        have HI := Lib.hid I
        clear I
        go_wp2_with fail
        go_roundw
        case rel => exact ⟨i + 1, by omega, by go_num, by rw [hsame]; exact HI.out⟩
        case measure => simp [intOf]; omega
    · obtain rfl : i = k := by omega
      have hall : es.mapIdx (bumpE st (lim i)) = es.mapIdx (bumpE st fun _ => 500) := bump_congr fun j hj => by unfold lim; rw [if_pos (by rw [HEL.out] at hj; exact hj)]
      rw [hall] at I
      obtain ⟨es1, hes1⟩ : ∃ x, es.mapIdx (bumpE st fun _ => 500) = x := ⟨_, rfl⟩
      rw [hes1] at I HLO HMA
      clear hall
      have hE1 := I.evs
      obtain ⟨l0, l1, l2, l3, lf, lz⟩ := I.kL.four
      have HL1 := Lib.hid I.len
      go_upto_region 9 with (first
        | (go_at_call 26; refine (slipOf_any g st z0 z1 EA i EC es1 3 _ I.fd HL1.out hk14 hE1 (by omega) (by omega)).mono ?_; rintro e V ⟨FA, fn, fc, BA, bn, bc, fs, bs, d0, d1, F, B, l, j, rfl, hFn, hBn, hF, hBs, ⟨hfc, hbc⟩, hat, hsp, hfs, hbs, dr1, dr2, dr3, hfd, hgr⟩)
        | fail)
      have hEV : EvsAt V V.heap.size EA es1 := (Sl.ft hE1 I.fd hgr (evs_no es1)).more hgr.size
      have kLV := I.kL.grown hgr (by simpa using Ne.symm hgL)
      have hBV : Below w.heap.size w V := I.hb.grown hgr I.hb.size (fun k e => by cases e; exact hg0)
      have HFN := Lib.hid hFn
      have HBN := Lib.hid hBn
      obtain ⟨ok, hok⟩ : ∃ b, (decide (0 < fn) && decide (0 < bn)) = b := ⟨_, rfl⟩
      rw [hok]
      have HOK := Lib.hid hok
      clear hok I hE1 hgr hFn hBn l0 l1 l2 l3 lf lz hes1
      cases ok
      · go_wp2_with (first | (go_at_call 14; refine (awake_any _).mono ?_; rintro e x7 ⟨rfl, hq7⟩) | fail)
        go_ret
        exact ⟨rfl, (hBV.alloc hBV.size _).trans (hq7.mono (by have := hBV.size; simp; omega))⟩
      · have hok2 : 0 < fn ∧ 0 < bn := by simpa using HOK.out
        have hfn3 : fn ≤ 3 := by have := hsp.fl; rw [HFN.out] at this; omega
        have hbn3 : bn ≤ 3 := by have := hsp.bl; rw [HBN.out] at this; omega
        have hBU := hBV.alloc hBV.size (.cells #[.slice FA fn fc, .slice BA bn bc, .int .i64 fs, .int .i64 bs, .int .i64 d0, .int .i64 d1] 50)
        have kLU := kLV.alloc (.cells #[.slice FA fn fc, .slice BA bn bc, .int .i64 fs, .int .i64 bs, .int .i64 d0, .int .i64 d1] 50)
        have kSU := Bx.new V 50 #[.slice FA fn fc, .slice BA bn bc, .int .i64 fs, .int .i64 bs, .int .i64 d0, .int .i64 d1]
        have hEU := (hEV.alloc (Nat.le_refl _) (.cells #[.slice FA fn fc, .slice BA bn bc, .int .i64 fs, .int .i64 bs, .int .i64 d0, .int .i64 d1] 50)).more (B' := (V.alloc (.cells #[.slice FA fn fc, .slice BA bn bc, .int .i64 fs, .int .i64 bs, .int .i64 d0, .int .i64 d1] 50)).heap.size) (by simp)
        have hFU := (hF.alloc (Nat.le_refl _) (.cells #[.slice FA fn fc, .slice BA bn bc, .int .i64 fs, .int .i64 bs, .int .i64 d0, .int .i64 d1] 50)).more (B' := (V.alloc (.cells #[.slice FA fn fc, .slice BA bn bc, .int .i64 fs, .int .i64 bs, .int .i64 d0, .int .i64 d1] 50)).heap.size) (by simp)
        have hGU := (hBs.alloc (Nat.le_refl _) (.cells #[.slice FA fn fc, .slice BA bn bc, .int .i64 fs, .int .i64 bs, .int .i64 d0, .int .i64 d1] 50)).more (B' := (V.alloc (.cells #[.slice FA fn fc, .slice BA bn bc, .int .i64 fs, .int .i64 bs, .int .i64 d0, .int .i64 d1] 50)).heap.size) (by simp)
        obtain ⟨U, hU⟩ : ∃ U, V.alloc (.cells #[.slice FA fn fc, .slice BA bn bc, .int .i64 fs, .int .i64 bs, .int .i64 d0, .int .i64 d1] 50) = U := ⟨_, rfl⟩
        rw [hU] at hBU kLU kSU hEU hFU hGU ⊢
        obtain ⟨sb, hsb⟩ : ∃ b, V.heap.size = b := ⟨_, rfl⟩
        rw [hsb] at kSU ⊢
        clear hU hsb hBV kLV hEV hF hBs hfd
        obtain ⟨l0, l1, l2, l3, lf, lz⟩ := kLU.four
        go_upto_region 12 with (first | (go_at_call 17; refine (copyLog_any st z0 z1 EA i EC es1 _ hk14 HL1.out hEU).mono ?_; rintro e x1 ⟨⟨MA, MC, rfl, hoM⟩, hq1⟩) | fail)
        clear l0 l1 l2 l3 lf lz
        have hqX := hq1.alloc hq1.size (.cells #[.int .i64 st, .int .i64 z0, .int .i64 z1, .slice MA i MC] 26)
        have hoX := hoM.alloc (.cells #[.int .i64 st, .int .i64 z0, .int .i64 z1, .slice MA i MC] 26)
        have kMX := Bx.new x1 26 #[.int .i64 st, .int .i64 z0, .int .i64 z1, .slice MA i MC]
        have hUx := hq1.size
        obtain ⟨X, hX⟩ : ∃ X, x1.alloc (.cells #[.int .i64 st, .int .i64 z0, .int .i64 z1, .slice MA i MC] 26) = X := ⟨_, rfl⟩
        rw [hX] at hqX hoX kMX ⊢
        obtain ⟨bM, hbM⟩ : ∃ b, x1.heap.size = b := ⟨_, rfl⟩
        have hMU : U.heap.size ≤ bM := by omega
        rw [hbM] at kMX ⊢
        clear hX hbM hoM hq1
        go_wp2_with fail
        go_loopw [10] (fun v10 wr => ∃ j : Nat, j ≤ fn ∧ v10 = .int .i64 j ∧ wr.ownsRow U.heap.size 28 5 (.slice MA i MC) i ((es1.mapIdx (bumpE st (tick F j))).map Ev.cells).flatten ∧ Bx wr bM 26 #[.int .i64 st, .int .i64 z0, .int .i64 z1, .slice MA i MC] ∧ Below U.heap.size U wr) (fun v10 _ => fn - (intOf v10).toNat)
        case atStart => exact ⟨0, by omega, rfl, by rw [bump_none (fun x => by unfold tick; simp)]; exact hoX, kMX, hqX⟩
        case round =>
          clear hoX kMX hqX
          obtain ⟨m, hm, rfl, hoM, kM, hB⟩ := hrel
          by_cases hmf : m < fn
          · have hmF : m < F.length := by rw [HFN.out]; exact hmf
            obtain ⟨hx1, hx2, hx3⟩ := (hat.mem _ (List.mem_of_mem_take (hsp.fm F[m] (List.getElem_mem hmF)))).1
            obtain ⟨r, hr⟩ := Int.eq_ofNat_of_zero_le hx1
            rw [hr] at hx2 hx3
            rw [HL1.out] at hx2
            have hri : r < i := by omega
            obtain ⟨e, he⟩ : ∃ e, es1[r]? = some e := ⟨_, List.getElem?_eq_getElem (by rw [HL1.out]; exact hri)⟩
            have h3 : e.kd = 3 := by unfold kdAt at hx3; rw [Int.toNat_natCast, he] at hx3; exact hx3
            obtain ⟨t1, t2, t3⟩ := tick_next hsp.fa hmF hr
            have hbe : bumpE st (tick F m) r e = e := by unfold bumpE; rw [t1, Int.zero_mul, Int.add_zero]; split <;> rfl
            have he' : (es1.mapIdx (bumpE st (tick F m)))[r]? = some e := by rw [List.getElem?_mapIdx, he]; simp only [Option.map_some]; rw [hbe]
            have hnext := bump_next he h3 (k := tick F m) (k' := tick F (m + 1)) t3 (d := 1) t2 (st := st)
            rw [hbe, Int.one_mul] at hnext
            have hlm : (es1.mapIdx (bumpE st (tick F m))).length = i := by rw [List.length_mapIdx]; exact HL1.out
            have hsb := (HLO.out e (List.mem_of_getElem? he)).2
            obtain ⟨q, rfl⟩ := own_some hoM (by omega)
            obtain ⟨fa, rfl, hfab, hfa⟩ := ints_at (hFU.below hB) hmF
            rw [hr] at hfa
            have HE' := Lib.hid he'
            have HNX := Lib.hid hnext
            have HOM := Lib.hid hoM
            have HLM := Lib.hid hlm
            have HPF := Lib.hid hfa
            have hw2 : IntKind.i64.wrap (e.sh + st) = e.sh + st := IntWalk.i64_in _ (by omega)
            have kS := kSU.call hB
            have kL := kLU.call hB
            clear hnext hbe he' hoM hlm t1 t2 t3 hsb hx1 hx3 hfa h3 he hr
            obtain ⟨a0, a1, a2, a3, af, az⟩ := kM.four
            obtain ⟨s0, s1, s2, s3, s4, s5, sf, sz⟩ := kS.six
            go_wp2_with fail
            clear a0 a1 a2 a3 af az s0 s1 s2 s3 s4 s5 sf sz
            refine AnyG.start (fun w' : World => Below wr.heap.size wr w') (fun i => i != 22) (by kernel_rfl) ?_
            have hS : (fun w' : World => Below wr.heap.size wr w') (World.drew _) := (Below.refl _ _).drew
            refine AnyG.take (i := 0) (v := ?_) rfl (by kernel_rfl) (fun _ _ _ h => h) rfl ?_ hS ?_
            rotate_left
            · (intro w' hSw; (try dsimp only at hSw); go_simp; try with_reducible rfl)
            try simp only [Act.put, List.getElem_toArray, List.getElem_cons_succ, List.getElem_cons_zero, List.setIfInBounds_toArray, List.set_cons_zero, List.set_cons_succ]
            refine AnyG.take (i := 1) (v := ?_) rfl (by kernel_rfl) (fun _ _ _ h => h) rfl ?_ hS ?_
            rotate_left
            · (intro w' hSw; (try dsimp only at hSw); obtain ⟨a0, a1, a2, a3, af, az⟩ := (kM.call hSw).four; go_simp; try with_reducible rfl)
            try simp only [Act.put, List.getElem_toArray, List.getElem_cons_succ, List.getElem_cons_zero, List.setIfInBounds_toArray, List.set_cons_zero, List.set_cons_succ]
            refine AnyG.take (i := 2) (v := ?_) rfl (by kernel_rfl) (fun _ _ _ h => h) rfl ?_ hS ?_
            rotate_left
            · (intro w' hSw; (try dsimp only at hSw); go_simp; try with_reducible rfl)
            try simp only [Act.put, List.getElem_toArray, List.getElem_cons_succ, List.getElem_cons_zero, List.setIfInBounds_toArray, List.set_cons_zero, List.set_cons_succ]
            refine AnyG.take (i := 3) (v := ?_) rfl (by kernel_rfl) (fun _ _ _ h => h) rfl ?_ hS ?_
            rotate_left
            · (intro w' hSw; (try dsimp only at hSw); obtain ⟨s0, s1, s2, s3, s4, s5, sf, sz⟩ := (kS.call hSw).six; go_simp; try with_reducible rfl)
            try simp only [Act.put, List.getElem_toArray, List.getElem_cons_succ, List.getElem_cons_zero, List.setIfInBounds_toArray, List.set_cons_zero, List.set_cons_succ]
            refine AnyG.take (i := 4) (v := ?_) rfl (by kernel_rfl) (fun _ _ _ h => h) rfl ?_ hS ?_
            rotate_left
            · (intro w' hSw; (try dsimp only at hSw); go_simp; try with_reducible rfl)
            try simp only [Act.put, List.getElem_toArray, List.getElem_cons_succ, List.getElem_cons_zero, List.setIfInBounds_toArray, List.set_cons_zero, List.set_cons_succ]
            refine AnyG.take (i := 5) (v := ?_) rfl (by kernel_rfl) (fun _ _ _ h => h) rfl ?_ hS ?_
            rotate_left
            · (intro w' hSw; (try dsimp only at hSw); go_simp; try with_reducible rfl)
            try simp only [Act.put, List.getElem_toArray, List.getElem_cons_succ, List.getElem_cons_zero, List.setIfInBounds_toArray, List.set_cons_zero, List.set_cons_succ]
            refine AnyG.take (i := 6) (v := ?_) rfl (by kernel_rfl) (fun _ _ _ h => h) rfl ?_ hS ?_
            rotate_left
            · (intro w' hSw; (try dsimp only at hSw); have pF := (hSw.cell (p := fa.add m) (by rw [add_block]; have := hB.size; omega)).trans HPF.out; go_simp; try with_reducible rfl)
            try simp only [Act.put, List.getElem_toArray, List.getElem_cons_succ, List.getElem_cons_zero, List.setIfInBounds_toArray, List.set_cons_zero, List.set_cons_succ]
            refine AnyG.take (i := 7) (v := ?_) rfl (by kernel_rfl) (fun _ _ _ h => h) rfl ?_ hS ?_
            rotate_left
            · (intro w' hSw; (try dsimp only at hSw); go_simp; try with_reducible rfl)
            try simp only [Act.put, List.getElem_toArray, List.getElem_cons_succ, List.getElem_cons_zero, List.setIfInBounds_toArray, List.set_cons_zero, List.set_cons_succ]
            refine AnyG.take (i := 8) (v := ?_) rfl (by kernel_rfl) (fun _ _ _ h => h) rfl ?_ hS ?_
            rotate_left
            · (intro w' hSw; (try dsimp only at hSw); obtain ⟨a0, a1, a2, a3, af, az⟩ := (kM.call hSw).four; go_simp; try with_reducible rfl)
            try simp only [Act.put, List.getElem_toArray, List.getElem_cons_succ, List.getElem_cons_zero, List.setIfInBounds_toArray, List.set_cons_zero, List.set_cons_succ]
            refine AnyG.take (i := 9) (v := ?_) rfl (by kernel_rfl) (fun _ _ _ h => h) rfl ?_ hS ?_
            rotate_left
            · (intro w' hSw; (try dsimp only at hSw); go_simp; try with_reducible rfl)
            try simp only [Act.put, List.getElem_toArray, List.getElem_cons_succ, List.getElem_cons_zero, List.setIfInBounds_toArray, List.set_cons_zero, List.set_cons_succ]
            refine AnyG.take (i := 10) (v := ?_) rfl (by kernel_rfl) (fun _ _ _ h => h) rfl ?_ hS ?_
            rotate_left
            · (intro w' hSw; (try dsimp only at hSw); obtain ⟨s0, s1, s2, s3, s4, s5, sf, sz⟩ := (kS.call hSw).six; go_simp; try with_reducible rfl)
            try simp only [Act.put, List.getElem_toArray, List.getElem_cons_succ, List.getElem_cons_zero, List.setIfInBounds_toArray, List.set_cons_zero, List.set_cons_succ]
            refine AnyG.take (i := 11) (v := ?_) rfl (by kernel_rfl) (fun _ _ _ h => h) rfl ?_ hS ?_
            rotate_left
            · (intro w' hSw; (try dsimp only at hSw); go_simp; try with_reducible rfl)
            try simp only [Act.put, List.getElem_toArray, List.getElem_cons_succ, List.getElem_cons_zero, List.setIfInBounds_toArray, List.set_cons_zero, List.set_cons_succ]
            refine AnyG.take (i := 12) (v := ?_) rfl (by kernel_rfl) (fun _ _ _ h => h) rfl ?_ hS ?_
            rotate_left
            · (intro w' hSw; (try dsimp only at hSw); go_simp; try with_reducible rfl)
            try simp only [Act.put, List.getElem_toArray, List.getElem_cons_succ, List.getElem_cons_zero, List.setIfInBounds_toArray, List.set_cons_zero, List.set_cons_succ]
            refine AnyG.take (i := 13) (v := ?_) rfl (by kernel_rfl) (fun _ _ _ h => h) rfl ?_ hS ?_
            rotate_left
            · (intro w' hSw; (try dsimp only at hSw); have pF := (hSw.cell (p := fa.add m) (by rw [add_block]; have := hB.size; omega)).trans HPF.out; go_simp; try with_reducible rfl)
            try simp only [Act.put, List.getElem_toArray, List.getElem_cons_succ, List.getElem_cons_zero, List.setIfInBounds_toArray, List.set_cons_zero, List.set_cons_succ]
            refine AnyG.take (i := 14) (v := ?_) rfl (by kernel_rfl) (fun _ _ _ h => h) rfl ?_ hS ?_
            rotate_left
            · (intro w' hSw; (try dsimp only at hSw); go_simp; try with_reducible rfl)
            try simp only [Act.put, List.getElem_toArray, List.getElem_cons_succ, List.getElem_cons_zero, List.setIfInBounds_toArray, List.set_cons_zero, List.set_cons_succ]
            refine AnyG.take (i := 15) (v := ?_) rfl (by kernel_rfl) (fun _ _ _ h => h) rfl ?_ hS ?_
            rotate_left
            · (intro w' hSw; (try dsimp only at hSw); go_simp; try with_reducible rfl)
            try simp only [Act.put, List.getElem_toArray, List.getElem_cons_succ, List.getElem_cons_zero, List.setIfInBounds_toArray, List.set_cons_zero, List.set_cons_succ]
            refine AnyG.take (i := 16) (v := ?_) rfl (by kernel_rfl) (fun _ _ _ h => h) rfl ?_ hS ?_
            rotate_left
            · (intro w' hSw; (try dsimp only at hSw); obtain ⟨p0, p1, p2, p3, p4⟩ := own_at (own_bel HOM.out hSw) HLM.out HE'.out; go_simp; try with_reducible rfl)
            try simp only [Act.put, List.getElem_toArray, List.getElem_cons_succ, List.getElem_cons_zero, List.setIfInBounds_toArray, List.set_cons_zero, List.set_cons_succ]
            refine AnyG.take (i := 17) (v := ?_) rfl (by kernel_rfl) (fun _ _ _ h => h) rfl ?_ hS ?_
            rotate_left
            · (intro w' hSw; (try dsimp only at hSw); go_simp; try with_reducible rfl)
            try simp only [Act.put, List.getElem_toArray, List.getElem_cons_succ, List.getElem_cons_zero, List.setIfInBounds_toArray, List.set_cons_zero, List.set_cons_succ]
            refine AnyG.take (i := 18) (v := ?_) rfl (by kernel_rfl) (fun _ _ _ h => h) rfl ?_ hS ?_
            rotate_left
            · (intro w' hSw; (try dsimp only at hSw); obtain ⟨l0, l1, l2, l3, lf, lz⟩ := (kL.call hSw).four; go_simp; try with_reducible rfl)
            try simp only [Act.put, List.getElem_toArray, List.getElem_cons_succ, List.getElem_cons_zero, List.setIfInBounds_toArray, List.set_cons_zero, List.set_cons_succ]
            refine AnyG.take (i := 19) (v := ?_) rfl (by kernel_rfl) (fun _ _ _ h => h) rfl ?_ hS ?_
            rotate_left
            · (intro w' hSw; (try dsimp only at hSw); go_simp; try with_reducible rfl)
            try simp only [Act.put, List.getElem_toArray, List.getElem_cons_succ, List.getElem_cons_zero, List.setIfInBounds_toArray, List.set_cons_zero, List.set_cons_succ]
            refine AnyG.one (i := 20) (by kernel_rfl) rfl rfl ?_
            go_simp
            refine Onward.on hS (fun hS2 => ?_)
            clear hS
            have hS := hS2
            clear hS2
            try simp only [Act.put, List.getElem_toArray, List.getElem_cons_succ, List.getElem_cons_zero, List.setIfInBounds_toArray, List.set_cons_zero, List.set_cons_succ]
            refine AnyG.one (i := 21) (by kernel_rfl) rfl rfl ?_
            go_simp
            refine Onward.on hS (fun hS2 => ?_)
            clear hS
            have hS := hS2
            clear hS2
            try simp only [Act.put, List.getElem_toArray, List.getElem_cons_succ, List.getElem_cons_zero, List.setIfInBounds_toArray, List.set_cons_zero, List.set_cons_succ]
            refine AnyG.one (i := 22) (by kernel_rfl) rfl rfl ?_
            have pf := own_free HOM.out
            obtain ⟨p0, p1, p2, p3, p4⟩ := own_at HOM.out HLM.out HE'.out
            go_simp
            refine Onward.last rfl ?_
            try simp only [Act.put, List.getElem_toArray, List.getElem_cons_succ, List.getElem_cons_zero, List.setIfInBounds_toArray, List.set_cons_zero, List.set_cons_succ]
            refine AnyG.done (by kernel_rfl) ?_ _
            go_simp
            go_wp2_with fail
            go_roundw
            case rel =>
              have hlt : r < (es1.mapIdx (bumpE st (tick F m))).length := by rw [HLM.out]; exact hri
              refine ⟨m + 1, by omega, by go_num, ?_, (kM.call ((Below.refl _ _).drew)).far (by simp; exact fun h => own_bx HOM.out kM (by decide) (by rw [h]; rfl)) _, hB.drew.setCell (HOM.out.lt q rfl).1 _⟩
              rw [HNX.out, ← evs_set_sh _ _ _ HE'.out]
              exact own_store (own_bel HOM.out ((Below.refl _ _).drew)) (r * 5 + 1) _ (by rw [HLM.out] at hlt; omega)
            case measure => simp [intOf]; omega
          · obtain rfl : m = fn := by omega
            have htk : tick F m = fun x : Nat => if (x : Int) ∈ F then 1 else 0 := by funext x; unfold tick; rw [List.take_of_length_le (by rw [HFN.out]; exact Nat.le_refl _)]
            rw [htk] at hoM
            have hmk := HMA.out (fun x : Nat => if (x : Int) ∈ F then 1 else 0) (fun x => by split <;> omega)
            obtain ⟨es2, hes2⟩ : ∃ x, es1.mapIdx (bumpE st fun x : Nat => if (x : Int) ∈ F then 1 else 0) = x := ⟨_, rfl⟩
            rw [hes2] at hoM hmk
            have hEr := (hEU.below hB).more hB.size
            have hFr := (hFU.below hB).more hB.size
            have hGr := (hGU.below hB).more hB.size
            have hMr := own_evs2 hoM (by rw [← hes2, List.length_mapIdx]; exact HL1.out)
            obtain ⟨N1, N2, net1, net2, b1, b2, b3, b4⟩ := steps_nets st z0 z1 EA i EC MA MC es1 es2 FA m fc BA bn bc fs bs d0 d1 F B l j wr hs2 HL1.out hk14 hes2 (fun e he => (HLO.out e he).1) hmk.1 hmk.2.1 hmk.2.2.1 hmk.2.2.2 hat hsp HFN.out HBN.out hok2.1 hok2.2 hfs hbs (by omega) dr2 (by omega) hEr hMr hFr hGr
            dsimp only at b1 b2 b3 b4
            have hc4 : m = 0 ∨ m = 1 ∨ m = 2 ∨ m = 3 := by omega
            have hms : 0 ≤ (m : Int) * st ∧ (m : Int) * st ≤ 60 := by rcases hc4 with h | h | h | h <;> (rw [h]; omega)
            clear hc4
            obtain ⟨T, hT⟩ : ∃ T, (m : Int) * st = T := ⟨_, rfl⟩
            rw [hT] at hms net2
            have hwT : IntKind.i64.wrap ((m : Int) * st) = T := by rw [hT]; exact IntWalk.i64_in _ (by omega)
            have hW := Lib.hid (And.intro (IntWalk.i64_in (N1 + T) (by omega)) (IntWalk.i64_in (N2 + T) (by omega)))
            have NET := Lib.hid (And.intro net1 net2)
            have kS := kSU.call hB
            have kL := kLU.call hB
            have hwB : Below w.heap.size w wr := hBU.trans (hB.mono hBU.size)
            clear net1 net2 hmk hes2 htk hoM hEr hFr hGr hMr hat hsp hEU hFU hGU kSU kLU hBU
            obtain ⟨l0, l1, l2, l3, lf, lz⟩ := kL.four
            obtain ⟨s0, s1, s2, s3, s4, s5, sf, sz⟩ := kS.six
            go_upto_region 17 with (first | (go_at_call 29; refine (NET.out.1 _ (Below.refl _ _)).mono ?_; rintro e y1 ⟨rfl, hq1⟩) | fail)
            clear l0 l1 l2 l3 lf lz s0 s1 s2 s3 s4 s5 sf sz
            have hA1 := hq1.alloc hq1.size (.cells #[.int .i64 N1, .int .i64 N2] 23)
            have kN := Bx.new y1 23 #[.int .i64 N1, .int .i64 N2]
            obtain ⟨Y1, hY1⟩ : ∃ V, y1.alloc (.cells #[.int .i64 N1, .int .i64 N2] 23) = V := ⟨_, rfl⟩
            rw [hY1] at hA1 kN ⊢
            clear hY1 hq1
            obtain ⟨l0, l1, l2, l3, lf, lz⟩ := (kM.call hA1).four
            obtain ⟨s0, s1, s2, s3, s4, s5, sf, sz⟩ := (kS.call hA1).six
            go_upto_region 18 with (first | (go_at_call 29; refine (NET.out.2 _ hA1).mono ?_; rintro e y2 ⟨rfl, hq2⟩) | fail)
            clear l0 l1 l2 l3 lf lz s0 s1 s2 s3 s4 s5 sf sz
            have hA2 := (hA1.trans (hq2.mono hA1.size)).alloc (by have := hA1.size; have := hq2.size; omega) (.cells #[.int .i64 (N1 + T), .int .i64 (N2 + T)] 23)
            have kP := Bx.new y2 23 #[.int .i64 (N1 + T), .int .i64 (N2 + T)]
            have kN2 := (kN.call hq2).alloc (.cells #[.int .i64 (N1 + T), .int .i64 (N2 + T)] 23)
            obtain ⟨Y2, hY2⟩ : ∃ V, y2.alloc (.cells #[.int .i64 (N1 + T), .int .i64 (N2 + T)] 23) = V := ⟨_, rfl⟩
            rw [hY2] at hA2 kP kN2 ⊢
            clear hY2 hq2 kN
            obtain ⟨l0, l1, l2, l3, lf, lz⟩ := (kL.call hA2).four
            obtain ⟨s0, s1, s2, s3, s4, s5, sf, sz⟩ := (kS.call hA2).six
            go_upto_region 19 with fail
            clear l0 l1 l2 l3 lf lz s0 s1 s2 s3 s4 s5 sf sz
            refine AnyG.start (fun w' : World => Below Y2.heap.size Y2 w') (fun i => true) (by kernel_rfl) ?_
            have hS : (fun w' : World => Below Y2.heap.size Y2 w') (World.drew _) := (Below.refl _ _).drew
            refine AnyG.take (i := 0) (v := ?_) rfl (by kernel_rfl) (fun _ _ _ h => h) rfl ?_ hS ?_
            rotate_left
            · (intro w' hSw; (try dsimp only at hSw); go_simp; try with_reducible rfl)
            try simp only [Act.put, List.getElem_toArray, List.getElem_cons_succ, List.getElem_cons_zero, List.setIfInBounds_toArray, List.set_cons_zero, List.set_cons_succ]
            refine AnyG.take (i := 1) (v := ?_) rfl (by kernel_rfl) (fun _ _ _ h => h) rfl ?_ hS ?_
            rotate_left
            · (intro w' hSw; (try dsimp only at hSw); go_simp; try with_reducible rfl)
            try simp only [Act.put, List.getElem_toArray, List.getElem_cons_succ, List.getElem_cons_zero, List.setIfInBounds_toArray, List.set_cons_zero, List.set_cons_succ]
            refine AnyG.take (i := 2) (v := ?_) rfl (by kernel_rfl) (fun _ _ _ h => h) rfl ?_ hS ?_
            rotate_left
            · (intro w' hSw; (try dsimp only at hSw); go_simp; try with_reducible rfl)
            try simp only [Act.put, List.getElem_toArray, List.getElem_cons_succ, List.getElem_cons_zero, List.setIfInBounds_toArray, List.set_cons_zero, List.set_cons_succ]
            refine AnyG.takeG (i := 3) (v := ?_) rfl (by kernel_rfl) (fun _ _ _ h => h) (by simp [Region.wanted, yielded]) ?_ hS ?_
            rotate_left
            · (intro w' hSw; (try dsimp only at hSw); go_simp; (try simp only [hW.out.1, hW.out.2, if_true]); try with_reducible rfl)
            try simp only [Act.put, List.getElem_toArray, List.getElem_cons_succ, List.getElem_cons_zero, List.setIfInBounds_toArray, List.set_cons_zero, List.set_cons_succ]
            refine AnyG.takeG (i := 4) (v := ?_) rfl (by kernel_rfl) (fun _ _ _ h => h) (by simp [Region.wanted, yielded]) ?_ hS ?_
            rotate_left
            · (intro w' hSw; (try dsimp only at hSw); go_simp; (try simp only [hW.out.1, hW.out.2, if_true]); try with_reducible rfl)
            try simp only [Act.put, List.getElem_toArray, List.getElem_cons_succ, List.getElem_cons_zero, List.setIfInBounds_toArray, List.set_cons_zero, List.set_cons_succ]
            refine AnyG.take (i := 5) (v := ?_) rfl (by kernel_rfl) (fun _ _ _ h => h) rfl ?_ hS ?_
            rotate_left
            · (intro w' hSw; (try dsimp only at hSw); go_simp; try with_reducible rfl)
            try simp only [Act.put, List.getElem_toArray, List.getElem_cons_succ, List.getElem_cons_zero, List.setIfInBounds_toArray, List.set_cons_zero, List.set_cons_succ]
            refine AnyG.take (i := 6) (v := ?_) rfl (by kernel_rfl) (fun _ _ _ h => h) rfl ?_ hS ?_
            rotate_left
            · (intro w' hSw; (try dsimp only at hSw); go_simp; try with_reducible rfl)
            try simp only [Act.put, List.getElem_toArray, List.getElem_cons_succ, List.getElem_cons_zero, List.setIfInBounds_toArray, List.set_cons_zero, List.set_cons_succ]
            refine AnyG.takeG (i := 7) (v := ?_) rfl (by kernel_rfl) (fun _ _ _ h => h) (by simp [Region.wanted, yielded]) ?_ hS ?_
            rotate_left
            · (intro w' hSw; (try dsimp only at hSw); obtain ⟨r0, r1, rf, rz⟩ := (kP.call hSw).two; go_simp; (try simp only [hW.out.1, hW.out.2, if_true]); try with_reducible rfl)
            try simp only [Act.put, List.getElem_toArray, List.getElem_cons_succ, List.getElem_cons_zero, List.setIfInBounds_toArray, List.set_cons_zero, List.set_cons_succ]
            refine AnyG.takeG (i := 8) (v := ?_) rfl (by kernel_rfl) (fun _ _ _ h => h) (by simp [Region.wanted, yielded]) ?_ hS ?_
            rotate_left
            · (intro w' hSw; (try dsimp only at hSw); go_simp; (try simp only [hW.out.1, hW.out.2, if_true]); try with_reducible rfl)
            try simp only [Act.put, List.getElem_toArray, List.getElem_cons_succ, List.getElem_cons_zero, List.setIfInBounds_toArray, List.set_cons_zero, List.set_cons_succ]
            refine AnyG.takeG (i := 9) (v := ?_) rfl (by kernel_rfl) (fun _ _ _ h => h) (by simp [Region.wanted, yielded]) ?_ hS ?_
            rotate_left
            · (intro w' hSw; (try dsimp only at hSw); obtain ⟨r0, r1, rf, rz⟩ := (kN2.call hSw).two; go_simp; (try simp only [hW.out.1, hW.out.2, if_true]); try with_reducible rfl)
            try simp only [Act.put, List.getElem_toArray, List.getElem_cons_succ, List.getElem_cons_zero, List.setIfInBounds_toArray, List.set_cons_zero, List.set_cons_succ]
            refine AnyG.takeG (i := 10) (v := ?_) rfl (by kernel_rfl) (fun _ _ _ h => h) (by simp [Region.wanted, yielded]) ?_ hS ?_
            rotate_left
            · (intro w' hSw; (try dsimp only at hSw); go_simp; (try simp only [hW.out.1, hW.out.2, if_true]); try with_reducible rfl)
            try simp only [Act.put, List.getElem_toArray, List.getElem_cons_succ, List.getElem_cons_zero, List.setIfInBounds_toArray, List.set_cons_zero, List.set_cons_succ]
            refine AnyG.takeG (i := 11) (v := ?_) rfl (by kernel_rfl) (fun _ _ _ h => h) (by simp [Region.wanted, yielded]) ?_ hS ?_
            rotate_left
            · (intro w' hSw; (try dsimp only at hSw); go_simp; (try simp only [hW.out.1, hW.out.2, if_true]); try with_reducible rfl)
            try simp only [Act.put, List.getElem_toArray, List.getElem_cons_succ, List.getElem_cons_zero, List.setIfInBounds_toArray, List.set_cons_zero, List.set_cons_succ]
            refine AnyG.takeG (i := 12) (v := ?_) rfl (by kernel_rfl) (fun _ _ _ h => h) (by simp [Region.wanted, yielded]) ?_ hS ?_
            rotate_left
            · (intro w' hSw; (try dsimp only at hSw); go_simp; (try simp only [hW.out.1, hW.out.2, if_true]); try with_reducible rfl)
            try simp only [Act.put, List.getElem_toArray, List.getElem_cons_succ, List.getElem_cons_zero, List.setIfInBounds_toArray, List.set_cons_zero, List.set_cons_succ]
            refine AnyG.takeG (i := 13) (v := ?_) rfl (by kernel_rfl) (fun _ _ _ h => h) (by simp [Region.wanted, yielded]) ?_ hS ?_
            rotate_left
            · (intro w' hSw; (try dsimp only at hSw); obtain ⟨r0, r1, rf, rz⟩ := (kN2.call hSw).two; go_simp; (try simp only [hW.out.1, hW.out.2, if_true]); try with_reducible rfl)
            try simp only [Act.put, List.getElem_toArray, List.getElem_cons_succ, List.getElem_cons_zero, List.setIfInBounds_toArray, List.set_cons_zero, List.set_cons_succ]
            refine AnyG.takeG (i := 14) (v := ?_) rfl (by kernel_rfl) (fun _ _ _ h => h) (by simp [Region.wanted, yielded]) ?_ hS ?_
            rotate_left
            · (intro w' hSw; (try dsimp only at hSw); go_simp; (try simp only [hW.out.1, hW.out.2, if_true]); try with_reducible rfl)
            try simp only [Act.put, List.getElem_toArray, List.getElem_cons_succ, List.getElem_cons_zero, List.setIfInBounds_toArray, List.set_cons_zero, List.set_cons_succ]
            refine AnyG.takeG (i := 15) (v := ?_) rfl (by kernel_rfl) (fun _ _ _ h => h) (by simp [Region.wanted, yielded]) ?_ hS ?_
            rotate_left
            · (intro w' hSw; (try dsimp only at hSw); go_simp; (try simp only [hW.out.1, hW.out.2, if_true]); try with_reducible rfl)
            try simp only [Act.put, List.getElem_toArray, List.getElem_cons_succ, List.getElem_cons_zero, List.setIfInBounds_toArray, List.set_cons_zero, List.set_cons_succ]
            refine AnyG.oneG (i := 16) (by kernel_rfl) rfl (by simp [Region.wanted, yielded]) ?_
            go_simp
            refine (rng_any _ _ _).mono ?_
            rintro e yy ⟨rfl, hr⟩
            have hS2 : Below Y2.heap.size Y2 yy := Below.trans hS (hr.mono hS.size)
            clear hS hr
            refine Onward.on hS2 (fun hS => ?_)
            clear hS2
            try simp only [Act.put, List.getElem_toArray, List.getElem_cons_succ, List.getElem_cons_zero, List.setIfInBounds_toArray, List.set_cons_zero, List.set_cons_succ]
            refine AnyG.takeG (i := 17) (v := ?_) rfl (by kernel_rfl) (fun _ _ _ h => h) (by simp [Region.wanted, yielded]) ?_ hS ?_
            rotate_left
            · (intro w' hSw; (try dsimp only at hSw); go_simp; (try simp only [hW.out.1, hW.out.2, if_true]); try with_reducible rfl)
            try simp only [Act.put, List.getElem_toArray, List.getElem_cons_succ, List.getElem_cons_zero, List.setIfInBounds_toArray, List.set_cons_zero, List.set_cons_succ]
            refine AnyG.take (i := 18) (v := ?_) rfl (by kernel_rfl) (fun _ _ _ h => h) rfl ?_ hS ?_
            rotate_left
            · (intro w' hSw; (try dsimp only at hSw); go_simp; try with_reducible rfl)
            try simp only [Act.put, List.getElem_toArray, List.getElem_cons_succ, List.getElem_cons_zero, List.setIfInBounds_toArray, List.set_cons_zero, List.set_cons_succ]
            refine AnyG.take (i := 19) (v := ?_) rfl (by kernel_rfl) (fun _ _ _ h => h) rfl ?_ hS ?_
            rotate_left
            · (intro w' hSw; (try dsimp only at hSw); go_simp; try with_reducible rfl)
            try simp only [Act.put, List.getElem_toArray, List.getElem_cons_succ, List.getElem_cons_zero, List.setIfInBounds_toArray, List.set_cons_zero, List.set_cons_succ]
            refine AnyG.oneG (i := 20) (by kernel_rfl) rfl (by simp [Region.wanted, yielded]) ?_
            go_simp
            refine (awake_any _).mono ?_
            rintro e yy ⟨rfl, hr⟩
            have hS2 : Below Y2.heap.size Y2 yy := Below.trans hS (hr.mono hS.size)
            clear hS hr
            refine Onward.on hS2 (fun hS => ?_)
            clear hS2
            try simp only [Act.put, List.getElem_toArray, List.getElem_cons_succ, List.getElem_cons_zero, List.setIfInBounds_toArray, List.set_cons_zero, List.set_cons_succ]
            refine AnyG.take (i := 21) (v := ?_) rfl (by kernel_rfl) (fun _ _ _ h => h) rfl ?_ hS ?_
            rotate_left
            · (intro w' hSw; (try dsimp only at hSw); go_simp; try with_reducible rfl)
            try simp only [Act.put, List.getElem_toArray, List.getElem_cons_succ, List.getElem_cons_zero, List.setIfInBounds_toArray, List.set_cons_zero, List.set_cons_succ]
            refine AnyG.take (i := 22) (v := ?_) rfl (by kernel_rfl) (fun _ _ _ h => h) rfl ?_ hS ?_
            rotate_left
            · (intro w' hSw; (try dsimp only at hSw); go_simp; try with_reducible rfl)
            try simp only [Act.put, List.getElem_toArray, List.getElem_cons_succ, List.getElem_cons_zero, List.setIfInBounds_toArray, List.set_cons_zero, List.set_cons_succ]
            refine AnyG.done (by kernel_rfl) ?_ _
            go_simp
            go_wp2_with fail
            go_ret
            exact ⟨rfl, (hwB.trans (hA2.mono hwB.size)).trans (hS.mono (by have := hwB.size; have := hA2.size; omega))⟩
end Go.Proofs.Ytgbogdckmfencaa
