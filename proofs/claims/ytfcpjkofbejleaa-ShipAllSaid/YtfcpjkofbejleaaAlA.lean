/- ShipAll: its ranges, and what is said of the voyage. -/
import Derived.Test.YtfcpjkofbejleaaFew
import Derived.Test.YtfcpjkofbejleaaSpr
set_option linter.unusedSimpArgs false
set_option linter.unusedVariables false
namespace Go.Proofs.Ytfcpjkofbejleaa
open Go Go.RowKit
theorem few_rgs {v : Vg} (h : FewV v) : (∀ r ∈ rgs v, -1000000 ≤ r.1 ∧ r.1 ≤ r.2 ∧ r.2 ≤ 1000000 ∧ r.2 ≤ r.1 + 2) := by
  intro r hr
  unfold rgs rgS at hr
  rcases List.mem_append.1 hr with hr | hr
  · obtain ⟨c, hc, rfl⟩ := List.mem_map.1 hr
    have a := h.ls c hc
    have b := h.sm.ls c hc
    dsimp only
    omega
  · obtain ⟨l, hl, hr⟩ := List.mem_flatten.1 hr
    obtain ⟨s, hs, rfl⟩ := List.mem_map.1 hl
    have a := h.ss s hs
    have b := h.sm.ss s hs
    rcases List.mem_cons.1 hr with rfl | hr
    · dsimp only
      omega
    · obtain ⟨l, hl, rfl⟩ := List.mem_map.1 hr
      have c := a.2.2 l hl
      have d := b.2.2.2.2.2.ok l hl
      dsimp only
      omega
theorem rgS_take (ss : List Si) {i : Nat} (hi : i < ss.length) : rgS (ss.take (i + 1)) = rgS (ss.take i) ++ ((ss[i].t0, ss[i].t1) :: ss[i].lv.map fun l => (l.d0, l.d1)) := by
  unfold rgS
  rw [List.take_succ_eq_append_getElem hi, List.map_append, List.flatten_append]
  simp
/-- The ranges of the first levels of sill i. -/
def rgP (v : Vg) (i k : Nat) (s : Si) : List (Int × Int) := v.ls.map (fun c => (c.t0, c.t1)) ++ rgS (v.ss.take i) ++ ((s.t0, s.t1) :: (s.lv.take k).map fun l => (l.d0, l.d1))
theorem rgP_succ (v : Vg) (i : Nat) (s : Si) {k : Nat} (hk : k < s.lv.length) : rgP v i (k + 1) s = rgP v i k s ++ [(s.lv[k].d0, s.lv[k].d1)] := by
  unfold rgP
  rw [List.take_succ_eq_append_getElem hk, List.map_append, List.append_assoc, List.append_assoc, List.append_assoc]
  rfl
/-- What all truths so far say together. -/
structure AllS (v : Vg) (s : List Int) (X : List Tru) (p q y : Int × Int) (due : List (Int × Int)) (fw cnt : Nat) (lv : Bool) : Prop where
  p : X ≠ [] → IsMM (X.map fun t => trB v t s) p
  q : X ≠ [] → IsMM (X.map fun t => trT v t s) q
  y : X ≠ [] → IsMM (X.map fun t => trB v t s - trT v t s) y
  due : IsDue (X.map fun t => salT v t s) due
  few : IsFew v.ss.length (X.map fun t => salT v t s) fw
  cnt : cnt = cntP v.ss.length (X.map fun t => salT v t s)
  lev : lv = levA v.tr (X.map fun t => trB v t s - trT v t s)
theorem AllS.nil (v : Vg) (s : List Int) (p q y : Int × Int) : AllS v s [] p q y [] v.ss.length 0 true :=
  ⟨fun h => absurd rfl h, fun h => absurd rfl h, fun h => absurd rfl h, IsDue.nil, IsFew.nil _, rfl, rfl⟩
theorem mm_step {α : Type} {X : List α} {f : α → Int} {p p' : Int × Int} {t : α} (h : X ≠ [] → IsMM (X.map f) p) (h0 : X = [] → p' = (f t, f t)) (h1 : X ≠ [] → p' = p) : IsMM ((X ++ [t]).map f) (min p'.1 (f t), max p'.2 (f t)) := by
  rw [List.map_append, List.map_singleton]
  by_cases e : X = []
  · rw [h0 e, e]
    exact MMs.first (f t)
  · rw [h1 e]
    exact (h e).snoc (f t)
theorem AllS.step {v : Vg} {s : List Int} {X : List Tru} {p q y p' q' y' : Int × Int} {due due' : List (Int × Int)} {fw cnt : Nat} {lv : Bool} (h : AllS v s X p q y due fw cnt lv) (t : Tru)
    (hp0 : X = [] → p' = (trB v t s, trB v t s)) (hp1 : X ≠ [] → p' = p) (hq0 : X = [] → q' = (trT v t s, trT v t s)) (hq1 : X ≠ [] → q' = q) (hy0 : X = [] → y' = (trB v t s - trT v t s, trB v t s - trT v t s)) (hy1 : X ≠ [] → y' = y)
    (hd : DueP (X.map fun t => salT v t s) (salT v t s) (salT v t s).length due') :
    AllS v s (X ++ [t]) (min p'.1 (trB v t s), max p'.2 (trB v t s)) (min q'.1 (trT v t s), max q'.2 (trT v t s)) (min y'.1 (trB v t s - trT v t s), max y'.2 (trB v t s - trT v t s)) due' (min fw (salT v t s).length) (cnt + if (salT v t s).length = v.ss.length then 1 else 0) (lv && (decide (trB v t s - trT v t s ≤ 1000 * v.tr) && decide (trT v t s - trB v t s ≤ 1000 * v.tr))) := by
  refine ⟨fun _ => mm_step h.p hp0 hp1, fun _ => mm_step h.q hq0 hq1, fun _ => mm_step h.y hy0 hy1, ?_, ?_, ?_, ?_⟩
  · rw [List.map_append, List.map_singleton]; exact hd.done
  · rw [List.map_append, List.map_singleton]; exact h.few.snoc _
  · rw [List.map_append, List.map_singleton, cntP_snoc, h.cnt]
  · rw [List.map_append, List.map_singleton, levA_snoc, h.lev, show -(trB v t s - trT v t s) = trT v t s - trB v t s by omega]
/-- The world of the loop over all truths: W before it, three boxes from b on, and a row behind them. -/
structure AI (W : World) (b : Nat) (p q y : Int × Int) (due : List (Int × Int)) (DA : Option Addr) (nd dc : Nat) (x : World) : Prop where
  bel : Below W.heap.size W x
  kp : Bx x b 41 #[.int .i64 p.1, .int .i64 p.2]
  kq : Bx x (b + 1) 41 #[.int .i64 q.1, .int .i64 q.2]
  ky : Bx x (b + 2) 41 #[.int .i64 y.1, .int .i64 y.2]
  od : x.ownsRow (b + 3) 41 2 (.slice DA nd dc) nd (gnr due).flatten
theorem AI.call {W : World} {b : Nat} {p q y : Int × Int} {due : List (Int × Int)} {DA : Option Addr} {nd dc : Nat} {x x' : World} (h : AI W b p q y due DA nd dc x) (k : Below x.heap.size x x') : AI W b p q y due DA nd dc x' :=
  ⟨h.bel.trans (k.mono h.bel.size), h.kp.call k, h.kq.call k, h.ky.call k, own_bel h.od k⟩
/-- What is shown in a text of its own. -/
structure Later (P : Prop) : Prop where
  out : P
set_option maxRecDepth 100000 in
set_option maxHeartbeats 16000000 in
def shipAll_A (A : Option Addr) (n c : Nat) (L : List Int) (w : World) : (P : Prop) ×' (P2 : Prop) ×' (Later P → Later P2 → ∀ (hn : n ≤ 9000000000000000000) (hl : L.length = n) (hA : Sl w w.heap.size 1 A (ints L)),
    Calls Try.prog 7 #[.slice A n c] w fun e w' => e = .returned (.bool true) ∧ Below w.heap.size w w') := by
  refine PSigma.mk ?P (PSigma.mk ?P2 ?g)
  case g =>
    intro hTail hTail2 hn hl hA
    have HL := Lib.hid hl
    clear hl
    obtain ⟨i3, hi3, hz3, hs3, iy3⟩ := info_parts info3'
    obtain ⟨i41, hi41, hz41, hs41, iy41⟩ := info_parts info41
    obtain ⟨i27, hi27, hz27, hs27, iy27⟩ := info_parts info27b
    go_enter Try.func7, Try.ntmps7
    go_upto_region 3 with (first
      | (go_at_call 16; refine (feedOf_any A n c L _ hn HL.out hA).mono ?_; rintro e w1 ⟨⟨g, rfl, hg0, hfd⟩, hb1⟩)
      | (go_at_call 42; refine (few_any g _ hfd).mono ?_; rintro e w3 ⟨⟨v, p, hfw, hFit, rfl, hV0⟩, U3⟩; rw [vcs_def])
      | fail)
    have hsm := hfw.sm
    have hok := hsm.ok (by omega) (by omega) (by omega) (by omega)
    have hck := hsm.ck (by omega) (by omega) (by omega) (by omega)
    have hlf := hsm.lf
    have HFW := Lib.hid hfw
    have HOK := Lib.hid hok
    have HCK := Lib.hid hck
    have HLF := Lib.hid hlf
    have HFT := Lib.hid hFit
    have hln2 : p.ln ≤ 2 := by have := hsm.ln; have := hV0.ll; omega
    have hsn2 : p.sn ≤ 2 := by have := hsm.sn; have := hV0.sl; omega
    have B1 := (Below.refl w3.heap.size w3).alloc (Nat.le_refl _) (.cells #[.int .i64 v.li, .int .i64 v.un, .int .i64 v.tr, .slice p.HA p.hn p.hc, .int .i64 v.le, .slice p.SA p.sn p.sc, .slice p.LA p.ln p.lc] 26)
    have kO := Bx.new w3 26 #[.int .i64 v.li, .int .i64 v.un, .int .i64 v.tr, .slice p.HA p.hn p.hc, .int .i64 v.le, .slice p.SA p.sn p.sc, .slice p.LA p.ln p.lc]
    have hO := hV0.call B1
    have U4 := U3.alloc (.cells #[.int .i64 v.li, .int .i64 v.un, .int .i64 v.tr, .slice p.HA p.hn p.hc, .int .i64 v.le, .slice p.SA p.sn p.sc, .slice p.LA p.ln p.lc] 26)
    have hgl := U3.2.lt
    have hw13 := U3.size
    obtain ⟨V1, hV1⟩ : ∃ V, w3.alloc (.cells #[.int .i64 v.li, .int .i64 v.un, .int .i64 v.tr, .slice p.HA p.hn p.hc, .int .i64 v.le, .slice p.SA p.sn p.sc, .slice p.LA p.ln p.lc] 26) = V := ⟨_, rfl⟩
    rw [hV1] at kO hO U4 ⊢
    obtain ⟨bO, hbO⟩ : ∃ b, w3.heap.size = b := ⟨_, rfl⟩
    rw [hbO] at kO hgl ⊢
    have hgO : bO ≠ g := by omega
    clear hV1 hbO B1 hV0 U3 hsm hok hck hlf hFit hw13 hfw
    obtain ⟨l0, l1, l2, l3, l4, l5, l6, lf', lz⟩ := kO.seven
    go_upto_region 4 with (first
      | (go_at_call 19; refine (stowageOf_any g v p _ U4.2 HCK.out hO).mono ?_; rintro e V ⟨⟨SA, sc, s, rfl, hsl, hst, hSV⟩, hU5⟩; have U5 : FT g w1 V := ⟨grownF_trans U4.1 hU5.1, hU5.2⟩)
      | fail)
    have HSL := Lib.hid hsl
    have HST := Lib.hid hst
    have kV := hU5.bx kO hgO
    have hV := hU5.voy U4.2 hO
    have hBV := U5.be hb1 hg0
    clear hb1 hfd U4 U5 hU5 l0 l1 l2 l3 l4 l5 l6 lf' lz kO hO hsl hst hgl
    have HLL := Lib.hid hV.ll
    have HSS := Lib.hid hV.sl
    go_wp2_with fail
    go_loopw [6, 7] (fun rv iv wr => ∃ (i : Nat) (RA : Option Addr) (rc : Nat) (R : List (Int × Int)), iv = .int .i64 i ∧ i ≤ p.ln ∧ rv = .slice RA i rc ∧ Hid (R = (v.ls.take i).map fun c => (c.t0, c.t1)) ∧ wr.ownsRow V.heap.size 41 2 (.slice RA i rc) i (gnr R).flatten ∧ Below V.heap.size V wr) (fun _ iv _ => p.ln - (intOf iv).toNat)
    case atStart => exact ⟨0, none, 0, [], rfl, by omega, rfl, Lib.hid rfl, World.ownsRow_nil _ _ _ _, Below.refl _ _⟩
    case round =>
      obtain ⟨i, RA, rc, R, rfl, hi, rfl, HR, oR, hB⟩ := hrel
      have kr := kV.call hB
      have hBs := hB.size
      obtain ⟨l0, l1, l2, l3, l4, l5, l6, lf', lz⟩ := kr.seven
      by_cases hin : i < p.ln
      · have hil : i < v.ls.length := by rw [HLL.out]; exact hin
        obtain ⟨ad, hLA, _, c0, c1, _⟩ := cg_at (hV.call hB).ls hil
        have hget := List.getElem?_eq_getElem hil
        have htk := List.take_succ_eq_append_getElem hil
        generalize v.ls[i] = b at *
        have HTK := Lib.hid htk
        rw [hLA] at l6
        have hiw : IntKind.i64.wrap ((i : Int) + 1) = (i : Int) + 1 := IntWalk.i64_in _ (by omega)
        have kn := Bx.new wr 41 #[.int .i64 b.t0, .int .i64 b.t1]
        have oR1 := oR.alloc (.cells #[.int .i64 b.t0, .int .i64 b.t1] 41)
        have hB1 := hB.alloc hB.size (.cells #[.int .i64 b.t0, .int .i64 b.t1] 41)
        have hB1s := hB1.size
        have HLA := Lib.hid hLA
        clear hget htk hil hLA
        go_wp2_with (first
          | (at_builtin; refine wpList_append_own _ rfl (.tmp 51) (.tmp 58) 52 rfl V.heap.size 41 i41 _ 2 16 Try.underlying52 hi41 hz41 hs41 iy41 rfl (by decide) (.slice RA i rc) i (gnr R).flatten rfl oR1 ⟨wr.heap.size, 0, none⟩ 1 1 [.int .i64 b.t0, .int .i64 b.t1] rfl rfl (bx_news kn) (by simp [Value.oneCell']) (by unfold maxLen; omega) (by omega) (by omega) ?_; intro v' w' o1 o2 o3; obtain ⟨X', x', rfl⟩ := own_shape o1)
          | fail)
        have hB2 := hB1.grown o2 hB1.size (fun k e => (oR1.lt k e).1)
        have HR2 := Lib.hid (show R ++ [(b.t0, b.t1)] = (v.ls.take (i + 1)).map fun c => (c.t0, c.t1) by rw [HR.out, HTK.out]; simp)
        go_roundw
        case rel => exact ⟨i + 1, X', x', _, by go_num, by omega, rfl, HR2, by rw [gnr_snoc]; exact o1, hB2⟩
        case measure => simp [intOf]; omega
      · obtain rfl : i = p.ln := by omega
        have HR0 := Lib.hid (show R.length = p.ln ∧ R = v.ls.map (fun c => (c.t0, c.t1)) ++ rgS (v.ss.take 0) by
          have e := HR.out
          rw [← HLL.out, List.take_length] at e
          refine ⟨by rw [e, List.length_map, HLL.out], by rw [e]; simp [rgS]⟩)
        clear hi hin kr hBs
        go_wp2_with fail
        clear l0 l1 l2 l3 l4 l5 l6 lf' lz
        go_loopw [6, 8] (fun rv iv wr => ∃ (i nr : Nat) (RA : Option Addr) (rc : Nat) (R : List (Int × Int)), iv = .int .i64 i ∧ i ≤ p.sn ∧ rv = .slice RA nr rc ∧ nr ≤ 2 + 3 * i ∧ Hid (R.length = nr ∧ R = v.ls.map (fun c => (c.t0, c.t1)) ++ rgS (v.ss.take i)) ∧ wr.ownsRow V.heap.size 41 2 (.slice RA nr rc) nr (gnr R).flatten ∧ Below V.heap.size V wr) (fun _ iv _ => p.sn - (intOf iv).toNat)
        case atStart => exact ⟨0, p.ln, RA, rc, R, rfl, by omega, rfl, by omega, HR0, oR, hB⟩
        case round =>
          clear oR hB HR HR0
          obtain ⟨i, nr, RA, rc, R, rfl, hi, rfl, hnr, HR, oR, hB⟩ := hrel
          have kr := kV.call hB
          have hBs := hB.size
          obtain ⟨l0, l1, l2, l3, l4, l5, l6, lf', lz⟩ := kr.seven
          by_cases hin : i < p.sn
          · have hil : i < v.ss.length := by rw [HSS.out]; exact hin
            obtain ⟨ad, G, gc, hSA, hadb, c0, c1, c2, hgc, hG⟩ := hV.ss.at_ hil
            have p0 := cellC hB c0
            have p1 := cellC hB c1
            have p2 := cellC hB c2
            have hfs := HFW.out.ss _ (List.getElem_mem hil)
            have hl1 := (HFW.out.sm.ss _ (List.getElem_mem hil)).2.2.2.1
            have HTK := Lib.hid (rgS_take v.ss hil)
            generalize v.ss[i] = b at *
            have hb2 := hfs.2.1
            rw [hSA] at l5
            have hiw : IntKind.i64.wrap ((i : Int) + 1) = (i : Int) + 1 := IntWalk.i64_in _ (by omega)
            have kn := Bx.new wr 41 #[.int .i64 b.t0, .int .i64 b.t1]
            have oR1 := oR.alloc (.cells #[.int .i64 b.t0, .int .i64 b.t1] 41)
            have hA1 := (Below.refl wr.heap.size wr).alloc (Nat.le_refl _) (.cells #[.int .i64 b.t0, .int .i64 b.t1] 41)
            have hB1 := hB.alloc hB.size (.cells #[.int .i64 b.t0, .int .i64 b.t1] 41)
            have hB1s := hB1.size
            have HSA := Lib.hid hSA
            obtain ⟨gn, hgn⟩ : ∃ x, b.lv.length = x := ⟨_, rfl⟩
            have HGN := Lib.hid hgn
            rw [hgn] at c2 p2 hgc hb2 hl1
            clear hil hSA hfs hgn
            go_wp2_with (first
              | (at_builtin; refine wpList_append_own _ rfl (.tmp 67) (.tmp 74) 52 rfl V.heap.size 41 i41 _ 2 16 Try.underlying52 hi41 hz41 hs41 iy41 rfl (by decide) (.slice RA nr rc) nr (gnr R).flatten rfl oR1 ⟨wr.heap.size, 0, none⟩ 1 1 [.int .i64 b.t0, .int .i64 b.t1] rfl rfl (bx_news kn) (by simp [Value.oneCell']) (by unfold maxLen; omega) (by omega) (by omega) ?_; intro v' w' o1 o2 o3; obtain ⟨X', x', rfl⟩ := own_shape o1)
              | fail)
            clear l0 l1 l2 l3 l4 l5 l6 lf' lz
            have hB2 := hB1.grown o2 hB1.size (fun k e => (oR1.lt k e).1)
            have HR2 := Lib.hid (show (R ++ [(b.t0, b.t1)]).length = nr + 1 ∧ R ++ [(b.t0, b.t1)] = rgP v i 0 b by
              refine ⟨by rw [List.length_append, HR.out.1]; rfl, by rw [HR.out.2]; simp [rgP]⟩)
            have o1' : w'.ownsRow V.heap.size 41 2 (.slice X' (nr + 1) x') (nr + 1) (gnr (R ++ [(b.t0, b.t1)])).flatten := by rw [gnr_snoc]; exact o1
            obtain ⟨U, hU⟩ : ∃ x, w' = x := ⟨_, rfl⟩
            rw [hU] at hB2 o1' ⊢
            clear hU oR oR1 hA1 hB1 kn o1 o2 o3 kr hBs hB1s p0 p1 p2
            obtain ⟨nq, hnq⟩ : ∃ x, nr + 1 = x := ⟨_, rfl⟩
            rw [hnq] at o1' ⊢
            have HNQ := Lib.hid hnq
            have hnq2 : nq ≤ 3 + 3 * i := by omega
            clear hnq
            go_loopw [6, 9] (fun rv kv wr => ∃ (k n2 : Nat) (RA : Option Addr) (rc : Nat) (R : List (Int × Int)), kv = .int .i64 k ∧ k ≤ gn ∧ rv = .slice RA n2 rc ∧ n2 ≤ 3 + 3 * i + k ∧ Hid (R.length = n2 ∧ R = rgP v i k b) ∧ wr.ownsRow V.heap.size 41 2 (.slice RA n2 rc) n2 (gnr R).flatten ∧ Below V.heap.size V wr) (fun _ kv _ => gn - (intOf kv).toNat)
            case atStart => exact ⟨0, nq, X', x', _, rfl, by omega, rfl, by omega, Lib.hid ⟨by rw [HR2.out.1, HNQ.out], HR2.out.2⟩, o1', hB2⟩
            case round =>
              clear o1' hB2 HR2 HR
              obtain ⟨k, n2, RA, rc, R, rfl, hk, rfl, hn2, HR, oR, hB3⟩ := hrel
              have kr := kV.call hB3
              have hBs := hB3.size
              obtain ⟨l0, l1, l2, l3, l4, l5, l6, lf', lz⟩ := kr.seven
              rw [HSA.out] at l5
              have p2 := cellC hB3 c2
              by_cases hkn : k < gn
              · have hkb : k < b.lv.length := by rw [HGN.out]; exact hkn
                obtain ⟨vd, hGe, _, _, e1, e2⟩ := lv_at hG hkb
                have q1 := cellC hB3 e1
                have q2 := cellC hB3 e2
                have HTK2 := Lib.hid (rgP_succ v i b hkb)
                generalize b.lv[k] = l at *
                have hkw : IntKind.i64.wrap ((k : Int) + 1) = (k : Int) + 1 := IntWalk.i64_in _ (by omega)
                have kn := Bx.new wr 41 #[.int .i64 l.d0, .int .i64 l.d1]
                have oR1 := oR.alloc (.cells #[.int .i64 l.d0, .int .i64 l.d1] 41)
                have hB1 := hB3.alloc hB3.size (.cells #[.int .i64 l.d0, .int .i64 l.d1] 41)
                have hB1s := hB1.size
                rw [hGe] at p2
                clear hkb hGe
                go_wp2_with (first
                  | (at_builtin; refine wpList_append_own _ rfl (.tmp 87) (.tmp 98) 52 rfl V.heap.size 41 i41 _ 2 16 Try.underlying52 hi41 hz41 hs41 iy41 rfl (by decide) (.slice RA n2 rc) n2 (gnr R).flatten rfl oR1 ⟨wr.heap.size, 0, none⟩ 1 1 [.int .i64 l.d0, .int .i64 l.d1] rfl rfl (bx_news kn) (by simp [Value.oneCell']) (by unfold maxLen; omega) (by omega) (by omega) ?_; intro v' w' o1 o2 o3; obtain ⟨X', x', rfl⟩ := own_shape o1)
                  | fail)
                have hB4 := hB1.grown o2 hB1.size (fun k e => (oR1.lt k e).1)
                have HR2 := Lib.hid (show (R ++ [(l.d0, l.d1)]).length = n2 + 1 ∧ R ++ [(l.d0, l.d1)] = rgP v i (k + 1) b by
                  refine ⟨by rw [List.length_append, HR.out.1]; rfl, by rw [HR.out.2, HTK2.out]⟩)
                go_roundw
                case rel => exact ⟨k + 1, n2 + 1, X', x', _, by go_num, by omega, rfl, by omega, HR2, by rw [gnr_snoc]; exact o1, hB4⟩
                case measure => simp [intOf]; omega
              · obtain rfl : k = gn := by omega
                have HR2 := Lib.hid (show R.length = n2 ∧ R = v.ls.map (fun c => (c.t0, c.t1)) ++ rgS (v.ss.take (i + 1)) by
                  refine ⟨HR.out.1, ?_⟩
                  rw [HR.out.2, HTK.out, ← HGN.out]
                  unfold rgP
                  rw [List.take_length, List.append_assoc])
                go_wp2_with fail
                go_roundw
                case rel => exact ⟨i + 1, n2, RA, rc, R, by go_num, by omega, rfl, by omega, HR2, oR, hB3⟩
                case measure => simp [intOf]; omega
          · obtain rfl : i = p.sn := by omega
            have hre : R = rgs v := by
              rw [HR.out.2, ← HSS.out, List.take_length]
              rfl
            have hrl := HR.out.1
            clear HR hi hin hnr hBs
            subst hre
            have hSl := own_gnr oR hrl
            have hnr8 : nr ≤ 8 := by
              rw [← hrl]
              have hs3 : ∀ ss : List Si, (∀ s ∈ ss, s.lv.length ≤ 2) → (rgS ss).length ≤ 3 * ss.length := fun ss => by
                induction ss with
                | nil => intro _; simp [rgS]
                | cons x ss ih =>
                  intro h
                  have a := ih fun s hs => h s (by simp [hs])
                  have b := h x (by simp)
                  unfold rgS at a ⊢
                  simp only [List.map_cons, List.flatten_cons, List.length_append, List.length_cons, List.length_map]
                  omega
              have a := hs3 v.ss fun s hs => (HFW.out.ss s hs).2.1
              have b := HSS.out
              have c := HLL.out
              unfold rgs
              rw [List.length_append, List.length_map]
              omega
            have HRL := Lib.hid hrl
            clear hrl
            go_upto_region 18 with (first
              | (go_at_call 43; refine (spread_any RA nr rc (rgs v) _ hnr8 HRL.out hSl (few_rgs HFW.out)).mono ?_; rintro e w8 ⟨⟨NA, nac, rfl, hls⟩, hb8⟩)
              | fail)
            clear l0 l1 l2 l3 l4 l5 l6 lf' lz
            have hB8 := hB.trans (hb8.mono hB.size)
            have hsm8 := spr_small (R := rgs v) (fun r hr => (few_rgs HFW.out r hr).2.2.2) (by rw [HRL.out]; exact hnr8) nr
            rw [← HRL.out, List.take_length] at hsm8
            have kv := kV.call hB8
            have hvv := hV.call hB8
            have hss := hSV.call hB8
            have hBw := hBV.trans (hB8.mono hBV.size)
            have hmem : ∀ x, x ∈ spr (rgs v) ↔ InR (rgs v) x := fun x => spr_mem
            obtain ⟨AL, hAL⟩ : ∃ x, spr (rgs v) = x := ⟨_, rfl⟩
            rw [hAL] at hls hsm8 hmem ⊢
            obtain ⟨na, hna⟩ : ∃ x, AL.length = x := ⟨_, rfl⟩
            rw [hna] at hsm8 ⊢
            have HNA := Lib.hid hna
            have HMEM := Lib.hid hmem
            clear hAL hna hmem hb8 hSl oR hB kV hV hSV hBV hnr8
            have hst := ckSt_ok HST.out
            have htb := tilt_bd HOK.out (inH_held hst.inh) (fun x hx => hx) (abd_six HOK.out s)
            obtain ⟨TL, hTL⟩ : ∃ y, tiltP v.hs (abd v.ls s) = y := ⟨_, rfl⟩
            obtain ⟨LV, hLV⟩ : ∃ y, lvlOk v TL = y := ⟨_, rfl⟩
            obtain ⟨B0, hB0⟩ : ∃ y, deepB v (abd v.ls s) true = y := ⟨_, rfl⟩
            obtain ⟨B1, hB1⟩ : ∃ y, deepB v (abd v.ls s) false = y := ⟨_, rfl⟩
            obtain ⟨S0, hS0⟩ : ∃ y, deepS v (abd v.ls s) true = y := ⟨_, rfl⟩
            obtain ⟨S1, hS1⟩ : ∃ y, deepS v (abd v.ls s) false = y := ⟨_, rfl⟩
            obtain ⟨vd, hvd⟩ : ∃ y, verdM v.ss.length (salM v (abd v.ls s) true).length (salM v (abd v.ls s) false).length = y := ⟨_, rfl⟩
            obtain ⟨OV, hOV⟩ : ∃ y, overM v (abd v.ls s) = y := ⟨_, rfl⟩
            obtain ⟨n2, hn2⟩ : ∃ y, OV.length = y := ⟨_, rfl⟩
            have hol : n2 ≤ 2 := by
              rw [← hn2, ← hOV, overM_len HOK.out (inH_held hst.inh)]
              have := salM_len v (abd v.ls s) false
              have := HSS.out
              omega
            rw [hTL] at htb
            have HTL := Lib.hid hTL
            have HLV := Lib.hid hLV
            have HB0 := Lib.hid hB0
            have HB1 := Lib.hid hB1
            have HS0 := Lib.hid hS0
            have HS1 := Lib.hid hS1
            have HVD := Lib.hid hvd
            have HOV := Lib.hid hOV
            have HN2 := Lib.hid hn2
            obtain ⟨t1, t2⟩ := TL
            dsimp only at htb
            clear hst hTL hLV hB0 hB1 hS0 hS1 hvd hOV hn2
            obtain ⟨l0, l1, l2, l3, l4, l5, l6, lf', lz⟩ := kv.seven
            go_upto_region 19 with (first
              | (go_at_call 23; refine (drafts_any v p SA p.ln sc s _ HFT.out HLF.out hvv hss HSL.out (by omega)).mono ?_; rintro e w9 ⟨rfl, hb⟩; rw [if_pos HST.out, HB0.out, HB1.out, HS0.out, HS1.out])
              | fail)
            clear l0 l1 l2 l3 l4 l5 l6 lf' lz
            have hc2 := (hb.alloc hb.size (.cells #[.int .i64 B0, .int .i64 B1] 41)).alloc (by have := hb.size; simp; omega) (.cells #[.int .i64 S0, .int .i64 S1] 41)
            replace kv := kv.call hc2
            replace hvv := hvv.call hc2
            replace hss := hss.call hc2
            replace hls := hls.call hc2
            replace hBw := hBw.trans (hc2.mono hBw.size)
            have k11 := (Bx.new w9 41 #[.int .i64 B0, .int .i64 B1]).alloc (.cells #[.int .i64 S0, .int .i64 S1] 41)
            have k12 := Bx.at (w9.alloc (.cells #[.int .i64 B0, .int .i64 B1] 41)) 41 #[.int .i64 S0, .int .i64 S1] (n := w9.heap.size + 1) (by simp)
            obtain ⟨Zw9, hZ⟩ : ∃ Z, (w9.alloc (.cells #[.int .i64 B0, .int .i64 B1] 41)).alloc (.cells #[.int .i64 S0, .int .i64 S1] 41) = Z := ⟨_, rfl⟩
            rw [hZ] at kv hvv hss hls hBw k11 k12 ⊢
            obtain ⟨pk11, hp⟩ : ∃ q, w9.heap.size = q := ⟨_, rfl⟩
            rw [hp] at k11 k12 ⊢
            obtain ⟨pk12, hp2⟩ : ∃ q, pk11 + 1 = q := ⟨_, rfl⟩
            rw [hp2] at k12 ⊢
            clear hZ hp hp2 hb hc2
            obtain ⟨l0, l1, l2, l3, l4, l5, l6, lf', lz⟩ := kv.seven
            go_upto_region 20 with (first
              | (go_at_call 25; refine (level_any v p SA p.ln sc s _ HFT.out HLF.out hvv hss HSL.out (by omega)).mono ?_; rintro e w10 ⟨rfl, hb⟩; rw [if_pos HST.out, HTL.out, HLV.out])
              | fail)
            clear l0 l1 l2 l3 l4 l5 l6 lf' lz
            try dsimp only
            have hc2 := hb.alloc hb.size (.cells #[.int .i64 t1, .int .i64 t2] 41)
            replace kv := kv.call hc2
            replace hvv := hvv.call hc2
            replace hss := hss.call hc2
            replace hls := hls.call hc2
            replace hBw := hBw.trans (hc2.mono hBw.size)
            replace k11 := k11.call hc2
            replace k12 := k12.call hc2
            have k15 := Bx.new w10 41 #[.int .i64 t1, .int .i64 t2]
            obtain ⟨Zw10, hZ⟩ : ∃ Z, w10.alloc (.cells #[.int .i64 t1, .int .i64 t2] 41) = Z := ⟨_, rfl⟩
            rw [hZ] at kv hvv hss hls hBw k11 k12 k15 ⊢
            obtain ⟨pk15, hp⟩ : ∃ q, w10.heap.size = q := ⟨_, rfl⟩
            rw [hp] at k15 ⊢
            clear hZ hp hb hc2
            obtain ⟨l0, l1, l2, l3, l4, l5, l6, lf', lz⟩ := kv.seven
            go_upto_region 21 with (first
              | (go_at_call 33; refine (sail33_any v p SA p.ln sc s _ HFT.out HLF.out hvv hss HSL.out (by omega)).mono ?_; rintro e w11 ⟨hp, hb⟩; rw [if_pos HST.out, HVD.out, HOV.out, HN2.out] at hp; obtain ⟨Xgr1, cgr1, rfl, ogr1⟩ := hp)
              | fail)
            clear l0 l1 l2 l3 l4 l5 l6 lf' lz
            replace kv := kv.call hb
            replace hvv := hvv.call hb
            replace hss := hss.call hb
            replace hls := hls.call hb
            replace hBw := hBw.trans (hb.mono hBw.size)
            replace k11 := k11.call hb
            replace k12 := k12.call hb
            replace k15 := k15.call hb
            have gr1 := own_gnr ogr1 HN2.out
            clear hb ogr1
            obtain ⟨W, hW⟩ : ∃ x, w11 = x := ⟨_, rfl⟩
            rw [hW] at kv hvv hss hls hBw k11 k12 k15 gr1 ⊢
            clear hW
            have hz3 : ((W.alloc (.cells #[.int .i64 0, .int .i64 0] 41)).alloc (.cells #[.int .i64 0, .int .i64 0] 41)).heap.size = W.heap.size + 2 := by simp
            have A0 : AI W W.heap.size (0, 0) (0, 0) (0, 0) [] none 0 0 (((W.alloc (.cells #[.int .i64 0, .int .i64 0] 41)).alloc (.cells #[.int .i64 0, .int .i64 0] 41)).alloc (.cells #[.int .i64 0, .int .i64 0] 41)) :=
              ⟨(((Below.refl W.heap.size W).alloc (Nat.le_refl _) _).alloc (by simp) _).alloc (by rw [hz3]; omega) _,
                ((Bx.new W 41 #[.int .i64 0, .int .i64 0]).alloc _).alloc _,
                (Bx.at (W.alloc (.cells #[.int .i64 0, .int .i64 0] 41)) 41 #[.int .i64 0, .int .i64 0] (n := W.heap.size + 1) (by simp)).alloc _,
                Bx.at ((W.alloc (.cells #[.int .i64 0, .int .i64 0] 41)).alloc (.cells #[.int .i64 0, .int .i64 0] 41)) 41 #[.int .i64 0, .int .i64 0] (n := W.heap.size + 2) (by simp), World.ownsRow_nil _ _ _ _⟩
            clear hz3
            obtain ⟨l0, l1, l2, l3, l4, l5, l6, lf', lz⟩ := kv.seven
            go_upto_region 24 with fail
            clear l0 l1 l2 l3 l4 l5 l6 lf' lz
            obtain ⟨U9, hU9⟩ : ∃ x, ((W.alloc (.cells #[.int .i64 0, .int .i64 0] 41)).alloc (.cells #[.int .i64 0, .int .i64 0] 41)).alloc (.cells #[.int .i64 0, .int .i64 0] 41) = x := ⟨_, rfl⟩
            rw [hU9] at A0
            try rw [hU9]
            clear hU9
            have hbW : W.heap.size ≤ W.heap.size := Nat.le_refl _
            obtain ⟨bq, hbq⟩ : ∃ x, W.heap.size = x := ⟨_, rfl⟩
            have hbq2 : W.heap.size ≤ bq := by omega
            have HBQ := Lib.hid hbq
            have kv9 := (kv.call A0.bel)
            have A1 : AI W bq (0, 0) (0, 0) (0, 0) [] none 0 0 U9 := by rw [← hbq]; exact A0
            try rw [hbq]
            clear hbq A0 hbW
            obtain ⟨l0, l1, l2, l3, l4, l5, l6, lf', lz⟩ := kv9.seven
            go_wp2_with fail
            clear l0 l1 l2 l3 l4 l5 l6 lf' lz kv9
            have HST2 := Lib.hid (AllS.nil v s (0, 0) (0, 0) (0, 0))
            go_loopw [23, 24, 25, 26, 27] (fun dv fv cv lv kv wr => ∃ (k nd dc fw cnt : Nat) (DA : Option Addr) (due : List (Int × Int)) (p0 q0 y0 : Int × Int) (lb : Bool), kv = .int .i64 k ∧ dv = .slice DA nd dc ∧ fv = .int .i64 fw ∧ cv = .int .i64 cnt ∧ lv = .bool lb ∧ k ≤ na ∧ Hid (AllS v s ((AL.take k).map (truX v)) p0 q0 y0 due fw cnt lb ∧ due.length = nd) ∧ AI W bq p0 q0 y0 due DA nd dc wr) (fun _ _ _ _ kv _ => na - (intOf kv).toNat)
            case atStart => exact ⟨0, 0, 0, p.sn, 0, none, [], (0, 0), (0, 0), (0, 0), true, rfl, rfl, rfl, rfl, rfl, by omega, Lib.hid ⟨by have := HST2.out; rw [HSS.out] at this; exact this, rfl⟩, A1⟩
            case round =>
              clear A1 HST2
              obtain ⟨k, nd, dc, fw, cnt, DA, due, p0, q0, y0, lb, rfl, rfl, rfl, rfl, rfl, hk, HAS, X⟩ := hrel
              by_cases hkn : k < na
              · rename_i j0 j1 j2 j3 j4 j5 j6 j7 j8 j9 j10 j11 j12 j13 j14
                revert hn hA HL i3 hi3 hz3 hs3 iy3 i41 hi41 hz41 hs41 iy41 i27 hi27 hz27 hs27 iy27 j0 w1 g hg0 w3 v p HFW HOK HCK HLF HFT hln2 hsn2 V1 bO hgO V SA sc s HSL HST HLL HSS j1 j2 u44 u45 u46 u47 u48 u49 u50 u51 u52 u53 u54 u55 u56 u57 u58 u59 j3 j4 R j5 j6 j7 j8 j9 u9 u60 u61 u62 u63 u64 u65 u66 u67 u68 u69 u70 u71 u72 u73 u74 u75 u76 u77 u78 u79 u80 u81 u82 u83 u84 u85 u86 u87 u88 u89 u90 u91 u92 u93 u94 u95 u96 u97 u98 u99 nr RA rc kr HRL j10 j11 j12 w8 NA nac hB8 AL na hsm8 HNA HMEM LV B0 B1 S0 S1 vd OV n2 hol HB0 HB1 HS0 HS1 HVD HOV HN2 t1 t2 htb HTL HLV w9 Zw9 pk11 pk12 w10 Zw10 pk15 w11 Xgr1 cgr1 W gr1 k15 k12 k11 hBw hls hss hvv kv U9 bq hbq2 HBQ j13 j14 wr u28 u29 u30 u31 u32 u33 u34 u35 u136 u137 u138 u139 u140 u141 u142 u143 u144 u145 u146 u147 u148 u149 u150 u151 u152 u153 u154 u155 u156 u157 u158 u159 u160 u161 u162 u163 u164 u165 u166 u167 u168 u169 u170 u171 u172 u173 u174 u175 u176 u177 u178 u179 u180 u181 u182 u183 u184 u185 u186 u187 u188 u189 u190 u191 u192 u193 u194 u195 u196 u197 u198 u199 u200 u201 u202 u203 u204 u205 u206 u207 u208 u209 u210 u211 u212 u213 u214 u215 u216 u217 u218 u219 u220 u221 u222 u223 u224 u225 u226 u227 u228 u229 u230 u231 u232 u233 u234 u235 u236 u237 u238 u239 u240 u241 u242 u243 u244 u245 u246 u247 u248 u249 u250 u251 u252 u253 u254 u255 u256 u257 u258 u259 u260 u261 u262 u263 u264 u265 u266 u267 u268 u269 u270 u271 u272 u273 u274 u275 u276 u277 u278 u279 u280 u281 u282 u283 u284 u285 u286 u287 u288 u289 u290 u291 u292 u293 u294 u295 u296 u297 u298 u299 u300 u301 u302 u303 u304 u305 u306 u307 u308 u309 u310 u311 u312 u313 u314 u315 u316 u317 u318 u319 u320 u321 u322 u323 u324 k nd dc fw cnt DA due p0 q0 y0 lb hk HAS X hkn
                exact hTail.out
              · rename_i j0 j1 j2 j3 j4 j5 j6 j7 j8 j9 j10 j11 j12 j13 j14
                revert hn hA HL i3 hi3 hz3 hs3 iy3 i41 hi41 hz41 hs41 iy41 i27 hi27 hz27 hs27 iy27 j0 w1 g hg0 w3 v p HFW HOK HCK HLF HFT hln2 hsn2 V1 bO hgO V SA sc s HSL HST HLL HSS j1 j2 u44 u45 u46 u47 u48 u49 u50 u51 u52 u53 u54 u55 u56 u57 u58 u59 j3 j4 R j5 j6 j7 j8 j9 u9 u60 u61 u62 u63 u64 u65 u66 u67 u68 u69 u70 u71 u72 u73 u74 u75 u76 u77 u78 u79 u80 u81 u82 u83 u84 u85 u86 u87 u88 u89 u90 u91 u92 u93 u94 u95 u96 u97 u98 u99 nr RA rc kr HRL j10 j11 j12 w8 NA nac hB8 AL na hsm8 HNA HMEM LV B0 B1 S0 S1 vd OV n2 hol HB0 HB1 HS0 HS1 HVD HOV HN2 t1 t2 htb HTL HLV w9 Zw9 pk11 pk12 w10 Zw10 pk15 w11 Xgr1 cgr1 W gr1 k15 k12 k11 hBw hls hss hvv kv U9 bq hbq2 HBQ j13 j14 wr u28 u29 u30 u31 u32 u33 u34 u35 u136 u137 u138 u139 u140 u141 u142 u143 u144 u145 u146 u147 u148 u149 u150 u151 u152 u153 u154 u155 u156 u157 u158 u159 u160 u161 u162 u163 u164 u165 u166 u167 u168 u169 u170 u171 u172 u173 u174 u175 u176 u177 u178 u179 u180 u181 u182 u183 u184 u185 u186 u187 u188 u189 u190 u191 u192 u193 u194 u195 u196 u197 u198 u199 u200 u201 u202 u203 u204 u205 u206 u207 u208 u209 u210 u211 u212 u213 u214 u215 u216 u217 u218 u219 u220 u221 u222 u223 u224 u225 u226 u227 u228 u229 u230 u231 u232 u233 u234 u235 u236 u237 u238 u239 u240 u241 u242 u243 u244 u245 u246 u247 u248 u249 u250 u251 u252 u253 u254 u255 u256 u257 u258 u259 u260 u261 u262 u263 u264 u265 u266 u267 u268 u269 u270 u271 u272 u273 u274 u275 u276 u277 u278 u279 u280 u281 u282 u283 u284 u285 u286 u287 u288 u289 u290 u291 u292 u293 u294 u295 u296 u297 u298 u299 u300 u301 u302 u303 u304 u305 u306 u307 u308 u309 u310 u311 u312 u313 u314 u315 u316 u317 u318 u319 u320 u321 u322 u323 u324 k nd dc fw cnt DA due p0 q0 y0 lb hk HAS X hkn
                exact hTail2.out
end Go.Proofs.Ytfcpjkofbejleaa
