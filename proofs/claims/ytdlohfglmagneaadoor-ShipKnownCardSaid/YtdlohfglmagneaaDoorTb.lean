/- The iterator over all stowages, as a contract. -/
import Derived.Test.YtdlohfglmagneaaDoorTaM
import Derived.Test.YtdlohfglmagneaaDoorRp
import Derived.Deep.LoopGhost
set_option linter.unusedSimpArgs false
set_option linter.unusedVariables false
namespace Go.Proofs.YtdlohfglmagneaaDoor
open Go Go.RowKit Go.Shelf
attribute [local go_sem] Oper.semAt_some
/-- A stowage that is handed out: its numbers, and where they lie. -/
structure StT where
  s : List Int
  A : Addr
  c : Nat
def StRd (base n : Nat) (L : List (List Int)) (x : StT) (W : World) : Prop := x.s ∈ L ∧ W.ownsRow base 3 1 (.slice (some x.A) n x.c) n (inr x.s).flatten
theorem own_put {W : World} {base : Nat} {e : TypeId} {s n : Nat} {v : Value} {xs : List Value} (k : W.ownsRow base e s v n xs) {l : Nat} {o : Obj} (o' : Obj) (h : W.heap[l]? = some o) (ho : o.isCells = false) : (W.putObj l o').ownsRow base e s v n xs := by
  refine ⟨k.1, ?_⟩
  rcases k.2 with e1 | ⟨g, cap, cur, e1, e2, e3, e4⟩
  · exact .inl e1
  · refine .inr ⟨g, cap, cur, e1, e2, ?_, e4⟩
    by_cases hg : g = l
    · subst hg; rw [h] at e3; cases e3; cases ho
    · exact (World.putObj_heap_other hg).trans e3
/-- Where the iterator stands. -/
def StI (L : List (List Int)) (base n gv : Nat) (vc : Array Value) (J : List StT → World → Prop) (k : Nat) (nx tv : Value) (wr : World) : Prop :=
  ∃ (t : Bool) (pre : List StT), tv = .bool t ∧ (t = true → ∃ (A : Addr) (c : Nat) (s : List Int), nx = .slice (some A) n c ∧ L[pre.length]? = some s ∧ wr.ownsRow base 3 1 (.slice (some A) n c) n (inr s).flatten ∧ k = L.length - pre.length + 1) ∧ (t = false → pre.length = L.length ∧ k = 0) ∧ pre.map (·.s) = L.take pre.length ∧ Bx wr gv 26 vc ∧ base ≤ wr.heap.size ∧ J pre wr
set_option maxRecDepth 100000 in
set_option maxHeartbeats 2000000 in
theorem stow_in (n : Nat) (hn : 2 ≤ n) (gv b6 b7 : Nat) (v : Vg) (p : Vp) (w0 : World) (hv : Bx w0 gv 26 (vcs v p)) (h6 : gv ≠ b6) (h7 : gv ≠ b7) (hb6 : b6 < w0.heap.size) (hb7 : b7 < w0.heap.size) (hln : p.ln ≤ 6) (h1 : 1 ≤ p.hn) (h3 : p.hn ≤ 3) :
    SeqRd Fence.wide n Tryd.prog 48 #[.pointer (some ⟨gv, 0, none⟩)] (fun x : StT => #[.slice (some x.A) p.ln x.c]) (Keep2 b6 b7) (StRd w0.heap.size p.ln (allS ((p.hn : Int) - 1) p.ln)) (fun xs => xs.map (·.s) = allS ((p.hn : Int) - 1) p.ln) (allS ((p.hn : Int) - 1) p.ln).length w0 := by
  intro l J W hW hJ hY h0
  obtain ⟨L, hL⟩ : ∃ L, allS ((p.hn : Int) - 1) p.ln = L := ⟨_, rfl⟩
  have hch := allS_ch (last := (p.hn : Int) - 1) (by omega) p.ln
  obtain ⟨r0, hhead⟩ := allS_head (last := (p.hn : Int) - 1) (by omega) p.ln
  have hmem := fun x => (allS_mem (last := (p.hn : Int) - 1) (by omega) p.ln x).1
  rw [hL] at hY hch hhead
  simp only [hL] at hmem ⊢
  have k1 := hv.below hW hv.lt
  have hWs := hW.size
  have HY := Lib.hid hY
  have HCH := Lib.hid hch
  have HME := Lib.hid hmem
  have HHD := Lib.hid hhead
  have hwh : IntKind.i64.wrap ((p.hn : Int) - 1) = (p.hn : Int) - 1 := IntWalk.i64_in _ (by omega)
  rw [vcs_def] at k1
  have kb := Bx.new W 3 #[.int .i64 (-1)]
  have k2 := k1.alloc (.cells #[.int .i64 (-1)] 3)
  obtain ⟨p0, p1, p2, p3, p4, p5, p6, pf, pz⟩ := k2.seven
  clear hY hch hmem hhead
  refine callsIn_of_wp Tryd.func48 rfl trivial ?_ rfl
  simp only [Tryd.ntmps48, List.size_toArray, List.length_cons, List.length_nil, Nat.reduceAdd, Nat.reduceSub, Array.replicate_succ, Array.replicate_zero, List.push_toArray, List.append_toArray, List.nil_append, List.cons_append]
  gi_wp2_with fail
  refine ⟨trivial, fun h => by simp [Fence.wide] at h, ?_⟩
  refine (callsIn_wide.2 (repeat_any W.heap.size 1 p.ln _ hln kb)).mono ?_
  rintro e w1 ⟨⟨A, c, rfl, ho⟩, hb1⟩
  have k3 := k2.call hb1
  have hB1 := ((Below.refl W.heap.size W).alloc (Nat.le_refl _) (.cells #[.int .i64 (-1)] 3)).trans (hb1.mono (by simp))
  have hJ1 := hJ [] W w1 h0 hB1
  have ho1 := own_down ho (b' := w0.heap.size) (by simp; omega)
  have hs1 := hB1.size
  clear p0 p1 p2 p3 p4 p5 p6 pf pz k2 kb hb1 ho h0 k1
  gi_wp2_with fail
  gi_loopw [3, 4] (fun nx tv wr => ∃ k, StI L w0.heap.size p.ln gv #[.int .i64 v.li, .int .i64 v.un, .int .i64 v.tr, .slice p.HA p.hn p.hc, .int .i64 v.le, .slice p.SA p.sn p.sc, .slice p.LA p.ln p.lc] J k nx tv wr) (fun nx tv wr => leastOf (fun k => StI L w0.heap.size p.ln gv #[.int .i64 v.li, .int .i64 v.un, .int .i64 v.tr, .slice p.HA p.hn p.hc, .int .i64 v.le, .slice p.SA p.sn p.sc, .slice p.LA p.ln p.lc] J k nx tv wr))
  case atStart => exact ⟨L.length - 0 + 1, true, [], rfl, fun _ => ⟨A, c, List.replicate p.ln (-1), rfl, by rw [HHD.out]; rfl, ho1, rfl⟩, (fun h => by cases h), by simp, k3, by omega, hJ1⟩
  case round =>
    clear hJ1 ho1 k3 hB1 hs1
    obtain ⟨hspec, hmin⟩ := leastOf_spec hrel
    generalize hk0 : leastOf (fun k => StI L w0.heap.size p.ln gv #[.int .i64 v.li, .int .i64 v.un, .int .i64 v.tr, .slice p.HA p.hn p.hc, .int .i64 v.le, .slice p.SA p.sn p.sc, .slice p.LA p.ln p.lc] J k _ _ _) = k0 at hspec
    obtain ⟨t, pre, rfl, hgo, hend, hmap, k4, hsz, hJ4⟩ := hspec
    cases ht : t with
    | false =>
      subst ht
      obtain ⟨e1, -⟩ := hend rfl
      have hL2 : pre.map (·.s) = L := by rw [hmap, e1]; exact List.take_length
      gi_wp2_with fail
      refine ⟨fun f h => (by cases h), ?_⟩
      gi_wp2_with fail
      go_end0
      all_goals first | exact ⟨⟨_, rfl⟩, pre, hL2, hJ4⟩
    | true =>
      subst ht
      obtain ⟨A1, c1, s, rfl, hs, ho4, hk⟩ := hgo rfl
      have hlt : pre.length < L.length := (List.getElem?_eq_some_iff.1 hs).1
      have hms := List.mem_of_getElem? hs
      have hRd : StRd w0.heap.size p.ln L ⟨s, A1, c1⟩ wr := ⟨hms, ho4⟩
      obtain ⟨fn, ytmps, yassign, ybody, hy, hR⟩ := HY.out pre ⟨s, A1, c1⟩ wr hJ4 hRd hlt
      have hml : (pre ++ [(⟨s, A1, c1⟩ : StT)]).map (·.s) = L.take (pre ++ [(⟨s, A1, c1⟩ : StT)]).length := by
        rw [List.map_append, hmap, List.length_append]
        show _ ++ [s] = L.take (pre.length + 1)
        rw [List.take_add_one, hs]
        rfl
      gi_wp2_with fail
      refine ⟨fun _ => by omega, hR.mono ?_⟩
      rintro e w5 ⟨rfl, hJ5, hK5⟩
      have k5 := hK5.bx k4 h6 h7
      have ho5 := hK5.own ho4 hb6 hb7
      have hs5 : w0.heap.size ≤ w5.heap.size := Nat.le_trans hsz hK5.size
      clear hR hy hK5 k4 ho4 hJ4
      obtain ⟨q0, q1, q2, q3, q4, q5, q6, qf, qz⟩ := k5.seven
      gi_wp2_with fail
      obtain ⟨hsl, hsy⟩ := HME.out s hms
      refine ⟨trivial, fun h => by simp [Fence.wide] at h, ?_⟩
      refine (callsIn_wide.2 (after_any ((p.hn : Int) - 1) A1 p.ln c1 s _ (by omega) hsl (by omega) (by omega) (fun j y hj => (hsy y (List.mem_of_getElem? hj)).1) (own_inr ho5 hsl))).mono ?_
      rintro e w6 ⟨hpost, hb6⟩
      have k6 := k5.call hb6
      have hs6 := hb6.size
      have hJ6 := hJ _ _ _ hJ5 hb6
      have hnx := ch_next HCH.out pre.length s hs
      rw [hnx] at hpost
      clear q0 q1 q2 q3 q4 q5 q6 qf qz k5 hJ5
      cases hLn : L[pre.length + 1]? with
      | none =>
        rw [hLn] at hpost
        unfold aftPost at hpost
        subst hpost
        have hge := List.getElem?_eq_none_iff.1 hLn
        have hnew : StI L w0.heap.size p.ln gv #[.int .i64 v.li, .int .i64 v.un, .int .i64 v.tr, .slice p.HA p.hn p.hc, .int .i64 v.le, .slice p.SA p.sn p.sc, .slice p.LA p.ln p.lc] J 0 (.slice none 0 0) (.bool false) w6 :=
          ⟨false, pre ++ [⟨s, A1, c1⟩], rfl, (fun h => by cases h), fun _ => ⟨by rw [List.length_append, List.length_singleton]; omega, rfl⟩, hml, k6, by omega, hJ6⟩
        gi_wp2_with fail
        refine ⟨⟨_, hnew⟩, Nat.lt_of_le_of_lt ((leastOf_spec ⟨_, hnew⟩).2 _ hnew) (Nat.lt_of_lt_of_eq (m := k0) (by omega) hk0.symm)⟩
      | some t =>
        rw [hLn] at hpost
        unfold aftPost at hpost
        obtain ⟨B, c', rfl, ho6⟩ := hpost
        have hnew : StI L w0.heap.size p.ln gv #[.int .i64 v.li, .int .i64 v.un, .int .i64 v.tr, .slice p.HA p.hn p.hc, .int .i64 v.le, .slice p.SA p.sn p.sc, .slice p.LA p.ln p.lc] J (L.length - (pre.length + 1) + 1) (.slice (some B) p.ln c') (.bool true) w6 :=
          ⟨true, pre ++ [⟨s, A1, c1⟩], rfl, fun _ => ⟨B, c', t, rfl, by rw [List.length_append]; exact hLn, own_down ho6 hs5, by simp⟩, (fun h => by cases h), hml, k6, by omega, hJ6⟩
        gi_wp2_with fail
        refine ⟨⟨_, hnew⟩, Nat.lt_of_le_of_lt ((leastOf_spec ⟨_, hnew⟩).2 _ hnew) (Nat.lt_of_lt_of_eq (m := k0) (by omega) hk0.symm)⟩
end Go.Proofs.YtdlohfglmagneaaDoor
