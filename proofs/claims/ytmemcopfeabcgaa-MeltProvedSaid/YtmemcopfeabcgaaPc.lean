/- melt.claim.plainProof, Prove, where there is no plain proof: the panic is caught. -/
import Derived.Test.YtmemcopfeabcgaaPn
set_option linter.unusedSimpArgs false
set_option linter.unusedVariables false
namespace Go.Proofs.Ytmemcopfeabcgaa
open Go Go.RowKit
set_option maxRecDepth 100000 in
set_option maxHeartbeats 1000000 in
theorem catch_take (b2 b3 : Nat) (d : Nat → Int) (x y : Value) (w : World) (h2 : Bx w b2 51 #[x]) (h3 : Bx w b3 30 #[y]) (hne : b2 ≠ b3) :
    CallsD Try.prog 88 #[.pointer (some ⟨b2, 0, none⟩), .pointer (some ⟨b3, 0, none⟩)] (.panicking [{ v := .iface 81 (.agg (barr d)), recovered := false }]) w fun e u' w' => e = .returned (.tuple #[]) ∧ u' = .panicking [{ v := .iface 81 (.agg (barr d)), recovered := true }] ∧ w' = (w.setCell ⟨b2, 0, none⟩ (.slice none 0 0)).setCell ⟨b3, 0, none⟩ (.int .i64 13) := by
  have h3' : Bx (w.setCell ⟨b2, 0, none⟩ (.slice none 0 0)) b3 30 #[y] := h3.far (by simpa using Ne.symm hne) _
  obtain ⟨a0, af, az⟩ := h2.one
  obtain ⟨c0, cf, cz⟩ := h3'.one
  refine callsD_of_wpS Try.func88 rfl fun c₀ cs hu => ?_
  apply wpS_seq
  apply wpS_region
  simp [wpOpsS, go_sem, recoverD, hu, Try.ntmps88, Exit.thenS]
  refine wpS_cond (t := true) (by simp [Act.eval, Array.replicate]) ?_
  simp only [if_true]
  refine wpS_of_wp ?_
  go_wp2
  cases c₀
  simp_all [bodyPostS, results, Try.results88]
/-- A statement that panics with a blend; what the results' slots hold. -/
def PanQ (R : World → Prop) (x y : Value) (ds : List Deferred) : Exit → Act → World → Prop
  | .panic c, a, w => a.tmps.getD 2 undef = x ∧ a.tmps.getD 3 undef = y ∧ a.defers = ds ∧ (∃ d, c = [{ v := .iface 81 (.agg (barr d)), recovered := false }]) ∧ R w
  | _, _, _ => False
theorem wp_pan {P : Program} {s : Code} {R : World → Prop} {x y : Value} {ds : List Deferred} {Q : Exit → Act → World → Prop} {a : Act} {w : World} (h : s.wp P (PanQ R x y ds) a w) (hq : ∀ d a w, a.tmps.getD 2 undef = x → a.tmps.getD 3 undef = y → a.defers = ds → R w → Q (.panic [{ v := .iface 81 (.agg (barr d)), recovered := false }]) a w) : s.wp P Q a w := by
  refine wp_mono h ?_
  intro e a' w' hp
  cases e with
  | panic c => obtain ⟨h1, h2, h3, ⟨d, rfl⟩, h4⟩ := hp; exact hq d a' w' h1 h2 h3 h4
  | _ => exact hp.elim
theorem panQ_put {R : World → Prop} {x y : Value} {ds : List Deferred} {c : List PanicEntry} {a : Act} {w : World} {k : Nat} {v : Value} (h2 : k ≠ 2) (h3 : k ≠ 3) (h : PanQ R x y ds (.panic c) (a.put (some k) v) w) : PanQ R x y ds (.panic c) a w := by
  obtain ⟨e1, e2, e3, e4, e5⟩ := h
  refine ⟨?_, ?_, e3, e4, e5⟩
  · rw [← e1]; simp only [Act.put, Array.getD_eq_getD_getElem?]; rw [Array.getElem?_setIfInBounds_ne h2]
  · rw [← e2]; simp only [Act.put, Array.getD_eq_getD_getElem?]; rw [Array.getElem?_setIfInBounds_ne h3]
set_option maxRecDepth 100000 in
set_option maxHeartbeats 2000000 in
theorem plainProof_none (LA : Option Addr) (ln lc : Nat) (BA : Option Addr) (bn bc : Nat) (o : Od) (p : Int) (fuel : Nat) (w : World) (hl : o.lm.length = ln) (hb' : o.bs.length = bn) (hA : OrdAt w w.heap.size LA BA o) (ho : o.Ok) (hf : wid zer o.mx < fuel) (hp : prf o p fuel zer o.mx = none) :
    Calls Try.prog 63 #[.agg #[.slice LA ln lc, .int .i64 o.le, .int .i64 o.mo, .slice BA bn bc, .int .i64 p]] w fun e w' => e = .returned (.tuple #[.slice none 0 0, .int .i64 13]) ∧ Below w.heap.size w w' := by
  have hmf : ∀ (fn : Fn) (first cap : Array Value) (w : World), (Instr.makeFunc fn first cap).run Try.prog w = .ok (.func fn first cap) w := fun _ _ _ _ => rfl
  have k1 := ((Bx.new w 100 #[.slice LA ln lc, .int .i64 o.le, .int .i64 o.mo, .slice BA bn bc, .int .i64 p]).alloc (.cells #[.slice none 0 0] 51)).alloc (.cells #[.int .i64 0] 30)
  have k2 := (Bx.at (w.alloc (.cells #[.slice LA ln lc, .int .i64 o.le, .int .i64 o.mo, .slice BA bn bc, .int .i64 p] 100)) 51 #[.slice none 0 0] (n := w.heap.size + 1) (by simp)).alloc (.cells #[.int .i64 0] 30)
  have k3 := Bx.at ((w.alloc (.cells #[.slice LA ln lc, .int .i64 o.le, .int .i64 o.mo, .slice BA bn bc, .int .i64 p] 100)).alloc (.cells #[.slice none 0 0] 51)) 30 #[.int .i64 0] (n := w.heap.size + 1 + 1) (by simp)
  have B0 := (((Below.refl w.heap.size w).alloc (Nat.le_refl _) (.cells #[.slice LA ln lc, .int .i64 o.le, .int .i64 o.mo, .slice BA bn bc, .int .i64 p] 100)).alloc (by simp) (.cells #[.slice none 0 0] 51)).alloc (by simp; omega) (.cells #[.int .i64 0] 30)
  have HB := Lib.hid hb'
  have HL := Lib.hid hl
  have HO := Lib.hid ho
  have HP := Lib.hid hp
  clear hb' hl ho hp
  go_enter_defers Try.func63, Try.ntmps63
  go_wp2
  refine wp_pan (R := (fun w' : World => Bx w' w.heap.size 100 #[.slice LA ln lc, .int .i64 o.le, .int .i64 o.mo, .slice BA bn bc, .int .i64 p] ∧ (∃ x, Bx w' (w.heap.size + 1) 51 #[x]) ∧ (∃ y, Bx w' (w.heap.size + 1 + 1) 30 #[y]) ∧ Below w.heap.size w w')) (x := .pointer (some ⟨w.heap.size + 1, 0, none⟩)) (y := .pointer (some ⟨w.heap.size + 1 + 1, 0, none⟩)) (ds := [{ target := .fn (.func 88) #[.pointer (some ⟨w.heap.size + 1, 0, none⟩), .pointer (some ⟨w.heap.size + 1 + 1, 0, none⟩)], args := #[] }]) ?_ ?_
  · refine AnyG.startC (by kernel_rfl) ?_
    refine AnyG.takeP (i := 1) (v := ?_) rfl (by kernel_rfl) (fun _ _ _ h => panQ_put (by decide) (by decide) h) rfl ?_ ?_
    rotate_left
    · (intro w'; go_simp; try with_reducible rfl)
    try simp only [Act.put, List.getElem_toArray, List.getElem_cons_succ, List.getElem_cons_zero, List.setIfInBounds_toArray, List.set_cons_zero, List.set_cons_succ]
    refine AnyG.enter (fun w' : World => Bx w' w.heap.size 100 #[.slice LA ln lc, .int .i64 o.le, .int .i64 o.mo, .slice BA bn bc, .int .i64 p] ∧ (∃ x, Bx w' (w.heap.size + 1) 51 #[x]) ∧ (∃ y, Bx w' (w.heap.size + 1 + 1) 30 #[y]) ∧ Below w.heap.size w w') (fun i => i != 6 && i != 5 && i != 4) ?_
    have hS : (fun w' : World => Bx w' w.heap.size 100 #[.slice LA ln lc, .int .i64 o.le, .int .i64 o.mo, .slice BA bn bc, .int .i64 p] ∧ (∃ x, Bx w' (w.heap.size + 1) 51 #[x]) ∧ (∃ y, Bx w' (w.heap.size + 1 + 1) 30 #[y]) ∧ Below w.heap.size w w') (World.drew _) := ⟨k1.drew, ⟨_, k2.drew⟩, ⟨_, k3.drew⟩, B0.drew⟩
    refine AnyG.takeC (i := 0) (v := ?_) rfl (by kernel_rfl) (fun _ _ _ h => panQ_put (by decide) (by decide) h) rfl ?_ hS ?_
    rotate_left
    · (intro w' hSw; (try dsimp only at hSw); obtain ⟨c0, c1, c2, c3, c4, cf, cz⟩ := hSw.1.five; go_simp; try with_reducible rfl)
    try simp only [Act.put, List.getElem_toArray, List.getElem_cons_succ, List.getElem_cons_zero, List.setIfInBounds_toArray, List.set_cons_zero, List.set_cons_succ]
    refine AnyG.takeC (i := 2) (v := ?_) rfl (by kernel_rfl) (fun _ _ _ h => panQ_put (by decide) (by decide) h) rfl ?_ hS ?_
    rotate_left
    · (intro w' hSw; (try dsimp only at hSw); obtain ⟨c0, c1, c2, c3, c4, cf, cz⟩ := hSw.1.five; go_simp; try with_reducible rfl)
    try simp only [Act.put, List.getElem_toArray, List.getElem_cons_succ, List.getElem_cons_zero, List.setIfInBounds_toArray, List.set_cons_zero, List.set_cons_succ]
    refine AnyG.one (i := 3) (by kernel_rfl) rfl rfl ?_
    go_simp
    refine (wholeBox_any LA ln lc BA bn bc o _ HL.out HB.out ((hA.below hS.2.2.2).more hS.2.2.2.size) HO.out).mono ?_
    rintro e3 y3 ⟨rfl, hq3⟩
    obtain ⟨s1, ⟨x2, s2⟩, ⟨x3, s3⟩, s4⟩ := hS
    have hT : (fun w' : World => Bx w' w.heap.size 100 #[.slice LA ln lc, .int .i64 o.le, .int .i64 o.mo, .slice BA bn bc, .int .i64 p] ∧ (∃ x, Bx w' (w.heap.size + 1) 51 #[x]) ∧ (∃ y, Bx w' (w.heap.size + 1 + 1) 30 #[y]) ∧ Below w.heap.size w w') y3 := ⟨s1.call hq3, ⟨_, s2.call hq3⟩, ⟨_, s3.call hq3⟩, s4.trans (hq3.mono s4.size)⟩
    have hS := hT
    clear hT s1 s2 s3 s4
    refine Onward.on hS (fun hS2 => ?_)
    clear hS
    have hS := hS2
    clear hS2
    try simp only [Act.put, List.getElem_toArray, List.getElem_cons_succ, List.getElem_cons_zero, List.setIfInBounds_toArray, List.set_cons_zero, List.set_cons_succ]
    refine AnyG.one (i := 4) (by kernel_rfl) rfl rfl ?_
    go_simp
    refine (prove_none LA ln lc BA bn bc o p w.heap.size HO.out HL.out HB.out fuel zer o.mx (.slice none 0 0) 0 [] _ HO.out.mx hf HP.out (hA.below hS.2.2.2) (World.ownsRow_nil _ _ _ _) hS.2.2.2.size (by have := tot_bd HO.out.mx; omega)).mono ?_
    rintro e4 y4 ⟨⟨d, rfl⟩, r2⟩
    obtain ⟨s1, ⟨x2, s2⟩, ⟨x3, s3⟩, s4⟩ := hS
    have hT : (fun w' : World => Bx w' w.heap.size 100 #[.slice LA ln lc, .int .i64 o.le, .int .i64 o.mo, .slice BA bn bc, .int .i64 p] ∧ (∃ x, Bx w' (w.heap.size + 1) 51 #[x]) ∧ (∃ y, Bx w' (w.heap.size + 1 + 1) 30 #[y]) ∧ Below w.heap.size w w') y4 := ⟨s1.grown r2 (by simp [Value.ownBlock]), ⟨_, s2.grown r2 (by simp [Value.ownBlock])⟩, ⟨_, s3.grown r2 (by simp [Value.ownBlock])⟩, s4.grown r2 s4.size (fun k e => by simp [Value.ownBlock] at e)⟩
    exact ⟨by simp, by simp, rfl, ⟨d, rfl⟩, hT⟩
  · intro d a9 w9 h1 h2 h3 hR
    obtain ⟨s1, ⟨x2, s2⟩, ⟨x3, s3⟩, s4⟩ := hR
    obtain ⟨tm, df⟩ := a9
    dsimp only at h1 h2 h3
    subst h3
    refine leaves_cons (fn := Try.f63) (tmps := tm) (ds := []) (u := .panicking [{ v := .iface 81 (.agg (barr d)), recovered := false }]) (f := 88) (args := #[.pointer (some ⟨w.heap.size + 1, 0, none⟩), .pointer (some ⟨w.heap.size + 1 + 1, 0, none⟩)]) (by simp) (by simp [go_sem]) ?_
    refine (catch_take _ _ d x2 x3 w9 s2 s3 (by omega)).mono ?_
    rintro e u' w'' ⟨rfl, rfl, rfl⟩
    have z2 : Bx ((w9.setCell ⟨w.heap.size + 1, 0, none⟩ (.slice none 0 0)).setCell ⟨w.heap.size + 1 + 1, 0, none⟩ (.int .i64 13)) (w.heap.size + 1) 51 #[.slice none 0 0] := (s2.set_ 0 _).far (by simp) _
    have z3 : Bx ((w9.setCell ⟨w.heap.size + 1, 0, none⟩ (.slice none 0 0)).setCell ⟨w.heap.size + 1 + 1, 0, none⟩ (.int .i64 13)) (w.heap.size + 1 + 1) 30 #[.int .i64 13] := (s3.far (by simp) _).set_ 0 _
    have hlow : Below w.heap.size w ((w9.setCell ⟨w.heap.size + 1, 0, none⟩ (.slice none 0 0)).setCell ⟨w.heap.size + 1 + 1, 0, none⟩ (.int .i64 13)) := (s4.setCell (by simp) _).setCell (by simp; omega) _
    generalize (w9.setCell ⟨w.heap.size + 1, 0, none⟩ (.slice none 0 0)).setCell ⟨w.heap.size + 1 + 1, 0, none⟩ (.int .i64 13) = W9 at *
    obtain ⟨a0, af, az⟩ := z2.one
    obtain ⟨b0, bf, bz⟩ := z3.one
    have h1' : tm[2]?.getD undef = .pointer (some ⟨w.heap.size + 1, 0, none⟩) := by simpa using h1
    have h2' : tm[3]?.getD undef = .pointer (some ⟨w.heap.size + 1 + 1, 0, none⟩) := by simpa using h2
    simp [Leaves, settle, results, Try.results63, go_sem, a0, b0, h1', h2']
    exact hlow
set_option maxRecDepth 100000 in
set_option maxHeartbeats 2000000 in
theorem prove_no (LA : Option Addr) (ln lc : Nat) (BA : Option Addr) (bn bc : Nat) (o : Od) (p : Int) (fuel : Nat) (w : World) (hln : ln ≤ 9223372036854775807) (hbn : bn ≤ 9223372036854775807) (hl : o.lm.length = ln) (hb' : o.bs.length = bn) (hA : OrdAt w w.heap.size LA BA o) (ho : o.Ok) (hpp : 0 ≤ p ∧ p ≤ 300000000) (hf : wid zer o.mx < fuel) (hp : prf o p fuel zer o.mx = none) :
    Calls Try.prog 26 #[.agg #[.slice LA ln lc, .int .i64 o.le, .int .i64 o.mo, .slice BA bn bc], .int .i64 p] w fun e w' => e = .returned (.tuple #[.slice none 0 0, .int .i64 13]) ∧ Below w.heap.size w w' := by
  have k1 := Bx.new w 27 #[.slice LA ln lc, .int .i64 o.le, .int .i64 o.mo, .slice BA bn bc]
  have B0 := (Below.refl w.heap.size w).alloc (Nat.le_refl _) (.cells #[.slice LA ln lc, .int .i64 o.le, .int .i64 o.mo, .slice BA bn bc] 27)
  have hck := checkPrice_ok LA ln lc BA bn bc o p (w.alloc (.cells #[.slice LA ln lc, .int .i64 o.le, .int .i64 o.mo, .slice BA bn bc] 27)) hln hbn hl hb' ((hA.below B0).more B0.size) ho hpp
  have HB := Lib.hid hb'
  have HL := Lib.hid hl
  have HO := Lib.hid ho
  have HP := Lib.hid hp
  clear hb' hl ho hp
  obtain ⟨c0, c1, c2, c3, cf, cz⟩ := k1.four
  go_enter Try.func26, Try.ntmps26
  go_wp2_with (first | (go_at_call 62; refine hck.mono ?_; rintro e w1 ⟨rfl, hb1⟩; have k2 := k1.call hb1; have B1 := B0.trans (hb1.mono B0.size); clear c0 c1 c2 c3 cf cz; obtain ⟨c0, c1, c2, c3, cf, cz⟩ := k2.four) | (go_at_call 63; refine (plainProof_none LA ln lc BA bn bc o p fuel _ HL.out HB.out ((hA.below B1).more B1.size) HO.out hf HP.out).mono ?_; rintro e w2 ⟨rfl, hb2⟩; have B2 := B1.trans (hb2.mono B1.size)))
  refine bodyPost_ret (v := .tuple #[.slice none 0 0, .int .i64 13]) (by simp [results, Try.results26, go_sem]) rfl ⟨rfl, B2⟩
end Go.Proofs.Ytmemcopfeabcgaa
