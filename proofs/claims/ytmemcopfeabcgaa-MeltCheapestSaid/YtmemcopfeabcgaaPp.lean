/- melt.claim.plainProof, checkPrice, Prove: where there is a plain proof. -/
import Derived.Test.YtmemcopfeabcgaaPv
import Derived.Defers
import Derived.Recover
import Derived.Laws.Pointers
set_option linter.unusedSimpArgs false
set_option linter.unusedVariables false
namespace Go.Proofs.Ytmemcopfeabcgaa
open Go Go.RowKit
theorem catch_idle (p q : Addr) (w : World) :
    CallsD Try.prog 88 #[.pointer (some p), .pointer (some q)] .returning w fun e u' w' => e = .returned (.tuple #[]) ∧ u' = .returning ∧ w' = w := by
  refine callsD_of_wpS Try.func88 rfl fun c₀ cs hu => ?_
  apply wpS_seq
  apply wpS_region
  simp [wpOpsS, go_sem, recoverD, hu, Try.ntmps88, Exit.thenS]
  refine wpS_cond (t := false) (by simp [Act.eval, Array.replicate]) ?_
  simp only [Bool.false_eq_true, if_false]
  refine wpS_of_wp (wp_skip ?_)
  cases c₀
  simp_all [bodyPostS, results, Try.results88]
set_option maxRecDepth 100000 in
set_option maxHeartbeats 2000000 in
theorem plainProof_some (LA : Option Addr) (ln lc : Nat) (BA : Option Addr) (bn bc : Nat) (o : Od) (p : Int) (fuel : Nat) (L : List Bd) (w : World) (hl : o.lm.length = ln) (hb' : o.bs.length = bn) (hA : OrdAt w w.heap.size LA BA o) (ho : o.Ok) (hp : prf o p fuel zer o.mx = some L) (hL : L.length ≤ 100000) :
    Calls Try.prog 63 #[.agg #[.slice LA ln lc, .int .i64 o.le, .int .i64 o.mo, .slice BA bn bc, .int .i64 p]] w fun e w' => (∃ A C, e = .returned (.tuple #[.slice A L.length C, .int .i64 0]) ∧ w'.ownsRow w.heap.size 69 3 (.slice A L.length C) L.length (bdrs L)) ∧ Below w.heap.size w w' := by
  have hmf : ∀ (fn : Fn) (first cap : Array Value) (w : World), (Instr.makeFunc fn first cap).run Try.prog w = .ok (.func fn first cap) w := fun _ _ _ _ => rfl
  have k1 := ((Bx.new w 100 #[.slice LA ln lc, .int .i64 o.le, .int .i64 o.mo, .slice BA bn bc, .int .i64 p]).alloc (.cells #[.slice none 0 0] 51)).alloc (.cells #[.int .i64 0] 30)
  have k2 := (Bx.at (w.alloc (.cells #[.slice LA ln lc, .int .i64 o.le, .int .i64 o.mo, .slice BA bn bc, .int .i64 p] 100)) 51 #[.slice none 0 0] (n := w.heap.size + 1) (by simp)).alloc (.cells #[.int .i64 0] 30)
  have k3 := Bx.at ((w.alloc (.cells #[.slice LA ln lc, .int .i64 o.le, .int .i64 o.mo, .slice BA bn bc, .int .i64 p] 100)).alloc (.cells #[.slice none 0 0] 51)) 30 #[.int .i64 0] (n := w.heap.size + 1 + 1) (by simp)
  have B0 := (((Below.refl w.heap.size w).alloc (Nat.le_refl _) (.cells #[.slice LA ln lc, .int .i64 o.le, .int .i64 o.mo, .slice BA bn bc, .int .i64 p] 100)).alloc (by simp) (.cells #[.slice none 0 0] 51)).alloc (by simp; omega) (.cells #[.int .i64 0] 30)
  have HB := Lib.hid hb'
  have HL := Lib.hid hl
  have HO := Lib.hid ho
  have HP := Lib.hid hp
  clear hb' hl ho hp
  go_enter_defers Try.func63, Try.ntmps63
  go_wp2
  refine wp_only ?_
  refine AnyG.startC (by kernel_rfl) ?_
  refine AnyG.takeP (i := 1) (v := ?_) rfl (by kernel_rfl) (fun _ _ _ h => h) rfl ?_ ?_
  rotate_left
  · (intro w'; go_simp; try with_reducible rfl)
  try simp only [Act.put, List.getElem_toArray, List.getElem_cons_succ, List.getElem_cons_zero, List.setIfInBounds_toArray, List.set_cons_zero, List.set_cons_succ]
  refine AnyG.enter (fun w' : World => Bx w' w.heap.size 100 #[.slice LA ln lc, .int .i64 o.le, .int .i64 o.mo, .slice BA bn bc, .int .i64 p] ∧ (∃ x, Bx w' (w.heap.size + 1) 51 #[x]) ∧ (∃ y, Bx w' (w.heap.size + 1 + 1) 30 #[y]) ∧ Below w.heap.size w w') (fun i => i != 6 && i != 5 && i != 4) ?_
  have hS : (fun w' : World => Bx w' w.heap.size 100 #[.slice LA ln lc, .int .i64 o.le, .int .i64 o.mo, .slice BA bn bc, .int .i64 p] ∧ (∃ x, Bx w' (w.heap.size + 1) 51 #[x]) ∧ (∃ y, Bx w' (w.heap.size + 1 + 1) 30 #[y]) ∧ Below w.heap.size w w') (World.drew _) := ⟨k1.drew, ⟨_, k2.drew⟩, ⟨_, k3.drew⟩, B0.drew⟩
  refine AnyG.takeC (i := 0) (v := ?_) rfl (by kernel_rfl) (fun _ _ _ h => h) rfl ?_ hS ?_
  rotate_left
  · (intro w' hSw; (try dsimp only at hSw); obtain ⟨c0, c1, c2, c3, c4, cf, cz⟩ := hSw.1.five; go_simp; try with_reducible rfl)
  try simp only [Act.put, List.getElem_toArray, List.getElem_cons_succ, List.getElem_cons_zero, List.setIfInBounds_toArray, List.set_cons_zero, List.set_cons_succ]
  refine AnyG.takeC (i := 2) (v := ?_) rfl (by kernel_rfl) (fun _ _ _ h => h) rfl ?_ hS ?_
  rotate_left
  · (intro w' hSw; (try dsimp only at hSw); obtain ⟨c0, c1, c2, c3, c4, cf, cz⟩ := hSw.1.five; go_simp; try with_reducible rfl)
  try simp only [Act.put, List.getElem_toArray, List.getElem_cons_succ, List.getElem_cons_zero, List.setIfInBounds_toArray, List.set_cons_zero, List.set_cons_succ]
  refine AnyG.one (i := 3) (by kernel_rfl) rfl rfl ?_
  go_simp
  refine (wholeBox_any LA ln lc BA bn bc o _ HL.out HB.out ((hA.below hS.2.2.2).more hS.2.2.2.size) HO.out).mono ?_
  rintro e3 y3 ⟨rfl, hq3⟩
  obtain ⟨s1, ⟨x2, s2⟩, ⟨x3, s3⟩, s4⟩ := hS
  have hT : Bx y3 w.heap.size 100 #[.slice LA ln lc, .int .i64 o.le, .int .i64 o.mo, .slice BA bn bc, .int .i64 p] ∧ (∃ x, Bx y3 (w.heap.size + 1) 51 #[x]) ∧ (∃ y, Bx y3 (w.heap.size + 1 + 1) 30 #[y]) ∧ Below w.heap.size w y3 := ⟨s1.call hq3, ⟨_, s2.call hq3⟩, ⟨_, s3.call hq3⟩, s4.trans (hq3.mono s4.size)⟩
  have hS := hT
  clear hT s1 s2 s3 s4
  refine Onward.on hS (fun hS2 => ?_)
  clear hS
  have hS := hS2
  clear hS2
  try simp only [Act.put, List.getElem_toArray, List.getElem_cons_succ, List.getElem_cons_zero, List.setIfInBounds_toArray, List.set_cons_zero, List.set_cons_succ]
  refine AnyG.one (i := 4) (by kernel_rfl) rfl rfl ?_
  go_simp
  refine (prove_some LA ln lc BA bn bc o p w.heap.size HO.out HL.out HB.out fuel zer o.mx L (.slice none 0 0) 0 [] _ HO.out.mx HP.out (hA.below hS.2.2.2) (World.ownsRow_nil _ _ _ _) hS.2.2.2.size (by omega)).mono ?_
  rintro e4 y4 ⟨v4, rfl, r1, r2, r3⟩
  obtain ⟨A4, C4, rfl⟩ := own_shape r1
  rw [Nat.zero_add] at r1
  rw [List.nil_append] at r1
  obtain ⟨s1, ⟨x2, s2⟩, ⟨x3, s3⟩, s4⟩ := hS
  have hT : Bx y4 w.heap.size 100 #[.slice LA ln lc, .int .i64 o.le, .int .i64 o.mo, .slice BA bn bc, .int .i64 p] ∧ (∃ x, Bx y4 (w.heap.size + 1) 51 #[x]) ∧ (∃ y, Bx y4 (w.heap.size + 1 + 1) 30 #[y]) ∧ Below w.heap.size w y4 := ⟨s1.grown r2 (by simp [Value.ownBlock]), ⟨_, s2.grown r2 (by simp [Value.ownBlock])⟩, ⟨_, s3.grown r2 (by simp [Value.ownBlock])⟩, s4.grown r2 s4.size (fun k e => by simp [Value.ownBlock] at e)⟩
  have hS := hT
  clear hT s1 s2 s3 s4
  refine Onward.last rfl ?_
  try simp only [Act.put, List.getElem_toArray, List.getElem_cons_succ, List.getElem_cons_zero, List.setIfInBounds_toArray, List.set_cons_zero, List.set_cons_succ]
  refine AnyG.one (i := 5) (by kernel_rfl) rfl rfl ?_
  obtain ⟨s1, ⟨x2, s2⟩, ⟨x3, s3⟩, s4⟩ := hS
  obtain ⟨b0, bf, bz⟩ := s2.one
  obtain ⟨d0, df, dz⟩ := s3.one
  go_simp
  have r1b := r1.kept (grown_set y4 (w.heap.size + 1) 0 (.slice A4 (0 + L.length) C4)) (.inr (fun e => own_bx r1 s2 (by decide) e.symm))
  have hT : Bx (y4.setCell ⟨w.heap.size + 1, 0, none⟩ (.slice A4 (0 + L.length) C4)) w.heap.size 100 #[.slice LA ln lc, .int .i64 o.le, .int .i64 o.mo, .slice BA bn bc, .int .i64 p] ∧ (∃ x, Bx (y4.setCell ⟨w.heap.size + 1, 0, none⟩ (.slice A4 (0 + L.length) C4)) (w.heap.size + 1) 51 #[x]) ∧ (∃ y, Bx (y4.setCell ⟨w.heap.size + 1, 0, none⟩ (.slice A4 (0 + L.length) C4)) (w.heap.size + 1 + 1) 30 #[y]) ∧ Below w.heap.size w (y4.setCell ⟨w.heap.size + 1, 0, none⟩ (.slice A4 (0 + L.length) C4)) := ⟨s1.far (by simp) _, ⟨_, s2.set_ 0 _⟩, ⟨_, s3.far (by simp) _⟩, s4.setCell (by simp) _⟩
  have hbx2 := s2.set_ 0 (.slice A4 (0 + L.length) C4)
  have hS := hT
  clear hT s1 s2 s3 s4 b0 bf bz
  refine Onward.last rfl ?_
  try simp only [Act.put, List.getElem_toArray, List.getElem_cons_succ, List.getElem_cons_zero, List.setIfInBounds_toArray, List.set_cons_zero, List.set_cons_succ]
  refine AnyG.one (i := 6) (by kernel_rfl) rfl rfl ?_
  have hS0 := hS
  obtain ⟨s1, ⟨x2, s2⟩, ⟨x3, s3⟩, s4⟩ := hS0
  have hs3 := s3
  go_simp
  refine Onward.last rfl ?_
  try simp only [Act.put, List.getElem_toArray, List.getElem_cons_succ, List.getElem_cons_zero, List.setIfInBounds_toArray, List.set_cons_zero, List.set_cons_succ]
  refine AnyG.done (by kernel_rfl) ?_ _
  refine onlyN_go ?_
  go_simp
  go_wp2
  have hfin := r1b.kept (grown_set (y4.setCell ⟨w.heap.size + 1, 0, none⟩ (.slice A4 (0 + L.length) C4)) (w.heap.size + 1 + 1) 0 (.int .i64 0)) (.inr (fun e => own_bx r1b hs3 (by decide) e.symm))
  have z2 : Bx ((y4.setCell ⟨w.heap.size + 1, 0, none⟩ (.slice A4 (0 + L.length) C4)).setCell ⟨w.heap.size + 1 + 1, 0, none⟩ (.int .i64 0)) (w.heap.size + 1) 51 #[.slice A4 (0 + L.length) C4] := hbx2.far (by simp) _
  have z3 : Bx ((y4.setCell ⟨w.heap.size + 1, 0, none⟩ (.slice A4 (0 + L.length) C4)).setCell ⟨w.heap.size + 1 + 1, 0, none⟩ (.int .i64 0)) (w.heap.size + 1 + 1) 30 #[.int .i64 0] := hs3.set_ 0 _
  have hlow : Below w.heap.size w ((y4.setCell ⟨w.heap.size + 1, 0, none⟩ (.slice A4 (0 + L.length) C4)).setCell ⟨w.heap.size + 1 + 1, 0, none⟩ (.int .i64 0)) := hS.2.2.2.setCell (by simp; omega) _
  rw [Nat.zero_add] at hfin z2 z3 hlow
  refine leaves_cons (f := 88) (args := #[.pointer (some ⟨w.heap.size + 1, 0, none⟩), .pointer (some ⟨w.heap.size + 1 + 1, 0, none⟩)]) (by simp) (by simp [go_sem]) ?_
  refine (catch_idle _ _ _).mono ?_
  rintro e u' w'' ⟨rfl, rfl, rfl⟩
  generalize (y4.setCell ⟨w.heap.size + 1, 0, none⟩ (.slice A4 L.length C4)).setCell ⟨w.heap.size + 1 + 1, 0, none⟩ (.int .i64 0) = W9 at *
  obtain ⟨a0, af, az⟩ := z2.one
  obtain ⟨b0, bf, bz⟩ := z3.one
  simp [Leaves, settle, results, Try.results63, go_sem, a0, b0]
  exact ⟨⟨A4, C4, ⟨rfl, rfl⟩, hfin⟩, hlow⟩
theorem checkPrice_ok (LA : Option Addr) (ln lc : Nat) (BA : Option Addr) (bn bc : Nat) (o : Od) (p : Int) (w : World) (hln : ln ≤ 9223372036854775807) (hbn : bn ≤ 9223372036854775807) (hl : o.lm.length = ln) (hb' : o.bs.length = bn) (hA : OrdAt w w.heap.size LA BA o) (ho : o.Ok) (hp : 0 ≤ p ∧ p ≤ 300000000) :
    Calls Try.prog 62 #[.agg #[.slice LA ln lc, .int .i64 o.le, .int .i64 o.mo, .slice BA bn bc], .int .i64 p] w fun e w' => e = .returned (.int .i64 0) ∧ Below w.heap.size w w' := by
  have k1 := Bx.new w 27 #[.slice LA ln lc, .int .i64 o.le, .int .i64 o.mo, .slice BA bn bc]
  have B0 := (Below.refl w.heap.size w).alloc (Nat.le_refl _) (.cells #[.slice LA ln lc, .int .i64 o.le, .int .i64 o.mo, .slice BA bn bc] 27)
  have hck := check_any LA ln lc o.le o.mo BA bn bc o (w.alloc (.cells #[.slice LA ln lc, .int .i64 o.le, .int .i64 o.mo, .slice BA bn bc] 27)) hln hbn hl hb' rfl rfl ((hA.below B0).more B0.size) (fun b hb2 => by have := (ho.bs b hb2).len; have := ho.lm; omega)
  rw [ckO_zero.2 ho] at hck
  obtain ⟨c0, c1, c2, c3, cf, cz⟩ := k1.four
  go_enter Try.func62, Try.ntmps62
  go_wp2_with (first | (go_at_call 37; refine hck.mono ?_; rintro e w1 ⟨rfl, hb1⟩; have B1 := B0.trans (hb1.mono B0.size)) | (go_at_call 81; refine (isWithin_yes _ _ _ _ hp).mono ?_; rintro e w2 ⟨rfl, hb2⟩; have B2 := B1.trans (hb2.mono B1.size)))
  go_ret
  exact ⟨rfl, B2⟩
set_option maxRecDepth 100000 in
theorem prove_ok (LA : Option Addr) (ln lc : Nat) (BA : Option Addr) (bn bc : Nat) (o : Od) (p : Int) (fuel : Nat) (L : List Bd) (w : World) (hln : ln ≤ 9223372036854775807) (hbn : bn ≤ 9223372036854775807) (hl : o.lm.length = ln) (hb' : o.bs.length = bn) (hA : OrdAt w w.heap.size LA BA o) (ho : o.Ok) (hpp : 0 ≤ p ∧ p ≤ 300000000) (hp : prf o p fuel zer o.mx = some L) (hL : L.length ≤ 100000) :
    Calls Try.prog 26 #[.agg #[.slice LA ln lc, .int .i64 o.le, .int .i64 o.mo, .slice BA bn bc], .int .i64 p] w fun e w' => (∃ A C, e = .returned (.tuple #[.slice A L.length C, .int .i64 0]) ∧ w'.ownsRow w.heap.size 69 3 (.slice A L.length C) L.length (bdrs L)) ∧ Below w.heap.size w w' := by
  have k1 := Bx.new w 27 #[.slice LA ln lc, .int .i64 o.le, .int .i64 o.mo, .slice BA bn bc]
  have B0 := (Below.refl w.heap.size w).alloc (Nat.le_refl _) (.cells #[.slice LA ln lc, .int .i64 o.le, .int .i64 o.mo, .slice BA bn bc] 27)
  have hck := checkPrice_ok LA ln lc BA bn bc o p (w.alloc (.cells #[.slice LA ln lc, .int .i64 o.le, .int .i64 o.mo, .slice BA bn bc] 27)) hln hbn hl hb' ((hA.below B0).more B0.size) ho hpp
  have HB := Lib.hid hb'
  have HL := Lib.hid hl
  have HO := Lib.hid ho
  have HP := Lib.hid hp
  clear hb' hl ho hp
  obtain ⟨c0, c1, c2, c3, cf, cz⟩ := k1.four
  go_enter Try.func26, Try.ntmps26
  go_wp2_with (first | (go_at_call 62; refine hck.mono ?_; rintro e w1 ⟨rfl, hb1⟩; have k2 := k1.call hb1; have B1 := B0.trans (hb1.mono B0.size); clear c0 c1 c2 c3 cf cz; obtain ⟨c0, c1, c2, c3, cf, cz⟩ := k2.four) | (go_at_call 63; refine (plainProof_some LA ln lc BA bn bc o p fuel L _ HL.out HB.out ((hA.below B1).more B1.size) HO.out HP.out hL).mono ?_; rintro e w2 ⟨⟨A2, C2, rfl, ho2⟩, hb2⟩; have B2 := B1.trans (hb2.mono B1.size)))
  refine bodyPost_ret (v := .tuple #[.slice A2 L.length C2, .int .i64 0]) (by simp [results, Try.results26, go_sem]) rfl ⟨⟨A2, C2, rfl, ownsRow_up ho2 (fun k e => by have := (ho2.lt k e).1; have := B1.size; omega)⟩, B2⟩
end Go.Proofs.Ytmemcopfeabcgaa
