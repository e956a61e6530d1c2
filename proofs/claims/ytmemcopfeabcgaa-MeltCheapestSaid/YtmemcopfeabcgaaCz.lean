/- melt.Keeps and Weigh of good lists. -/
import Derived.Test.YtmemcopfeabcgaaCy
set_option linter.unusedSimpArgs false
set_option linter.unusedVariables false
namespace Go.Proofs.Ytmemcopfeabcgaa
open Go Go.RowKit
set_option maxRecDepth 100000 in
set_option maxHeartbeats 1000000 in
theorem keeps_ok (LA : Option Addr) (ln lc : Nat) (BA : Option Addr) (bn bc : Nat) (o : Od) (A : Option Addr) (n c : Nat) (L : List Int) (w : World) (hln : ln ≤ 9223372036854775807) (hbn : bn ≤ 9223372036854775807) (hl : o.lm.length = ln) (hb' : o.bs.length = bn) (hA : OrdAt w w.heap.size LA BA o) (hn : n ≤ 9223372036854775807) (hL : L.length = n) (hS0 : Sl w w.heap.size 1 A (inr L)) (hz : ckBl o L = 0) :
    Calls Try.prog 16 #[.agg #[.slice LA ln lc, .int .i64 o.le, .int .i64 o.mo, .slice BA bn bc], .slice A n c] w fun e w' => e = .returned (.tuple #[.int .i64 (kv o (lf L)), .int .i64 0]) ∧ Below w.heap.size w w' := by
  have K0 := Bx.new w 27 #[.slice LA ln lc, .int .i64 o.le, .int .i64 o.mo, .slice BA bn bc]
  have B0 := (Below.refl w.heap.size w).alloc (Nat.le_refl _) (.cells #[.slice LA ln lc, .int .i64 o.le, .int .i64 o.mo, .slice BA bn bc] 27)
  have hok := ckBl_zero hz
  have hC := checkBlend_any LA ln lc o.le o.mo BA bn bc o A n c L (w.alloc (.cells #[.slice LA ln lc, .int .i64 o.le, .int .i64 o.mo, .slice BA bn bc] 27)) hln hbn hl hb' rfl rfl ((hA.below B0).more B0.size) (fun b hb => by have := (hok.ok.bs b hb).len; omega) hn hL ((hS0.below B0).more B0.size)
  have HB := Lib.hid hb'
  have HL := Lib.hid hl
  have HN := Lib.hid hL
  rw [hz] at hC
  clear hz hb' hl hL
  have HO := Lib.hid hok.ok
  have HS6 := Lib.hid hok.six
  obtain rfl : bn = n := by rw [← HN.out, ← HB.out]; exact hok.len.symm
  have hb1 : 1 ≤ bn := by rw [← HB.out]; exact hok.ok.b1
  have hb4 : bn ≤ 4 := by rw [← HB.out]; exact hok.ok.b2
  clear hok
  obtain ⟨R, hR⟩ : ∃ R, kv o (lf L) = R := ⟨_, rfl⟩
  rw [hR]
  have HR := Lib.hid hR
  clear hR
  go_enter Try.func16, Try.ntmps16
  go_wp2_with (go_at_call 48; refine hC.mono ?_; rintro e w1 ⟨rfl, hb⟩; replace K0 := K0.call hb; replace B0 := B0.trans (hb.mono B0.size); obtain ⟨c0, c1, c2, c3, cf, cz⟩ := K0.four)
  refine AnyG.startC (by kernel_rfl) ?_
  refine AnyG.takeP (i := 1) (v := ?_) rfl (by kernel_rfl) (fun _ _ _ h => h) rfl ?_ ?_
  rotate_left
  · (intro w'; go_simp; try with_reducible rfl)
  try simp only [Act.put, List.getElem_toArray, List.getElem_cons_succ, List.getElem_cons_zero, List.setIfInBounds_toArray, List.set_cons_zero, List.set_cons_succ]
  refine AnyG.enter (fun w' : World => Below w1.heap.size w1 w') (fun i => true) ?_
  have hS : (fun w' : World => Below w1.heap.size w1 w') (World.drew _) := (Below.refl _ _).drew
  refine AnyG.takeC (i := 0) (v := ?_) rfl (by kernel_rfl) (fun _ _ _ h => h) rfl ?_ hS ?_
  rotate_left
  · (intro w' hSw; (try dsimp only at hSw); have c0 := cellC hSw c0; have c1 := cellC hSw c1; have c2 := cellC hSw c2; have c3 := cellC hSw c3; go_simp; try with_reducible rfl)
  try simp only [Act.put, List.getElem_toArray, List.getElem_cons_succ, List.getElem_cons_zero, List.setIfInBounds_toArray, List.set_cons_zero, List.set_cons_succ]
  refine AnyG.one (i := 2) (by kernel_rfl) rfl rfl ?_
  go_simp
  refine (blendOf_any A bn c L _ HN.out (by omega) (by omega) ((hS0.below (B0.trans (hS.mono B0.size))).more (B0.trans (hS.mono B0.size)).size)).mono ?_
  rintro e2 y2 ⟨rfl, hq2⟩
  have hT := hS.trans (hq2.mono hS.size)
  clear hS
  have hS := hT
  clear hT
  refine Onward.on hS (fun hS2 => ?_)
  clear hS
  have hS := hS2
  clear hS2
  try simp only [Act.put, List.getElem_toArray, List.getElem_cons_succ, List.getElem_cons_zero, List.setIfInBounds_toArray, List.set_cons_zero, List.set_cons_succ]
  refine AnyG.one (i := 3) (by kernel_rfl) rfl rfl ?_
  go_simp
  refine (keeps_any LA ln lc BA bn bc o (lf L) _ HL.out HB.out ((hA.below (B0.trans (hS.mono B0.size))).more (B0.trans (hS.mono B0.size)).size) HO.out HS6.out).mono ?_
  rintro e3 y3 ⟨rfl, hq3⟩
  rw [HR.out]
  have hT := hS.trans (hq3.mono hS.size)
  clear hS
  have hS := hT
  clear hT
  refine Onward.on hS (fun hS2 => ?_)
  clear hS
  have hS := hS2
  clear hS2
  try simp only [Act.put, List.getElem_toArray, List.getElem_cons_succ, List.getElem_cons_zero, List.setIfInBounds_toArray, List.set_cons_zero, List.set_cons_succ]
  refine AnyG.takeC (i := 4) (v := ?_) rfl (by kernel_rfl) (fun _ _ _ h => h) rfl ?_ hS ?_
  rotate_left
  · (intro w' hSw; (try dsimp only at hSw); go_simp; try with_reducible rfl)
  try simp only [Act.put, List.getElem_toArray, List.getElem_cons_succ, List.getElem_cons_zero, List.setIfInBounds_toArray, List.set_cons_zero, List.set_cons_succ]
  refine AnyG.takeC (i := 5) (v := ?_) rfl (by kernel_rfl) (fun _ _ _ h => h) rfl ?_ hS ?_
  rotate_left
  · (intro w' hSw; (try dsimp only at hSw); go_simp; try with_reducible rfl)
  try simp only [Act.put, List.getElem_toArray, List.getElem_cons_succ, List.getElem_cons_zero, List.setIfInBounds_toArray, List.set_cons_zero, List.set_cons_succ]
  refine AnyG.done (by kernel_rfl) ?_ _
  go_simp
  go_wp2_with fail
  refine bodyPost_ret (v := .tuple #[.int .i64 R, .int .i64 0]) (by simp [results, Try.results16, go_sem]) rfl ⟨rfl, ?_⟩
  exact B0.trans ((by assumption : Below w1.heap.size w1 _).mono B0.size)
set_option maxRecDepth 100000 in
set_option maxHeartbeats 1000000 in
theorem weigh_ok (LA : Option Addr) (ln lc : Nat) (BA : Option Addr) (bn bc : Nat) (o : Od) (A : Option Addr) (n c : Nat) (L : List Int) (w : World) (hln : ln ≤ 9223372036854775807) (hbn : bn ≤ 9223372036854775807) (hl : o.lm.length = ln) (hb' : o.bs.length = bn) (hA : OrdAt w w.heap.size LA BA o) (hn : n ≤ 9223372036854775807) (hL : L.length = n) (hS0 : Sl w w.heap.size 1 A (inr L)) (hz : ckBl o L = 0) :
    Calls Try.prog 22 #[.agg #[.slice LA ln lc, .int .i64 o.le, .int .i64 o.mo, .slice BA bn bc], .slice A n c] w fun e w' => e = .returned (.tuple #[.int .i64 (kil o (lf L) bn), .int .i64 (cst o (lf L) bn), .int .i64 0]) ∧ Below w.heap.size w w' := by
  have K0 := Bx.new w 27 #[.slice LA ln lc, .int .i64 o.le, .int .i64 o.mo, .slice BA bn bc]
  have B0 := (Below.refl w.heap.size w).alloc (Nat.le_refl _) (.cells #[.slice LA ln lc, .int .i64 o.le, .int .i64 o.mo, .slice BA bn bc] 27)
  have hok := ckBl_zero hz
  have hC := checkBlend_any LA ln lc o.le o.mo BA bn bc o A n c L (w.alloc (.cells #[.slice LA ln lc, .int .i64 o.le, .int .i64 o.mo, .slice BA bn bc] 27)) hln hbn hl hb' rfl rfl ((hA.below B0).more B0.size) (fun b hb => by have := (hok.ok.bs b hb).len; omega) hn hL ((hS0.below B0).more B0.size)
  have HB := Lib.hid hb'
  have HL := Lib.hid hl
  have HN := Lib.hid hL
  rw [hz] at hC
  clear hz hb' hl hL
  have HO := Lib.hid hok.ok
  have HS6 := Lib.hid hok.six
  obtain rfl : bn = n := by rw [← HN.out, ← HB.out]; exact hok.len.symm
  have hb1 : 1 ≤ bn := by rw [← HB.out]; exact hok.ok.b1
  have hb4 : bn ≤ 4 := by rw [← HB.out]; exact hok.ok.b2
  clear hok
  obtain ⟨R, hR⟩ : ∃ R, kil o (lf L) bn = R := ⟨_, rfl⟩
  rw [hR]
  have HR := Lib.hid hR
  obtain ⟨R2, hR2⟩ : ∃ R2, cst o (lf L) bn = R2 := ⟨_, rfl⟩
  rw [hR2]
  have HR2 := Lib.hid hR2
  clear hR hR2
  go_enter Try.func22, Try.ntmps22
  go_wp2_with (go_at_call 48; refine hC.mono ?_; rintro e w1 ⟨rfl, hb⟩; replace K0 := K0.call hb; replace B0 := B0.trans (hb.mono B0.size); obtain ⟨c0, c1, c2, c3, cf, cz⟩ := K0.four)
  refine AnyG.startC (by kernel_rfl) ?_
  refine AnyG.takeP (i := 1) (v := ?_) rfl (by kernel_rfl) (fun _ _ _ h => h) rfl ?_ ?_
  rotate_left
  · (intro w'; go_simp; try with_reducible rfl)
  try simp only [Act.put, List.getElem_toArray, List.getElem_cons_succ, List.getElem_cons_zero, List.setIfInBounds_toArray, List.set_cons_zero, List.set_cons_succ]
  refine AnyG.enter (fun w' : World => Below w1.heap.size w1 w') (fun i => true) ?_
  have hS : (fun w' : World => Below w1.heap.size w1 w') (World.drew _) := (Below.refl _ _).drew
  refine AnyG.takeC (i := 0) (v := ?_) rfl (by kernel_rfl) (fun _ _ _ h => h) rfl ?_ hS ?_
  rotate_left
  · (intro w' hSw; (try dsimp only at hSw); have c0 := cellC hSw c0; have c1 := cellC hSw c1; have c2 := cellC hSw c2; have c3 := cellC hSw c3; go_simp; try with_reducible rfl)
  try simp only [Act.put, List.getElem_toArray, List.getElem_cons_succ, List.getElem_cons_zero, List.setIfInBounds_toArray, List.set_cons_zero, List.set_cons_succ]
  refine AnyG.one (i := 2) (by kernel_rfl) rfl rfl ?_
  go_simp
  refine (blendOf_any A bn c L _ HN.out (by omega) (by omega) ((hS0.below (B0.trans (hS.mono B0.size))).more (B0.trans (hS.mono B0.size)).size)).mono ?_
  rintro e2 y2 ⟨rfl, hq2⟩
  have hT := hS.trans (hq2.mono hS.size)
  clear hS
  have hS := hT
  clear hT
  refine Onward.on hS (fun hS2 => ?_)
  clear hS
  have hS := hS2
  clear hS2
  try simp only [Act.put, List.getElem_toArray, List.getElem_cons_succ, List.getElem_cons_zero, List.setIfInBounds_toArray, List.set_cons_zero, List.set_cons_succ]
  refine AnyG.one (i := 3) (by kernel_rfl) rfl rfl ?_
  go_simp
  refine (weigh_any LA ln lc BA bn bc o (lf L) _ HL.out HB.out ((hA.below (B0.trans (hS.mono B0.size))).more (B0.trans (hS.mono B0.size)).size) HO.out HS6.out).mono ?_
  rintro e3 y3 ⟨rfl, hq3⟩
  rw [HR.out, HR2.out]
  have hT := hS.trans (hq3.mono hS.size)
  clear hS
  have hS := hT
  clear hT
  refine Onward.on hS (fun hS2 => ?_)
  clear hS
  have hS := hS2
  clear hS2
  try simp only [Act.put, List.getElem_toArray, List.getElem_cons_succ, List.getElem_cons_zero, List.setIfInBounds_toArray, List.set_cons_zero, List.set_cons_succ]
  refine AnyG.takeC (i := 4) (v := ?_) rfl (by kernel_rfl) (fun _ _ _ h => h) rfl ?_ hS ?_
  rotate_left
  · (intro w' hSw; (try dsimp only at hSw); go_simp; try with_reducible rfl)
  try simp only [Act.put, List.getElem_toArray, List.getElem_cons_succ, List.getElem_cons_zero, List.setIfInBounds_toArray, List.set_cons_zero, List.set_cons_succ]
  refine AnyG.takeC (i := 5) (v := ?_) rfl (by kernel_rfl) (fun _ _ _ h => h) rfl ?_ hS ?_
  rotate_left
  · (intro w' hSw; (try dsimp only at hSw); go_simp; try with_reducible rfl)
  try simp only [Act.put, List.getElem_toArray, List.getElem_cons_succ, List.getElem_cons_zero, List.setIfInBounds_toArray, List.set_cons_zero, List.set_cons_succ]
  refine AnyG.takeC (i := 6) (v := ?_) rfl (by kernel_rfl) (fun _ _ _ h => h) rfl ?_ hS ?_
  rotate_left
  · (intro w' hSw; (try dsimp only at hSw); go_simp; try with_reducible rfl)
  try simp only [Act.put, List.getElem_toArray, List.getElem_cons_succ, List.getElem_cons_zero, List.setIfInBounds_toArray, List.set_cons_zero, List.set_cons_succ]
  refine AnyG.takeC (i := 7) (v := ?_) rfl (by kernel_rfl) (fun _ _ _ h => h) rfl ?_ hS ?_
  rotate_left
  · (intro w' hSw; (try dsimp only at hSw); go_simp; try with_reducible rfl)
  try simp only [Act.put, List.getElem_toArray, List.getElem_cons_succ, List.getElem_cons_zero, List.setIfInBounds_toArray, List.set_cons_zero, List.set_cons_succ]
  refine AnyG.takeC (i := 8) (v := ?_) rfl (by kernel_rfl) (fun _ _ _ h => h) rfl ?_ hS ?_
  rotate_left
  · (intro w' hSw; (try dsimp only at hSw); go_simp; try with_reducible rfl)
  try simp only [Act.put, List.getElem_toArray, List.getElem_cons_succ, List.getElem_cons_zero, List.setIfInBounds_toArray, List.set_cons_zero, List.set_cons_succ]
  refine AnyG.done (by kernel_rfl) ?_ _
  go_simp
  go_wp2_with fail
  refine bodyPost_ret (v := .tuple #[.int .i64 R, .int .i64 R2, .int .i64 0]) (by simp [results, Try.results22, go_sem]) rfl ⟨rfl, ?_⟩
  exact B0.trans ((by assumption : Below w1.heap.size w1 _).mono B0.size)
end Go.Proofs.Ytmemcopfeabcgaa
