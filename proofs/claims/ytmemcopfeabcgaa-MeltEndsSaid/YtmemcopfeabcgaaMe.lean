/- MeltEnds. -/
import Derived.Test.YtmemcopfeabcgaaLi
set_option linter.unusedSimpArgs false
set_option linter.unusedVariables false
namespace Go.Proofs.Ytmemcopfeabcgaa
open Go Go.RowKit
/-- Two rows of rows in the making. -/
structure EI (V : World) (lv mv : Value) (vl vm : List Value) (Ll Lm : List (List Int)) (wr : World) : Prop where
  ol : wr.ownsRow V.heap.size 22 1 lv Ll.length vl
  om : wr.ownsRow V.heap.size 22 1 mv Lm.length vm
  ap : lv.ownBlock = none ∨ lv.ownBlock ≠ mv.ownBlock
  bl : LsOwn wr V.heap.size vl Ll
  bm : LsOwn wr V.heap.size vm Lm
  hb : Below V.heap.size V wr
section
variable {V wr x : World} {lv mv : Value} {vl vm : List Value} {Ll Lm : List (List Int)}
theorem EI.bel (h : EI V lv mv vl vm Ll Lm wr) (k : Below wr.heap.size wr x) : EI V lv mv vl vm Ll Lm x :=
  ⟨own_bel h.ol k, own_bel h.om k, h.ap, h.bl.bel k, h.bm.bel k, h.hb.trans (k.mono h.hb.size)⟩
theorem apart_symm {a b : Option Nat} (h : a = none ∨ a ≠ b) : b = none ∨ b ≠ a := by
  rcases h with h | h
  · cases b with
    | none => exact .inl rfl
    | some k => exact .inr (by rw [h]; simp)
  · exact .inr fun e => h e.symm
theorem EI.left (h : EI V lv mv vl vm Ll Lm wr) {v' : Value} {A : Option Addr} {c n : Nat} {l : List Int} (hl : l.length = n) (hr : wr.ownsRow V.heap.size 3 1 (.slice A n c) n (inr l).flatten) (o : x.ownsRow V.heap.size 22 1 v' (Ll.length + 1) (vl ++ [.slice A n c])) (k : wr.grownBy x lv.ownBlock) (a : v'.ownBlock = lv.ownBlock ∨ ∀ q, v'.ownBlock = some q → wr.heap.size ≤ q) :
    EI V v' mv (vl ++ [.slice A n c]) vm (Ll ++ [l]) Lm x := by
  refine ⟨by simpa using o, h.om.kept k (apart_symm h.ap), ?_, (h.bl.snoc hl hr).own h.ol k (by decide), h.bm.own h.ol k (by decide), h.hb.grown k h.hb.size (fun q e => (h.ol.lt q e).1)⟩
  rcases a with a | a
  · rw [a]; exact h.ap
  · cases hv : v'.ownBlock with
    | none => exact .inl rfl
    | some q => exact .inr fun e => by have := a q hv; have := (h.om.lt q e.symm).2; omega
theorem EI.right (h : EI V lv mv vl vm Ll Lm wr) {v' : Value} {A : Option Addr} {c n : Nat} {l : List Int} (hl : l.length = n) (hr : wr.ownsRow V.heap.size 3 1 (.slice A n c) n (inr l).flatten) (o : x.ownsRow V.heap.size 22 1 v' (Lm.length + 1) (vm ++ [.slice A n c])) (k : wr.grownBy x mv.ownBlock) (a : v'.ownBlock = mv.ownBlock ∨ ∀ q, v'.ownBlock = some q → wr.heap.size ≤ q) :
    EI V lv v' vl (vm ++ [.slice A n c]) Ll (Lm ++ [l]) x := by
  refine ⟨h.ol.kept k h.ap, by simpa using o, ?_, h.bl.own h.om k (by decide), (h.bm.snoc hl hr).own h.om k (by decide), h.hb.grown k h.hb.size (fun q e => (h.om.lt q e).1)⟩
  rcases a with a | a
  · rw [a]; exact h.ap
  · cases hv : lv.ownBlock with
    | none => exact .inl rfl
    | some q => exact .inr fun e => by have := a q e.symm; have := (h.ol.lt q hv).2; omega
end
theorem one_le_gr {b : Bn} {m : Nat} (h : b.Ok m) {j : Nat} (hj : j < m) : j < b.gr.length := by rw [h.len]; exact hj
set_option maxRecDepth 100000 in
set_option maxHeartbeats 8000000 in
theorem meltEnds_run (A : Option Addr) (n c : Nat) (L : List Int) (w : World) (hn : n ≤ 9000000000000000000) (hl : L.length = n) (hA : Sl w w.heap.size 1 A (ints L)) : Calls Try.prog 4 #[.slice A n c] w fun e w' => e = .returned (.bool true) ∧ Below w.heap.size w w' := by
  have HL := Lib.hid hl
  clear hl
  obtain ⟨i3, hi3, hz3, hs3, iy3⟩ := info_parts info3'
  obtain ⟨i22, hi22, hz22, hs22, iy22⟩ := info_parts info22
  go_enter Try.func4, Try.ntmps4
  go_upto_region 3 with (first
    | (go_at_call 13; refine (feedOf_any A n c L _ hn HL.out hA).mono ?_; rintro e w1 ⟨⟨g, rfl, hg0, hfd⟩, hb1⟩)
    | (go_at_call 14; refine (orderOf_any g 4 3 5 _ hfd (by omega) (by omega) (by omega) (by omega) (by omega) (by omega)).mono ?_; rintro e w2 ⟨o, LA, BA, lc, bc, rfl, hsm, hO0, hfd2, hgr2⟩)
    | fail)
  have hok := hsm.ok (by omega) (by omega) (by omega)
  have HSM := Lib.hid hsm
  obtain ⟨ln, hln⟩ : ∃ k, o.lm.length = k := ⟨_, rfl⟩
  obtain ⟨bn, hbn⟩ : ∃ k, o.bs.length = k := ⟨_, rfl⟩
  have hln3 : ln ≤ 3 := by rw [← hln]; exact hok.lm
  have hbn4 : bn ≤ 4 := by rw [← hbn]; exact hok.b2
  have hbn1 : 1 ≤ bn := by rw [← hbn]; exact hok.b1
  rw [hln, hbn]
  have hBw : Below w.heap.size w w2 := hb1.grown hgr2 hb1.size (fun k e => by cases e; exact hg0)
  have B1 := (Below.refl w2.heap.size w2).alloc (Nat.le_refl _) (.cells #[.slice LA ln lc, .int .i64 o.le, .int .i64 o.mo, .slice BA bn bc] 27)
  have kO := Bx.new w2 27 #[.slice LA ln lc, .int .i64 o.le, .int .i64 o.mo, .slice BA bn bc]
  have hO := hO0.call B1
  have hF := hfd2.alloc (.cells #[.slice LA ln lc, .int .i64 o.le, .int .i64 o.mo, .slice BA bn bc] 27)
  have hB := hBw.alloc hBw.size (.cells #[.slice LA ln lc, .int .i64 o.le, .int .i64 o.mo, .slice BA bn bc] 27)
  have hgl := hfd2.lt
  obtain ⟨V1, hV⟩ : ∃ V, w2.alloc (.cells #[.slice LA ln lc, .int .i64 o.le, .int .i64 o.mo, .slice BA bn bc] 27) = V := ⟨_, rfl⟩
  rw [hV] at kO hO hF hB ⊢
  obtain ⟨bO, hbO⟩ : ∃ b, w2.heap.size = b := ⟨_, rfl⟩
  rw [hbO] at kO ⊢
  have hgO : bO ≠ g := by omega
  have HLN := Lib.hid hln
  have HBN := Lib.hid hbn
  have HOK := Lib.hid hok
  have hwg := hg0
  clear hV hbO B1 hO0 hfd2 hgr2 hb1 hfd hln hbn hok hBw hsm hgl
  obtain ⟨l0, l1, l2, l3, lf', lz⟩ := kO.four
  go_upto_region 4 with (first
    | (go_at_call 15; refine (kBlendOf_any g LA ln lc BA bn bc o _ hF HLN.out HBN.out hO HOK.out).mono ?_; rintro e w3 ⟨⟨SA, sc, BL, rfl, hBL, hz, hS⟩, hF3, hg3⟩)
    | fail)
  have kO3 := kO.grown hg3 (by simpa using hgO)
  have hO3 := FT.ord ⟨hg3, hF3⟩ hF hO
  have hB3 := hB.grown hg3 hB.size (fun k e => by cases e; exact hwg)
  clear l0 l1 l2 l3 lf' lz kO hO hB hF hg3
  obtain ⟨l0, l1, l2, l3, lf', lz⟩ := kO3.four
  have HBL := Lib.hid hBL
  have HZ := Lib.hid hz
  clear hBL hz
  go_upto_region 5 with (first
    | (go_at_call 16; refine (keeps_ok LA ln lc BA bn bc o SA bn sc BL _ (by omega) (by omega) HLN.out HBN.out hO3 (by omega) HBL.out hS HZ.out).mono ?_; rintro e V ⟨rfl, hq⟩)
    | fail)
  clear l0 l1 l2 l3 lf' lz
  have hOV := hO3.call hq
  have kV := kO3.call hq
  have hSV := (hS.below hq).more hq.size
  have hBV := hB3.trans (hq.mono hB3.size)
  have hFV := Fd.below hF3 hq
  clear hq hO3 kO3 hS hB3 hF3
  obtain ⟨b, hb⟩ : ∃ b, lf BL = b := ⟨_, rfl⟩
  have hok2 := ckBl_zero HZ.out
  have hsix := hok2.six
  rw [hb] at hsix ⊢
  have HB := Lib.hid hb
  have HSIX := Lib.hid hsix
  obtain ⟨kvv, hkv⟩ : ∃ x, kv o b = x := ⟨_, rfl⟩
  rw [hkv]
  have HKV := Lib.hid hkv
  clear hb hok2 hsix hkv
  go_wp2_with fail
  go_loopw [8, 9, 10] (fun lv mv v wr => ∃ (i : Nat) (vl vm : List Value), v = .int .i64 i ∧ i ≤ bn ∧ EI V lv mv vl vm (lsOf (loRow o) b i) (lsOf (hiRow o) b i) wr) (fun _ _ v _ => bn - (intOf v).toNat)
  case atStart => exact ⟨0, [], [], rfl, by omega, ⟨World.ownsRow_nil _ _ _ _, World.ownsRow_nil _ _ _ _, .inl rfl, .nil _ _, .nil _ _, Below.refl _ _⟩⟩
  case round =>
    obtain ⟨i, vl, vm, rfl, hi, E⟩ := hrel
    by_cases hin : i < bn
    · have hil : i < o.bs.length := by rw [HBN.out]; exact hin
      obtain ⟨ba, G, gc, rfl, hba, p0, -, -, -, hgs⟩ := hOV.bs.at_ hil
      have hiL : i < BL.length := by rw [HBL.out]; exact hin
      obtain ⟨sa, rfl, hsa, hsc⟩ := inr_at hSV hiL
      have hLi : BL[i] = b i := by rw [← HB.out]; unfold lf; rw [List.getD_eq_getElem?_getD, List.getElem?_eq_getElem hiL]; rfl
      rw [hLi] at hsc
      have hb6 := HSIX.out i
      obtain ⟨bi, hbi⟩ : ∃ x, b i = x := ⟨_, rfl⟩
      rw [hbi] at hsc hb6
      have HBI := Lib.hid hbi
      have hbo := HOK.out.bn hil
      rw [HLN.out] at hbo
      rw [Od.bn_eq hil] at p0 hgs
      rw [hbo.len] at p0
      have HBO := Lib.hid hbo
      have o6 := off_six HSIX.out i
      clear hbi hLi hbo
      have hiw : IntKind.i64.wrap ((i : Int) + 1) = (i : Int) + 1 := IntWalk.i64_in _ (by omega)
      go_wp2_with fail
      go_loopw [8, 9, 11] (fun lv mv v wr => ∃ (k : Nat) (vl vm : List Value), v = .int .i64 k ∧ (k : Int) ≤ bi ∧ EI V lv mv vl vm (lsOf (loRow o) b i ++ List.replicate k (loRow o i)) (lsOf (hiRow o) b i ++ List.replicate k (hiRow o i)) wr) (fun _ _ v _ => bi.toNat - (intOf v).toNat)
      case atStart => exact ⟨0, vl, vm, rfl, by omega, by simpa using E⟩
      case round =>
        clear E vl vm
        obtain ⟨k, vl, vm, rfl, hk, E⟩ := hrel
        obtain ⟨LV, LC, rfl⟩ := own_shape E.ol
        obtain ⟨MV, MC, rfl⟩ := own_shape E.om
        have hVU := E.hb
        obtain ⟨nl, hnl⟩ : ∃ x, (lsOf (loRow o) b i ++ List.replicate k (loRow o i)).length = x := ⟨_, rfl⟩
        obtain ⟨nm, hnm⟩ : ∃ x, (lsOf (hiRow o) b i ++ List.replicate k (hiRow o i)).length = x := ⟨_, rfl⟩
        rw [hnl, hnm]
        have HNL := Lib.hid (And.intro hnl hnm)
        clear hnl hnm
        have sc := cellC hVU hsc
        by_cases hkb : (k : Int) < bi
        · obtain ⟨U, rfl⟩ : ∃ U, U = wr := ⟨_, rfl⟩
          have hkw : IntKind.i64.wrap ((k : Int) + 1) = (k : Int) + 1 := IntWalk.i64_in _ (by omega)
          have HE := Lib.hid E
          clear E
          go_wp2_with fail
          clear sc
          go_loopw [12, 13, 14] (fun av bv v wr => ∃ (j : Nat), v = .int .i64 j ∧ j ≤ ln ∧ wr.ownsRow U.heap.size 3 1 av j (inr (rowOf (fun j => (o.bn i).g1 j) j)).flatten ∧ wr.ownsRow U.heap.size 3 1 bv j (inr (rowOf (fun j => (o.bn i).g2 j) j)).flatten ∧ (av.ownBlock = none ∨ av.ownBlock ≠ bv.ownBlock) ∧ Below U.heap.size U wr) (fun _ _ v _ => ln - (intOf v).toNat)
          case atStart => exact ⟨0, rfl, by omega, World.ownsRow_nil _ _ _ _, World.ownsRow_nil _ _ _ _, .inl rfl, Below.refl _ _⟩
          case round =>
            obtain ⟨j, rfl, hj, oa, ob, hab, hBe⟩ := hrel
            obtain ⟨RA, RC, rfl⟩ := own_shape oa
            obtain ⟨QA, QC, rfl⟩ := own_shape ob
            obtain ⟨l0, l1, l2, l3, lf', lz⟩ := (kV.call (hVU.trans (hBe.mono hVU.size))).four
            by_cases hjl : j < ln
            · have hjg := one_le_gr HBO.out hjl
              obtain ⟨ga, rfl, hga, g0, g1⟩ := gnr_at hgs hjg
              rw [Bn.g_eq hjg] at g0 g1
              dsimp only at g0 g1
              have hjw : IntKind.i64.wrap ((j : Int) + 1) = (j : Int) + 1 := IntWalk.i64_in _ (by omega)
              obtain ⟨x1, hx1⟩ : ∃ x, (o.bn i).g1 j = x := ⟨_, rfl⟩
              obtain ⟨x2, hx2⟩ : ∃ x, (o.bn i).g2 j = x := ⟨_, rfl⟩
              rw [hx1] at g0
              rw [hx2] at g1
              have HX := Lib.hid (And.intro hx1 hx2)
              clear hx1 hx2
              obtain ⟨xa, hxa⟩ : ∃ x, (inr (rowOf (fun j => (o.bn i).g1 j) j)).flatten = x := ⟨_, rfl⟩
              obtain ⟨xb, hxb⟩ : ∃ x, (inr (rowOf (fun j => (o.bn i).g2 j) j)).flatten = x := ⟨_, rfl⟩
              rw [hxa] at oa
              rw [hxb] at ob
              have HXA := Lib.hid (And.intro hxa hxb)
              clear hxa hxb
              go_wp2_with fail
              clear l0 l1 l2 l3 lf' lz
              refine AnyG.startC (by kernel_rfl) ?_
              refine AnyG.takeP (i := 0) (v := ?_) rfl (by kernel_rfl) (fun _ _ _ h => h) rfl ?_ ?_
              rotate_left
              · (intro w'; go_simp; try with_reducible rfl)
              try simp only [Act.put, List.getElem_toArray, List.getElem_cons_succ, List.getElem_cons_zero, List.setIfInBounds_toArray, List.set_cons_zero, List.set_cons_succ]
              refine AnyG.takeP (i := 1) (v := ?_) rfl (by kernel_rfl) (fun _ _ _ h => h) rfl ?_ ?_
              rotate_left
              · (intro w'; go_simp; try with_reducible rfl)
              try simp only [Act.put, List.getElem_toArray, List.getElem_cons_succ, List.getElem_cons_zero, List.setIfInBounds_toArray, List.set_cons_zero, List.set_cons_succ]
              refine AnyG.takeP (i := 3) (v := ?_) rfl (by kernel_rfl) (fun _ _ _ h => h) rfl ?_ ?_
              rotate_left
              · (intro w'; go_simp; try with_reducible rfl)
              try simp only [Act.put, List.getElem_toArray, List.getElem_cons_succ, List.getElem_cons_zero, List.setIfInBounds_toArray, List.set_cons_zero, List.set_cons_succ]
              refine AnyG.takeP (i := 7) (v := ?_) rfl (by kernel_rfl) (fun _ _ _ h => h) rfl ?_ ?_
              rotate_left
              · (intro w'; go_simp; try with_reducible rfl)
              try simp only [Act.put, List.getElem_toArray, List.getElem_cons_succ, List.getElem_cons_zero, List.setIfInBounds_toArray, List.set_cons_zero, List.set_cons_succ]
              refine AnyG.takeP (i := 13) (v := ?_) rfl (by kernel_rfl) (fun _ _ _ h => h) rfl ?_ ?_
              rotate_left
              · (intro w'; go_simp; try with_reducible rfl)
              try simp only [Act.put, List.getElem_toArray, List.getElem_cons_succ, List.getElem_cons_zero, List.setIfInBounds_toArray, List.set_cons_zero, List.set_cons_succ]
              refine AnyG.takeP (i := 14) (v := ?_) rfl (by kernel_rfl) (fun _ _ _ h => h) rfl ?_ ?_
              rotate_left
              · (intro w'; go_simp; try with_reducible rfl)
              try simp only [Act.put, List.getElem_toArray, List.getElem_cons_succ, List.getElem_cons_zero, List.setIfInBounds_toArray, List.set_cons_zero, List.set_cons_succ]
              refine AnyG.takeP (i := 16) (v := ?_) rfl (by kernel_rfl) (fun _ _ _ h => h) rfl ?_ ?_
              rotate_left
              · (intro w'; go_simp; try with_reducible rfl)
              try simp only [Act.put, List.getElem_toArray, List.getElem_cons_succ, List.getElem_cons_zero, List.setIfInBounds_toArray, List.set_cons_zero, List.set_cons_succ]
              refine AnyG.takeP (i := 20) (v := ?_) rfl (by kernel_rfl) (fun _ _ _ h => h) rfl ?_ ?_
              rotate_left
              · (intro w'; go_simp; try with_reducible rfl)
              try simp only [Act.put, List.getElem_toArray, List.getElem_cons_succ, List.getElem_cons_zero, List.setIfInBounds_toArray, List.set_cons_zero, List.set_cons_succ]
              refine AnyG.enter (fun w' : World => Below U.heap.size U w') (fun i => true) ?_
              have hS : (fun w' : World => Below U.heap.size U w') (wr.drew) := hBe.drew
              try dsimp only at hS
              replace oa := oa.drew
              replace ob := ob.drew
              obtain ⟨y0, hy0⟩ : ∃ y, wr.drew = y := ⟨_, rfl⟩
              rw [hy0] at hS oa ob ⊢
              clear hy0
              refine AnyG.takeC (i := 2) (v := ?_) rfl (by kernel_rfl) (fun _ _ _ h => h) rfl ?_ hS ?_
              rotate_left
              · (intro w' hSw; (try dsimp only at hSw); obtain ⟨l0, l1, l2, l3, lf2, lz⟩ := (kV.call (hVU.trans (hSw.mono hVU.size))).four; go_simp; try with_reducible rfl)
              try simp only [Act.put, List.getElem_toArray, List.getElem_cons_succ, List.getElem_cons_zero, List.setIfInBounds_toArray, List.set_cons_zero, List.set_cons_succ]
              refine AnyG.takeC (i := 4) (v := ?_) rfl (by kernel_rfl) (fun _ _ _ h => h) rfl ?_ hS ?_
              rotate_left
              · (intro w' hSw; (try dsimp only at hSw); go_simp; try with_reducible rfl)
              try simp only [Act.put, List.getElem_toArray, List.getElem_cons_succ, List.getElem_cons_zero, List.setIfInBounds_toArray, List.set_cons_zero, List.set_cons_succ]
              refine AnyG.takeC (i := 5) (v := ?_) rfl (by kernel_rfl) (fun _ _ _ h => h) rfl ?_ hS ?_
              rotate_left
              · (intro w' hSw; (try dsimp only at hSw); go_simp; try with_reducible rfl)
              try simp only [Act.put, List.getElem_toArray, List.getElem_cons_succ, List.getElem_cons_zero, List.setIfInBounds_toArray, List.set_cons_zero, List.set_cons_succ]
              refine AnyG.takeC (i := 6) (v := ?_) rfl (by kernel_rfl) (fun _ _ _ h => h) rfl ?_ hS ?_
              rotate_left
              · (intro w' hSw; (try dsimp only at hSw); have q := cellC (hVU.trans (hSw.mono hVU.size)) p0; go_simp; try with_reducible rfl)
              try simp only [Act.put, List.getElem_toArray, List.getElem_cons_succ, List.getElem_cons_zero, List.setIfInBounds_toArray, List.set_cons_zero, List.set_cons_succ]
              refine AnyG.takeC (i := 8) (v := ?_) rfl (by kernel_rfl) (fun _ _ _ h => h) rfl ?_ hS ?_
              rotate_left
              · (intro w' hSw; (try dsimp only at hSw); go_simp; try with_reducible rfl)
              try simp only [Act.put, List.getElem_toArray, List.getElem_cons_succ, List.getElem_cons_zero, List.setIfInBounds_toArray, List.set_cons_zero, List.set_cons_succ]
              refine AnyG.takeC (i := 9) (v := ?_) rfl (by kernel_rfl) (fun _ _ _ h => h) rfl ?_ hS ?_
              rotate_left
              · (intro w' hSw; (try dsimp only at hSw); go_simp; try with_reducible rfl)
              try simp only [Act.put, List.getElem_toArray, List.getElem_cons_succ, List.getElem_cons_zero, List.setIfInBounds_toArray, List.set_cons_zero, List.set_cons_succ]
              refine AnyG.takeC (i := 10) (v := ?_) rfl (by kernel_rfl) (fun _ _ _ h => h) rfl ?_ hS ?_
              rotate_left
              · (intro w' hSw; (try dsimp only at hSw); have q := cellC (hVU.trans (hSw.mono hVU.size)) g0; go_simp; try with_reducible rfl)
              try simp only [Act.put, List.getElem_toArray, List.getElem_cons_succ, List.getElem_cons_zero, List.setIfInBounds_toArray, List.set_cons_zero, List.set_cons_succ]
              refine AnyG.takeC (i := 15) (v := ?_) rfl (by kernel_rfl) (fun _ _ _ h => h) rfl ?_ hS ?_
              rotate_left
              · (intro w' hSw; (try dsimp only at hSw); obtain ⟨l0, l1, l2, l3, lf2, lz⟩ := (kV.call (hVU.trans (hSw.mono hVU.size))).four; go_simp; try with_reducible rfl)
              try simp only [Act.put, List.getElem_toArray, List.getElem_cons_succ, List.getElem_cons_zero, List.setIfInBounds_toArray, List.set_cons_zero, List.set_cons_succ]
              refine AnyG.takeC (i := 17) (v := ?_) rfl (by kernel_rfl) (fun _ _ _ h => h) rfl ?_ hS ?_
              rotate_left
              · (intro w' hSw; (try dsimp only at hSw); go_simp; try with_reducible rfl)
              try simp only [Act.put, List.getElem_toArray, List.getElem_cons_succ, List.getElem_cons_zero, List.setIfInBounds_toArray, List.set_cons_zero, List.set_cons_succ]
              refine AnyG.takeC (i := 18) (v := ?_) rfl (by kernel_rfl) (fun _ _ _ h => h) rfl ?_ hS ?_
              rotate_left
              · (intro w' hSw; (try dsimp only at hSw); go_simp; try with_reducible rfl)
              try simp only [Act.put, List.getElem_toArray, List.getElem_cons_succ, List.getElem_cons_zero, List.setIfInBounds_toArray, List.set_cons_zero, List.set_cons_succ]
              refine AnyG.takeC (i := 19) (v := ?_) rfl (by kernel_rfl) (fun _ _ _ h => h) rfl ?_ hS ?_
              rotate_left
              · (intro w' hSw; (try dsimp only at hSw); have q := cellC (hVU.trans (hSw.mono hVU.size)) p0; go_simp; try with_reducible rfl)
              try simp only [Act.put, List.getElem_toArray, List.getElem_cons_succ, List.getElem_cons_zero, List.setIfInBounds_toArray, List.set_cons_zero, List.set_cons_succ]
              refine AnyG.takeC (i := 21) (v := ?_) rfl (by kernel_rfl) (fun _ _ _ h => h) rfl ?_ hS ?_
              rotate_left
              · (intro w' hSw; (try dsimp only at hSw); go_simp; try with_reducible rfl)
              try simp only [Act.put, List.getElem_toArray, List.getElem_cons_succ, List.getElem_cons_zero, List.setIfInBounds_toArray, List.set_cons_zero, List.set_cons_succ]
              refine AnyG.takeC (i := 22) (v := ?_) rfl (by kernel_rfl) (fun _ _ _ h => h) rfl ?_ hS ?_
              rotate_left
              · (intro w' hSw; (try dsimp only at hSw); go_simp; try with_reducible rfl)
              try simp only [Act.put, List.getElem_toArray, List.getElem_cons_succ, List.getElem_cons_zero, List.setIfInBounds_toArray, List.set_cons_zero, List.set_cons_succ]
              refine AnyG.takeC (i := 23) (v := ?_) rfl (by kernel_rfl) (fun _ _ _ h => h) rfl ?_ hS ?_
              rotate_left
              · (intro w' hSw; (try dsimp only at hSw); have q := cellC (hVU.trans (hSw.mono hVU.size)) g1; go_simp; try with_reducible rfl)
              try simp only [Act.put, List.getElem_toArray, List.getElem_cons_succ, List.getElem_cons_zero, List.setIfInBounds_toArray, List.set_cons_zero, List.set_cons_succ]
              refine AnyG.all (rs := [11, 24]) (by kernel_rfl) (by simp) ?_
              intro ii hii
              simp only [List.mem_cons, List.not_mem_nil, or_false] at hii
              rcases hii with rfl | rfl
              · refine ⟨_, rfl, rfl, ?_⟩
                have oa_0 := oa
                have ob_0 := ob
                go_simp
                replace oa := oa.alloc (.cells #[.int .i64 x1] 3)
                replace ob := ob.alloc (.cells #[.int .i64 x1] 3)
                have k11 := Bx.new y0 3 #[.int .i64 x1]
                have hT := hS.alloc hS.size (.cells #[.int .i64 x1] 3)
                obtain ⟨ya, hy⟩ : ∃ x, y0.alloc (.cells #[.int .i64 x1] 3) = x := ⟨_, rfl⟩
                rw [hy] at oa ob k11 hT ⊢
                obtain ⟨bk11, hbq⟩ : ∃ p, y0.heap.size = p := ⟨_, rfl⟩
                have ak11_oa : some y0.heap.size ≠ (Value.slice RA j RC).ownBlock := fun h => by have := (oa_0.lt _ h.symm).2; omega
                have ak11_ob : some y0.heap.size ≠ (Value.slice QA j QC).ownBlock := fun h => by have := (ob_0.lt _ h.symm).2; omega
                rw [hbq] at k11 ak11_oa ak11_ob ⊢
                clear hy hbq oa_0 ob_0
                have hSn := hT
                clear hS
                refine Onward.on hSn (fun hS => ?_)
                try dsimp only at hS
                clear hSn
                try simp only [Act.put, List.getElem_toArray, List.getElem_cons_succ, List.getElem_cons_zero, List.setIfInBounds_toArray, List.set_cons_zero, List.set_cons_succ]
                refine AnyG.all (rs := [12, 24]) (by kernel_rfl) (by simp) ?_
                intro ii hii
                simp only [List.mem_cons, List.not_mem_nil, or_false] at hii
                rcases hii with rfl | rfl
                · refine ⟨_, rfl, rfl, ?_⟩
                  have obo := ob
                  refine wp_app2 (.tmp 49) (.tmp 60) 22 rfl U.heap.size 3 i3 _ 1 8 Try.underlying22 hi3 hz3 hs3 iy3 rfl (by decide) (.slice RA j RC) j xa (by simp [Act.eval]) oa ⟨bk11, 0, none⟩ 1 1 [.int .i64 x1] (by simp [Act.eval]) rfl (bx_news k11) (by simp [Value.oneCell']) (by unfold maxLen; omega) (by omega) hS.size ?_
                  intro v12 yc na g12 x12 r12
                  obtain ⟨NA, NC, rfl⟩ := own_shape na
                  clear x12
                  replace ob := ob.kept g12 (apart_symm hab)
                  have hab2 : (Value.slice NA (j + 1) NC).ownBlock = none ∨ (Value.slice NA (j + 1) NC).ownBlock ≠ (Value.slice QA j QC).ownBlock := by
                    rcases r12 with h | h
                    · rw [h]; exact hab
                    · cases h6 : (Value.slice NA (j + 1) NC).ownBlock with
                      | none => exact .inl rfl
                      | some q => exact .inr fun h7 => by have := h q h6; have := (obo.lt q h7.symm).2; omega
                  clear obo
                  have hSn := hS.grown g12 hS.size (fun q e => (oa.lt q e).1)
                  clear hS
                  refine Onward.on hSn (fun hS => ?_)
                  try dsimp only at hS
                  clear hSn
                  try simp only [Act.put, List.getElem_toArray, List.getElem_cons_succ, List.getElem_cons_zero, List.setIfInBounds_toArray, List.set_cons_zero, List.set_cons_succ]
                  refine AnyG.one (i := 24) (by kernel_rfl) rfl rfl ?_
                  have ob_0 := ob
                  have na_0 := na
                  go_simp
                  replace ob := ob.alloc (.cells #[.int .i64 x2] 3)
                  replace na := na.alloc (.cells #[.int .i64 x2] 3)
                  have k24 := Bx.new yc 3 #[.int .i64 x2]
                  have hT := hS.alloc hS.size (.cells #[.int .i64 x2] 3)
                  obtain ⟨yb, hy⟩ : ∃ x, yc.alloc (.cells #[.int .i64 x2] 3) = x := ⟨_, rfl⟩
                  rw [hy] at ob na k24 hT ⊢
                  obtain ⟨bk24, hbq⟩ : ∃ p, yc.heap.size = p := ⟨_, rfl⟩
                  have ak24_ob : some yc.heap.size ≠ (Value.slice QA j QC).ownBlock := fun h => by have := (ob_0.lt _ h.symm).2; omega
                  have ak24_na : some yc.heap.size ≠ (Value.slice NA (j + 1) NC).ownBlock := fun h => by have := (na_0.lt _ h.symm).2; omega
                  rw [hbq] at k24 ak24_ob ak24_na ⊢
                  clear hy hbq ob_0 na_0
                  have hSn := hT
                  clear hS
                  refine Onward.on hSn (fun hS => ?_)
                  try dsimp only at hS
                  clear hSn
                  try simp only [Act.put, List.getElem_toArray, List.getElem_cons_succ, List.getElem_cons_zero, List.setIfInBounds_toArray, List.set_cons_zero, List.set_cons_succ]
                  refine AnyG.one (i := 25) (by kernel_rfl) rfl rfl ?_
                  have nao := na
                  refine wp_app2 (.tmp 62) (.tmp 73) 22 rfl U.heap.size 3 i3 _ 1 8 Try.underlying22 hi3 hz3 hs3 iy3 rfl (by decide) (.slice QA j QC) j xb (by simp [Act.eval]) ob ⟨bk24, 0, none⟩ 1 1 [.int .i64 x2] (by simp [Act.eval]) rfl (bx_news k24) (by simp [Value.oneCell']) (by unfold maxLen; omega) (by omega) hS.size ?_
                  intro v25 yd nb g25 x25 r25
                  obtain ⟨PA, PC, rfl⟩ := own_shape nb
                  clear x25
                  replace na := na.kept g25 hab2
                  have hab3 : (Value.slice NA (j + 1) NC).ownBlock = none ∨ (Value.slice NA (j + 1) NC).ownBlock ≠ (Value.slice PA (j + 1) PC).ownBlock := by
                    rcases r25 with h | h
                    · rw [h]; exact hab2
                    · cases h6 : (Value.slice NA (j + 1) NC).ownBlock with
                      | none => exact .inl rfl
                      | some q => exact .inr fun h7 => by have := h q h7.symm; have := (nao.lt q h6).2; omega
                  have hSn := hS.grown g25 hS.size (fun q e => (ob.lt q e).1)
                  clear hS
                  refine Onward.on hSn (fun hS => ?_)
                  try dsimp only at hS
                  clear hSn
                  try simp only [Act.put, List.getElem_toArray, List.getElem_cons_succ, List.getElem_cons_zero, List.setIfInBounds_toArray, List.set_cons_zero, List.set_cons_succ]
                  refine AnyG.one (i := 26) (by kernel_rfl) rfl rfl ?_
                  go_simp
                  refine Onward.on hS (fun hS2 => ?_)
                  clear hS2
                  try simp only [Act.put, List.getElem_toArray, List.getElem_cons_succ, List.getElem_cons_zero, List.setIfInBounds_toArray, List.set_cons_zero, List.set_cons_succ]
                  refine AnyG.one (i := 27) (by kernel_rfl) rfl rfl ?_
                  go_simp
                  refine Onward.on hS (fun hS2 => ?_)
                  clear hS2
                  try simp only [Act.put, List.getElem_toArray, List.getElem_cons_succ, List.getElem_cons_zero, List.setIfInBounds_toArray, List.set_cons_zero, List.set_cons_succ]
                  refine AnyG.done (by kernel_rfl) ?_ _
                  go_simp
                  go_wp2_with fail
                  go_roundw
                  case rel =>
                    refine ⟨j + 1, by go_num, by omega, ?_, ?_, hab3, hS⟩
                    · rw [rowOf_succ, inr_snoc, HXA.out.1, HX.out.1]; exact na
                    · rw [rowOf_succ, inr_snoc, HXA.out.2, HX.out.2]; exact nb
                  case measure => simp [intOf]; omega
                · refine ⟨_, rfl, rfl, ?_⟩
                  have oa_0 := oa
                  have ob_0 := ob
                  go_simp
                  replace oa := oa.alloc (.cells #[.int .i64 x2] 3)
                  replace ob := ob.alloc (.cells #[.int .i64 x2] 3)
                  replace k11 := k11.alloc (.cells #[.int .i64 x2] 3)
                  have k24 := Bx.new ya 3 #[.int .i64 x2]
                  have hT := hS.alloc hS.size (.cells #[.int .i64 x2] 3)
                  obtain ⟨yb, hy⟩ : ∃ x, ya.alloc (.cells #[.int .i64 x2] 3) = x := ⟨_, rfl⟩
                  rw [hy] at oa ob k11 k24 hT ⊢
                  obtain ⟨bk24, hbq⟩ : ∃ p, ya.heap.size = p := ⟨_, rfl⟩
                  have ak24_oa : some ya.heap.size ≠ (Value.slice RA j RC).ownBlock := fun h => by have := (oa_0.lt _ h.symm).2; omega
                  have ak24_ob : some ya.heap.size ≠ (Value.slice QA j QC).ownBlock := fun h => by have := (ob_0.lt _ h.symm).2; omega
                  rw [hbq] at k24 ak24_oa ak24_ob ⊢
                  clear hy hbq oa_0 ob_0
                  have hSn := hT
                  clear hS
                  refine Onward.on hSn (fun hS => ?_)
                  try dsimp only at hS
                  clear hSn
                  try simp only [Act.put, List.getElem_toArray, List.getElem_cons_succ, List.getElem_cons_zero, List.setIfInBounds_toArray, List.set_cons_zero, List.set_cons_succ]
                  refine AnyG.one (i := 12) (by kernel_rfl) rfl rfl ?_
                  have obo := ob
                  refine wp_app2 (.tmp 49) (.tmp 60) 22 rfl U.heap.size 3 i3 _ 1 8 Try.underlying22 hi3 hz3 hs3 iy3 rfl (by decide) (.slice RA j RC) j xa (by simp [Act.eval]) oa ⟨bk11, 0, none⟩ 1 1 [.int .i64 x1] (by simp [Act.eval]) rfl (bx_news k11) (by simp [Value.oneCell']) (by unfold maxLen; omega) (by omega) hS.size ?_
                  intro v12 yc na g12 x12 r12
                  obtain ⟨NA, NC, rfl⟩ := own_shape na
                  clear x12
                  replace ob := ob.kept g12 (apart_symm hab)
                  replace k24 := k24.grown g12 ak24_oa
                  have hab2 : (Value.slice NA (j + 1) NC).ownBlock = none ∨ (Value.slice NA (j + 1) NC).ownBlock ≠ (Value.slice QA j QC).ownBlock := by
                    rcases r12 with h | h
                    · rw [h]; exact hab
                    · cases h6 : (Value.slice NA (j + 1) NC).ownBlock with
                      | none => exact .inl rfl
                      | some q => exact .inr fun h7 => by have := h q h6; have := (obo.lt q h7.symm).2; omega
                  clear obo
                  have hSn := hS.grown g12 hS.size (fun q e => (oa.lt q e).1)
                  clear hS
                  refine Onward.on hSn (fun hS => ?_)
                  try dsimp only at hS
                  clear hSn
                  try simp only [Act.put, List.getElem_toArray, List.getElem_cons_succ, List.getElem_cons_zero, List.setIfInBounds_toArray, List.set_cons_zero, List.set_cons_succ]
                  refine AnyG.one (i := 25) (by kernel_rfl) rfl rfl ?_
                  have nao := na
                  refine wp_app2 (.tmp 62) (.tmp 73) 22 rfl U.heap.size 3 i3 _ 1 8 Try.underlying22 hi3 hz3 hs3 iy3 rfl (by decide) (.slice QA j QC) j xb (by simp [Act.eval]) ob ⟨bk24, 0, none⟩ 1 1 [.int .i64 x2] (by simp [Act.eval]) rfl (bx_news k24) (by simp [Value.oneCell']) (by unfold maxLen; omega) (by omega) hS.size ?_
                  intro v25 yd nb g25 x25 r25
                  obtain ⟨PA, PC, rfl⟩ := own_shape nb
                  clear x25
                  replace na := na.kept g25 hab2
                  have hab3 : (Value.slice NA (j + 1) NC).ownBlock = none ∨ (Value.slice NA (j + 1) NC).ownBlock ≠ (Value.slice PA (j + 1) PC).ownBlock := by
                    rcases r25 with h | h
                    · rw [h]; exact hab2
                    · cases h6 : (Value.slice NA (j + 1) NC).ownBlock with
                      | none => exact .inl rfl
                      | some q => exact .inr fun h7 => by have := h q h7.symm; have := (nao.lt q h6).2; omega
                  have hSn := hS.grown g25 hS.size (fun q e => (ob.lt q e).1)
                  clear hS
                  refine Onward.on hSn (fun hS => ?_)
                  try dsimp only at hS
                  clear hSn
                  try simp only [Act.put, List.getElem_toArray, List.getElem_cons_succ, List.getElem_cons_zero, List.setIfInBounds_toArray, List.set_cons_zero, List.set_cons_succ]
                  refine AnyG.one (i := 26) (by kernel_rfl) rfl rfl ?_
                  go_simp
                  refine Onward.on hS (fun hS2 => ?_)
                  clear hS2
                  try simp only [Act.put, List.getElem_toArray, List.getElem_cons_succ, List.getElem_cons_zero, List.setIfInBounds_toArray, List.set_cons_zero, List.set_cons_succ]
                  refine AnyG.one (i := 27) (by kernel_rfl) rfl rfl ?_
                  go_simp
                  refine Onward.on hS (fun hS2 => ?_)
                  clear hS2
                  try simp only [Act.put, List.getElem_toArray, List.getElem_cons_succ, List.getElem_cons_zero, List.setIfInBounds_toArray, List.set_cons_zero, List.set_cons_succ]
                  refine AnyG.done (by kernel_rfl) ?_ _
                  go_simp
                  go_wp2_with fail
                  go_roundw
                  case rel =>
                    refine ⟨j + 1, by go_num, by omega, ?_, ?_, hab3, hS⟩
                    · rw [rowOf_succ, inr_snoc, HXA.out.1, HX.out.1]; exact na
                    · rw [rowOf_succ, inr_snoc, HXA.out.2, HX.out.2]; exact nb
                  case measure => simp [intOf]; omega
              · refine ⟨_, rfl, rfl, ?_⟩
                have oa_0 := oa
                have ob_0 := ob
                go_simp
                replace oa := oa.alloc (.cells #[.int .i64 x2] 3)
                replace ob := ob.alloc (.cells #[.int .i64 x2] 3)
                have k24 := Bx.new y0 3 #[.int .i64 x2]
                have hT := hS.alloc hS.size (.cells #[.int .i64 x2] 3)
                obtain ⟨yb, hy⟩ : ∃ x, y0.alloc (.cells #[.int .i64 x2] 3) = x := ⟨_, rfl⟩
                rw [hy] at oa ob k24 hT ⊢
                obtain ⟨bk24, hbq⟩ : ∃ p, y0.heap.size = p := ⟨_, rfl⟩
                have ak24_oa : some y0.heap.size ≠ (Value.slice RA j RC).ownBlock := fun h => by have := (oa_0.lt _ h.symm).2; omega
                have ak24_ob : some y0.heap.size ≠ (Value.slice QA j QC).ownBlock := fun h => by have := (ob_0.lt _ h.symm).2; omega
                rw [hbq] at k24 ak24_oa ak24_ob ⊢
                clear hy hbq oa_0 ob_0
                have hSn := hT
                clear hS
                refine Onward.on hSn (fun hS => ?_)
                try dsimp only at hS
                clear hSn
                try simp only [Act.put, List.getElem_toArray, List.getElem_cons_succ, List.getElem_cons_zero, List.setIfInBounds_toArray, List.set_cons_zero, List.set_cons_succ]
                refine AnyG.one (i := 11) (by kernel_rfl) rfl rfl ?_
                have oa_0 := oa
                have ob_0 := ob
                go_simp
                replace oa := oa.alloc (.cells #[.int .i64 x1] 3)
                replace ob := ob.alloc (.cells #[.int .i64 x1] 3)
                replace k24 := k24.alloc (.cells #[.int .i64 x1] 3)
                have k11 := Bx.new yb 3 #[.int .i64 x1]
                have hT := hS.alloc hS.size (.cells #[.int .i64 x1] 3)
                obtain ⟨ya, hy⟩ : ∃ x, yb.alloc (.cells #[.int .i64 x1] 3) = x := ⟨_, rfl⟩
                rw [hy] at oa ob k24 k11 hT ⊢
                obtain ⟨bk11, hbq⟩ : ∃ p, yb.heap.size = p := ⟨_, rfl⟩
                have ak11_oa : some yb.heap.size ≠ (Value.slice RA j RC).ownBlock := fun h => by have := (oa_0.lt _ h.symm).2; omega
                have ak11_ob : some yb.heap.size ≠ (Value.slice QA j QC).ownBlock := fun h => by have := (ob_0.lt _ h.symm).2; omega
                rw [hbq] at k11 ak11_oa ak11_ob ⊢
                clear hy hbq oa_0 ob_0
                have hSn := hT
                clear hS
                refine Onward.on hSn (fun hS => ?_)
                try dsimp only at hS
                clear hSn
                try simp only [Act.put, List.getElem_toArray, List.getElem_cons_succ, List.getElem_cons_zero, List.setIfInBounds_toArray, List.set_cons_zero, List.set_cons_succ]
                refine AnyG.one (i := 12) (by kernel_rfl) rfl rfl ?_
                have obo := ob
                refine wp_app2 (.tmp 49) (.tmp 60) 22 rfl U.heap.size 3 i3 _ 1 8 Try.underlying22 hi3 hz3 hs3 iy3 rfl (by decide) (.slice RA j RC) j xa (by simp [Act.eval]) oa ⟨bk11, 0, none⟩ 1 1 [.int .i64 x1] (by simp [Act.eval]) rfl (bx_news k11) (by simp [Value.oneCell']) (by unfold maxLen; omega) (by omega) hS.size ?_
                intro v12 yc na g12 x12 r12
                obtain ⟨NA, NC, rfl⟩ := own_shape na
                clear x12
                replace ob := ob.kept g12 (apart_symm hab)
                replace k24 := k24.grown g12 ak24_oa
                have hab2 : (Value.slice NA (j + 1) NC).ownBlock = none ∨ (Value.slice NA (j + 1) NC).ownBlock ≠ (Value.slice QA j QC).ownBlock := by
                  rcases r12 with h | h
                  · rw [h]; exact hab
                  · cases h6 : (Value.slice NA (j + 1) NC).ownBlock with
                    | none => exact .inl rfl
                    | some q => exact .inr fun h7 => by have := h q h6; have := (obo.lt q h7.symm).2; omega
                clear obo
                have hSn := hS.grown g12 hS.size (fun q e => (oa.lt q e).1)
                clear hS
                refine Onward.on hSn (fun hS => ?_)
                try dsimp only at hS
                clear hSn
                try simp only [Act.put, List.getElem_toArray, List.getElem_cons_succ, List.getElem_cons_zero, List.setIfInBounds_toArray, List.set_cons_zero, List.set_cons_succ]
                refine AnyG.one (i := 25) (by kernel_rfl) rfl rfl ?_
                have nao := na
                refine wp_app2 (.tmp 62) (.tmp 73) 22 rfl U.heap.size 3 i3 _ 1 8 Try.underlying22 hi3 hz3 hs3 iy3 rfl (by decide) (.slice QA j QC) j xb (by simp [Act.eval]) ob ⟨bk24, 0, none⟩ 1 1 [.int .i64 x2] (by simp [Act.eval]) rfl (bx_news k24) (by simp [Value.oneCell']) (by unfold maxLen; omega) (by omega) hS.size ?_
                intro v25 yd nb g25 x25 r25
                obtain ⟨PA, PC, rfl⟩ := own_shape nb
                clear x25
                replace na := na.kept g25 hab2
                have hab3 : (Value.slice NA (j + 1) NC).ownBlock = none ∨ (Value.slice NA (j + 1) NC).ownBlock ≠ (Value.slice PA (j + 1) PC).ownBlock := by
                  rcases r25 with h | h
                  · rw [h]; exact hab2
                  · cases h6 : (Value.slice NA (j + 1) NC).ownBlock with
                    | none => exact .inl rfl
                    | some q => exact .inr fun h7 => by have := h q h7.symm; have := (nao.lt q h6).2; omega
                have hSn := hS.grown g25 hS.size (fun q e => (ob.lt q e).1)
                clear hS
                refine Onward.on hSn (fun hS => ?_)
                try dsimp only at hS
                clear hSn
                try simp only [Act.put, List.getElem_toArray, List.getElem_cons_succ, List.getElem_cons_zero, List.setIfInBounds_toArray, List.set_cons_zero, List.set_cons_succ]
                refine AnyG.one (i := 26) (by kernel_rfl) rfl rfl ?_
                go_simp
                refine Onward.on hS (fun hS2 => ?_)
                clear hS2
                try simp only [Act.put, List.getElem_toArray, List.getElem_cons_succ, List.getElem_cons_zero, List.setIfInBounds_toArray, List.set_cons_zero, List.set_cons_succ]
                refine AnyG.one (i := 27) (by kernel_rfl) rfl rfl ?_
                go_simp
                refine Onward.on hS (fun hS2 => ?_)
                clear hS2
                try simp only [Act.put, List.getElem_toArray, List.getElem_cons_succ, List.getElem_cons_zero, List.setIfInBounds_toArray, List.set_cons_zero, List.set_cons_succ]
                refine AnyG.done (by kernel_rfl) ?_ _
                go_simp
                go_wp2_with fail
                go_roundw
                case rel =>
                  refine ⟨j + 1, by go_num, by omega, ?_, ?_, hab3, hS⟩
                  · rw [rowOf_succ, inr_snoc, HXA.out.1, HX.out.1]; exact na
                  · rw [rowOf_succ, inr_snoc, HXA.out.2, HX.out.2]; exact nb
                case measure => simp [intOf]; omega
            · obtain rfl : j = ln := by omega
              have hUV := hVU.size
              have EW := HE.out.bel hBe
              have E1 := EW.bel ((Below.refl _ _).alloc (Nat.le_refl _) (.cells #[.slice RA j RC] 22))
              have k1 := Bx.new wr 22 #[.slice RA j RC]
              have oa1 := ownsRow_up (b' := V.heap.size) (oa.alloc (.cells #[.slice RA j RC] 22)) (fun q e => Nat.le_trans hUV (oa.lt q e).1)
              have ob1 := ownsRow_up (b' := V.heap.size) (ob.alloc (.cells #[.slice RA j RC] 22)) (fun q e => Nat.le_trans hUV (ob.lt q e).1)
              have hV1 := E1.hb.size
              have hlen1 : (lsOf (loRow o) b i ++ List.replicate k (loRow o i)).length ≤ 30 := by rw [List.length_append, lsOf_len, List.length_replicate]; omega
              have hlen2 : (lsOf (hiRow o) b i ++ List.replicate k (hiRow o i)).length ≤ 30 := by rw [List.length_append, lsOf_len, List.length_replicate]; omega
              obtain ⟨Ll, hLl⟩ : ∃ x, lsOf (loRow o) b i ++ List.replicate k (loRow o i) = x := ⟨_, rfl⟩
              obtain ⟨Lm, hLm⟩ : ∃ x, lsOf (hiRow o) b i ++ List.replicate k (hiRow o i) = x := ⟨_, rfl⟩
              rw [hLl] at hlen1 E1 HE HNL
              rw [hLm] at hlen2 E1 HE HNL
              have en1 := HNL.out.1
              have en2 := HNL.out.2
              subst en1 en2
              have HLS := Lib.hid (And.intro hLl hLm)
              clear hLl hLm EW
              go_wp2_with (first
                | (at_builtin; refine wpList_app2 rfl (.tmp 75) (.tmp 77) 34 rfl V.heap.size 22 i22 _ 1 24 Try.underlying34 hi22 hz22 hs22 iy22 rfl (by decide) (.slice LV Ll.length LC) Ll.length vl rfl E1.ol ⟨wr.heap.size, 0, none⟩ 1 1 [.slice RA j RC] rfl rfl (bx_news k1) (by simp [Value.oneCell']) (by unfold maxLen; omega) (by omega) (hV1) ?_; intro v1 z1 o1 o2 o3; obtain ⟨NA, NC, rfl⟩ := own_shape o1; have E2 := E1.left (rowOf_len _ _) oa1 o1 o2 o3; have ob2 := (ob1.kept o2 (own_ne ob1 E1.ol (by decide))).alloc (.cells #[.slice QA j QC] 22); have E3 := E2.bel ((Below.refl _ _).alloc (Nat.le_refl _) (.cells #[.slice QA j QC] 22)); have k2 := Bx.new z1 22 #[.slice QA j QC]; have hV2 := E3.hb.size)
                | (at_builtin; refine wpList_app2 rfl (.tmp 79) (.tmp 81) 34 rfl V.heap.size 22 i22 _ 1 24 Try.underlying34 hi22 hz22 hs22 iy22 rfl (by decide) (.slice MV Lm.length MC) Lm.length vm rfl E3.om ⟨z1.heap.size, 0, none⟩ 1 1 [.slice QA j QC] rfl rfl (bx_news k2) (by simp [Value.oneCell']) (by unfold maxLen; omega) (by omega) hV2 ?_; intro v2 z2 o4 o5 o6; obtain ⟨PA, PC, rfl⟩ := own_shape o4; have E4 := E3.right (rowOf_len _ _) ob2 o4 o5 o6)
                | fail)
              go_roundw
              case rel =>
                refine ⟨k + 1, vl ++ [.slice RA j RC], vm ++ [.slice QA j QC], by go_num, by omega, ?_⟩
                rw [ls_snoc, ls_snoc, HLS.out.1, HLS.out.2]
                unfold loRow hiRow
                rw [HLN.out]
                exact E4
              case measure => simp [intOf]; omega
        · obtain rfl : bi = k := by omega
          go_wp2_with fail
          go_roundw
          case rel =>
            refine ⟨i + 1, vl, vm, by go_num, by omega, ?_⟩
            have e : (b i).toNat = k := by rw [HBI.out]; simp
            simp only [lsOf, e]
            rw [HNL.out.1, HNL.out.2] at E
            exact E
          case measure => simp [intOf]; omega
    · obtain rfl : i = bn := by omega
      obtain ⟨LV, LC, rfl⟩ := own_shape E.ol
      obtain ⟨MV, MC, rfl⟩ := own_shape E.om
      have lsL := E.bl.at_ E.ol
      have lsM := E.bm.at_ E.om
      have hVW := E.hb
      have eL := lsOf_len (loRow o) b i
      have eM := lsOf_len (hiRow o) b i
      skip
      have hkl := kept_least HOK.out HSIX.out (gm := gmOf (lsOf (loRow o) b i)) (fun i' t j h1 h2 h3 => gmOf_rows (o := o) (f := fun i j => (o.bn i).g1 j) (by rw [← HBN.out]; exact h1) h2 h3)
      have hkm := kept_most HOK.out HSIX.out (gm := gmOf (lsOf (hiRow o) b i)) (fun i' t j h1 h2 h3 => gmOf_rows (o := o) (f := fun i j => (o.bn i).g2 j) (by rw [← HBN.out]; exact h1) h2 h3)
      rw [HKV.out, HLN.out] at hkl hkm
      have rL : ∀ r ∈ lsOf (loRow o) b i, r.length = ln ∧ ∀ x ∈ r, 0 ≤ x ∧ x ≤ 1000000 := fun r hr => by
        obtain ⟨i2, hi2, rfl⟩ := lsOf_mem _ _ hr
        refine ⟨by unfold loRow; rw [rowOf_len, HLN.out], fun x hx => ?_⟩
        obtain ⟨j, _, rfl⟩ := List.mem_map.1 hx
        have := (HOK.out.bn (i := i2) (by rw [HBN.out]; exact hi2)).gj j; omega
      have rM : ∀ r ∈ lsOf (hiRow o) b i, r.length = ln ∧ ∀ x ∈ r, 0 ≤ x ∧ x ≤ 1000000 := fun r hr => by
        obtain ⟨i2, hi2, rfl⟩ := lsOf_mem _ _ hr
        refine ⟨by unfold hiRow; rw [rowOf_len, HLN.out], fun x hx => ?_⟩
        obtain ⟨j, _, rfl⟩ := List.mem_map.1 hx
        have := (HOK.out.bn (i := i2) (by rw [HBN.out]; exact hi2)).gj j; omega
      have hk3 : kvv = 1 ∨ kvv = 2 ∨ kvv = 3 := by rw [← HKV.out]; unfold kv; split; exact .inr (.inl rfl); split; exact .inr (.inr rfl); exact .inl rfl
      have CM := fun x (hx : Below wr.heap.size wr x) => kept_any LA ln lc BA i bc o SA i sc BL MV (lsOf (hiRow o) b i).length MC (lsOf (hiRow o) b i) x HLN.out HBN.out ((hOV.call hVW).call hx) HBL.out ((hSV.call hVW).call hx) HZ.out (lsM.call hx) rfl (by rw [HB.out]; exact eM.symm) rM
      have CL := fun x (hx : Below wr.heap.size wr x) => kept_any LA ln lc BA i bc o SA i sc BL LV (lsOf (loRow o) b i).length LC (lsOf (loRow o) b i) x HLN.out HBN.out ((hOV.call hVW).call hx) HBL.out ((hSV.call hVW).call hx) HZ.out (lsL.call hx) rfl (by rw [HB.out]; exact eL.symm) rL
      rw [HB.out] at CM CL
      obtain ⟨tm, htm⟩ : ∃ t, kept o b (gmOf (lsOf (hiRow o) b i)) ln = t := ⟨_, rfl⟩
      obtain ⟨tl, htl⟩ : ∃ t, kept o b (gmOf (lsOf (loRow o) b i)) ln = t := ⟨_, rfl⟩
      rw [htm] at CM hkm
      rw [htl] at CL hkl
      have KW := kV.call hVW
      have HCM := Lib.hid CM
      have HCL := Lib.hid CL
      obtain ⟨l0, l1, l2, l3, lf', lz⟩ := KW.four
      have hBW := hBV.trans (hVW.mono hBV.size)
      clear lsL lsM E hOV hSV kV CM CL htm htl rL rM eL eM
      rcases hk3 with rfl | rfl | rfl
      · obtain rfl : tm = true := hkm.2 rfl
        obtain rfl : tl = true := by cases tl with | true => rfl | false => exact absurd (hkl.1 rfl) (by decide)
        go_wp2_with (first | (go_at_call 17; first | (have _t := h1q; clear _t; refine (HCL.out _ h1q).mono ?_; rintro e z2 ⟨rfl, hq2⟩; have h2q := h1q.trans (hq2.mono h1q.size)) | (refine (HCM.out _ (Below.refl _ _)).mono ?_; rintro e z1 ⟨rfl, h1q⟩; clear l0 l1 l2 l3 lf' lz; obtain ⟨l0, l1, l2, l3, lf', lz⟩ := (KW.call h1q).four)) | (go_at_call 19; refine (alive_any _).mono ?_; rintro e z3 ⟨rfl, hq3⟩; have h3q := h2q.trans (hq3.mono h2q.size)) | fail)
        go_ret
        exact ⟨rfl, hBW.trans (h3q.mono hBW.size)⟩
      · obtain rfl : tm = false := by cases tm with | false => rfl | true => exact absurd (hkm.1 rfl) (by decide)
        obtain rfl : tl = false := hkl.2 rfl
        go_wp2_with (first | (go_at_call 17; first | (have _t := h1q; clear _t; refine (HCL.out _ h1q).mono ?_; rintro e z2 ⟨rfl, hq2⟩; have h2q := h1q.trans (hq2.mono h1q.size)) | (refine (HCM.out _ (Below.refl _ _)).mono ?_; rintro e z1 ⟨rfl, h1q⟩; clear l0 l1 l2 l3 lf' lz; obtain ⟨l0, l1, l2, l3, lf', lz⟩ := (KW.call h1q).four)) | (go_at_call 19; refine (alive_any _).mono ?_; rintro e z3 ⟨rfl, hq3⟩; have h3q := h2q.trans (hq3.mono h2q.size)) | fail)
        go_ret
        exact ⟨rfl, hBW.trans (h3q.mono hBW.size)⟩
      · obtain rfl : tm = false := by cases tm with | false => rfl | true => exact absurd (hkm.1 rfl) (by decide)
        obtain rfl : tl = true := by cases tl with | true => rfl | false => exact absurd (hkl.1 rfl) (by decide)
        go_wp2_with (first | (go_at_call 17; first | (have _t := h1q; clear _t; refine (HCL.out _ h1q).mono ?_; rintro e z2 ⟨rfl, hq2⟩; have h2q := h1q.trans (hq2.mono h1q.size)) | (refine (HCM.out _ (Below.refl _ _)).mono ?_; rintro e z1 ⟨rfl, h1q⟩; clear l0 l1 l2 l3 lf' lz; obtain ⟨l0, l1, l2, l3, lf', lz⟩ := (KW.call h1q).four)) | (go_at_call 19; refine (alive_any _).mono ?_; rintro e z3 ⟨rfl, hq3⟩; have h3q := h2q.trans (hq3.mono h2q.size)) | fail)
        go_ret
        exact ⟨rfl, hBW.trans (h3q.mono hBW.size)⟩
end Go.Proofs.Ytmemcopfeabcgaa
