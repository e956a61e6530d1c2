/- voyage, with its blocks. -/
import Derived.Test.YtdlohfglmagneaaDoorNb
import Derived.Test.YtdlohfglmagneaaDoorWs
set_option linter.unusedSimpArgs false
set_option linter.unusedVariables false
namespace Go.Proofs.YtdlohfglmagneaaDoor
open Go Go.RowKit
def exP (bh bs bl : Nat) : Vp := ⟨some ⟨bh, 0, none⟩, 2, 2, some ⟨bs, 0, none⟩, 2, 2, some ⟨bl, 0, none⟩, 3, 3⟩
def exH : Array Value := #[.int .i64 400, .int .i64 2000, .int .i64 500, .int .i64 400, .int .i64 500, .int .i64 2000]
def exL1 : Array Value := #[.int .i64 0, .int .i64 1600, .int .i64 1650]
def exL2 : Array Value := #[.int .i64 0, .int .i64 1300, .int .i64 1350, .int .i64 240, .int .i64 1600, .int .i64 1650, .int .i64 480, .int .i64 1200, .int .i64 1250]
def exS (b1 b2 : Nat) : Array Value := #[.int .i64 30, .int .i64 40, .slice (some ⟨b1, 0, none⟩) 1 1, .int .i64 120, .int .i64 150, .slice (some ⟨b2, 0, none⟩) 3 3]
def exC : Array Value := #[.int .i64 200, .int .i64 220, .int .i64 50, .int .i64 180, .int .i64 200, .int .i64 40, .int .i64 150, .int .i64 150, .int .i64 45]
/-- The blocks of such a voyage, all behind B and different. -/
structure ExB (w : World) (B bh b1 b2 bs bl : Nat) (cH c1 c2 cS cC : Array Value) : Prop where
  kh : Bx w bh 51 cH
  k1 : Bx w b1 32 c1
  k2 : Bx w b2 32 c2
  ks : Bx w bs 35 cS
  kl : Bx w bl 53 cC
  gh : B ≤ bh
  g1 : B ≤ b1
  g2 : B ≤ b2
  gs : B ≤ bs
  gl : B ≤ bl
  dh : bh ≠ b1 ∧ bh ≠ b2 ∧ bh ≠ bs ∧ bh ≠ bl
  d1 : b1 ≠ b2 ∧ b1 ≠ bs ∧ b1 ≠ bl
  d2 : b2 ≠ bs ∧ b2 ≠ bl
  ds : bs ≠ bl
theorem ExB.call {w x : World} {B bh b1 b2 bs bl : Nat} {cH c1 c2 cS cC : Array Value} (h : ExB w B bh b1 b2 bs bl cH c1 c2 cS cC) (b : Below w.heap.size w x) : ExB x B bh b1 b2 bs bl cH c1 c2 cS cC :=
  ⟨h.kh.call b, h.k1.call b, h.k2.call b, h.ks.call b, h.kl.call b, h.gh, h.g1, h.g2, h.gs, h.gl, h.dh, h.d1, h.d2, h.ds⟩
/-- A voyage that its blocks hold. -/
theorem ExB.voy {w : World} {B bh b1 b2 bs bl : Nat} {cH c1 c2 cC : Array Value} {t0 t1 t2 t3 : Int} {n1 n2 : Nat} (h : ExB w B bh b1 b2 bs bl cH c1 c2 #[.int .i64 t0, .int .i64 t1, .slice (some ⟨b1, 0, none⟩) n1 n1, .int .i64 t2, .int .i64 t3, .slice (some ⟨b2, 0, none⟩) n2 n2] cC)
    {hs : List Hd} {l1 l2 : List Lv} {ls : List Cg} {li un tr le : Int} (e1 : cH.toList = (hs.map hdr).flatten) (e2 : c1.toList = (l1.map lvr).flatten) (e3 : c2.toList = (l2.map lvr).flatten) (e4 : cC.toList = (ls.map cgr).flatten) (m1 : l1.length = n1) (m2 : l2.length = n2) :
    VoyAt w w.heap.size ⟨li, un, tr, le, hs, [⟨t0, t1, l1⟩, ⟨t2, t3, l2⟩], ls⟩ ⟨some ⟨bh, 0, none⟩, hs.length, hs.length, some ⟨bs, 0, none⟩, 2, 2, some ⟨bl, 0, none⟩, ls.length, ls.length⟩ := by
  have three : ∀ {α : Type} {f : α → List Value} (hf : ∀ x, (f x).length = 3) (L : List α), ∀ r ∈ L.map f, r.length = 3 := fun hf L r hr => by
    obtain ⟨y, _, rfl⟩ := List.mem_map.1 hr
    exact hf y
  have pS := of_rows h.ks (xs := [[.int .i64 t0, .int .i64 t1, .slice (some ⟨b1, 0, none⟩) n1 n1], [.int .i64 t2, .int .i64 t3, .slice (some ⟨b2, 0, none⟩) n2 n2]]) (s := 3) rfl (by simp)
  have pL1 := of_rows h.k1 e2 (three (fun _ => rfl) l1)
  have pL2 := of_rows h.k2 e3 (three (fun _ => rfl) l2)
  refine ⟨rfl, rfl, rfl, of_rows h.kh e1 (three (fun _ => rfl) hs), ⟨_, pS, rfl, fun j r b hr hb => ?_⟩, of_rows h.kl e4 (three (fun _ => rfl) ls)⟩
  match j with
  | 0 => cases hr; cases hb; exact ⟨_, _, by rw [m1], by dsimp only; omega, pL1⟩
  | 1 => cases hr; cases hb; exact ⟨_, _, by rw [m2], by dsimp only; omega, pL2⟩
  | j + 2 => simp at hr
set_option maxRecDepth 100000 in
set_option maxHeartbeats 4000000 in
theorem voyageB_any (w : World) : Calls Tryd.prog 4 #[] w fun e w' => (∃ bh b1 b2 bs bl : Nat, e = .returned (.agg (vcs exV (exP bh bs bl))) ∧ ExB w' w.heap.size bh b1 b2 bs bl exH exL1 exL2 (exS b1 b2) exC) ∧ Below w.heap.size w w' := by
  have k0 := Bx.new w 26 #[.int .i64 0, .int .i64 0, .int .i64 0, .slice none 0 0, .int .i64 0, .slice none 0 0, .slice none 0 0]
  have B0 := (Below.refl w.heap.size w).alloc (Nat.le_refl _) (.cells #[.int .i64 0, .int .i64 0, .int .i64 0, .slice none 0 0, .int .i64 0, .slice none 0 0, .slice none 0 0] 26)
  go_enter Tryd.func4, Tryd.ntmps4
  go_wp2_with (first
    | (go_at_call 5; have _t := hb8; clear _t; refine (rng_any _ _ _).mono ?_; rintro e9 w9 ⟨rfl, hb9⟩; have k9 := k8.call hb9; have B9 := B8.trans (hb9.mono B8.size); obtain ⟨c0, c1, c2, c3, c4, c5, c6, cf, cz⟩ := k9.seven)
    | (go_at_call 5; have _t := hb7; clear _t; refine (rng_any _ _ _).mono ?_; rintro e8 w8 ⟨rfl, hb8⟩; have k8 := k7.call hb8; have B8 := B7.trans (hb8.mono B7.size))
    | (go_at_call 5; have _t := hb6; clear _t; refine (rng_any _ _ _).mono ?_; rintro e7 w7 ⟨rfl, hb7⟩; have k7 := ((k6.alloc _).alloc _).call hb7; have B7 := ((B6.alloc B6.size _).alloc (B6.alloc B6.size _).size _).trans (hb7.mono ((B6.alloc B6.size _).alloc (B6.alloc B6.size _).size _).size))
    | (go_at_call 5; have _t := hb5; clear _t; refine (rng_any _ _ _).mono ?_; rintro e6 w6 ⟨rfl, hb6⟩; have k6 := k5.call hb6; have B6 := B5.trans (hb6.mono B5.size))
    | (go_at_call 5; have _t := hb4; clear _t; refine (rng_any _ _ _).mono ?_; rintro e5 w5 ⟨rfl, hb5⟩; have k5 := k4.call hb5; have B5 := B4.trans (hb5.mono B4.size))
    | (go_at_call 5; have _t := hb3; clear _t; refine (rng_any _ _ _).mono ?_; rintro e4 w4 ⟨rfl, hb4⟩; have k4 := k3.call hb4; have B4 := B3.trans (hb4.mono B3.size))
    | (go_at_call 5; have _t := hb2; clear _t; refine (rng_any _ _ _).mono ?_; rintro e3 w3 ⟨rfl, hb3⟩; have k3 := (k2.alloc _).call hb3; have B3 := (B2.alloc B2.size _).trans (hb3.mono (B2.alloc B2.size _).size))
    | (go_at_call 5; have _t := hb1; clear _t; refine (rng_any _ _ _).mono ?_; rintro e2 w2 ⟨rfl, hb2⟩; have k2 := k1.call hb2; have B2 := B1.trans (hb2.mono B1.size))
    | (go_at_call 5; refine (rng_any _ _ _).mono ?_; rintro e1 w1 ⟨rfl, hb1⟩; have k1 := (k0.alloc _).call hb1; have B1 := (B0.alloc B0.size _).trans (hb1.mono (B0.alloc B0.size _).size))
    | fail)
  have z1 := k0.lt
  have z2 := hb1.size
  have z3 := hb2.size
  have z4 := hb3.size
  have z5 := hb4.size
  have z6 := hb5.size
  have z7 := hb6.size
  have z8 := hb7.size
  have z9 := hb8.size
  have z10 := hb9.size
  simp only [World.size_alloc] at z1 z2 z3 z4 z5 z6 z7 z8 z9 z10
  have bH : Bx w9 (w.heap.size + 1) 51 #[.int .i64 400, .int .i64 2000, .int .i64 500, .int .i64 400, .int .i64 500, .int .i64 2000] := ((((((((((Bx.at _ _ _ (by simp)).call hb1).call hb2).alloc _).call hb3).call hb4).call hb5).call hb6).alloc _).alloc _ |>.call hb7 |>.call hb8 |>.call hb9)
  have bL1 : Bx w9 w2.heap.size 32 #[.int .i64 0, .int .i64 1600, .int .i64 1650] := ((((((((Bx.new w2 _ _).call hb3).call hb4).call hb5).call hb6).alloc _).alloc _).call hb7).call hb8 |>.call hb9
  have bL2 : Bx w9 w6.heap.size 32 #[.int .i64 0, .int .i64 1300, .int .i64 1350, .int .i64 240, .int .i64 1600, .int .i64 1650, .int .i64 480, .int .i64 1200, .int .i64 1250] := (((((Bx.new w6 _ _).alloc _).call hb7).call hb8).call hb9)
  have bS : Bx w9 (w6.heap.size + 1) 35 #[.int .i64 30, .int .i64 40, .slice (some ⟨w2.heap.size, 0, none⟩) 1 1, .int .i64 120, .int .i64 150, .slice (some ⟨w6.heap.size, 0, none⟩) 3 3] := ((((Bx.at _ _ _ (by simp)).call hb7).call hb8).call hb9)
  have fA := (((((((k9.set_ 0 (.int .i64 800)).set_ 1 (.int .i64 200)).set_ 2 (.int .i64 300)).set_ 3 (.slice (some ⟨w.heap.size + 1, 0, none⟩) 2 2)).set_ 4 (.int .i64 60)).set_ 5 (.slice (some ⟨w6.heap.size + 1, 0, none⟩) 2 2)).set_ 6 (.slice (some ⟨w9.heap.size, 0, none⟩) 3 3)).alloc (.cells #[.int .i64 200, .int .i64 220, .int .i64 50, .int .i64 180, .int .i64 200, .int .i64 40, .int .i64 150, .int .i64 150, .int .i64 45] 53)
  simp only [List.setIfInBounds_toArray, List.set_cons_zero, List.set_cons_succ] at fA
  have fB := (((((((B9.setCell (p := ⟨w.heap.size, 0, none⟩) (by simp) (.int .i64 800)).setCell (p := ⟨w.heap.size, 1, none⟩) (by simp) (.int .i64 200)).setCell (p := ⟨w.heap.size, 2, none⟩) (by simp) (.int .i64 300)).setCell (p := ⟨w.heap.size, 3, none⟩) (by simp) (.slice (some ⟨w.heap.size + 1, 0, none⟩) 2 2)).setCell (p := ⟨w.heap.size, 4, none⟩) (by simp) (.int .i64 60)).setCell (p := ⟨w.heap.size, 5, none⟩) (by simp) (.slice (some ⟨w6.heap.size + 1, 0, none⟩) 2 2)).setCell (p := ⟨w.heap.size, 6, none⟩) (by simp) (.slice (some ⟨w9.heap.size, 0, none⟩) 3 3)).alloc (by simp; have := B9.size; omega) (.cells #[.int .i64 200, .int .i64 220, .int .i64 50, .int .i64 180, .int .i64 200, .int .i64 40, .int .i64 150, .int .i64 150, .int .i64 45] 53)
  have fH := (((((((bH.far (p := ⟨w.heap.size, 0, none⟩) (by simp; try omega) (.int .i64 800)).far (p := ⟨w.heap.size, 1, none⟩) (by simp; try omega) (.int .i64 200)).far (p := ⟨w.heap.size, 2, none⟩) (by simp; try omega) (.int .i64 300)).far (p := ⟨w.heap.size, 3, none⟩) (by simp; try omega) (.slice (some ⟨w.heap.size + 1, 0, none⟩) 2 2)).far (p := ⟨w.heap.size, 4, none⟩) (by simp; try omega) (.int .i64 60)).far (p := ⟨w.heap.size, 5, none⟩) (by simp; try omega) (.slice (some ⟨w6.heap.size + 1, 0, none⟩) 2 2)).far (p := ⟨w.heap.size, 6, none⟩) (by simp; try omega) (.slice (some ⟨w9.heap.size, 0, none⟩) 3 3)).alloc (.cells #[.int .i64 200, .int .i64 220, .int .i64 50, .int .i64 180, .int .i64 200, .int .i64 40, .int .i64 150, .int .i64 150, .int .i64 45] 53)
  have fL1 := (((((((bL1.far (p := ⟨w.heap.size, 0, none⟩) (by simp; try omega) (.int .i64 800)).far (p := ⟨w.heap.size, 1, none⟩) (by simp; try omega) (.int .i64 200)).far (p := ⟨w.heap.size, 2, none⟩) (by simp; try omega) (.int .i64 300)).far (p := ⟨w.heap.size, 3, none⟩) (by simp; try omega) (.slice (some ⟨w.heap.size + 1, 0, none⟩) 2 2)).far (p := ⟨w.heap.size, 4, none⟩) (by simp; try omega) (.int .i64 60)).far (p := ⟨w.heap.size, 5, none⟩) (by simp; try omega) (.slice (some ⟨w6.heap.size + 1, 0, none⟩) 2 2)).far (p := ⟨w.heap.size, 6, none⟩) (by simp; try omega) (.slice (some ⟨w9.heap.size, 0, none⟩) 3 3)).alloc (.cells #[.int .i64 200, .int .i64 220, .int .i64 50, .int .i64 180, .int .i64 200, .int .i64 40, .int .i64 150, .int .i64 150, .int .i64 45] 53)
  have fL2 := (((((((bL2.far (p := ⟨w.heap.size, 0, none⟩) (by simp; try omega) (.int .i64 800)).far (p := ⟨w.heap.size, 1, none⟩) (by simp; try omega) (.int .i64 200)).far (p := ⟨w.heap.size, 2, none⟩) (by simp; try omega) (.int .i64 300)).far (p := ⟨w.heap.size, 3, none⟩) (by simp; try omega) (.slice (some ⟨w.heap.size + 1, 0, none⟩) 2 2)).far (p := ⟨w.heap.size, 4, none⟩) (by simp; try omega) (.int .i64 60)).far (p := ⟨w.heap.size, 5, none⟩) (by simp; try omega) (.slice (some ⟨w6.heap.size + 1, 0, none⟩) 2 2)).far (p := ⟨w.heap.size, 6, none⟩) (by simp; try omega) (.slice (some ⟨w9.heap.size, 0, none⟩) 3 3)).alloc (.cells #[.int .i64 200, .int .i64 220, .int .i64 50, .int .i64 180, .int .i64 200, .int .i64 40, .int .i64 150, .int .i64 150, .int .i64 45] 53)
  have fS := (((((((bS.far (p := ⟨w.heap.size, 0, none⟩) (by simp; try omega) (.int .i64 800)).far (p := ⟨w.heap.size, 1, none⟩) (by simp; try omega) (.int .i64 200)).far (p := ⟨w.heap.size, 2, none⟩) (by simp; try omega) (.int .i64 300)).far (p := ⟨w.heap.size, 3, none⟩) (by simp; try omega) (.slice (some ⟨w.heap.size + 1, 0, none⟩) 2 2)).far (p := ⟨w.heap.size, 4, none⟩) (by simp; try omega) (.int .i64 60)).far (p := ⟨w.heap.size, 5, none⟩) (by simp; try omega) (.slice (some ⟨w6.heap.size + 1, 0, none⟩) 2 2)).far (p := ⟨w.heap.size, 6, none⟩) (by simp; try omega) (.slice (some ⟨w9.heap.size, 0, none⟩) 3 3)).alloc (.cells #[.int .i64 200, .int .i64 220, .int .i64 50, .int .i64 180, .int .i64 200, .int .i64 40, .int .i64 150, .int .i64 150, .int .i64 45] 53)
  have fC := Bx.at (((((((w9.setCell ⟨w.heap.size, 0, none⟩ (.int .i64 800)).setCell ⟨w.heap.size, 1, none⟩ (.int .i64 200)).setCell ⟨w.heap.size, 2, none⟩ (.int .i64 300)).setCell ⟨w.heap.size, 3, none⟩ (.slice (some ⟨w.heap.size + 1, 0, none⟩) 2 2)).setCell ⟨w.heap.size, 4, none⟩ (.int .i64 60)).setCell ⟨w.heap.size, 5, none⟩ (.slice (some ⟨w6.heap.size + 1, 0, none⟩) 2 2)).setCell ⟨w.heap.size, 6, none⟩ (.slice (some ⟨w9.heap.size, 0, none⟩) 3 3)) 53 #[.int .i64 200, .int .i64 220, .int .i64 50, .int .i64 180, .int .i64 200, .int .i64 40, .int .i64 150, .int .i64 150, .int .i64 45] (n := w9.heap.size) (by simp)
  obtain ⟨Z, hZ⟩ : ∃ Z, (((((((w9.setCell ⟨w.heap.size, 0, none⟩ (.int .i64 800)).setCell ⟨w.heap.size, 1, none⟩ (.int .i64 200)).setCell ⟨w.heap.size, 2, none⟩ (.int .i64 300)).setCell ⟨w.heap.size, 3, none⟩ (.slice (some ⟨w.heap.size + 1, 0, none⟩) 2 2)).setCell ⟨w.heap.size, 4, none⟩ (.int .i64 60)).setCell ⟨w.heap.size, 5, none⟩ (.slice (some ⟨w6.heap.size + 1, 0, none⟩) 2 2)).setCell ⟨w.heap.size, 6, none⟩ (.slice (some ⟨w9.heap.size, 0, none⟩) 3 3)).alloc (.cells #[.int .i64 200, .int .i64 220, .int .i64 50, .int .i64 180, .int .i64 200, .int .i64 40, .int .i64 150, .int .i64 150, .int .i64 45] 53) = Z := ⟨_, rfl⟩
  rw [hZ] at fA fB fH fL1 fL2 fS fC ⊢
  clear hZ bH bL1 bL2 bS
  obtain ⟨r0, r1, r2, r3, r4, r5, r6, rf, rz⟩ := fA.seven
  exact bodyPost_ret (v := .agg #[.int .i64 800, .int .i64 200, .int .i64 300, .slice (some ⟨w.heap.size + 1, 0, none⟩) 2 2, .int .i64 60, .slice (some ⟨w6.heap.size + 1, 0, none⟩) 2 2, .slice (some ⟨w9.heap.size, 0, none⟩) 3 3]) (by simp [results, Tryd.results4, go_sem, r0, r1, r2, r3, r4, r5, r6]) rfl ⟨⟨_, _, _, _, _, rfl, ⟨fH, fL1, fL2, fS, fC, by omega, by omega, by omega, by omega, by omega, ⟨by omega, by omega, by omega, by omega⟩, ⟨by omega, by omega, by omega⟩, ⟨by omega, by omega⟩, by omega⟩⟩, fB⟩
end Go.Proofs.YtdlohfglmagneaaDoor

/-! ShipKnown: the values. -/
namespace Go.Proofs.YtdlohfglmagneaaDoor
open Go Go.RowKit
def oneV : Vg := ⟨800, 200, 300, 60, [⟨400, 2000, 500⟩], [⟨30, 40, [⟨0, 1600, 1650⟩]⟩], []⟩
def lateV : Vg := ⟨800, 200, 300, 60, [⟨400, 2000, 500⟩, ⟨400, 500, 2000⟩], [⟨30, 40, [⟨0, 1600, 1650⟩]⟩, ⟨120, 150, [⟨0, 1300, 1350⟩, ⟨240, 1600, 1650⟩, ⟨240, 1200, 1250⟩]⟩], [⟨200, 220, 50⟩, ⟨180, 200, 40⟩, ⟨150, 150, 45⟩]⟩
def noneV : Vg := ⟨800, 200, 300, 60, [], [⟨30, 40, [⟨0, 1600, 1650⟩]⟩, ⟨120, 150, [⟨0, 1300, 1350⟩, ⟨240, 1600, 1650⟩, ⟨480, 1200, 1250⟩]⟩], [⟨200, 220, 50⟩, ⟨180, 200, 40⟩, ⟨150, 150, 45⟩]⟩
def tightV : Vg := ⟨800, 200, 59, 60, [⟨400, 2000, 500⟩, ⟨400, 500, 2000⟩], [⟨30, 40, [⟨0, 1600, 1650⟩]⟩, ⟨120, 150, [⟨0, 1300, 1350⟩, ⟨240, 1600, 1650⟩, ⟨480, 1200, 1250⟩]⟩], [⟨200, 220, 50⟩, ⟨180, 200, 40⟩, ⟨150, 150, 45⟩]⟩
def lowV : Vg := ⟨800, 200, 300, 60, [⟨400, 2000, 500⟩, ⟨400, 500, 2000⟩], [⟨30, 40, [⟨0, 1500, 1550⟩]⟩, ⟨120, 150, [⟨0, 1300, 1350⟩, ⟨240, 1600, 1650⟩, ⟨480, 1200, 1250⟩]⟩], [⟨200, 220, 50⟩, ⟨180, 200, 40⟩, ⟨150, 150, 45⟩]⟩
theorem late_ck : ckV lateV = 5 := by decide +kernel
theorem none_ck : ckV noneV = 7 := by decide +kernel
theorem low_ck : ckV lowV = 0 := by decide +kernel
theorem one_ck : ckV oneV = 0 := by decide +kernel
theorem st0 : ckSt exV [0, 1, -1] = 0 := by decide +kernel
theorem st1 : ckSt exV [0, 0, 0] = 13 := by decide +kernel
theorem st2 : ckSt exV [0, 2, 0] = 3 := by decide +kernel
theorem st3 : ckSt exV [0, 1] = 2 := by decide +kernel
theorem st4 : ckSt exV [0, -1, -1] = 0 := by decide +kernel
theorem st5 : ckSt tightV [0, 1, -1] = 0 := by decide +kernel
theorem st6 : ckSt lowV [0, 1, -1] = 0 := by decide +kernel
theorem st7 : ckSt exV [0, -1, 0] = 0 := by decide +kernel
theorem lv0 : lvlOk exV (tiltP exV.hs (abd exV.ls [0, 1, -1])) = true ∧ tiltP exV.hs (abd exV.ls [0, 1, -1]) = (0, 60000) := by decide +kernel
theorem lv1 : lvlOk tightV (tiltP tightV.hs (abd tightV.ls [0, 1, -1])) = false ∧ tiltP tightV.hs (abd tightV.ls [0, 1, -1]) = (0, 60000) := by decide +kernel
theorem lv2 : lvlOk exV (tiltP exV.hs (abd exV.ls [0, -1, -1])) = false ∧ tiltP exV.hs (abd exV.ls [0, -1, -1]) = (300000, 330000) := by decide +kernel
theorem low_over : verdM lowV.ss.length (salM lowV (abd lowV.ls [0, 1, -1]) true).length (salM lowV (abd lowV.ls [0, 1, -1]) false).length = 3 ∧ overM lowV (abd lowV.ls [0, 1, -1]) = [] := by
  unfold overM salM
  rw [sal_F (ckV_ok low_ck).ss, sal_F (ckV_ok low_ck).ss]
  decide +kernel
theorem no_over : verdM exV.ss.length (salM exV (abd exV.ls [0, -1, 0]) true).length (salM exV (abd exV.ls [0, -1, 0]) false).length = 2 ∧ overM exV (abd exV.ls [0, -1, 0]) = [] := by
  unfold overM salM
  rw [sal_F (ckV_ok ex_ck).ss, sal_F (ckV_ok ex_ck).ss]
  decide +kernel
end Go.Proofs.YtdlohfglmagneaaDoor
