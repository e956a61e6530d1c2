/- ShipKnown: the run, up to its loop. -/
import Derived.Test.YtdlohfglmagneaaDoorTxM
set_option linter.unusedSimpArgs false
set_option linter.unusedVariables false
namespace Go.Proofs.YtdlohfglmagneaaDoor
open Go Go.RowKit
structure ExR (w : World) (B U bh b1 b2 bs bl : Nat) (cH c1 c2 cS cC : Array Value) : Prop where
  e : ExB w B bh b1 b2 bs bl cH c1 c2 cS cC
  uh : bh < U
  u1 : b1 < U
  u2 : b2 < U
  us : bs < U
  ul : bl < U
section
variable {w x : World} {B U bh b1 b2 bs bl : Nat} {cH c1 c2 cS cC : Array Value}
theorem ExB.up (h : ExB w B bh b1 b2 bs bl cH c1 c2 cS cC) : ExR w B w.heap.size bh b1 b2 bs bl cH c1 c2 cS cC := ⟨h, h.kh.lt, h.k1.lt, h.k2.lt, h.ks.lt, h.kl.lt⟩
theorem ExR.call (h : ExR w B U bh b1 b2 bs bl cH c1 c2 cS cC) (b : Below w.heap.size w x) : ExR x B U bh b1 b2 bs bl cH c1 c2 cS cC := ⟨h.e.call b, h.uh, h.u1, h.u2, h.us, h.ul⟩
theorem ExR.far (h : ExR w B U bh b1 b2 bs bl cH c1 c2 cS cC) {p : Addr} (hp : p.block < B ∨ U ≤ p.block) (v : Value) : ExR (w.setCell p v) B U bh b1 b2 bs bl cH c1 c2 cS cC := by
  have a1 := h.e.gh; have a2 := h.e.g1; have a3 := h.e.g2; have a4 := h.e.gs; have a5 := h.e.gl
  have a6 := h.uh; have a7 := h.u1; have a8 := h.u2; have a9 := h.us; have a10 := h.ul
  exact ⟨⟨h.e.kh.far (by omega) v, h.e.k1.far (by omega) v, h.e.k2.far (by omega) v, h.e.ks.far (by omega) v, h.e.kl.far (by omega) v, a1, a2, a3, a4, a5, h.e.dh, h.e.d1, h.e.d2, h.e.ds⟩, a6, a7, a8, a9, a10⟩
theorem ExR.set2 (h : ExR w B U bh b1 b2 bs bl cH c1 c2 cS cC) (i : Nat) (v : Value) : ExR (w.setCell ⟨b2, i, none⟩ v) B U bh b1 b2 bs bl cH c1 (c2.setIfInBounds i v) cS cC := by
  have d1 := h.e.dh; have d2 := h.e.d1; have d3 := h.e.d2
  exact ⟨⟨h.e.kh.far (by simp; omega) v, h.e.k1.far (by simp; omega) v, h.e.k2.set_ i v, h.e.ks.far (by simp; omega) v, h.e.kl.far (by simp; omega) v, h.e.gh, h.e.g1, h.e.g2, h.e.gs, h.e.gl, h.e.dh, h.e.d1, h.e.d2, h.e.ds⟩, h.uh, h.u1, h.u2, h.us, h.ul⟩
theorem ExR.set1 (h : ExR w B U bh b1 b2 bs bl cH c1 c2 cS cC) (i : Nat) (v : Value) : ExR (w.setCell ⟨b1, i, none⟩ v) B U bh b1 b2 bs bl cH (c1.setIfInBounds i v) c2 cS cC := by
  have d1 := h.e.dh; have d2 := h.e.d1; have d3 := h.e.d2
  exact ⟨⟨h.e.kh.far (by simp; omega) v, h.e.k1.set_ i v, h.e.k2.far (by simp; omega) v, h.e.ks.far (by simp; omega) v, h.e.kl.far (by simp; omega) v, h.e.gh, h.e.g1, h.e.g2, h.e.gs, h.e.gl, h.e.dh, h.e.d1, h.e.d2, h.e.ds⟩, h.uh, h.u1, h.u2, h.us, h.ul⟩
end
structure StRow (W : World) (qa qe k : Nat) (s : List Int) (A : Option Addr) (n c : Nat) (e : Int) : Prop where
  ca : W.cell? ⟨qa, k, none⟩ = some (.slice A n c)
  ce : W.cell? ⟨qe, k, none⟩ = some (.int .i64 e)
  sl : Sl W W.heap.size 1 A (inr s)
  ln : s.length = n
  n20 : n ≤ 20
  ck : ckSt exV s = e
theorem StRow.call {W x : World} {qa qe k : Nat} {s : List Int} {A : Option Addr} {n c : Nat} {e : Int} (h : StRow W qa qe k s A n c e) (b : Below W.heap.size W x) : StRow x qa qe k s A n c e :=
  ⟨cellC b h.ca, cellC b h.ce, (h.sl.below b).more b.size, h.ln, h.n20, h.ck⟩
theorem map_inr (s : List Int) : s.map (Value.int .i64) = (inr s).flatten := by
  unfold inr
  induction s with
  | nil => rfl
  | cons a t ih => simp only [List.map_cons, List.flatten_cons, ih]; rfl
theorem ints_sl {W : World} {g : Nat} {s : List Int} {cs : Array Value} (h : Bx W g 3 cs) (e : cs.toList = s.map (Value.int .i64)) : Sl W W.heap.size 1 (some ⟨g, 0, none⟩) (inr s) :=
  of_rows h (by rw [e]; exact map_inr s) (fun r hr => by
    obtain ⟨y, _, rfl⟩ := List.mem_map.1 hr
    rfl)
structure Kn7 (W : World) (q1 bh3 bs3 bl3 bh4 bs4 bl4 bh5 bs5 qs qa qe : Nat) : Prop where
  v3 : VoyAt W W.heap.size tightV ⟨some ⟨bh3, 0, none⟩, 2, 2, some ⟨bs3, 0, none⟩, 2, 2, some ⟨bl3, 0, none⟩, 3, 3⟩
  v4 : VoyAt W W.heap.size lowV ⟨some ⟨bh4, 0, none⟩, 2, 2, some ⟨bs4, 0, none⟩, 2, 2, some ⟨bl4, 0, none⟩, 3, 3⟩
  v5 : VoyAt W W.heap.size oneV ⟨some ⟨bh5, 0, none⟩, 1, 2, some ⟨bs5, 0, none⟩, 1, 2, none, 0, 0⟩
  j3 : Bx W (q1 + 1 + 1) 26 #[.int .i64 800, .int .i64 200, .int .i64 59, .slice (some ⟨bh3, 0, none⟩) 2 2, .int .i64 60, .slice (some ⟨bs3, 0, none⟩) 2 2, .slice (some ⟨bl3, 0, none⟩) 3 3]
  j4 : Bx W (q1 + 1 + 1 + 1) 26 #[.int .i64 800, .int .i64 200, .int .i64 300, .slice (some ⟨bh4, 0, none⟩) 2 2, .int .i64 60, .slice (some ⟨bs4, 0, none⟩) 2 2, .slice (some ⟨bl4, 0, none⟩) 3 3]
  j5 : Bx W (q1 + 1 + 1 + 1 + 1) 26 #[.int .i64 800, .int .i64 200, .int .i64 300, .slice (some ⟨bh5, 0, none⟩) 1 2, .int .i64 60, .slice (some ⟨bs5, 0, none⟩) 1 2, .slice none 0 0]
  st : ∀ k, k < 4 → ∃ s A n c e, StRow W qa qe k s A n c e
  s0 : StRow W qa qe 0 [0, 1, -1] (some ⟨qs, 0, none⟩) 3 3 0
  tab : Tab W.heap.size W
theorem Kn7.call {W x : World} {q1 bh3 bs3 bl3 bh4 bs4 bl4 bh5 bs5 qs qa qe : Nat} (h : Kn7 W q1 bh3 bs3 bl3 bh4 bs4 bl4 bh5 bs5 qs qa qe) (b : Below W.heap.size W x) : Kn7 x q1 bh3 bs3 bl3 bh4 bs4 bl4 bh5 bs5 qs qa qe :=
  ⟨h.v3.call b, h.v4.call b, h.v5.call b, h.j3.call b, h.j4.call b, h.j5.call b, fun k hk => by
    obtain ⟨s, A, n, c, e, r⟩ := h.st k hk
    exact ⟨s, A, n, c, e, r.call b⟩, h.s0.call b, Tab.call h.tab b⟩
theorem sl_take {w : World} {B m : Nat} {A : Option Addr} {rs : List (List Value)} (h : Sl w B m A rs) (t : Nat) : Sl w B m A (rs.take t) := fun k r hr => h k r (by
  by_cases hk : k < t
  · rwa [List.getElem?_take_of_lt hk] at hr
  · rw [List.getElem?_eq_none (by rw [List.length_take]; omega)] at hr
    cases hr)
theorem one_at {w : World} {B U bh b1 b2 bs bl : Nat} (h : ExR w B U bh b1 b2 bs bl exH exL1 exL2 (exS b1 b2) exC) : VoyAt w w.heap.size oneV ⟨some ⟨bh, 0, none⟩, 1, 2, some ⟨bs, 0, none⟩, 1, 2, none, 0, 0⟩ := by
  have V : VoyAt w w.heap.size exV ⟨some ⟨bh, 0, none⟩, 2, 2, some ⟨bs, 0, none⟩, 2, 2, some ⟨bl, 0, none⟩, 3, 3⟩ := ExB.voy h.e (hs := exV.hs) (l1 := [⟨0, 1600, 1650⟩]) (l2 := [⟨0, 1300, 1350⟩, ⟨240, 1600, 1650⟩, ⟨480, 1200, 1250⟩]) (ls := exV.ls) rfl rfl rfl rfl rfl rfl
  obtain ⟨rs, h1, h2, h3⟩ := V.ss.rows
  refine ⟨rfl, rfl, rfl, sl_take V.hs 1, ⟨rs.take 1, sl_take h1 1, ?_, ?_⟩, Sl.nil _ _ _ _⟩
  · rw [List.length_take, h2]; rfl
  · intro j r b hr hb
    match j, hr, hb with
    | 0, hr, hb => exact h3 0 r b (by rwa [List.getElem?_take_of_lt (by omega)] at hr) hb
    | j + 1, hr, hb => simp [oneV] at hb
theorem st_rows (U : World) : Below U.heap.size U ((((((U.alloc (.cells #[.int .i64 0, .int .i64 1, .int .i64 (-1)] 3)).alloc (.cells #[.int .i64 0, .int .i64 0, .int .i64 0] 3)).alloc (.cells #[.int .i64 0, .int .i64 2, .int .i64 0] 3)).alloc (.cells #[.int .i64 0, .int .i64 1] 3)).alloc (.cells #[.slice (some ⟨U.heap.size, 0, none⟩) 3 3, .slice (some ⟨U.heap.size + 1, 0, none⟩) 3 3, .slice (some ⟨U.heap.size + 1 + 1, 0, none⟩) 3 3, .slice (some ⟨U.heap.size + 1 + 1 + 1, 0, none⟩) 2 2] 39)).alloc (.cells #[.int .i64 0, .int .i64 13, .int .i64 3, .int .i64 2] 37)) ∧ StRow ((((((U.alloc (.cells #[.int .i64 0, .int .i64 1, .int .i64 (-1)] 3)).alloc (.cells #[.int .i64 0, .int .i64 0, .int .i64 0] 3)).alloc (.cells #[.int .i64 0, .int .i64 2, .int .i64 0] 3)).alloc (.cells #[.int .i64 0, .int .i64 1] 3)).alloc (.cells #[.slice (some ⟨U.heap.size, 0, none⟩) 3 3, .slice (some ⟨U.heap.size + 1, 0, none⟩) 3 3, .slice (some ⟨U.heap.size + 1 + 1, 0, none⟩) 3 3, .slice (some ⟨U.heap.size + 1 + 1 + 1, 0, none⟩) 2 2] 39)).alloc (.cells #[.int .i64 0, .int .i64 13, .int .i64 3, .int .i64 2] 37)) (U.heap.size + 1 + 1 + 1 + 1) (U.heap.size + 1 + 1 + 1 + 1 + 1) 0 [0, 1, -1] (some ⟨U.heap.size, 0, none⟩) 3 3 0 ∧ ∀ k, k < 4 → ∃ s A n c e, StRow ((((((U.alloc (.cells #[.int .i64 0, .int .i64 1, .int .i64 (-1)] 3)).alloc (.cells #[.int .i64 0, .int .i64 0, .int .i64 0] 3)).alloc (.cells #[.int .i64 0, .int .i64 2, .int .i64 0] 3)).alloc (.cells #[.int .i64 0, .int .i64 1] 3)).alloc (.cells #[.slice (some ⟨U.heap.size, 0, none⟩) 3 3, .slice (some ⟨U.heap.size + 1, 0, none⟩) 3 3, .slice (some ⟨U.heap.size + 1 + 1, 0, none⟩) 3 3, .slice (some ⟨U.heap.size + 1 + 1 + 1, 0, none⟩) 2 2] 39)).alloc (.cells #[.int .i64 0, .int .i64 13, .int .i64 3, .int .i64 2] 37)) (U.heap.size + 1 + 1 + 1 + 1) (U.heap.size + 1 + 1 + 1 + 1 + 1) k s A n c e := by
  have kA := (((((Bx.new U 3 #[.int .i64 0, .int .i64 1, .int .i64 (-1)]).alloc (.cells #[.int .i64 0, .int .i64 0, .int .i64 0] 3)).alloc (.cells #[.int .i64 0, .int .i64 2, .int .i64 0] 3)).alloc (.cells #[.int .i64 0, .int .i64 1] 3)).alloc (.cells #[.slice (some ⟨U.heap.size, 0, none⟩) 3 3, .slice (some ⟨U.heap.size + 1, 0, none⟩) 3 3, .slice (some ⟨U.heap.size + 1 + 1, 0, none⟩) 3 3, .slice (some ⟨U.heap.size + 1 + 1 + 1, 0, none⟩) 2 2] 39)).alloc (.cells #[.int .i64 0, .int .i64 13, .int .i64 3, .int .i64 2] 37)
  have kB := ((((Bx.at (U.alloc (.cells #[.int .i64 0, .int .i64 1, .int .i64 (-1)] 3)) 3 #[.int .i64 0, .int .i64 0, .int .i64 0] (n := U.heap.size + 1) (by simp)).alloc (.cells #[.int .i64 0, .int .i64 2, .int .i64 0] 3)).alloc (.cells #[.int .i64 0, .int .i64 1] 3)).alloc (.cells #[.slice (some ⟨U.heap.size, 0, none⟩) 3 3, .slice (some ⟨U.heap.size + 1, 0, none⟩) 3 3, .slice (some ⟨U.heap.size + 1 + 1, 0, none⟩) 3 3, .slice (some ⟨U.heap.size + 1 + 1 + 1, 0, none⟩) 2 2] 39)).alloc (.cells #[.int .i64 0, .int .i64 13, .int .i64 3, .int .i64 2] 37)
  have kC := (((Bx.at ((U.alloc (.cells #[.int .i64 0, .int .i64 1, .int .i64 (-1)] 3)).alloc (.cells #[.int .i64 0, .int .i64 0, .int .i64 0] 3)) 3 #[.int .i64 0, .int .i64 2, .int .i64 0] (n := U.heap.size + 1 + 1) (by simp)).alloc (.cells #[.int .i64 0, .int .i64 1] 3)).alloc (.cells #[.slice (some ⟨U.heap.size, 0, none⟩) 3 3, .slice (some ⟨U.heap.size + 1, 0, none⟩) 3 3, .slice (some ⟨U.heap.size + 1 + 1, 0, none⟩) 3 3, .slice (some ⟨U.heap.size + 1 + 1 + 1, 0, none⟩) 2 2] 39)).alloc (.cells #[.int .i64 0, .int .i64 13, .int .i64 3, .int .i64 2] 37)
  have kD := ((Bx.at (((U.alloc (.cells #[.int .i64 0, .int .i64 1, .int .i64 (-1)] 3)).alloc (.cells #[.int .i64 0, .int .i64 0, .int .i64 0] 3)).alloc (.cells #[.int .i64 0, .int .i64 2, .int .i64 0] 3)) 3 #[.int .i64 0, .int .i64 1] (n := U.heap.size + 1 + 1 + 1) (by simp)).alloc (.cells #[.slice (some ⟨U.heap.size, 0, none⟩) 3 3, .slice (some ⟨U.heap.size + 1, 0, none⟩) 3 3, .slice (some ⟨U.heap.size + 1 + 1, 0, none⟩) 3 3, .slice (some ⟨U.heap.size + 1 + 1 + 1, 0, none⟩) 2 2] 39)).alloc (.cells #[.int .i64 0, .int .i64 13, .int .i64 3, .int .i64 2] 37)
  have kE := (Bx.at ((((U.alloc (.cells #[.int .i64 0, .int .i64 1, .int .i64 (-1)] 3)).alloc (.cells #[.int .i64 0, .int .i64 0, .int .i64 0] 3)).alloc (.cells #[.int .i64 0, .int .i64 2, .int .i64 0] 3)).alloc (.cells #[.int .i64 0, .int .i64 1] 3)) 39 #[.slice (some ⟨U.heap.size, 0, none⟩) 3 3, .slice (some ⟨U.heap.size + 1, 0, none⟩) 3 3, .slice (some ⟨U.heap.size + 1 + 1, 0, none⟩) 3 3, .slice (some ⟨U.heap.size + 1 + 1 + 1, 0, none⟩) 2 2] (n := U.heap.size + 1 + 1 + 1 + 1) (by simp)).alloc (.cells #[.int .i64 0, .int .i64 13, .int .i64 3, .int .i64 2] 37)
  have kF := Bx.at (((((U.alloc (.cells #[.int .i64 0, .int .i64 1, .int .i64 (-1)] 3)).alloc (.cells #[.int .i64 0, .int .i64 0, .int .i64 0] 3)).alloc (.cells #[.int .i64 0, .int .i64 2, .int .i64 0] 3)).alloc (.cells #[.int .i64 0, .int .i64 1] 3)).alloc (.cells #[.slice (some ⟨U.heap.size, 0, none⟩) 3 3, .slice (some ⟨U.heap.size + 1, 0, none⟩) 3 3, .slice (some ⟨U.heap.size + 1 + 1, 0, none⟩) 3 3, .slice (some ⟨U.heap.size + 1 + 1 + 1, 0, none⟩) 2 2] 39)) 37 #[.int .i64 0, .int .i64 13, .int .i64 3, .int .i64 2] (n := U.heap.size + 1 + 1 + 1 + 1 + 1) (by simp)
  have b1 := bel1 U (.cells #[.int .i64 0, .int .i64 1, .int .i64 (-1)] 3)
  have b2 := b1.trans ((bel1 (U.alloc (.cells #[.int .i64 0, .int .i64 1, .int .i64 (-1)] 3)) (.cells #[.int .i64 0, .int .i64 0, .int .i64 0] 3)).mono b1.size)
  have b3 := b2.trans ((bel1 ((U.alloc (.cells #[.int .i64 0, .int .i64 1, .int .i64 (-1)] 3)).alloc (.cells #[.int .i64 0, .int .i64 0, .int .i64 0] 3)) (.cells #[.int .i64 0, .int .i64 2, .int .i64 0] 3)).mono b2.size)
  have b4 := b3.trans ((bel1 (((U.alloc (.cells #[.int .i64 0, .int .i64 1, .int .i64 (-1)] 3)).alloc (.cells #[.int .i64 0, .int .i64 0, .int .i64 0] 3)).alloc (.cells #[.int .i64 0, .int .i64 2, .int .i64 0] 3)) (.cells #[.int .i64 0, .int .i64 1] 3)).mono b3.size)
  have b5 := b4.trans ((bel1 ((((U.alloc (.cells #[.int .i64 0, .int .i64 1, .int .i64 (-1)] 3)).alloc (.cells #[.int .i64 0, .int .i64 0, .int .i64 0] 3)).alloc (.cells #[.int .i64 0, .int .i64 2, .int .i64 0] 3)).alloc (.cells #[.int .i64 0, .int .i64 1] 3)) (.cells #[.slice (some ⟨U.heap.size, 0, none⟩) 3 3, .slice (some ⟨U.heap.size + 1, 0, none⟩) 3 3, .slice (some ⟨U.heap.size + 1 + 1, 0, none⟩) 3 3, .slice (some ⟨U.heap.size + 1 + 1 + 1, 0, none⟩) 2 2] 39)).mono b4.size)
  have b6 := b5.trans ((bel1 (((((U.alloc (.cells #[.int .i64 0, .int .i64 1, .int .i64 (-1)] 3)).alloc (.cells #[.int .i64 0, .int .i64 0, .int .i64 0] 3)).alloc (.cells #[.int .i64 0, .int .i64 2, .int .i64 0] 3)).alloc (.cells #[.int .i64 0, .int .i64 1] 3)).alloc (.cells #[.slice (some ⟨U.heap.size, 0, none⟩) 3 3, .slice (some ⟨U.heap.size + 1, 0, none⟩) 3 3, .slice (some ⟨U.heap.size + 1 + 1, 0, none⟩) 3 3, .slice (some ⟨U.heap.size + 1 + 1 + 1, 0, none⟩) 2 2] 39)) (.cells #[.int .i64 0, .int .i64 13, .int .i64 3, .int .i64 2] 37)).mono b5.size)
  refine ⟨b6, ⟨kE.cell 0, kF.cell 0, ints_sl kA rfl, rfl, by decide, st0⟩, ?_⟩
  intro k hk
  rcases k with _ | _ | _ | _ | k
  · exact ⟨_, _, _, _, _, kE.cell 0, kF.cell 0, ints_sl kA rfl, rfl, by decide, st0⟩
  · exact ⟨[0, 0, 0], _, _, _, _, kE.cell 1, kF.cell 1, ints_sl kB rfl, rfl, by decide, st1⟩
  · exact ⟨[0, 2, 0], _, _, _, _, kE.cell 2, kF.cell 2, ints_sl kC rfl, rfl, by decide, st2⟩
  · exact ⟨[0, 1], _, _, _, _, kE.cell 3, kF.cell 3, ints_sl kD rfl, rfl, by decide, st3⟩
  · omega
theorem six {w : World} {g t : Nat} {a b c d e f : Value} (k : Bx w g t #[a, b, c, d, e, f]) : w.cell? ⟨g, 0, none⟩ = some a ∧ w.cell? ⟨g, 1, none⟩ = some b ∧ w.cell? ⟨g, 2, none⟩ = some c ∧ w.cell? ⟨g, 3, none⟩ = some d ∧ w.cell? ⟨g, 4, none⟩ = some e ∧ w.cell? ⟨g, 5, none⟩ = some f :=
  ⟨k.cell 0, k.cell 1, k.cell 2, k.cell 3, k.cell 4, k.cell 5⟩
/-- What is shown in a text of its own. -/
structure Later (P : Prop) : Prop where
  out : P
set_option maxRecDepth 100000 in
set_option maxHeartbeats 16000000 in
def known_A (w : World) : (P : Prop) ×' (Later P → ∀ (hT : Tab w.heap.size w),
    Calls Tryd.prog 3 #[] w fun e w' => e = .returned (.bool true) ∧ Below w.heap.size w w') := by
  refine PSigma.mk ?P ?g
  case g =>
    intro hTail hT
    go_enter Tryd.func3, Tryd.ntmps3
    go_upto_region 2 with (first
      | (go_at_call 4; have _t := hq4; clear _t; refine (voyageB_any _).mono ?_; rintro e5 y5 ⟨⟨bh5, b15, b25, bs5, bl5, rfl, E5⟩, hq5⟩; rw [show vcs exV (exP bh5 bs5 bl5) = #[.int .i64 800, .int .i64 200, .int .i64 300, .slice (some ⟨bh5, 0, none⟩) 2 2, .int .i64 60, .slice (some ⟨bs5, 0, none⟩) 2 2, .slice (some ⟨bl5, 0, none⟩) 3 3] from rfl])
      | (go_at_call 4; have _t := hq3; clear _t; refine (voyageB_any _).mono ?_; rintro e4 y4 ⟨⟨bh4, b14, b24, bs4, bl4, rfl, E4⟩, hq4⟩; rw [show vcs exV (exP bh4 bs4 bl4) = #[.int .i64 800, .int .i64 200, .int .i64 300, .slice (some ⟨bh4, 0, none⟩) 2 2, .int .i64 60, .slice (some ⟨bs4, 0, none⟩) 2 2, .slice (some ⟨bl4, 0, none⟩) 3 3] from rfl])
      | (go_at_call 4; have _t := hq2; clear _t; refine (voyageB_any _).mono ?_; rintro e3 y3 ⟨⟨bh3, b13, b23, bs3, bl3, rfl, E3⟩, hq3⟩; rw [show vcs exV (exP bh3 bs3 bl3) = #[.int .i64 800, .int .i64 200, .int .i64 300, .slice (some ⟨bh3, 0, none⟩) 2 2, .int .i64 60, .slice (some ⟨bs3, 0, none⟩) 2 2, .slice (some ⟨bl3, 0, none⟩) 3 3] from rfl])
      | (go_at_call 4; have _t := hq1; clear _t; refine (voyageB_any _).mono ?_; rintro e2 y2 ⟨⟨bh2, b12, b22, bs2, bl2, rfl, E2⟩, hq2⟩; rw [show vcs exV (exP bh2 bs2 bl2) = #[.int .i64 800, .int .i64 200, .int .i64 300, .slice (some ⟨bh2, 0, none⟩) 2 2, .int .i64 60, .slice (some ⟨bs2, 0, none⟩) 2 2, .slice (some ⟨bl2, 0, none⟩) 3 3] from rfl])
      | (go_at_call 4; refine (voyageB_any _).mono ?_; rintro e1 y1 ⟨⟨bh1, b11, b21, bs1, bl1, rfl, E1⟩, hq1⟩; rw [show vcs exV (exP bh1 bs1 bl1) = #[.int .i64 800, .int .i64 200, .int .i64 300, .slice (some ⟨bh1, 0, none⟩) 2 2, .int .i64 60, .slice (some ⟨bs1, 0, none⟩) 2 2, .slice (some ⟨bl1, 0, none⟩) 3 3] from rfl])
      | fail)
    have n_1 : w.heap.size ≤ bs1 ∧ bs1 < y1.heap.size ∧ w.heap.size ≤ b11 ∧ b11 < y1.heap.size ∧ w.heap.size ≤ b21 ∧ b21 < y1.heap.size := ⟨E1.gs, E1.ks.lt, E1.g1, E1.k1.lt, E1.g2, E1.k2.lt⟩
    have d_1 : b11 ≠ bs1 ∧ b21 ≠ bs1 := ⟨E1.d1.2.1, E1.d2.1⟩
    have n_2 : y1.heap.size ≤ bs2 ∧ bs2 < y2.heap.size ∧ y1.heap.size ≤ b12 ∧ b12 < y2.heap.size ∧ y1.heap.size ≤ b22 ∧ b22 < y2.heap.size := ⟨E2.gs, E2.ks.lt, E2.g1, E2.k1.lt, E2.g2, E2.k2.lt⟩
    have d_2 : b12 ≠ bs2 ∧ b22 ≠ bs2 := ⟨E2.d1.2.1, E2.d2.1⟩
    have n_3 : y2.heap.size ≤ bs3 ∧ bs3 < y3.heap.size ∧ y2.heap.size ≤ b13 ∧ b13 < y3.heap.size ∧ y2.heap.size ≤ b23 ∧ b23 < y3.heap.size := ⟨E3.gs, E3.ks.lt, E3.g1, E3.k1.lt, E3.g2, E3.k2.lt⟩
    have d_3 : b13 ≠ bs3 ∧ b23 ≠ bs3 := ⟨E3.d1.2.1, E3.d2.1⟩
    have n_4 : y3.heap.size ≤ bs4 ∧ bs4 < y4.heap.size ∧ y3.heap.size ≤ b14 ∧ b14 < y4.heap.size ∧ y3.heap.size ≤ b24 ∧ b24 < y4.heap.size := ⟨E4.gs, E4.ks.lt, E4.g1, E4.k1.lt, E4.g2, E4.k2.lt⟩
    have d_4 : b14 ≠ bs4 ∧ b24 ≠ bs4 := ⟨E4.d1.2.1, E4.d2.1⟩
    have n_5 : y4.heap.size ≤ bs5 ∧ bs5 < y5.heap.size ∧ y4.heap.size ≤ b15 ∧ b15 < y5.heap.size ∧ y4.heap.size ≤ b25 ∧ b25 < y5.heap.size := ⟨E5.gs, E5.ks.lt, E5.g1, E5.k1.lt, E5.g2, E5.k2.lt⟩
    have d_5 : b15 ≠ bs5 ∧ b25 ≠ bs5 := ⟨E5.d1.2.1, E5.d2.1⟩
    have K1 := (((((Bx.new y5 26 #[.int .i64 800, .int .i64 200, .int .i64 300, .slice (some ⟨bh1, 0, none⟩) 2 2, .int .i64 60, .slice (some ⟨bs1, 0, none⟩) 2 2, .slice (some ⟨bl1, 0, none⟩) 3 3]).alloc (.cells #[.int .i64 800, .int .i64 200, .int .i64 300, .slice (some ⟨bh2, 0, none⟩) 2 2, .int .i64 60, .slice (some ⟨bs2, 0, none⟩) 2 2, .slice (some ⟨bl2, 0, none⟩) 3 3] 26)).alloc (.cells #[.int .i64 800, .int .i64 200, .int .i64 300, .slice (some ⟨bh3, 0, none⟩) 2 2, .int .i64 60, .slice (some ⟨bs3, 0, none⟩) 2 2, .slice (some ⟨bl3, 0, none⟩) 3 3] 26)).alloc (.cells #[.int .i64 800, .int .i64 200, .int .i64 300, .slice (some ⟨bh4, 0, none⟩) 2 2, .int .i64 60, .slice (some ⟨bs4, 0, none⟩) 2 2, .slice (some ⟨bl4, 0, none⟩) 3 3] 26)).alloc (.cells #[.int .i64 800, .int .i64 200, .int .i64 300, .slice (some ⟨bh5, 0, none⟩) 2 2, .int .i64 60, .slice (some ⟨bs5, 0, none⟩) 2 2, .slice (some ⟨bl5, 0, none⟩) 3 3] 26))
    have K2 := ((((Bx.at (y5.alloc (.cells #[.int .i64 800, .int .i64 200, .int .i64 300, .slice (some ⟨bh1, 0, none⟩) 2 2, .int .i64 60, .slice (some ⟨bs1, 0, none⟩) 2 2, .slice (some ⟨bl1, 0, none⟩) 3 3] 26)) 26 #[.int .i64 800, .int .i64 200, .int .i64 300, .slice (some ⟨bh2, 0, none⟩) 2 2, .int .i64 60, .slice (some ⟨bs2, 0, none⟩) 2 2, .slice (some ⟨bl2, 0, none⟩) 3 3] (n := y5.heap.size + 1) (by simp)).alloc (.cells #[.int .i64 800, .int .i64 200, .int .i64 300, .slice (some ⟨bh3, 0, none⟩) 2 2, .int .i64 60, .slice (some ⟨bs3, 0, none⟩) 2 2, .slice (some ⟨bl3, 0, none⟩) 3 3] 26)).alloc (.cells #[.int .i64 800, .int .i64 200, .int .i64 300, .slice (some ⟨bh4, 0, none⟩) 2 2, .int .i64 60, .slice (some ⟨bs4, 0, none⟩) 2 2, .slice (some ⟨bl4, 0, none⟩) 3 3] 26)).alloc (.cells #[.int .i64 800, .int .i64 200, .int .i64 300, .slice (some ⟨bh5, 0, none⟩) 2 2, .int .i64 60, .slice (some ⟨bs5, 0, none⟩) 2 2, .slice (some ⟨bl5, 0, none⟩) 3 3] 26))
    have K3 := (((Bx.at ((y5.alloc (.cells #[.int .i64 800, .int .i64 200, .int .i64 300, .slice (some ⟨bh1, 0, none⟩) 2 2, .int .i64 60, .slice (some ⟨bs1, 0, none⟩) 2 2, .slice (some ⟨bl1, 0, none⟩) 3 3] 26)).alloc (.cells #[.int .i64 800, .int .i64 200, .int .i64 300, .slice (some ⟨bh2, 0, none⟩) 2 2, .int .i64 60, .slice (some ⟨bs2, 0, none⟩) 2 2, .slice (some ⟨bl2, 0, none⟩) 3 3] 26)) 26 #[.int .i64 800, .int .i64 200, .int .i64 300, .slice (some ⟨bh3, 0, none⟩) 2 2, .int .i64 60, .slice (some ⟨bs3, 0, none⟩) 2 2, .slice (some ⟨bl3, 0, none⟩) 3 3] (n := y5.heap.size + 1 + 1) (by simp)).alloc (.cells #[.int .i64 800, .int .i64 200, .int .i64 300, .slice (some ⟨bh4, 0, none⟩) 2 2, .int .i64 60, .slice (some ⟨bs4, 0, none⟩) 2 2, .slice (some ⟨bl4, 0, none⟩) 3 3] 26)).alloc (.cells #[.int .i64 800, .int .i64 200, .int .i64 300, .slice (some ⟨bh5, 0, none⟩) 2 2, .int .i64 60, .slice (some ⟨bs5, 0, none⟩) 2 2, .slice (some ⟨bl5, 0, none⟩) 3 3] 26))
    have K4 := ((Bx.at (((y5.alloc (.cells #[.int .i64 800, .int .i64 200, .int .i64 300, .slice (some ⟨bh1, 0, none⟩) 2 2, .int .i64 60, .slice (some ⟨bs1, 0, none⟩) 2 2, .slice (some ⟨bl1, 0, none⟩) 3 3] 26)).alloc (.cells #[.int .i64 800, .int .i64 200, .int .i64 300, .slice (some ⟨bh2, 0, none⟩) 2 2, .int .i64 60, .slice (some ⟨bs2, 0, none⟩) 2 2, .slice (some ⟨bl2, 0, none⟩) 3 3] 26)).alloc (.cells #[.int .i64 800, .int .i64 200, .int .i64 300, .slice (some ⟨bh3, 0, none⟩) 2 2, .int .i64 60, .slice (some ⟨bs3, 0, none⟩) 2 2, .slice (some ⟨bl3, 0, none⟩) 3 3] 26)) 26 #[.int .i64 800, .int .i64 200, .int .i64 300, .slice (some ⟨bh4, 0, none⟩) 2 2, .int .i64 60, .slice (some ⟨bs4, 0, none⟩) 2 2, .slice (some ⟨bl4, 0, none⟩) 3 3] (n := y5.heap.size + 1 + 1 + 1) (by simp)).alloc (.cells #[.int .i64 800, .int .i64 200, .int .i64 300, .slice (some ⟨bh5, 0, none⟩) 2 2, .int .i64 60, .slice (some ⟨bs5, 0, none⟩) 2 2, .slice (some ⟨bl5, 0, none⟩) 3 3] 26))
    have K5 := (Bx.at ((((y5.alloc (.cells #[.int .i64 800, .int .i64 200, .int .i64 300, .slice (some ⟨bh1, 0, none⟩) 2 2, .int .i64 60, .slice (some ⟨bs1, 0, none⟩) 2 2, .slice (some ⟨bl1, 0, none⟩) 3 3] 26)).alloc (.cells #[.int .i64 800, .int .i64 200, .int .i64 300, .slice (some ⟨bh2, 0, none⟩) 2 2, .int .i64 60, .slice (some ⟨bs2, 0, none⟩) 2 2, .slice (some ⟨bl2, 0, none⟩) 3 3] 26)).alloc (.cells #[.int .i64 800, .int .i64 200, .int .i64 300, .slice (some ⟨bh3, 0, none⟩) 2 2, .int .i64 60, .slice (some ⟨bs3, 0, none⟩) 2 2, .slice (some ⟨bl3, 0, none⟩) 3 3] 26)).alloc (.cells #[.int .i64 800, .int .i64 200, .int .i64 300, .slice (some ⟨bh4, 0, none⟩) 2 2, .int .i64 60, .slice (some ⟨bs4, 0, none⟩) 2 2, .slice (some ⟨bl4, 0, none⟩) 3 3] 26)) 26 #[.int .i64 800, .int .i64 200, .int .i64 300, .slice (some ⟨bh5, 0, none⟩) 2 2, .int .i64 60, .slice (some ⟨bs5, 0, none⟩) 2 2, .slice (some ⟨bl5, 0, none⟩) 3 3] (n := y5.heap.size + 1 + 1 + 1 + 1) (by simp))
    have BV := (((((bel1 y5 (.cells #[.int .i64 800, .int .i64 200, .int .i64 300, .slice (some ⟨bh1, 0, none⟩) 2 2, .int .i64 60, .slice (some ⟨bs1, 0, none⟩) 2 2, .slice (some ⟨bl1, 0, none⟩) 3 3] 26)).trans ((bel1 (y5.alloc (.cells #[.int .i64 800, .int .i64 200, .int .i64 300, .slice (some ⟨bh1, 0, none⟩) 2 2, .int .i64 60, .slice (some ⟨bs1, 0, none⟩) 2 2, .slice (some ⟨bl1, 0, none⟩) 3 3] 26)) (.cells #[.int .i64 800, .int .i64 200, .int .i64 300, .slice (some ⟨bh2, 0, none⟩) 2 2, .int .i64 60, .slice (some ⟨bs2, 0, none⟩) 2 2, .slice (some ⟨bl2, 0, none⟩) 3 3] 26)).mono ((bel1 y5 (.cells #[.int .i64 800, .int .i64 200, .int .i64 300, .slice (some ⟨bh1, 0, none⟩) 2 2, .int .i64 60, .slice (some ⟨bs1, 0, none⟩) 2 2, .slice (some ⟨bl1, 0, none⟩) 3 3] 26))).size)).trans ((bel1 ((y5.alloc (.cells #[.int .i64 800, .int .i64 200, .int .i64 300, .slice (some ⟨bh1, 0, none⟩) 2 2, .int .i64 60, .slice (some ⟨bs1, 0, none⟩) 2 2, .slice (some ⟨bl1, 0, none⟩) 3 3] 26)).alloc (.cells #[.int .i64 800, .int .i64 200, .int .i64 300, .slice (some ⟨bh2, 0, none⟩) 2 2, .int .i64 60, .slice (some ⟨bs2, 0, none⟩) 2 2, .slice (some ⟨bl2, 0, none⟩) 3 3] 26)) (.cells #[.int .i64 800, .int .i64 200, .int .i64 300, .slice (some ⟨bh3, 0, none⟩) 2 2, .int .i64 60, .slice (some ⟨bs3, 0, none⟩) 2 2, .slice (some ⟨bl3, 0, none⟩) 3 3] 26)).mono (((bel1 y5 (.cells #[.int .i64 800, .int .i64 200, .int .i64 300, .slice (some ⟨bh1, 0, none⟩) 2 2, .int .i64 60, .slice (some ⟨bs1, 0, none⟩) 2 2, .slice (some ⟨bl1, 0, none⟩) 3 3] 26)).trans ((bel1 (y5.alloc (.cells #[.int .i64 800, .int .i64 200, .int .i64 300, .slice (some ⟨bh1, 0, none⟩) 2 2, .int .i64 60, .slice (some ⟨bs1, 0, none⟩) 2 2, .slice (some ⟨bl1, 0, none⟩) 3 3] 26)) (.cells #[.int .i64 800, .int .i64 200, .int .i64 300, .slice (some ⟨bh2, 0, none⟩) 2 2, .int .i64 60, .slice (some ⟨bs2, 0, none⟩) 2 2, .slice (some ⟨bl2, 0, none⟩) 3 3] 26)).mono ((bel1 y5 (.cells #[.int .i64 800, .int .i64 200, .int .i64 300, .slice (some ⟨bh1, 0, none⟩) 2 2, .int .i64 60, .slice (some ⟨bs1, 0, none⟩) 2 2, .slice (some ⟨bl1, 0, none⟩) 3 3] 26))).size))).size)).trans ((bel1 (((y5.alloc (.cells #[.int .i64 800, .int .i64 200, .int .i64 300, .slice (some ⟨bh1, 0, none⟩) 2 2, .int .i64 60, .slice (some ⟨bs1, 0, none⟩) 2 2, .slice (some ⟨bl1, 0, none⟩) 3 3] 26)).alloc (.cells #[.int .i64 800, .int .i64 200, .int .i64 300, .slice (some ⟨bh2, 0, none⟩) 2 2, .int .i64 60, .slice (some ⟨bs2, 0, none⟩) 2 2, .slice (some ⟨bl2, 0, none⟩) 3 3] 26)).alloc (.cells #[.int .i64 800, .int .i64 200, .int .i64 300, .slice (some ⟨bh3, 0, none⟩) 2 2, .int .i64 60, .slice (some ⟨bs3, 0, none⟩) 2 2, .slice (some ⟨bl3, 0, none⟩) 3 3] 26)) (.cells #[.int .i64 800, .int .i64 200, .int .i64 300, .slice (some ⟨bh4, 0, none⟩) 2 2, .int .i64 60, .slice (some ⟨bs4, 0, none⟩) 2 2, .slice (some ⟨bl4, 0, none⟩) 3 3] 26)).mono ((((bel1 y5 (.cells #[.int .i64 800, .int .i64 200, .int .i64 300, .slice (some ⟨bh1, 0, none⟩) 2 2, .int .i64 60, .slice (some ⟨bs1, 0, none⟩) 2 2, .slice (some ⟨bl1, 0, none⟩) 3 3] 26)).trans ((bel1 (y5.alloc (.cells #[.int .i64 800, .int .i64 200, .int .i64 300, .slice (some ⟨bh1, 0, none⟩) 2 2, .int .i64 60, .slice (some ⟨bs1, 0, none⟩) 2 2, .slice (some ⟨bl1, 0, none⟩) 3 3] 26)) (.cells #[.int .i64 800, .int .i64 200, .int .i64 300, .slice (some ⟨bh2, 0, none⟩) 2 2, .int .i64 60, .slice (some ⟨bs2, 0, none⟩) 2 2, .slice (some ⟨bl2, 0, none⟩) 3 3] 26)).mono ((bel1 y5 (.cells #[.int .i64 800, .int .i64 200, .int .i64 300, .slice (some ⟨bh1, 0, none⟩) 2 2, .int .i64 60, .slice (some ⟨bs1, 0, none⟩) 2 2, .slice (some ⟨bl1, 0, none⟩) 3 3] 26))).size)).trans ((bel1 ((y5.alloc (.cells #[.int .i64 800, .int .i64 200, .int .i64 300, .slice (some ⟨bh1, 0, none⟩) 2 2, .int .i64 60, .slice (some ⟨bs1, 0, none⟩) 2 2, .slice (some ⟨bl1, 0, none⟩) 3 3] 26)).alloc (.cells #[.int .i64 800, .int .i64 200, .int .i64 300, .slice (some ⟨bh2, 0, none⟩) 2 2, .int .i64 60, .slice (some ⟨bs2, 0, none⟩) 2 2, .slice (some ⟨bl2, 0, none⟩) 3 3] 26)) (.cells #[.int .i64 800, .int .i64 200, .int .i64 300, .slice (some ⟨bh3, 0, none⟩) 2 2, .int .i64 60, .slice (some ⟨bs3, 0, none⟩) 2 2, .slice (some ⟨bl3, 0, none⟩) 3 3] 26)).mono (((bel1 y5 (.cells #[.int .i64 800, .int .i64 200, .int .i64 300, .slice (some ⟨bh1, 0, none⟩) 2 2, .int .i64 60, .slice (some ⟨bs1, 0, none⟩) 2 2, .slice (some ⟨bl1, 0, none⟩) 3 3] 26)).trans ((bel1 (y5.alloc (.cells #[.int .i64 800, .int .i64 200, .int .i64 300, .slice (some ⟨bh1, 0, none⟩) 2 2, .int .i64 60, .slice (some ⟨bs1, 0, none⟩) 2 2, .slice (some ⟨bl1, 0, none⟩) 3 3] 26)) (.cells #[.int .i64 800, .int .i64 200, .int .i64 300, .slice (some ⟨bh2, 0, none⟩) 2 2, .int .i64 60, .slice (some ⟨bs2, 0, none⟩) 2 2, .slice (some ⟨bl2, 0, none⟩) 3 3] 26)).mono ((bel1 y5 (.cells #[.int .i64 800, .int .i64 200, .int .i64 300, .slice (some ⟨bh1, 0, none⟩) 2 2, .int .i64 60, .slice (some ⟨bs1, 0, none⟩) 2 2, .slice (some ⟨bl1, 0, none⟩) 3 3] 26))).size))).size))).size)).trans ((bel1 ((((y5.alloc (.cells #[.int .i64 800, .int .i64 200, .int .i64 300, .slice (some ⟨bh1, 0, none⟩) 2 2, .int .i64 60, .slice (some ⟨bs1, 0, none⟩) 2 2, .slice (some ⟨bl1, 0, none⟩) 3 3] 26)).alloc (.cells #[.int .i64 800, .int .i64 200, .int .i64 300, .slice (some ⟨bh2, 0, none⟩) 2 2, .int .i64 60, .slice (some ⟨bs2, 0, none⟩) 2 2, .slice (some ⟨bl2, 0, none⟩) 3 3] 26)).alloc (.cells #[.int .i64 800, .int .i64 200, .int .i64 300, .slice (some ⟨bh3, 0, none⟩) 2 2, .int .i64 60, .slice (some ⟨bs3, 0, none⟩) 2 2, .slice (some ⟨bl3, 0, none⟩) 3 3] 26)).alloc (.cells #[.int .i64 800, .int .i64 200, .int .i64 300, .slice (some ⟨bh4, 0, none⟩) 2 2, .int .i64 60, .slice (some ⟨bs4, 0, none⟩) 2 2, .slice (some ⟨bl4, 0, none⟩) 3 3] 26)) (.cells #[.int .i64 800, .int .i64 200, .int .i64 300, .slice (some ⟨bh5, 0, none⟩) 2 2, .int .i64 60, .slice (some ⟨bs5, 0, none⟩) 2 2, .slice (some ⟨bl5, 0, none⟩) 3 3] 26)).mono (((((bel1 y5 (.cells #[.int .i64 800, .int .i64 200, .int .i64 300, .slice (some ⟨bh1, 0, none⟩) 2 2, .int .i64 60, .slice (some ⟨bs1, 0, none⟩) 2 2, .slice (some ⟨bl1, 0, none⟩) 3 3] 26)).trans ((bel1 (y5.alloc (.cells #[.int .i64 800, .int .i64 200, .int .i64 300, .slice (some ⟨bh1, 0, none⟩) 2 2, .int .i64 60, .slice (some ⟨bs1, 0, none⟩) 2 2, .slice (some ⟨bl1, 0, none⟩) 3 3] 26)) (.cells #[.int .i64 800, .int .i64 200, .int .i64 300, .slice (some ⟨bh2, 0, none⟩) 2 2, .int .i64 60, .slice (some ⟨bs2, 0, none⟩) 2 2, .slice (some ⟨bl2, 0, none⟩) 3 3] 26)).mono ((bel1 y5 (.cells #[.int .i64 800, .int .i64 200, .int .i64 300, .slice (some ⟨bh1, 0, none⟩) 2 2, .int .i64 60, .slice (some ⟨bs1, 0, none⟩) 2 2, .slice (some ⟨bl1, 0, none⟩) 3 3] 26))).size)).trans ((bel1 ((y5.alloc (.cells #[.int .i64 800, .int .i64 200, .int .i64 300, .slice (some ⟨bh1, 0, none⟩) 2 2, .int .i64 60, .slice (some ⟨bs1, 0, none⟩) 2 2, .slice (some ⟨bl1, 0, none⟩) 3 3] 26)).alloc (.cells #[.int .i64 800, .int .i64 200, .int .i64 300, .slice (some ⟨bh2, 0, none⟩) 2 2, .int .i64 60, .slice (some ⟨bs2, 0, none⟩) 2 2, .slice (some ⟨bl2, 0, none⟩) 3 3] 26)) (.cells #[.int .i64 800, .int .i64 200, .int .i64 300, .slice (some ⟨bh3, 0, none⟩) 2 2, .int .i64 60, .slice (some ⟨bs3, 0, none⟩) 2 2, .slice (some ⟨bl3, 0, none⟩) 3 3] 26)).mono (((bel1 y5 (.cells #[.int .i64 800, .int .i64 200, .int .i64 300, .slice (some ⟨bh1, 0, none⟩) 2 2, .int .i64 60, .slice (some ⟨bs1, 0, none⟩) 2 2, .slice (some ⟨bl1, 0, none⟩) 3 3] 26)).trans ((bel1 (y5.alloc (.cells #[.int .i64 800, .int .i64 200, .int .i64 300, .slice (some ⟨bh1, 0, none⟩) 2 2, .int .i64 60, .slice (some ⟨bs1, 0, none⟩) 2 2, .slice (some ⟨bl1, 0, none⟩) 3 3] 26)) (.cells #[.int .i64 800, .int .i64 200, .int .i64 300, .slice (some ⟨bh2, 0, none⟩) 2 2, .int .i64 60, .slice (some ⟨bs2, 0, none⟩) 2 2, .slice (some ⟨bl2, 0, none⟩) 3 3] 26)).mono ((bel1 y5 (.cells #[.int .i64 800, .int .i64 200, .int .i64 300, .slice (some ⟨bh1, 0, none⟩) 2 2, .int .i64 60, .slice (some ⟨bs1, 0, none⟩) 2 2, .slice (some ⟨bl1, 0, none⟩) 3 3] 26))).size))).size)).trans ((bel1 (((y5.alloc (.cells #[.int .i64 800, .int .i64 200, .int .i64 300, .slice (some ⟨bh1, 0, none⟩) 2 2, .int .i64 60, .slice (some ⟨bs1, 0, none⟩) 2 2, .slice (some ⟨bl1, 0, none⟩) 3 3] 26)).alloc (.cells #[.int .i64 800, .int .i64 200, .int .i64 300, .slice (some ⟨bh2, 0, none⟩) 2 2, .int .i64 60, .slice (some ⟨bs2, 0, none⟩) 2 2, .slice (some ⟨bl2, 0, none⟩) 3 3] 26)).alloc (.cells #[.int .i64 800, .int .i64 200, .int .i64 300, .slice (some ⟨bh3, 0, none⟩) 2 2, .int .i64 60, .slice (some ⟨bs3, 0, none⟩) 2 2, .slice (some ⟨bl3, 0, none⟩) 3 3] 26)) (.cells #[.int .i64 800, .int .i64 200, .int .i64 300, .slice (some ⟨bh4, 0, none⟩) 2 2, .int .i64 60, .slice (some ⟨bs4, 0, none⟩) 2 2, .slice (some ⟨bl4, 0, none⟩) 3 3] 26)).mono ((((bel1 y5 (.cells #[.int .i64 800, .int .i64 200, .int .i64 300, .slice (some ⟨bh1, 0, none⟩) 2 2, .int .i64 60, .slice (some ⟨bs1, 0, none⟩) 2 2, .slice (some ⟨bl1, 0, none⟩) 3 3] 26)).trans ((bel1 (y5.alloc (.cells #[.int .i64 800, .int .i64 200, .int .i64 300, .slice (some ⟨bh1, 0, none⟩) 2 2, .int .i64 60, .slice (some ⟨bs1, 0, none⟩) 2 2, .slice (some ⟨bl1, 0, none⟩) 3 3] 26)) (.cells #[.int .i64 800, .int .i64 200, .int .i64 300, .slice (some ⟨bh2, 0, none⟩) 2 2, .int .i64 60, .slice (some ⟨bs2, 0, none⟩) 2 2, .slice (some ⟨bl2, 0, none⟩) 3 3] 26)).mono ((bel1 y5 (.cells #[.int .i64 800, .int .i64 200, .int .i64 300, .slice (some ⟨bh1, 0, none⟩) 2 2, .int .i64 60, .slice (some ⟨bs1, 0, none⟩) 2 2, .slice (some ⟨bl1, 0, none⟩) 3 3] 26))).size)).trans ((bel1 ((y5.alloc (.cells #[.int .i64 800, .int .i64 200, .int .i64 300, .slice (some ⟨bh1, 0, none⟩) 2 2, .int .i64 60, .slice (some ⟨bs1, 0, none⟩) 2 2, .slice (some ⟨bl1, 0, none⟩) 3 3] 26)).alloc (.cells #[.int .i64 800, .int .i64 200, .int .i64 300, .slice (some ⟨bh2, 0, none⟩) 2 2, .int .i64 60, .slice (some ⟨bs2, 0, none⟩) 2 2, .slice (some ⟨bl2, 0, none⟩) 3 3] 26)) (.cells #[.int .i64 800, .int .i64 200, .int .i64 300, .slice (some ⟨bh3, 0, none⟩) 2 2, .int .i64 60, .slice (some ⟨bs3, 0, none⟩) 2 2, .slice (some ⟨bl3, 0, none⟩) 3 3] 26)).mono (((bel1 y5 (.cells #[.int .i64 800, .int .i64 200, .int .i64 300, .slice (some ⟨bh1, 0, none⟩) 2 2, .int .i64 60, .slice (some ⟨bs1, 0, none⟩) 2 2, .slice (some ⟨bl1, 0, none⟩) 3 3] 26)).trans ((bel1 (y5.alloc (.cells #[.int .i64 800, .int .i64 200, .int .i64 300, .slice (some ⟨bh1, 0, none⟩) 2 2, .int .i64 60, .slice (some ⟨bs1, 0, none⟩) 2 2, .slice (some ⟨bl1, 0, none⟩) 3 3] 26)) (.cells #[.int .i64 800, .int .i64 200, .int .i64 300, .slice (some ⟨bh2, 0, none⟩) 2 2, .int .i64 60, .slice (some ⟨bs2, 0, none⟩) 2 2, .slice (some ⟨bl2, 0, none⟩) 3 3] 26)).mono ((bel1 y5 (.cells #[.int .i64 800, .int .i64 200, .int .i64 300, .slice (some ⟨bh1, 0, none⟩) 2 2, .int .i64 60, .slice (some ⟨bs1, 0, none⟩) 2 2, .slice (some ⟨bl1, 0, none⟩) 3 3] 26))).size))).size))).size))).size))
    have HE1 := Lib.hid (((((E1.up.call hq2).call hq3).call hq4).call hq5).call BV)
    have HE2 := Lib.hid ((((E2.up.call hq3).call hq4).call hq5).call BV)
    have HE3 := Lib.hid (((E3.up.call hq4).call hq5).call BV)
    have HE4 := Lib.hid ((E4.up.call hq5).call BV)
    have HE5 := Lib.hid (E5.up.call BV)
    have z1 := hq1.size
    have z2 := hq2.size
    have z3 := hq3.size
    have z4 := hq4.size
    have z5 := hq5.size
    have B5 := hq1.trans ((hq2.trans ((hq3.trans ((hq4.trans (hq5.mono hq4.size)).mono hq3.size)).mono hq2.size)).mono hq1.size)
    have BW := B5.trans (BV.mono B5.size)
    obtain ⟨V, hV⟩ : ∃ V, (((((y5.alloc (.cells #[.int .i64 800, .int .i64 200, .int .i64 300, .slice (some ⟨bh1, 0, none⟩) 2 2, .int .i64 60, .slice (some ⟨bs1, 0, none⟩) 2 2, .slice (some ⟨bl1, 0, none⟩) 3 3] 26)).alloc (.cells #[.int .i64 800, .int .i64 200, .int .i64 300, .slice (some ⟨bh2, 0, none⟩) 2 2, .int .i64 60, .slice (some ⟨bs2, 0, none⟩) 2 2, .slice (some ⟨bl2, 0, none⟩) 3 3] 26)).alloc (.cells #[.int .i64 800, .int .i64 200, .int .i64 300, .slice (some ⟨bh3, 0, none⟩) 2 2, .int .i64 60, .slice (some ⟨bs3, 0, none⟩) 2 2, .slice (some ⟨bl3, 0, none⟩) 3 3] 26)).alloc (.cells #[.int .i64 800, .int .i64 200, .int .i64 300, .slice (some ⟨bh4, 0, none⟩) 2 2, .int .i64 60, .slice (some ⟨bs4, 0, none⟩) 2 2, .slice (some ⟨bl4, 0, none⟩) 3 3] 26)).alloc (.cells #[.int .i64 800, .int .i64 200, .int .i64 300, .slice (some ⟨bh5, 0, none⟩) 2 2, .int .i64 60, .slice (some ⟨bs5, 0, none⟩) 2 2, .slice (some ⟨bl5, 0, none⟩) 3 3] 26)) = V := ⟨_, rfl⟩
    rw [hV] at K1 K2 K3 K4 K5 BV HE1 HE2 HE3 HE4 HE5 BW ⊢
    obtain ⟨q1, hq1'⟩ : ∃ q, y5.heap.size = q := ⟨_, rfl⟩
    have hq1l : y5.heap.size ≤ q1 := by omega
    rw [hq1'] at K1 K2 K3 K4 K5 ⊢
    have HK1 := Lib.hid K1
    have HK2 := Lib.hid K2
    have HK3 := Lib.hid K3
    have HK4 := Lib.hid K4
    have HK5 := Lib.hid K5
    clear hV hq1' E1 E2 E3 E4 E5 hq1 hq2 hq3 hq4 hq5 K1 K2 K3 K4 K5 BV B5
    refine AnyG.startC (by kernel_rfl) ?_
    refine AnyG.takeP (i := 0) (v := ?_) rfl (by kernel_rfl) (fun _ _ _ h => h) rfl ?_ ?_
    rotate_left
    · (intro w'; go_simp; try with_reducible rfl)
    try simp only [Act.put, List.getElem_toArray, List.getElem_cons_succ, List.getElem_cons_zero, List.setIfInBounds_toArray, List.set_cons_zero, List.set_cons_succ]
    refine AnyG.takeP (i := 5) (v := ?_) rfl (by kernel_rfl) (fun _ _ _ h => h) rfl ?_ ?_
    rotate_left
    · (intro w'; go_simp; try with_reducible rfl)
    try simp only [Act.put, List.getElem_toArray, List.getElem_cons_succ, List.getElem_cons_zero, List.setIfInBounds_toArray, List.set_cons_zero, List.set_cons_succ]
    refine AnyG.enter (fun w' : World => Bx w' q1 26 #[.int .i64 800, .int .i64 200, .int .i64 300, .slice (some ⟨bh1, 0, none⟩) 2 2, .int .i64 60, .slice (some ⟨bs1, 0, none⟩) 2 2, .slice (some ⟨bl1, 0, none⟩) 3 3] ∧ Bx w' (q1 + 1 + 1 + 1) 26 #[.int .i64 800, .int .i64 200, .int .i64 300, .slice (some ⟨bh4, 0, none⟩) 2 2, .int .i64 60, .slice (some ⟨bs4, 0, none⟩) 2 2, .slice (some ⟨bl4, 0, none⟩) 3 3] ∧ Bx w' bs1 35 (exS b11 b21) ∧ Bx w' bs4 35 (exS b14 b24)) (fun i => i != 20) ?_
    have hS : (fun w' : World => Bx w' q1 26 #[.int .i64 800, .int .i64 200, .int .i64 300, .slice (some ⟨bh1, 0, none⟩) 2 2, .int .i64 60, .slice (some ⟨bs1, 0, none⟩) 2 2, .slice (some ⟨bl1, 0, none⟩) 3 3] ∧ Bx w' (q1 + 1 + 1 + 1) 26 #[.int .i64 800, .int .i64 200, .int .i64 300, .slice (some ⟨bh4, 0, none⟩) 2 2, .int .i64 60, .slice (some ⟨bs4, 0, none⟩) 2 2, .slice (some ⟨bl4, 0, none⟩) 3 3] ∧ Bx w' bs1 35 (exS b11 b21) ∧ Bx w' bs4 35 (exS b14 b24)) (World.drew _) := ⟨HK1.out.drew, HK4.out.drew, HE1.out.e.ks.drew, HE4.out.e.ks.drew⟩
    refine AnyG.takeC (i := 1) (v := ?_) rfl (by kernel_rfl) (fun _ _ _ h => h) rfl ?_ hS ?_
    rotate_left
    · (intro w' hSw; (try dsimp only at hSw); obtain ⟨x0, x1, x2, x3, x4, x5, x6, xf, xz⟩ := (hSw.1).seven; go_simp; try with_reducible rfl)
    try simp only [Act.put, List.getElem_toArray, List.getElem_cons_succ, List.getElem_cons_zero, List.setIfInBounds_toArray, List.set_cons_zero, List.set_cons_succ]
    refine AnyG.takeC (i := 2) (v := ?_) rfl (by kernel_rfl) (fun _ _ _ h => h) rfl ?_ hS ?_
    rotate_left
    · (intro w' hSw; (try dsimp only at hSw); go_simp; try with_reducible rfl)
    try simp only [Act.put, List.getElem_toArray, List.getElem_cons_succ, List.getElem_cons_zero, List.setIfInBounds_toArray, List.set_cons_zero, List.set_cons_succ]
    refine AnyG.takeC (i := 3) (v := ?_) rfl (by kernel_rfl) (fun _ _ _ h => h) rfl ?_ hS ?_
    rotate_left
    · (intro w' hSw; (try dsimp only at hSw); go_simp; try with_reducible rfl)
    try simp only [Act.put, List.getElem_toArray, List.getElem_cons_succ, List.getElem_cons_zero, List.setIfInBounds_toArray, List.set_cons_zero, List.set_cons_succ]
    refine AnyG.takeC (i := 4) (v := ?_) rfl (by kernel_rfl) (fun _ _ _ h => h) rfl ?_ hS ?_
    rotate_left
    · (intro w' hSw; (try dsimp only at hSw); obtain ⟨s0, s1, s2, s3, s4, s5⟩ := six (hSw.2.2.1); go_simp; try with_reducible rfl)
    try simp only [Act.put, List.getElem_toArray, List.getElem_cons_succ, List.getElem_cons_zero, List.setIfInBounds_toArray, List.set_cons_zero, List.set_cons_succ]
    refine AnyG.takeC (i := 6) (v := ?_) rfl (by kernel_rfl) (fun _ _ _ h => h) rfl ?_ hS ?_
    rotate_left
    · (intro w' hSw; (try dsimp only at hSw); obtain ⟨x0, x1, x2, x3, x4, x5, x6, xf, xz⟩ := (hSw.2.1).seven; go_simp; try with_reducible rfl)
    try simp only [Act.put, List.getElem_toArray, List.getElem_cons_succ, List.getElem_cons_zero, List.setIfInBounds_toArray, List.set_cons_zero, List.set_cons_succ]
    refine AnyG.takeC (i := 7) (v := ?_) rfl (by kernel_rfl) (fun _ _ _ h => h) rfl ?_ hS ?_
    rotate_left
    · (intro w' hSw; (try dsimp only at hSw); go_simp; try with_reducible rfl)
    try simp only [Act.put, List.getElem_toArray, List.getElem_cons_succ, List.getElem_cons_zero, List.setIfInBounds_toArray, List.set_cons_zero, List.set_cons_succ]
    refine AnyG.takeC (i := 8) (v := ?_) rfl (by kernel_rfl) (fun _ _ _ h => h) rfl ?_ hS ?_
    rotate_left
    · (intro w' hSw; (try dsimp only at hSw); go_simp; try with_reducible rfl)
    try simp only [Act.put, List.getElem_toArray, List.getElem_cons_succ, List.getElem_cons_zero, List.setIfInBounds_toArray, List.set_cons_zero, List.set_cons_succ]
    refine AnyG.takeC (i := 9) (v := ?_) rfl (by kernel_rfl) (fun _ _ _ h => h) rfl ?_ hS ?_
    rotate_left
    · (intro w' hSw; (try dsimp only at hSw); obtain ⟨s0, s1, s2, s3, s4, s5⟩ := six (hSw.2.2.2); go_simp; try with_reducible rfl)
    try simp only [Act.put, List.getElem_toArray, List.getElem_cons_succ, List.getElem_cons_zero, List.setIfInBounds_toArray, List.set_cons_zero, List.set_cons_succ]
    refine AnyG.one (i := 10) (by kernel_rfl) rfl rfl ?_
    go_simp
    refine (rng_any 1500 1550 _).mono ?_
    rintro e10 y10 ⟨rfl, hb10⟩
    have hVZ := ((Below.refl V.heap.size V).drew).trans (hb10.mono (Below.refl V.heap.size V).drew.size)
    obtain ⟨Z, hZ⟩ : ∃ Z, y10 = Z := ⟨_, rfl⟩
    rw [hZ] at hb10 hVZ ⊢
    clear hZ
    refine Onward.on (And.intro (hS.1.call hb10) (And.intro (hS.2.1.call hb10) (And.intro (hS.2.2.1.call hb10) (hS.2.2.2.call hb10)))) (fun hS2 => ?_)
    clear hS
    have hS := hS2
    clear hS2
    try simp only [Act.put, List.getElem_toArray, List.getElem_cons_succ, List.getElem_cons_zero, List.setIfInBounds_toArray, List.set_cons_zero, List.set_cons_succ]
    refine AnyG.takeC (i := 11) (v := ?_) rfl (by kernel_rfl) (fun _ _ _ h => h) rfl ?_ hS ?_
    rotate_left
    · (intro w' hSw; (try dsimp only at hSw); go_simp; try with_reducible rfl)
    try simp only [Act.put, List.getElem_toArray, List.getElem_cons_succ, List.getElem_cons_zero, List.setIfInBounds_toArray, List.set_cons_zero, List.set_cons_succ]
    refine AnyG.takeC (i := 12) (v := ?_) rfl (by kernel_rfl) (fun _ _ _ h => h) rfl ?_ hS ?_
    rotate_left
    · (intro w' hSw; (try dsimp only at hSw); go_simp; try with_reducible rfl)
    try simp only [Act.put, List.getElem_toArray, List.getElem_cons_succ, List.getElem_cons_zero, List.setIfInBounds_toArray, List.set_cons_zero, List.set_cons_succ]
    refine AnyG.one (i := 13) (by kernel_rfl) rfl rfl ?_
    have F1 := HE1.out.call hVZ
    have c13 : Z.cell? ⟨b21, 6, none⟩ = some (.int .i64 480) := F1.e.k2.cell 6
    have f13 := F1.e.k2.free
    go_simp
    clear c13 f13
    refine Onward.on (And.intro (hS.1.far (p := ⟨b21, 6, none⟩) (by simp; try omega) (.int .i64 240)) (And.intro (hS.2.1.far (p := ⟨b21, 6, none⟩) (by simp; try omega) (.int .i64 240)) (And.intro (hS.2.2.1.far (p := ⟨b21, 6, none⟩) (by simp; try omega) (.int .i64 240)) (hS.2.2.2.far (p := ⟨b21, 6, none⟩) (by simp; try omega) (.int .i64 240))))) (fun hS2 => ?_)
    clear hS
    have hS := hS2
    clear hS2
    try simp only [Act.put, List.getElem_toArray, List.getElem_cons_succ, List.getElem_cons_zero, List.setIfInBounds_toArray, List.set_cons_zero, List.set_cons_succ]
    refine AnyG.takeC (i := 14) (v := ?_) rfl (by kernel_rfl) (fun _ _ _ h => h) rfl ?_ hS ?_
    rotate_left
    · (intro w' hSw; (try dsimp only at hSw); go_simp; try with_reducible rfl)
    try simp only [Act.put, List.getElem_toArray, List.getElem_cons_succ, List.getElem_cons_zero, List.setIfInBounds_toArray, List.set_cons_zero, List.set_cons_succ]
    refine AnyG.one (i := 15) (by kernel_rfl) rfl rfl ?_
    have c13 : _ = some (Value.slice (some ⟨bh2, 0, none⟩) 2 2) := ((HK2.out.call hVZ).far (p := ⟨b21, 6, none⟩) (by simp; try omega) (.int .i64 240)).cell 3
    have f13 := ((HK2.out.call hVZ).far (p := ⟨b21, 6, none⟩) (by simp; try omega) (.int .i64 240)).free
    go_simp
    clear c13 f13
    refine Onward.on (And.intro (hS.1.far (p := ⟨q1 + 1, 3, none⟩) (by simp; try omega) (.slice none 0 0)) (And.intro (hS.2.1.far (p := ⟨q1 + 1, 3, none⟩) (by simp; try omega) (.slice none 0 0)) (And.intro (hS.2.2.1.far (p := ⟨q1 + 1, 3, none⟩) (by simp; try omega) (.slice none 0 0)) (hS.2.2.2.far (p := ⟨q1 + 1, 3, none⟩) (by simp; try omega) (.slice none 0 0))))) (fun hS2 => ?_)
    clear hS
    have hS := hS2
    clear hS2
    try simp only [Act.put, List.getElem_toArray, List.getElem_cons_succ, List.getElem_cons_zero, List.setIfInBounds_toArray, List.set_cons_zero, List.set_cons_succ]
    refine AnyG.takeC (i := 16) (v := ?_) rfl (by kernel_rfl) (fun _ _ _ h => h) rfl ?_ hS ?_
    rotate_left
    · (intro w' hSw; (try dsimp only at hSw); go_simp; try with_reducible rfl)
    try simp only [Act.put, List.getElem_toArray, List.getElem_cons_succ, List.getElem_cons_zero, List.setIfInBounds_toArray, List.set_cons_zero, List.set_cons_succ]
    refine AnyG.one (i := 17) (by kernel_rfl) rfl rfl ?_
    have c13 : _ = some (Value.int .i64 300) := (((HK3.out.call hVZ).far (p := ⟨b21, 6, none⟩) (by simp; try omega) (.int .i64 240)).far (p := ⟨q1 + 1, 3, none⟩) (by simp; try omega) (.slice none 0 0)).cell 2
    have f13 := (((HK3.out.call hVZ).far (p := ⟨b21, 6, none⟩) (by simp; try omega) (.int .i64 240)).far (p := ⟨q1 + 1, 3, none⟩) (by simp; try omega) (.slice none 0 0)).free
    go_simp
    clear c13 f13
    refine Onward.on (And.intro (hS.1.far (p := ⟨q1 + 1 + 1, 2, none⟩) (by simp; try omega) (.int .i64 59)) (And.intro (hS.2.1.far (p := ⟨q1 + 1 + 1, 2, none⟩) (by simp; try omega) (.int .i64 59)) (And.intro (hS.2.2.1.far (p := ⟨q1 + 1 + 1, 2, none⟩) (by simp; try omega) (.int .i64 59)) (hS.2.2.2.far (p := ⟨q1 + 1 + 1, 2, none⟩) (by simp; try omega) (.int .i64 59))))) (fun hS2 => ?_)
    clear hS
    have hS := hS2
    clear hS2
    try simp only [Act.put, List.getElem_toArray, List.getElem_cons_succ, List.getElem_cons_zero, List.setIfInBounds_toArray, List.set_cons_zero, List.set_cons_succ]
    refine AnyG.takeC (i := 18) (v := ?_) rfl (by kernel_rfl) (fun _ _ _ h => h) rfl ?_ hS ?_
    rotate_left
    · (intro w' hSw; (try dsimp only at hSw); go_simp; try with_reducible rfl)
    try simp only [Act.put, List.getElem_toArray, List.getElem_cons_succ, List.getElem_cons_zero, List.setIfInBounds_toArray, List.set_cons_zero, List.set_cons_succ]
    refine AnyG.takeC (i := 19) (v := ?_) rfl (by kernel_rfl) (fun _ _ _ h => h) rfl ?_ hS ?_
    rotate_left
    · (intro w' hSw; (try dsimp only at hSw); go_simp; try with_reducible rfl)
    try simp only [Act.put, List.getElem_toArray, List.getElem_cons_succ, List.getElem_cons_zero, List.setIfInBounds_toArray, List.set_cons_zero, List.set_cons_succ]
    refine AnyG.one (i := 20) (by kernel_rfl) rfl rfl ?_
    have F4 := (((HE4.out.call hVZ).far (p := ⟨b21, 6, none⟩) (by simp; try omega) (.int .i64 240)).far (p := ⟨q1 + 1, 3, none⟩) (by simp; try omega) (.slice none 0 0)).far (p := ⟨q1 + 1 + 1, 2, none⟩) (by simp; try omega) (.int .i64 59)
    have c13 : _ = some (Value.int .i64 1600) := F4.e.k1.cell 1
    have c14 : _ = some (Value.int .i64 1650) := F4.e.k1.cell 2
    have f13 := F4.e.k1.free
    go_simp
    clear c13 c14 f13
    refine Onward.last rfl ?_
    try simp only [Act.put, List.getElem_toArray, List.getElem_cons_succ, List.getElem_cons_zero, List.setIfInBounds_toArray, List.set_cons_zero, List.set_cons_succ]
    refine AnyG.done (by kernel_rfl) ?_ _
    go_simp
    have G1 := ((((((HE1.out.call hVZ).set2 6 (.int .i64 240)).far (p := ⟨q1 + 1, 3, none⟩) (by simp; try omega) (.slice none 0 0)).far (p := ⟨q1 + 1 + 1, 2, none⟩) (by simp; try omega) (.int .i64 59)).far (p := ⟨b14, 1, none⟩) (by simp; try omega) (.int .i64 1500)).far (p := ⟨b14, 2, none⟩) (by simp; try omega) (.int .i64 1550))
    have G2 := ((((((HE2.out.call hVZ).far (p := ⟨b21, 6, none⟩) (by simp; try omega) (.int .i64 240)).far (p := ⟨q1 + 1, 3, none⟩) (by simp; try omega) (.slice none 0 0)).far (p := ⟨q1 + 1 + 1, 2, none⟩) (by simp; try omega) (.int .i64 59)).far (p := ⟨b14, 1, none⟩) (by simp; try omega) (.int .i64 1500)).far (p := ⟨b14, 2, none⟩) (by simp; try omega) (.int .i64 1550))
    have G3 := ((((((HE3.out.call hVZ).far (p := ⟨b21, 6, none⟩) (by simp; try omega) (.int .i64 240)).far (p := ⟨q1 + 1, 3, none⟩) (by simp; try omega) (.slice none 0 0)).far (p := ⟨q1 + 1 + 1, 2, none⟩) (by simp; try omega) (.int .i64 59)).far (p := ⟨b14, 1, none⟩) (by simp; try omega) (.int .i64 1500)).far (p := ⟨b14, 2, none⟩) (by simp; try omega) (.int .i64 1550))
    have G4 := ((((((HE4.out.call hVZ).far (p := ⟨b21, 6, none⟩) (by simp; try omega) (.int .i64 240)).far (p := ⟨q1 + 1, 3, none⟩) (by simp; try omega) (.slice none 0 0)).far (p := ⟨q1 + 1 + 1, 2, none⟩) (by simp; try omega) (.int .i64 59)).set1 1 (.int .i64 1500)).set1 2 (.int .i64 1550))
    have G5 := ((((((HE5.out.call hVZ).far (p := ⟨b21, 6, none⟩) (by simp; try omega) (.int .i64 240)).far (p := ⟨q1 + 1, 3, none⟩) (by simp; try omega) (.slice none 0 0)).far (p := ⟨q1 + 1 + 1, 2, none⟩) (by simp; try omega) (.int .i64 59)).far (p := ⟨b14, 1, none⟩) (by simp; try omega) (.int .i64 1500)).far (p := ⟨b14, 2, none⟩) (by simp; try omega) (.int .i64 1550))
    have J1 := ((((((HK1.out.call hVZ).far (p := ⟨b21, 6, none⟩) (by simp; try omega) (.int .i64 240)).far (p := ⟨q1 + 1, 3, none⟩) (by simp; try omega) (.slice none 0 0)).far (p := ⟨q1 + 1 + 1, 2, none⟩) (by simp; try omega) (.int .i64 59)).far (p := ⟨b14, 1, none⟩) (by simp; try omega) (.int .i64 1500)).far (p := ⟨b14, 2, none⟩) (by simp; try omega) (.int .i64 1550))
    have J2 := ((((((HK2.out.call hVZ).far (p := ⟨b21, 6, none⟩) (by simp; try omega) (.int .i64 240)).set_ 3 (.slice none 0 0)).far (p := ⟨q1 + 1 + 1, 2, none⟩) (by simp; try omega) (.int .i64 59)).far (p := ⟨b14, 1, none⟩) (by simp; try omega) (.int .i64 1500)).far (p := ⟨b14, 2, none⟩) (by simp; try omega) (.int .i64 1550))
    have J3 := ((((((HK3.out.call hVZ).far (p := ⟨b21, 6, none⟩) (by simp; try omega) (.int .i64 240)).far (p := ⟨q1 + 1, 3, none⟩) (by simp; try omega) (.slice none 0 0)).set_ 2 (.int .i64 59)).far (p := ⟨b14, 1, none⟩) (by simp; try omega) (.int .i64 1500)).far (p := ⟨b14, 2, none⟩) (by simp; try omega) (.int .i64 1550))
    have J4 := ((((((HK4.out.call hVZ).far (p := ⟨b21, 6, none⟩) (by simp; try omega) (.int .i64 240)).far (p := ⟨q1 + 1, 3, none⟩) (by simp; try omega) (.slice none 0 0)).far (p := ⟨q1 + 1 + 1, 2, none⟩) (by simp; try omega) (.int .i64 59)).far (p := ⟨b14, 1, none⟩) (by simp; try omega) (.int .i64 1500)).far (p := ⟨b14, 2, none⟩) (by simp; try omega) (.int .i64 1550))
    have J5 := ((((((HK5.out.call hVZ).far (p := ⟨b21, 6, none⟩) (by simp; try omega) (.int .i64 240)).far (p := ⟨q1 + 1, 3, none⟩) (by simp; try omega) (.slice none 0 0)).far (p := ⟨q1 + 1 + 1, 2, none⟩) (by simp; try omega) (.int .i64 59)).far (p := ⟨b14, 1, none⟩) (by simp; try omega) (.int .i64 1500)).far (p := ⟨b14, 2, none⟩) (by simp; try omega) (.int .i64 1550))
    have BW2 := BW.trans (hVZ.mono BW.size)
    simp only [List.setIfInBounds_toArray, List.set_cons_zero, List.set_cons_succ] at J2 J3
    have hb_1 := n_1; have hb_4 := n_4
    have BW3 := ((((BW2.setCell (p := ⟨b21, 6, none⟩) (by simp; omega) (.int .i64 240)).setCell (p := ⟨q1 + 1, 3, none⟩) (by simp; omega) (.slice none 0 0)).setCell (p := ⟨q1 + 1 + 1, 2, none⟩) (by simp; omega) (.int .i64 59)).setCell (p := ⟨b14, 1, none⟩) (by simp; omega) (.int .i64 1500)).setCell (p := ⟨b14, 2, none⟩) (by simp; omega) (.int .i64 1550)
    obtain ⟨U, hU⟩ : ∃ U, (((((Z.setCell ⟨b21, 6, none⟩ (.int .i64 240)).setCell ⟨q1 + 1, 3, none⟩ (.slice none 0 0)).setCell ⟨q1 + 1 + 1, 2, none⟩ (.int .i64 59)).setCell ⟨b14, 1, none⟩ (.int .i64 1500)).setCell ⟨b14, 2, none⟩ (.int .i64 1550)) = U := ⟨_, rfl⟩
    rw [hU] at G1 G2 G3 G4 G5 J1 J2 J3 J4 J5 BW3 ⊢
    clear hU BW2 hVZ BW HE1 HE2 HE3 HE4 HE5 HK1 HK2 HK3 HK4 HK5 hb_1 hb_4
    go_wp2_with fail
    go_cut [5] from 23 to 53 (fun v5 x => v5 = .pointer (some ⟨q1 + 1 + 1 + 1 + 1, 0, none⟩) ∧ (Bx x (q1) 26 #[.int .i64 800, .int .i64 200, .int .i64 300, .slice (some ⟨bh1, 0, none⟩) 2 2, .int .i64 60, .slice (some ⟨bs1, 0, none⟩) 2 2, .slice (some ⟨bl1, 0, none⟩) 3 3]) ∧ (Bx x (q1 + 1) 26 #[.int .i64 800, .int .i64 200, .int .i64 300, .slice none 0 0, .int .i64 60, .slice (some ⟨bs2, 0, none⟩) 2 2, .slice (some ⟨bl2, 0, none⟩) 3 3]) ∧ (Bx x (q1 + 1 + 1) 26 #[.int .i64 800, .int .i64 200, .int .i64 59, .slice (some ⟨bh3, 0, none⟩) 2 2, .int .i64 60, .slice (some ⟨bs3, 0, none⟩) 2 2, .slice (some ⟨bl3, 0, none⟩) 3 3]) ∧ (Bx x (q1 + 1 + 1 + 1) 26 #[.int .i64 800, .int .i64 200, .int .i64 300, .slice (some ⟨bh4, 0, none⟩) 2 2, .int .i64 60, .slice (some ⟨bs4, 0, none⟩) 2 2, .slice (some ⟨bl4, 0, none⟩) 3 3]) ∧ (Bx x (q1 + 1 + 1 + 1 + 1) 26 #[.int .i64 800, .int .i64 200, .int .i64 300, .slice (some ⟨bh5, 0, none⟩) 1 2, .int .i64 60, .slice (some ⟨bs5, 0, none⟩) 1 2, .slice none 0 0]) ∧ (ExR x w.heap.size y1.heap.size bh1 b11 b21 bs1 bl1 exH exL1 (exL2.setIfInBounds 6 (.int .i64 240)) (exS b11 b21) exC) ∧ (ExR x y1.heap.size y2.heap.size bh2 b12 b22 bs2 bl2 exH exL1 exL2 (exS b12 b22) exC) ∧ (ExR x y2.heap.size y3.heap.size bh3 b13 b23 bs3 bl3 exH exL1 exL2 (exS b13 b23) exC) ∧ (ExR x y3.heap.size y4.heap.size bh4 b14 b24 bs4 bl4 exH ((exL1.setIfInBounds 1 (.int .i64 1500)).setIfInBounds 2 (.int .i64 1550)) exL2 (exS b14 b24) exC) ∧ (ExR x y4.heap.size y5.heap.size bh5 b15 b25 bs5 bl5 exH exL1 exL2 (exS b15 b25) exC) ∧ Below w.heap.size w x)
    case first =>
      refine AnyG.startC (by kernel_rfl) ?_
      refine AnyG.takeP (i := 0) (v := ?_) rfl (by kernel_rfl) (fun _ _ _ h => h) rfl ?_ ?_
      rotate_left
      · (intro w'; go_simp; try with_reducible rfl)
      try simp only [Act.put, List.getElem_toArray, List.getElem_cons_succ, List.getElem_cons_zero, List.setIfInBounds_toArray, List.set_cons_zero, List.set_cons_succ]
      refine AnyG.takeP (i := 3) (v := ?_) rfl (by kernel_rfl) (fun _ _ _ h => h) rfl ?_ ?_
      rotate_left
      · (intro w'; go_simp; try with_reducible rfl)
      try simp only [Act.put, List.getElem_toArray, List.getElem_cons_succ, List.getElem_cons_zero, List.setIfInBounds_toArray, List.set_cons_zero, List.set_cons_succ]
      refine AnyG.enter (fun w' : World => True) (fun i => true) ?_
      have hS : (fun w' : World => True) (U.drew) := trivial
      try dsimp only at hS
      obtain ⟨y0, hy0⟩ : ∃ y, U.drew = y := ⟨_, rfl⟩
      have KC := J5.drew
      have BY := BW3.drew
      have HY1 := G1.call (Below.refl _ _).drew
      have HY2 := G2.call (Below.refl _ _).drew
      have HY3 := G3.call (Below.refl _ _).drew
      have HY4 := G4.call (Below.refl _ _).drew
      have HY5 := G5.call (Below.refl _ _).drew
      have JY1 := J1.drew
      have JY2 := J2.drew
      have JY3 := J3.drew
      have JY4 := J4.drew
      rw [hy0] at KC BY HY1 HY2 HY3 HY4 HY5 JY1 JY2 JY3 JY4 ⊢
      clear J1 J2 J3 J4 J5 G1 G2 G3 G4 G5 BW3
      clear hy0
      refine AnyG.all (rs := [1, 4]) (by kernel_rfl) (by simp) ?_
      intro ii hii
      simp only [List.mem_cons, List.not_mem_nil, or_false] at hii
      rcases hii with rfl | rfl
      · refine ⟨_, rfl, rfl, ?_⟩
        obtain ⟨x0, x1, x2, x3, x4, x5, x6, xf, xz⟩ := KC.seven
        go_simp
        clear x0 x1 x2 x3 x4 x5 x6 xf xz
        have hSn := trivial
        clear hS
        refine Onward.on hSn (fun hS => ?_)
        try dsimp only at hS
        clear hSn
        try simp only [Act.put, List.getElem_toArray, List.getElem_cons_succ, List.getElem_cons_zero, List.setIfInBounds_toArray, List.set_cons_zero, List.set_cons_succ]
        refine AnyG.takeC (i := 2) (v := ?_) rfl (by kernel_rfl) (fun _ _ _ h => h) rfl ?_ hS ?_
        rotate_left
        · (intro w' hSw; (try dsimp only at hSw); go_simp; try with_reducible rfl)
        try simp only [Act.put, List.getElem_toArray, List.getElem_cons_succ, List.getElem_cons_zero, List.setIfInBounds_toArray, List.set_cons_zero, List.set_cons_succ]
        refine AnyG.one (i := 4) (by kernel_rfl) rfl rfl ?_
        obtain ⟨x0, x1, x2, x3, x4, x5, x6, xf, xz⟩ := KC.seven
        go_simp
        clear x0 x1 x2 x3 x4 x5 x6 xf xz
        have hSn := trivial
        clear hS
        refine Onward.on hSn (fun hS => ?_)
        try dsimp only at hS
        clear hSn
        try simp only [Act.put, List.getElem_toArray, List.getElem_cons_succ, List.getElem_cons_zero, List.setIfInBounds_toArray, List.set_cons_zero, List.set_cons_succ]
        refine AnyG.takeC (i := 5) (v := ?_) rfl (by kernel_rfl) (fun _ _ _ h => h) rfl ?_ hS ?_
        rotate_left
        · (intro w' hSw; (try dsimp only at hSw); go_simp; try with_reducible rfl)
        try simp only [Act.put, List.getElem_toArray, List.getElem_cons_succ, List.getElem_cons_zero, List.setIfInBounds_toArray, List.set_cons_zero, List.set_cons_succ]
        refine AnyG.takeC (i := 6) (v := ?_) rfl (by kernel_rfl) (fun _ _ _ h => h) rfl ?_ hS ?_
        rotate_left
        · (intro w' hSw; (try dsimp only at hSw); go_simp; try with_reducible rfl)
        try simp only [Act.put, List.getElem_toArray, List.getElem_cons_succ, List.getElem_cons_zero, List.setIfInBounds_toArray, List.set_cons_zero, List.set_cons_succ]
        refine AnyG.one (i := 7) (by kernel_rfl) rfl rfl ?_
        obtain ⟨x0, x1, x2, x3, x4, x5, x6, xf, xz⟩ := KC.seven
        go_simp
        clear x0 x1 x2 x3 x4 x5 x6 xf xz
        replace KC := KC.set_ 3 (.slice (some ⟨bh5, 0, none⟩) 1 2)
        simp only [List.setIfInBounds_toArray, List.set_cons_zero, List.set_cons_succ] at KC
        have hSn := trivial
        clear hS
        refine Onward.on hSn (fun hS => ?_)
        try dsimp only at hS
        clear hSn
        try simp only [Act.put, List.getElem_toArray, List.getElem_cons_succ, List.getElem_cons_zero, List.setIfInBounds_toArray, List.set_cons_zero, List.set_cons_succ]
        refine AnyG.takeC (i := 8) (v := ?_) rfl (by kernel_rfl) (fun _ _ _ h => h) rfl ?_ hS ?_
        rotate_left
        · (intro w' hSw; (try dsimp only at hSw); go_simp; try with_reducible rfl)
        try simp only [Act.put, List.getElem_toArray, List.getElem_cons_succ, List.getElem_cons_zero, List.setIfInBounds_toArray, List.set_cons_zero, List.set_cons_succ]
        refine AnyG.one (i := 9) (by kernel_rfl) rfl rfl ?_
        obtain ⟨x0, x1, x2, x3, x4, x5, x6, xf, xz⟩ := KC.seven
        go_simp
        clear x0 x1 x2 x3 x4 x5 x6 xf xz
        replace KC := KC.set_ 5 (.slice (some ⟨bs5, 0, none⟩) 1 2)
        simp only [List.setIfInBounds_toArray, List.set_cons_zero, List.set_cons_succ] at KC
        have hSn := trivial
        clear hS
        refine Onward.on hSn (fun hS => ?_)
        try dsimp only at hS
        clear hSn
        try simp only [Act.put, List.getElem_toArray, List.getElem_cons_succ, List.getElem_cons_zero, List.setIfInBounds_toArray, List.set_cons_zero, List.set_cons_succ]
        refine AnyG.takeC (i := 10) (v := ?_) rfl (by kernel_rfl) (fun _ _ _ h => h) rfl ?_ hS ?_
        rotate_left
        · (intro w' hSw; (try dsimp only at hSw); go_simp; try with_reducible rfl)
        try simp only [Act.put, List.getElem_toArray, List.getElem_cons_succ, List.getElem_cons_zero, List.setIfInBounds_toArray, List.set_cons_zero, List.set_cons_succ]
        refine AnyG.one (i := 11) (by kernel_rfl) rfl rfl ?_
        obtain ⟨x0, x1, x2, x3, x4, x5, x6, xf, xz⟩ := KC.seven
        go_simp
        clear x0 x1 x2 x3 x4 x5 x6 xf xz
        replace KC := KC.set_ 6 (.slice none 0 0)
        simp only [List.setIfInBounds_toArray, List.set_cons_zero, List.set_cons_succ] at KC
        have hSn := trivial
        clear hS
        refine Onward.on hSn (fun hS => ?_)
        try dsimp only at hS
        clear hSn
        try simp only [Act.put, List.getElem_toArray, List.getElem_cons_succ, List.getElem_cons_zero, List.setIfInBounds_toArray, List.set_cons_zero, List.set_cons_succ]
        refine AnyG.done (by kernel_rfl) ?_ _
        go_simp
        go_wp2_with fail
        go_meet
        exact ⟨rfl, (((JY1.far (p := ⟨q1 + 1 + 1 + 1 + 1, 3, none⟩) (by simp; try omega) (.slice (some ⟨bh5, 0, none⟩) 1 2)).far (p := ⟨q1 + 1 + 1 + 1 + 1, 5, none⟩) (by simp; try omega) (.slice (some ⟨bs5, 0, none⟩) 1 2)).far (p := ⟨q1 + 1 + 1 + 1 + 1, 6, none⟩) (by simp; try omega) (.slice none 0 0)), (((JY2.far (p := ⟨q1 + 1 + 1 + 1 + 1, 3, none⟩) (by simp; try omega) (.slice (some ⟨bh5, 0, none⟩) 1 2)).far (p := ⟨q1 + 1 + 1 + 1 + 1, 5, none⟩) (by simp; try omega) (.slice (some ⟨bs5, 0, none⟩) 1 2)).far (p := ⟨q1 + 1 + 1 + 1 + 1, 6, none⟩) (by simp; try omega) (.slice none 0 0)), (((JY3.far (p := ⟨q1 + 1 + 1 + 1 + 1, 3, none⟩) (by simp; try omega) (.slice (some ⟨bh5, 0, none⟩) 1 2)).far (p := ⟨q1 + 1 + 1 + 1 + 1, 5, none⟩) (by simp; try omega) (.slice (some ⟨bs5, 0, none⟩) 1 2)).far (p := ⟨q1 + 1 + 1 + 1 + 1, 6, none⟩) (by simp; try omega) (.slice none 0 0)), (((JY4.far (p := ⟨q1 + 1 + 1 + 1 + 1, 3, none⟩) (by simp; try omega) (.slice (some ⟨bh5, 0, none⟩) 1 2)).far (p := ⟨q1 + 1 + 1 + 1 + 1, 5, none⟩) (by simp; try omega) (.slice (some ⟨bs5, 0, none⟩) 1 2)).far (p := ⟨q1 + 1 + 1 + 1 + 1, 6, none⟩) (by simp; try omega) (.slice none 0 0)), KC, (((HY1.far (p := ⟨q1 + 1 + 1 + 1 + 1, 3, none⟩) (by simp; try omega) (.slice (some ⟨bh5, 0, none⟩) 1 2)).far (p := ⟨q1 + 1 + 1 + 1 + 1, 5, none⟩) (by simp; try omega) (.slice (some ⟨bs5, 0, none⟩) 1 2)).far (p := ⟨q1 + 1 + 1 + 1 + 1, 6, none⟩) (by simp; try omega) (.slice none 0 0)), (((HY2.far (p := ⟨q1 + 1 + 1 + 1 + 1, 3, none⟩) (by simp; try omega) (.slice (some ⟨bh5, 0, none⟩) 1 2)).far (p := ⟨q1 + 1 + 1 + 1 + 1, 5, none⟩) (by simp; try omega) (.slice (some ⟨bs5, 0, none⟩) 1 2)).far (p := ⟨q1 + 1 + 1 + 1 + 1, 6, none⟩) (by simp; try omega) (.slice none 0 0)), (((HY3.far (p := ⟨q1 + 1 + 1 + 1 + 1, 3, none⟩) (by simp; try omega) (.slice (some ⟨bh5, 0, none⟩) 1 2)).far (p := ⟨q1 + 1 + 1 + 1 + 1, 5, none⟩) (by simp; try omega) (.slice (some ⟨bs5, 0, none⟩) 1 2)).far (p := ⟨q1 + 1 + 1 + 1 + 1, 6, none⟩) (by simp; try omega) (.slice none 0 0)), (((HY4.far (p := ⟨q1 + 1 + 1 + 1 + 1, 3, none⟩) (by simp; try omega) (.slice (some ⟨bh5, 0, none⟩) 1 2)).far (p := ⟨q1 + 1 + 1 + 1 + 1, 5, none⟩) (by simp; try omega) (.slice (some ⟨bs5, 0, none⟩) 1 2)).far (p := ⟨q1 + 1 + 1 + 1 + 1, 6, none⟩) (by simp; try omega) (.slice none 0 0)), (((HY5.far (p := ⟨q1 + 1 + 1 + 1 + 1, 3, none⟩) (by simp; try omega) (.slice (some ⟨bh5, 0, none⟩) 1 2)).far (p := ⟨q1 + 1 + 1 + 1 + 1, 5, none⟩) (by simp; try omega) (.slice (some ⟨bs5, 0, none⟩) 1 2)).far (p := ⟨q1 + 1 + 1 + 1 + 1, 6, none⟩) (by simp; try omega) (.slice none 0 0)), (((BY.setCell (p := ⟨q1 + 1 + 1 + 1 + 1, 3, none⟩) (by simp; omega) (.slice (some ⟨bh5, 0, none⟩) 1 2)).setCell (p := ⟨q1 + 1 + 1 + 1 + 1, 5, none⟩) (by simp; omega) (.slice (some ⟨bs5, 0, none⟩) 1 2)).setCell (p := ⟨q1 + 1 + 1 + 1 + 1, 6, none⟩) (by simp; omega) (.slice none 0 0))⟩
      · refine ⟨_, rfl, rfl, ?_⟩
        obtain ⟨x0, x1, x2, x3, x4, x5, x6, xf, xz⟩ := KC.seven
        go_simp
        clear x0 x1 x2 x3 x4 x5 x6 xf xz
        have hSn := trivial
        clear hS
        refine Onward.on hSn (fun hS => ?_)
        try dsimp only at hS
        clear hSn
        try simp only [Act.put, List.getElem_toArray, List.getElem_cons_succ, List.getElem_cons_zero, List.setIfInBounds_toArray, List.set_cons_zero, List.set_cons_succ]
        refine AnyG.takeC (i := 5) (v := ?_) rfl (by kernel_rfl) (fun _ _ _ h => h) rfl ?_ hS ?_
        rotate_left
        · (intro w' hSw; (try dsimp only at hSw); go_simp; try with_reducible rfl)
        try simp only [Act.put, List.getElem_toArray, List.getElem_cons_succ, List.getElem_cons_zero, List.setIfInBounds_toArray, List.set_cons_zero, List.set_cons_succ]
        refine AnyG.one (i := 1) (by kernel_rfl) rfl rfl ?_
        obtain ⟨x0, x1, x2, x3, x4, x5, x6, xf, xz⟩ := KC.seven
        go_simp
        clear x0 x1 x2 x3 x4 x5 x6 xf xz
        have hSn := trivial
        clear hS
        refine Onward.on hSn (fun hS => ?_)
        try dsimp only at hS
        clear hSn
        try simp only [Act.put, List.getElem_toArray, List.getElem_cons_succ, List.getElem_cons_zero, List.setIfInBounds_toArray, List.set_cons_zero, List.set_cons_succ]
        refine AnyG.takeC (i := 2) (v := ?_) rfl (by kernel_rfl) (fun _ _ _ h => h) rfl ?_ hS ?_
        rotate_left
        · (intro w' hSw; (try dsimp only at hSw); go_simp; try with_reducible rfl)
        try simp only [Act.put, List.getElem_toArray, List.getElem_cons_succ, List.getElem_cons_zero, List.setIfInBounds_toArray, List.set_cons_zero, List.set_cons_succ]
        refine AnyG.takeC (i := 6) (v := ?_) rfl (by kernel_rfl) (fun _ _ _ h => h) rfl ?_ hS ?_
        rotate_left
        · (intro w' hSw; (try dsimp only at hSw); go_simp; try with_reducible rfl)
        try simp only [Act.put, List.getElem_toArray, List.getElem_cons_succ, List.getElem_cons_zero, List.setIfInBounds_toArray, List.set_cons_zero, List.set_cons_succ]
        refine AnyG.one (i := 7) (by kernel_rfl) rfl rfl ?_
        obtain ⟨x0, x1, x2, x3, x4, x5, x6, xf, xz⟩ := KC.seven
        go_simp
        clear x0 x1 x2 x3 x4 x5 x6 xf xz
        replace KC := KC.set_ 3 (.slice (some ⟨bh5, 0, none⟩) 1 2)
        simp only [List.setIfInBounds_toArray, List.set_cons_zero, List.set_cons_succ] at KC
        have hSn := trivial
        clear hS
        refine Onward.on hSn (fun hS => ?_)
        try dsimp only at hS
        clear hSn
        try simp only [Act.put, List.getElem_toArray, List.getElem_cons_succ, List.getElem_cons_zero, List.setIfInBounds_toArray, List.set_cons_zero, List.set_cons_succ]
        refine AnyG.takeC (i := 8) (v := ?_) rfl (by kernel_rfl) (fun _ _ _ h => h) rfl ?_ hS ?_
        rotate_left
        · (intro w' hSw; (try dsimp only at hSw); go_simp; try with_reducible rfl)
        try simp only [Act.put, List.getElem_toArray, List.getElem_cons_succ, List.getElem_cons_zero, List.setIfInBounds_toArray, List.set_cons_zero, List.set_cons_succ]
        refine AnyG.one (i := 9) (by kernel_rfl) rfl rfl ?_
        obtain ⟨x0, x1, x2, x3, x4, x5, x6, xf, xz⟩ := KC.seven
        go_simp
        clear x0 x1 x2 x3 x4 x5 x6 xf xz
        replace KC := KC.set_ 5 (.slice (some ⟨bs5, 0, none⟩) 1 2)
        simp only [List.setIfInBounds_toArray, List.set_cons_zero, List.set_cons_succ] at KC
        have hSn := trivial
        clear hS
        refine Onward.on hSn (fun hS => ?_)
        try dsimp only at hS
        clear hSn
        try simp only [Act.put, List.getElem_toArray, List.getElem_cons_succ, List.getElem_cons_zero, List.setIfInBounds_toArray, List.set_cons_zero, List.set_cons_succ]
        refine AnyG.takeC (i := 10) (v := ?_) rfl (by kernel_rfl) (fun _ _ _ h => h) rfl ?_ hS ?_
        rotate_left
        · (intro w' hSw; (try dsimp only at hSw); go_simp; try with_reducible rfl)
        try simp only [Act.put, List.getElem_toArray, List.getElem_cons_succ, List.getElem_cons_zero, List.setIfInBounds_toArray, List.set_cons_zero, List.set_cons_succ]
        refine AnyG.one (i := 11) (by kernel_rfl) rfl rfl ?_
        obtain ⟨x0, x1, x2, x3, x4, x5, x6, xf, xz⟩ := KC.seven
        go_simp
        clear x0 x1 x2 x3 x4 x5 x6 xf xz
        replace KC := KC.set_ 6 (.slice none 0 0)
        simp only [List.setIfInBounds_toArray, List.set_cons_zero, List.set_cons_succ] at KC
        have hSn := trivial
        clear hS
        refine Onward.on hSn (fun hS => ?_)
        try dsimp only at hS
        clear hSn
        try simp only [Act.put, List.getElem_toArray, List.getElem_cons_succ, List.getElem_cons_zero, List.setIfInBounds_toArray, List.set_cons_zero, List.set_cons_succ]
        refine AnyG.done (by kernel_rfl) ?_ _
        go_simp
        go_wp2_with fail
        go_meet
        exact ⟨rfl, (((JY1.far (p := ⟨q1 + 1 + 1 + 1 + 1, 3, none⟩) (by simp; try omega) (.slice (some ⟨bh5, 0, none⟩) 1 2)).far (p := ⟨q1 + 1 + 1 + 1 + 1, 5, none⟩) (by simp; try omega) (.slice (some ⟨bs5, 0, none⟩) 1 2)).far (p := ⟨q1 + 1 + 1 + 1 + 1, 6, none⟩) (by simp; try omega) (.slice none 0 0)), (((JY2.far (p := ⟨q1 + 1 + 1 + 1 + 1, 3, none⟩) (by simp; try omega) (.slice (some ⟨bh5, 0, none⟩) 1 2)).far (p := ⟨q1 + 1 + 1 + 1 + 1, 5, none⟩) (by simp; try omega) (.slice (some ⟨bs5, 0, none⟩) 1 2)).far (p := ⟨q1 + 1 + 1 + 1 + 1, 6, none⟩) (by simp; try omega) (.slice none 0 0)), (((JY3.far (p := ⟨q1 + 1 + 1 + 1 + 1, 3, none⟩) (by simp; try omega) (.slice (some ⟨bh5, 0, none⟩) 1 2)).far (p := ⟨q1 + 1 + 1 + 1 + 1, 5, none⟩) (by simp; try omega) (.slice (some ⟨bs5, 0, none⟩) 1 2)).far (p := ⟨q1 + 1 + 1 + 1 + 1, 6, none⟩) (by simp; try omega) (.slice none 0 0)), (((JY4.far (p := ⟨q1 + 1 + 1 + 1 + 1, 3, none⟩) (by simp; try omega) (.slice (some ⟨bh5, 0, none⟩) 1 2)).far (p := ⟨q1 + 1 + 1 + 1 + 1, 5, none⟩) (by simp; try omega) (.slice (some ⟨bs5, 0, none⟩) 1 2)).far (p := ⟨q1 + 1 + 1 + 1 + 1, 6, none⟩) (by simp; try omega) (.slice none 0 0)), KC, (((HY1.far (p := ⟨q1 + 1 + 1 + 1 + 1, 3, none⟩) (by simp; try omega) (.slice (some ⟨bh5, 0, none⟩) 1 2)).far (p := ⟨q1 + 1 + 1 + 1 + 1, 5, none⟩) (by simp; try omega) (.slice (some ⟨bs5, 0, none⟩) 1 2)).far (p := ⟨q1 + 1 + 1 + 1 + 1, 6, none⟩) (by simp; try omega) (.slice none 0 0)), (((HY2.far (p := ⟨q1 + 1 + 1 + 1 + 1, 3, none⟩) (by simp; try omega) (.slice (some ⟨bh5, 0, none⟩) 1 2)).far (p := ⟨q1 + 1 + 1 + 1 + 1, 5, none⟩) (by simp; try omega) (.slice (some ⟨bs5, 0, none⟩) 1 2)).far (p := ⟨q1 + 1 + 1 + 1 + 1, 6, none⟩) (by simp; try omega) (.slice none 0 0)), (((HY3.far (p := ⟨q1 + 1 + 1 + 1 + 1, 3, none⟩) (by simp; try omega) (.slice (some ⟨bh5, 0, none⟩) 1 2)).far (p := ⟨q1 + 1 + 1 + 1 + 1, 5, none⟩) (by simp; try omega) (.slice (some ⟨bs5, 0, none⟩) 1 2)).far (p := ⟨q1 + 1 + 1 + 1 + 1, 6, none⟩) (by simp; try omega) (.slice none 0 0)), (((HY4.far (p := ⟨q1 + 1 + 1 + 1 + 1, 3, none⟩) (by simp; try omega) (.slice (some ⟨bh5, 0, none⟩) 1 2)).far (p := ⟨q1 + 1 + 1 + 1 + 1, 5, none⟩) (by simp; try omega) (.slice (some ⟨bs5, 0, none⟩) 1 2)).far (p := ⟨q1 + 1 + 1 + 1 + 1, 6, none⟩) (by simp; try omega) (.slice none 0 0)), (((HY5.far (p := ⟨q1 + 1 + 1 + 1 + 1, 3, none⟩) (by simp; try omega) (.slice (some ⟨bh5, 0, none⟩) 1 2)).far (p := ⟨q1 + 1 + 1 + 1 + 1, 5, none⟩) (by simp; try omega) (.slice (some ⟨bs5, 0, none⟩) 1 2)).far (p := ⟨q1 + 1 + 1 + 1 + 1, 6, none⟩) (by simp; try omega) (.slice none 0 0)), (((BY.setCell (p := ⟨q1 + 1 + 1 + 1 + 1, 3, none⟩) (by simp; omega) (.slice (some ⟨bh5, 0, none⟩) 1 2)).setCell (p := ⟨q1 + 1 + 1 + 1 + 1, 5, none⟩) (by simp; omega) (.slice (some ⟨bs5, 0, none⟩) 1 2)).setCell (p := ⟨q1 + 1 + 1 + 1 + 1, 6, none⟩) (by simp; omega) (.slice none 0 0))⟩
    case rest =>
      obtain ⟨rfl, J1, J2, J3, J4, J5, G1, G2, G3, G4, G5, BW⟩ := hcut
      obtain ⟨U, hU⟩ : ∃ U, U = wc := ⟨_, rfl⟩
      subst hU
      have hlf : ∀ {v : Vg}, v.ss.length = 2 → (∀ s ∈ v.ss, s.lv.length ≤ 6) → LvFit v := fun _ h s hs => by have := h s hs; omega
      have V1 : VoyAt U U.heap.size lateV ⟨some ⟨bh1, 0, none⟩, 2, 2, some ⟨bs1, 0, none⟩, 2, 2, some ⟨bl1, 0, none⟩, 3, 3⟩ := ExB.voy G1.e (hs := lateV.hs) (l1 := [⟨0, 1600, 1650⟩]) (l2 := [⟨0, 1300, 1350⟩, ⟨240, 1600, 1650⟩, ⟨240, 1200, 1250⟩]) (ls := lateV.ls) rfl rfl rfl rfl rfl rfl
      have V2e : VoyAt U U.heap.size exV ⟨some ⟨bh2, 0, none⟩, 2, 2, some ⟨bs2, 0, none⟩, 2, 2, some ⟨bl2, 0, none⟩, 3, 3⟩ := ExB.voy G2.e (hs := exV.hs) (l1 := [⟨0, 1600, 1650⟩]) (l2 := [⟨0, 1300, 1350⟩, ⟨240, 1600, 1650⟩, ⟨480, 1200, 1250⟩]) (ls := exV.ls) rfl rfl rfl rfl rfl rfl
      have V2 : VoyAt U U.heap.size noneV ⟨none, 0, 0, some ⟨bs2, 0, none⟩, 2, 2, some ⟨bl2, 0, none⟩, 3, 3⟩ := ⟨rfl, rfl, rfl, Sl.nil _ _ _ _, V2e.ss, V2e.ls⟩
      have V3 : VoyAt U U.heap.size tightV ⟨some ⟨bh3, 0, none⟩, 2, 2, some ⟨bs3, 0, none⟩, 2, 2, some ⟨bl3, 0, none⟩, 3, 3⟩ := ExB.voy G3.e (hs := exV.hs) (l1 := [⟨0, 1600, 1650⟩]) (l2 := [⟨0, 1300, 1350⟩, ⟨240, 1600, 1650⟩, ⟨480, 1200, 1250⟩]) (ls := exV.ls) rfl rfl rfl rfl rfl rfl
      have V4 : VoyAt U U.heap.size lowV ⟨some ⟨bh4, 0, none⟩, 2, 2, some ⟨bs4, 0, none⟩, 2, 2, some ⟨bl4, 0, none⟩, 3, 3⟩ := ExB.voy G4.e (hs := exV.hs) (l1 := [⟨0, 1500, 1550⟩]) (l2 := [⟨0, 1300, 1350⟩, ⟨240, 1600, 1650⟩, ⟨480, 1200, 1250⟩]) (ls := exV.ls) rfl rfl rfl rfl rfl rfl
      have hTU : Tab U.heap.size U := fun x hx => hT x (BW.trans (hx.mono BW.size))
      clear V2e G1 G2 G3 G4
      go_upto_region 4 with fail
      have HF1 : Hid (LvFit lateV) := Lib.hid (hlf rfl (by decide))
      have HF2 : Hid (LvFit noneV) := Lib.hid (hlf rfl (by decide))
      have HG1 : Hid (Vp.Fit ⟨some ⟨bh1, 0, none⟩, 2, 2, some ⟨bs1, 0, none⟩, 2, 2, some ⟨bl1, 0, none⟩, 3, 3⟩) := Lib.hid ⟨by simp, by simp, by simp⟩
      have HG2 : Hid (Vp.Fit ⟨none, 0, 0, some ⟨bs2, 0, none⟩, 2, 2, some ⟨bl2, 0, none⟩, 3, 3⟩) := Lib.hid ⟨by simp, by simp, by simp⟩
      have HV1 := Lib.hid V1
      have HV2 := Lib.hid V2
      have HV3 := Lib.hid V3
      have HV4 := Lib.hid V4
      have HJ1 := Lib.hid J1
      have HJ2 := Lib.hid J2
      have HJ3 := Lib.hid J3
      have HJ4 := Lib.hid J4
      have HJ5 := Lib.hid J5
      have HG5 := Lib.hid G5
      clear V1 V2 V3 V4 J1 J2 J3 J4 J5 G5 hlf n_1 n_2 n_3 n_4 n_5 d_1 d_2 d_3 d_4 d_5
      go_cut [70] from 54 to 70 (fun v70 x => v70 = .bool false ∧ Below U.heap.size U x)
      case first =>
        go_wp2_with (first
          | (go_at_call 6; refine (awake_any _).mono ?_; rintro e z1 ⟨rfl, hz1⟩)
          | (go_at_call 4; refine (voyage_any _).mono ?_; rintro e z2 ⟨⟨p2, hF2, -, rfl, hV2⟩, hz2⟩; rw [vcs_def]; have B2 := hz1.trans (hz2.mono hz1.size))
          | (go_at_call 7; have _t := hz4; clear _t; refine (check_any noneV ⟨none, 0, 0, some ⟨bs2, 0, none⟩, 2, 2, some ⟨bl2, 0, none⟩, 3, 3⟩ _ HG2.out HF2.out (HV2.out.call B4)).mono ?_; rintro e z5 ⟨rfl, hz5⟩; rw [none_ck])
          | (go_at_call 7; have _t := hz3; clear _t; refine (check_any lateV ⟨some ⟨bh1, 0, none⟩, 2, 2, some ⟨bs1, 0, none⟩, 2, 2, some ⟨bl1, 0, none⟩, 3, 3⟩ _ HG1.out HF1.out (HV1.out.call B3)).mono ?_; rintro e z4 ⟨rfl, hz4⟩; rw [late_ck]; have B4 := B3.trans (hz4.mono B3.size); obtain ⟨d0, d1, d2, d3, d4, d5, d6, df, dz⟩ := (HJ2.out.call B4).seven)
          | (go_at_call 7; refine (check_any exV p2 _ hF2 ex_lf hV2).mono ?_; rintro e z3 ⟨rfl, hz3⟩; rw [ex_ck]; have B3 := B2.trans (hz3.mono B2.size); obtain ⟨c0, c1, c2, c3, c4, c5, c6, cf, cz⟩ := (HJ1.out.call B3).seven)
          | fail)
        go_meet
        exact ⟨rfl, B4.trans (hz5.mono B4.size)⟩
      case rest =>
        obtain ⟨rfl, hBU⟩ := hcut
        replace BW := BW.trans (hBU.mono BW.size)
        replace hTU := Tab.call hTU hBU
        replace HV3 := Lib.hid (HV3.out.call hBU)
        replace HV4 := Lib.hid (HV4.out.call hBU)
        replace HJ3 := Lib.hid (HJ3.out.call hBU)
        replace HJ4 := Lib.hid (HJ4.out.call hBU)
        replace HJ5 := Lib.hid (HJ5.out.call hBU)
        replace HG5 := Lib.hid (HG5.out.call hBU)
        clear hBU HV1 HV2 HJ1 HJ2 HF1 HF2 HG1 HG2
        obtain ⟨U, hU⟩ : ∃ U, U = wc := ⟨_, rfl⟩
        subst hU
        go_upto_region 6 with fail
        go_cut [6, 7] from 71 to 76 (fun v6 v7 x => ∃ qs qa qe : Nat, v6 = .slice (some ⟨qa, 0, none⟩) 4 4 ∧ v7 = .slice (some ⟨qe, 0, none⟩) 4 4 ∧ Kn7 x q1 bh3 bs3 bl3 bh4 bs4 bl4 bh5 bs5 qs qa qe ∧ Below w.heap.size w x)
        case first =>
          go_wp2_with fail
          go_meet
          obtain ⟨hb, hs0, hst⟩ := st_rows U
          exact ⟨U.heap.size, U.heap.size + 1 + 1 + 1 + 1, U.heap.size + 1 + 1 + 1 + 1 + 1, rfl, rfl, ⟨HV3.out.call hb, HV4.out.call hb, one_at (HG5.out.call hb), HJ3.out.call hb, HJ4.out.call hb, HJ5.out.call hb, hst, hs0, Tab.call hTU hb⟩, BW.trans (hb.mono BW.size)⟩
        case rest =>
          obtain ⟨qs, qa, qe, rfl, rfl, HK, HBW⟩ := hcut
          replace HK := Lib.hid HK
          replace HBW := Lib.hid HBW
          obtain ⟨X, hX⟩ : ∃ X, X = wc := ⟨_, rfl⟩
          subst hX
          clear HV3 HV4 HJ3 HJ4 HJ5 HG5 hTU BW
          rename_i j0 j1 j2 j3 j4
          revert hT j0 y1 bh1 b11 b21 bs1 bl1 y2 bh2 b12 b22 bs2 bl2 y3 bh3 b13 b23 bs3 bl3 y4 bh4 b14 b24 bs4 bl4 y5 bh5 b15 b25 bs5 bl5 z1 z2 z3 z4 z5 V q1 hq1l y10 Z hb10 F1 hS F4 j1 BW3 J5 J4 J3 J2 J1 G5 G4 G3 G2 G1 u23 u24 u25 u26 u27 u28 u29 u30 u31 u32 u33 u34 u35 u36 u37 u38 u39 u40 u41 u42 u43 u44 u45 u46 u47 u48 u49 u50 u51 u52 u53 j2 u54 u55 u56 u57 u58 u59 u60 u61 u62 u63 u64 u65 u66 u67 u68 u69 U j3 j4 u71 u72 u73 u74 u75 u76 qs qa qe X HK HBW
          exact hTail.out
end Go.Proofs.YtdlohfglmagneaaDoor
