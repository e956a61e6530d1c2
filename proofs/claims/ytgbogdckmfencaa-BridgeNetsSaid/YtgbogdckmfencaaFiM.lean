/- Three rows of one's own: what a region that appends to each of them keeps. -/
import Derived.Test.YtgbogdckmfencaaOwM
set_option linter.unusedSimpArgs false
set_option linter.unusedVariables false
namespace Go.Proofs.Ytgbogdckmfencaa
open Go Go.RowKit
theorem own_ne {w : World} {b b' : Nat} {e e' : TypeId} {s s' : Nat} {v v' : Value} {n n' : Nat} {xs xs' : List Value} (h : w.ownsRow b e s v n xs) (h' : w.ownsRow b' e' s' v' n' xs') (hne : e ≠ e') : v.ownBlock = none ∨ v.ownBlock ≠ v'.ownBlock:=by
 rcases h.2 with ⟨rfl,_⟩ | ⟨g,cap,cur,rfl,_,hg,_⟩
 ·exact .inl rfl
 ·refine .inr fun he => ?_
  rcases h'.2 with ⟨rfl,_⟩ | ⟨g',cap',cur',rfl,_,hg',_⟩
  ·simp [Value.ownBlock] at he
  ·simp only [Value.ownBlock,Option.some.injEq] at he
   subst he
   rw [hg] at hg'
   injection hg' with h1
   injection h1 with _ h2
   exact hne h2
theorem own_bx {w : World} {b : Nat} {e : TypeId} {s : Nat} {v : Value} {n : Nat} {xs : List Value} {q t : Nat} {cs : Array Value} (h : w.ownsRow b e s v n xs) (k : Bx w q t cs) (hne : t ≠ e) : some q ≠ v.ownBlock:=by
 intro he
 rcases h.2 with ⟨rfl,_⟩ | ⟨g,cap,cur,rfl,_,hg,_⟩
 ·simp [Value.ownBlock] at he
 ·simp only [Value.ownBlock,Option.some.injEq] at he
  subst he
  unfold Bx at k
  rw [k] at hg
  injection hg with h1
  injection h1 with _ h2
  exact hne h2
theorem own_set {w : World} {b : Nat} {e : TypeId} {s : Nat} {v : Value} {n : Nat} {xs : List Value} (h : w.ownsRow b e s v n xs) {q o : Nat} (hq : some q ≠ v.ownBlock) (u : Value) : (w.setCell ⟨q,o,none⟩ u).ownsRow b e s v n xs :=
 h.kept (grown_set w q o u) (.inr fun he => hq he.symm)
/-- Since the region began only three rows of one's own have turned, behind what they held. -/
structure AT (B : Nat) (U : World) (e1 s1 : Nat) (ev : Value) (n1 : Nat) (xs1 : List Value) (zv : Value) (n2 : Nat) (xs2 : List Value) (nv : Value) (n3 : Nat) (xs3 : List Value) (x : World) : Prop where
 os : x.os = U.os
 tape : x.tape = U.tape
 output : x.output = U.output
 size : U.heap.size ≤ x.heap.size
 block : ∀ k,k < U.heap.size → some k ≠ ev.ownBlock → some k ≠ zv.ownBlock → some k ≠ nv.ownBlock → x.heap[k]? = U.heap[k]?
 oe : x.ownsRow B e1 s1 ev n1 xs1
 oz : x.ownsRow B 3 1 zv n2 xs2
 on : x.ownsRow B 3 1 nv n3 xs3
/-- The row that an operation turns. -/
def rowAt (p q r : Nat) (ev zv nv : Value) (j : Nat) : Option Nat:=if j = p then ev.ownBlock else if j = q then zv.ownBlock else if j = r then nv.ownBlock else none
structure AK (p q r B e1 s1 : Nat) (ev : Value) (n1 : Nat) (xs1 : List Value) (zv : Value) (n2 : Nat) (xs2 : List Value) (nv : Value) (n3 : Nat) (xs3 : List Value) (j : Nat) (x y : World) : Prop where
 gr : x.grownBy y (rowAt p q r ev zv nv j)
 oe : x.ownsRow B e1 s1 ev n1 xs1 → y.ownsRow B e1 s1 ev n1 xs1
 oz : x.ownsRow B 3 1 zv n2 xs2 → y.ownsRow B 3 1 zv n2 xs2
 on : x.ownsRow B 3 1 nv n3 xs3 → y.ownsRow B 3 1 nv n3 xs3
section
variable {p q r B e1 s1 : Nat} {U : World} {ev : Value} {n1 : Nat} {xs1 : List Value} {zv : Value} {n2 : Nat} {xs2 : List Value} {nv : Value} {n3 : Nat} {xs3 : List Value} {x y : World} {j : Nat}
theorem AT.step (h : AT B U e1 s1 ev n1 xs1 zv n2 xs2 nv n3 xs3 x) (k : AK p q r B e1 s1 ev n1 xs1 zv n2 xs2 nv n3 xs3 j x y) : AT B U e1 s1 ev n1 xs1 zv n2 xs2 nv n3 xs3 y:=by
 refine ⟨k.gr.os.trans h.os,k.gr.tape.trans h.tape,k.gr.output.trans h.output,Nat.le_trans h.size k.gr.size,fun i hi h1 h2 h3 => ?_,k.oe h.oe,k.oz h.oz,k.on h.on⟩
 refine (k.gr.block i (Nat.lt_of_lt_of_le hi h.size) ?_).trans (h.block i hi h1 h2 h3)
 unfold rowAt
 split
 ·exact h1
 ·split
  ·exact h2
  ·split
   ·exact h3
   ·simp
theorem AT.start (h1 : U.ownsRow B e1 s1 ev n1 xs1) (h2 : U.ownsRow B 3 1 zv n2 xs2) (h3 : U.ownsRow B 3 1 nv n3 xs3) : AT B U e1 s1 ev n1 xs1 zv n2 xs2 nv n3 xs3 U.drew:=⟨rfl,rfl,rfl,Nat.le_refl _,fun _ _ _ _ _ => rfl,h1,h2,h3⟩
/-- A block that is no row of one's own. -/
theorem AT.bx {b t : Nat} {cs : Array Value} (h : AT B U e1 s1 ev n1 xs1 zv n2 xs2 nv n3 xs3 x) (h1 : U.ownsRow B e1 s1 ev n1 xs1) (h2 : U.ownsRow B 3 1 zv n2 xs2) (h3 : U.ownsRow B 3 1 nv n3 xs3) (k : Bx U b t cs) (t1 : t ≠ e1) (t2 : t ≠ 3) : Bx x b t cs :=
 (h.block b k.lt (own_bx h1 k t1) (own_bx h2 k t2) (own_bx h3 k t2)).trans k
theorem AT.gr {w : World} {row : Option Nat} (h : AT w.heap.size U e1 s1 ev n1 xs1 zv n2 xs2 nv n3 xs3 x) (g : w.grownBy U row) (h1 : U.ownsRow w.heap.size e1 s1 ev n1 xs1) (h2 : U.ownsRow w.heap.size 3 1 zv n2 xs2) (h3 : U.ownsRow w.heap.size 3 1 nv n3 xs3) : w.grownBy x row :=
 ⟨h.os.trans g.os,h.tape.trans g.tape,h.output.trans g.output,Nat.le_trans g.size h.size,fun k hk hn => (h.block k (Nat.lt_of_lt_of_le hk g.size) (fun e => by have:=h1.lt k e.symm; omega) (fun e => by have:=h2.lt k e.symm; omega) (fun e => by have:=h3.lt k e.symm; omega)).trans (g.block k hk hn)⟩
theorem AK.fresh {t q0 : Nat} {cs : Array Value} (k : AK p q r B e1 s1 ev n1 xs1 zv n2 xs2 nv n3 xs3 j x y) (h1 : U.ownsRow B e1 s1 ev n1 xs1) (h2 : U.ownsRow B 3 1 zv n2 xs2) (h3 : U.ownsRow B 3 1 nv n3 xs3) (hb : Bx x q0 t cs) (hq : U.heap.size ≤ q0) : Bx y q0 t cs:=by
 refine hb.grown k.gr ?_
 unfold rowAt
 split
 ·intro e; have:=h1.lt q0 e.symm; omega
 ·split
  ·intro e; have:=h2.lt q0 e.symm; omega
  ·split
   ·intro e; have:=h3.lt q0 e.symm; omega
   ·simp
/-- Operations that turn no row. -/
theorem AK.quiet (hg : x.grownBy y none) (p q r B e1 s1 : Nat) (ev : Value) (n1 : Nat) (xs1 : List Value) (zv : Value) (n2 : Nat) (xs2 : List Value) (nv : Value) (n3 : Nat) (xs3 : List Value) (j : Nat) : AK p q r B e1 s1 ev n1 xs1 zv n2 xs2 nv n3 xs3 j x y :=
 ⟨⟨hg.os,hg.tape,hg.output,hg.size,fun k hk _ => hg.block k hk (by simp)⟩,fun h => h.kept hg (by cases ev.ownBlock <;> simp),fun h => h.kept hg (by cases zv.ownBlock <;> simp),fun h => h.kept hg (by cases nv.ownBlock <;> simp)⟩
end
theorem bx_news {w : World} {q t : Nat} {cs : Array Value} (h : Bx w q t cs) : ∀ j u,cs.toList[j]? = some u → w.cell? ((⟨q,0,none⟩ : Addr).add j) = some u:=by
 intro j u hu
 have e : (⟨q,0,none⟩ : Addr).add j = ⟨q,j,none⟩:=by unfold Addr.add; split <;> simp_all
 rw [e,h.cell]
 simpa using hu
theorem info28 : (Try.prog.info? 28).map (fun i => (i.zero,i.size,i.bytes)) = some (some (.agg #[.int .i64 0,.int .i64 0,.int .i64 0,.int .i64 0,.int .i64 0]),5,40):=by kernel_rfl
theorem info3' : (Try.prog.info? 3).map (fun i => (i.zero,i.size,i.bytes)) = some (some (.int .i64 0),1,8):=by kernel_rfl
end Go.Proofs.Ytgbogdckmfencaa

/-! Plain mathematics for the statements about logs that are made: which events fit, logs cut short, an event that shows otherwise. -/
namespace Go.Proofs.Ytgbogdckmfencaa
open Go Go.RowKit
theorem fits_some (st z0 z1 : Int) (es : List Ev) : ∃ m,Fits st z0 z1 es m:=by
 have : ∀ d m,m + d = es.length → (∀ j,j < m → (bef st z0 z1 es (j + 1)).1 ≤ (bef st z0 z1 es (j + 1)).2) → ∃ m,Fits st z0 z1 es m:=by
  intro d
  induction d with
  | zero => intro m hm hy; exact ⟨m,by omega,hy,fun h => by omega⟩
  | succ d ih =>
   intro m hm hy
   by_cases h : (bef st z0 z1 es (m + 1)).1 ≤ (bef st z0 z1 es (m + 1)).2
   ·refine ih (m + 1) (by omega) fun j hj => ?_
    by_cases hjm : j = m
    ·subst hjm; exact h
    ·exact hy j (by omega)
   ·exact ⟨m,by omega,hy,fun _ => by omega⟩
 exact this es.length 0 (by omega) (fun j hj => by omega)
theorem ckEs_mem {st : Int} {es : List Ev} : ckEs st es = 0 ↔ ∀ e ∈ es,ckE st e = 0:=⟨ckEs_zero,ckEs_all⟩
theorem ckL_iff {st z0 z1 : Int} {es : List Ev} : ckL st z0 z1 es = 0 ↔ 1 ≤ st ∧ st ≤ 100 ∧ ckR z0 z1 (-200) 200 = 0 ∧ es.length ≤ 14 ∧ ∀ e ∈ es,ckE st e = 0:=by
 constructor
 ·intro h
  have hl:=ckL_zero h
  unfold ckL at h
  rw [if_neg (by have:=hl.s1; have:=hl.s2; omega)] at h
  split at h
  ·rename_i h0; exact absurd h h0
  ·rename_i h0
   split at h
   ·cases h
   ·exact ⟨hl.s1,hl.s2,Classical.not_not.1 h0,hl.n,ckEs_mem.1 h⟩
 ·rintro ⟨h1,h2,h3,h4,h5⟩
  unfold ckL
  rw [if_neg (by omega),if_neg (by rw [h3]; simp),if_neg (by omega)]
  exact ckEs_mem.2 h5
theorem Sl.take {w : World} {B s : Nat} {A : Option Addr} {xs : List (List Value)} (h : Sl w B s A xs) (m : Nat) : Sl w B s A (xs.take m):=fun k r hr => by
 rw [List.getElem?_take] at hr
 split at hr
 ·exact h k r hr
 ·cases hr
theorem EvsAt.take {w : World} {B : Nat} {A : Option Addr} {es : List Ev} (h : EvsAt w B A es) (m : Nat) : EvsAt w B A (es.take m):=by
 unfold EvsAt at h ⊢
 rw [List.map_take]
 exact Sl.take h m
theorem flatten_set {s : Nat} : ∀ (xs : List (List Value)) (_ : ∀ r ∈ xs,r.length = s) (i j : Nat) (r : List Value) (u : Value),xs[i]? = some r → j < s → xs.flatten.set (i * s + j) u = (xs.set i (r.set j u)).flatten
 | [],_,i,j,r,u,h,_ => by simp at h
 | x :: xs,hs,0,j,r,u,h,hj => by
  obtain rfl : x = r:=by simpa using h
  have hx:=hs x (by simp)
  rw [List.flatten_cons,Nat.zero_mul,Nat.zero_add,List.set_append_left _ _ (by omega)]
  simp
 | x :: xs,hs,i + 1,j,r,u,h,hj => by
  have hx:=hs x (by simp)
  have h' : xs[i]? = some r:=by simpa using h
  rw [List.flatten_cons,List.set_append_right _ _ (by rw [hx,Nat.succ_mul]; omega),hx,show (i + 1) * s + j - s = i * s + j by rw [Nat.succ_mul]; omega,flatten_set xs (fun r hr => hs r (by simp [hr])) i j r u h' hj]
  simp
/-- A store into a row of one's own. -/
theorem own_store {w : World} {b : Nat} {e : TypeId} {s q n cap : Nat} {xs : List Value} (h : w.ownsRow b e s (.slice (some ⟨q,0,none⟩) n cap) n xs) (j : Nat) (u : Value) (hj : j < n * s) : (w.setCell ⟨q,j,none⟩ u).ownsRow b e s (.slice (some ⟨q,0,none⟩) n cap) n (xs.set j u):=by
 refine ⟨by rw [List.length_set]; exact h.1,?_⟩
 rcases h.2 with ⟨h1,_⟩ | ⟨g,c,cur,h1,hb,hg,hc,hm,hs,ht⟩
 ·simp at h1
 ·simp only [Value.slice.injEq,Option.some.injEq,Addr.mk.injEq,and_true,true_and] at h1
  obtain ⟨rfl,rfl⟩:=h1
  have k : Bx (w.setCell ⟨q,j,none⟩ u) q e (cur.setIfInBounds j u):=Bx.set_ (show Bx w q e cur from hg) j u
  refine .inr ⟨q,cap,_,rfl,hb,k,hc,hm,by simpa using hs,?_⟩
  rw [Array.toList_setIfInBounds,← ht,← List.take_set]
theorem evs_len (es : List Ev) : ∀ r ∈ es.map Ev.cells,r.length = 5:=by
 intro r hr
 obtain ⟨e,_,rfl⟩:=List.mem_map.1 hr
 rfl
theorem evs_flat (es : List Ev) : (es.map Ev.cells).flatten.length = es.length * 5:=by
 induction es with
 | nil => rfl
 | cons a r ih => rw [List.map_cons,List.flatten_cons,List.length_append,ih,List.length_cons,Nat.succ_mul]; simp [Ev.cells]; omega
theorem evs_set_sh (es : List Ev) (i : Nat) (e : Ev) (h : es[i]? = some e) (s : Int) : (es.map Ev.cells).flatten.set (i * 5 + 1) (.int .i64 s) = ((es.set i { e with sh:=s }).map Ev.cells).flatten:=by
 rw [flatten_set (es.map Ev.cells) (evs_len es) i 1 e.cells _ (by simp [h]) (by omega),List.map_set]
 rfl
end Go.Proofs.Ytgbogdckmfencaa
