/- ends: the least and the greatest zero that an event may have. -/
import Derived.Test.YtgbogdckmfencaaEeM
import Derived.Test.YtgbogdckmfencaaAkM
import Derived.Test.YtgbogdckmfencaaMo
set_option linter.unusedSimpArgs false
set_option linter.unusedVariables false
namespace Go.Proofs.Ytgbogdckmfencaa
open Go Go.RowKit
/-- Between two rounds of ends' loop. -/
structure EI (w : World) (b : Nat) (FA : Option Addr) (n FC : Nat) (q : Nat → Nat) (f : Nat → Nat → Bool) (wr : World) : Prop where
 k2 : Bx wr w.heap.size 96 #[.slice FA n FC]
 k4 : Bx wr (w.heap.size + 1) 23 #[.int .i64 0,.int .i64 0]
 gr : Grid wr b FA n q f
 hb : Below w.heap.size w wr
theorem EI.bel {w : World} {b : Nat} {FA : Option Addr} {n FC : Nat} {q : Nat → Nat} {f : Nat → Nat → Bool} {wr x : World} (I : EI w b FA n FC q f wr) (h : Below wr.heap.size wr x) : EI w b FA n FC q f x:=⟨I.k2.call h,I.k4.call h,I.gr.bel h,I.hb.trans (h.mono I.hb.size)⟩
theorem EI.set_ {w : World} {b : Nat} {FA : Option Addr} {n FC : Nat} {q : Nat → Nat} {f : Nat → Nat → Bool} {wr : World} {r : Nat} {cs : Array Value} (I : EI w b FA n FC q f wr) (k : Bx wr r 23 cs) (hr : w.heap.size + 1 < r) (j : Nat) (u : Value) : EI w b FA n FC q f (wr.setCell ⟨r,j,none⟩ u) :=
 ⟨I.k2.far (by show w.heap.size ≠ r; omega) u,I.k4.far (by show w.heap.size + 1 ≠ r; omega) u,I.gr.far k (by decide) (by decide) j u,I.hb.setCell (p:=⟨r,j,none⟩) (by show w.heap.size ≤ r; omega) u⟩
end Go.Proofs.Ytgbogdckmfencaa

/-! What the reference sums up is what paths weigh: mathematics. -/
namespace Go.Proofs.Ytgbogdckmfencaa
open Go Go.RowKit
/-- The least and the greatest of some ranges, as the reference gathers them. -/
def cov1 : List (Int × Int) → Int × Int
 | [] => (0,0)
 | x :: r => r.foldl cov x
theorem cov1_snoc (l : List (Int × Int)) (x : Int × Int) (h : l ≠ []) : cov1 (l ++ [x]) = cov (cov1 l) x:=by
 cases l with
 | nil => exact absurd rfl h
 | cons a r => simp [cov1]
theorem cov_self (x : Int × Int) : cov x x = x:=by
 unfold cov
 rw [Int.min_self,Int.max_self]
theorem foldl_cov (r : List (Int × Int)) : ∀ x : Int × Int,((r.foldl cov x).1 ≤ x.1 ∧ x.2 ≤ (r.foldl cov x).2) ∧ (∀ y ∈ r,(r.foldl cov x).1 ≤ y.1 ∧ y.2 ≤ (r.foldl cov x).2) ∧ ((r.foldl cov x).1 = x.1 ∨ ∃ y ∈ r,(r.foldl cov x).1 = y.1) ∧ ((r.foldl cov x).2 = x.2 ∨ ∃ y ∈ r,(r.foldl cov x).2 = y.2):=by
 induction r with
 | nil => intro x; simp
 | cons a r ih =>
  intro x
  obtain ⟨h1,h2,h3,h4⟩:=ih (cov x a)
  rw [List.foldl_cons]
  have c1 : (cov x a).1 = min x.1 a.1:=rfl
  have c2 : (cov x a).2 = max x.2 a.2:=rfl
  rw [c1] at h1 h3
  rw [c2] at h1 h4
  refine ⟨⟨by clear h2 h3 h4; omega,by clear h2 h3 h4; omega⟩,fun y hy => ?_,?_,?_⟩
  ·rcases List.mem_cons.1 hy with rfl | hy
   ·clear h2 h3 h4; omega
   ·exact h2 y hy
  ·clear h4; rcases h3 with h | ⟨y,hy,h⟩
   ·by_cases hx : x.1 ≤ a.1
    ·exact .inl (by omega)
    ·exact .inr ⟨a,by simp,by omega⟩
   ·exact .inr ⟨y,by simp [hy],h⟩
  ·clear h3; rcases h4 with h | ⟨y,hy,h⟩
   ·by_cases hx : a.2 ≤ x.2
    ·exact .inl (by omega)
    ·exact .inr ⟨a,by simp,by omega⟩
   ·exact .inr ⟨y,by simp [hy],h⟩
theorem cov1_le {l : List (Int × Int)} : ∀ x ∈ l,(cov1 l).1 ≤ x.1 ∧ x.2 ≤ (cov1 l).2:=by
 cases l with
 | nil => intro x h; cases h
 | cons a r =>
  intro x hx
  obtain ⟨h1,h2,_,_⟩:=foldl_cov r a
  rcases List.mem_cons.1 hx with rfl | hx
  ·exact h1
  ·exact h2 x hx
theorem cov1_at {l : List (Int × Int)} (h : l ≠ []) : (∃ x ∈ l,(cov1 l).1 = x.1) ∧ ∃ x ∈ l,(cov1 l).2 = x.2:=by
 cases l with
 | nil => exact absurd rfl h
 | cons a r =>
  obtain ⟨_,_,h3,h4⟩:=foldl_cov r a
  refine ⟨?_,?_⟩
  ·rcases h3 with h | ⟨y,hy,h⟩
   ·exact ⟨a,by simp,h⟩
   ·exact ⟨y,by simp [hy],h⟩
  ·rcases h4 with h | ⟨y,hy,h⟩
   ·exact ⟨a,by simp,h⟩
   ·exact ⟨y,by simp [hy],h⟩
/-- What the reference sums up: event by event, for each zero. -/
def smD (z0 z1 : Int) (es : List Ev) (K : Nat → Int → Bool) (wt : Nat → Int → Int × Int) : Nat → Int → Int × Int
 | 0,z => match es[0]? with
  | some e => ((cov1 (((rngL (z - e.c1) (z - e.c0)).filter fun y => decide (z0 ≤ y) && decide (y ≤ z1)).map fun _ => (0,0))).1 + (wt 0 z).1,(cov1 (((rngL (z - e.c1) (z - e.c0)).filter fun y => decide (z0 ≤ y) && decide (y ≤ z1)).map fun _ => (0,0))).2 + (wt 0 z).2)
  | none => (0,0)
 | i + 1,z => match es[i + 1]? with
  | some e => ((cov1 (((rngL (z - e.c1) (z - e.c0)).filter (K i)).map (smD z0 z1 es K wt i))).1 + (wt (i + 1) z).1,(cov1 (((rngL (z - e.c1) (z - e.c0)).filter (K i)).map (smD z0 z1 es K wt i))).2 + (wt (i + 1) z).2)
  | none => (0,0)
theorem cov1_zero {α : Type} : ∀ l : List α,cov1 (l.map fun _ => ((0 : Int),(0 : Int))) = (0,0):=by
 intro l
 cases l with
 | nil => rfl
 | cons a r =>
  show List.foldl cov ((0 : Int),(0 : Int)) (r.map fun _ => (0,0)) = (0,0)
  induction r with
  | nil => rfl
  | cons b r ih => rw [List.map_cons,List.foldl_cons,cov_self]; exact ih
section
variable {st z0 z1 : Int} {es : List Ev} {gv zr : Int}
theorem smD_net {n : Nat} (hn : n ≤ es.length) {K : Nat → Int → Bool} (hK : ∀ i z,i < n → (K i z = true ↔ ∃ y,PPath st z0 z1 es gv zr (n - 1) y ∧ y i = z)) (wt : Nat → Int → Int × Int) : ∀ (i : Nat) (z : Int),i < n → K i z = true →
  NetIs (fun y => PPath st z0 z1 es gv zr (n - 1) y ∧ y i = z) (sumLo wt 0 (i + 1)) (sumHi wt 0 (i + 1)) (smD z0 z1 es K wt i z):=by
 intro i
 induction i with
 | zero =>
  intro z hi hk
  have hv:=List.getElem?_eq_getElem (show 0 < es.length by omega)
  obtain ⟨y,p,hy⟩:=(hK 0 z hi).1 hk
  have e0 : smD z0 z1 es K wt 0 z = wt 0 z:=by rw [smD,hv]; dsimp only; rw [cov1_zero]; simp
  rw [e0]
  have s1 : ∀ f : Nat → Int,sumLo wt 0 (0 + 1) f = (wt 0 (f 0)).1:=fun f => by simp [sumLo]
  have s2 : ∀ f : Nat → Int,sumHi wt 0 (0 + 1) f = (wt 0 (f 0)).2:=fun f => by simp [sumHi]
  refine ⟨?_,?_,⟨y,⟨p,hy⟩,by rw [s1,hy]⟩,⟨y,⟨p,hy⟩,by rw [s2,hy]⟩⟩
  ·rintro f ⟨_,rfl⟩; rw [s1]; exact Int.le_refl _
  ·rintro f ⟨_,rfl⟩; rw [s2]; exact Int.le_refl _
 | succ i ih =>
  intro z hi hk
  have hv:=List.getElem?_eq_getElem (show i + 1 < es.length by omega)
  obtain ⟨w,pw,hw⟩:=(hK _ z hi).1 hk
  obtain ⟨l,hl⟩ : ∃ l,(rngL (z - es[i + 1].c1) (z - es[i + 1].c0)).filter (K i) = l:=⟨_,rfl⟩
  have hmem : ∀ y,y ∈ l ↔ (z - es[i + 1].c1 ≤ y ∧ y ≤ z - es[i + 1].c0) ∧ K i y = true:=by
   intro y
   rw [← hl,List.mem_filter]
   exact ⟨fun h => ⟨rngL_mem h.1,h.2⟩,fun h => ⟨mem_rngL h.1.1 h.1.2,h.2⟩⟩
  have e1 : smD z0 z1 es K wt (i + 1) z = ((cov1 (l.map (smD z0 z1 es K wt i))).1 + (wt (i + 1) z).1,(cov1 (l.map (smD z0 z1 es K wt i))).2 + (wt (i + 1) z).2):=by
   rw [smD,hv]; dsimp only; rw [hl]
  have hin : ∀ f,PPath st z0 z1 es gv zr (n - 1) f → f (i + 1) = z → f i ∈ l:=by
   intro f p hf
   have nx:=p.next i _ (by omega) hv
   rw [hmem]
   exact ⟨by omega,(hK i _ (by omega)).2 ⟨f,p,rfl⟩⟩
  have hne : l.map (smD z0 z1 es K wt i) ≠ []:=fun h => by
   have:=hin w pw hw
   rw [List.map_eq_nil_iff.1 h] at this
   cases this
  have hjoin : ∀ f,PPath st z0 z1 es gv zr (n - 1) f → f i ∈ l → ∃ g,(PPath st z0 z1 es gv zr (n - 1) g ∧ g (i + 1) = z) ∧ ∀ j,j ≤ i → g j = f j:=by
   intro f p hf
   have hb:=(hmem _).1 hf
   refine ⟨fun j => if j ≤ i then f j else w j,⟨⟨fun x hx => ?_,fun j x hj hx => ?_,fun j x hj hx => ?_,fun j hj hg => ?_⟩,?_⟩,fun j hj => ?_⟩
   ·try dsimp only
    rw [if_pos (by omega)]
    exact p.first x hx
   ·try dsimp only
    by_cases hji : j = i
    ·subst hji
     rw [hv] at hx; cases hx
     rw [if_pos (Nat.le_refl _),if_neg (by omega),hw]
     omega
    ·by_cases hj2 : j < i
     ·rw [if_pos (by omega),if_pos (by omega)]
      exact p.next j x hj hx
     ·rw [if_neg (by omega),if_neg (by omega)]
      exact pw.next j x hj hx
   ·try dsimp only
    split
    ·exact p.at_ j x hj hx
    ·exact pw.at_ j x hj hx
   ·try dsimp only
    split
    ·exact p.giv j hj hg
    ·exact pw.giv j hj hg
   ·try dsimp only
    rw [if_neg (by omega)]
    exact hw
   ·try dsimp only
    rw [if_pos hj]
  rw [e1]
  refine ⟨?_,?_,?_,?_⟩
  ·rintro f ⟨p,hf⟩
   have a:=hin f p hf
   have b:=(ih (f i) (by omega) ((hmem _).1 a).2).lo f ⟨p,rfl⟩
   have c:=(cov1_le _ (List.mem_map_of_mem (f:=smD z0 z1 es K wt i) a)).1
   rw [sumLo_back,Nat.zero_add,hf]
   dsimp only
   omega
  ·rintro f ⟨p,hf⟩
   have a:=hin f p hf
   have b:=(ih (f i) (by omega) ((hmem _).1 a).2).hi f ⟨p,rfl⟩
   have c:=(cov1_le _ (List.mem_map_of_mem (f:=smD z0 z1 es K wt i) a)).2
   rw [sumHi_back,Nat.zero_add,hf]
   dsimp only
   omega
  ·obtain ⟨x,hx,hx2⟩:=(cov1_at hne).1
   obtain ⟨y,hy,rfl⟩:=List.mem_map.1 hx
   obtain ⟨f,⟨p,hf⟩,hs⟩:=(ih y (by omega) ((hmem _).1 hy).2).loAt
   obtain ⟨g,hg,hgf⟩:=hjoin f p (by rw [hf]; exact hy)
   refine ⟨g,hg,?_⟩
   rw [sumLo_back,Nat.zero_add,hg.2,sumLo_congr (wt':=wt) (z':=f) (fun j hj => by rw [Nat.zero_add,hgf j (by omega)]),hs]
   dsimp only
   omega
  ·obtain ⟨x,hx,hx2⟩:=(cov1_at hne).2
   obtain ⟨y,hy,rfl⟩:=List.mem_map.1 hx
   obtain ⟨f,⟨p,hf⟩,hs⟩:=(ih y (by omega) ((hmem _).1 hy).2).hiAt
   obtain ⟨g,hg,hgf⟩:=hjoin f p (by rw [hf]; exact hy)
   refine ⟨g,hg,?_⟩
   rw [sumHi_back,Nat.zero_add,hg.2,sumHi_congr (wt':=wt) (z':=f) (fun j hj => by rw [Nat.zero_add,hgf j (by omega)]),hs]
   dsimp only
   omega
/-- What the reference sums up in the end. -/
def smA (z0 z1 : Int) (es : List Ev) (K : Nat → Int → Bool) (wt : Nat → Int → Int × Int) (n : Nat) : Int × Int:=cov1 (((rngL (-200) 200).filter (K (n - 1))).map (smD z0 z1 es K wt (n - 1)))
theorem smA_net {n : Nat} (hn : n ≤ es.length) (hn1 : 1 ≤ n) {K : Nat → Int → Bool} (hK : ∀ i z,i < n → (K i z = true ↔ ∃ y,PPath st z0 z1 es gv zr (n - 1) y ∧ y i = z)) (wt : Nat → Int → Int × Int) (hp : ∃ y,PPath st z0 z1 es gv zr (n - 1) y) :
  NetIs (PPath st z0 z1 es gv zr (n - 1)) (sumLo wt 0 n) (sumHi wt 0 n) (smA z0 z1 es K wt n):=by
 have hI:=fun z h => smD_net hn hK wt (n - 1) z (by omega) h
 rw [show n - 1 + 1 = n by omega] at hI
 unfold smA
 obtain ⟨l,hl⟩ : ∃ l,(rngL (-200) 200).filter (K (n - 1)) = l:=⟨_,rfl⟩
 have hv:=List.getElem?_eq_getElem (show n - 1 < es.length by omega)
 have hin : ∀ f,PPath st z0 z1 es gv zr (n - 1) f → f (n - 1) ∈ l ∧ K (n - 1) (f (n - 1)) = true:=by
  intro f p
  have a:=p.at_ (n - 1) _ (Nat.le_refl _) hv
  have k:=(hK (n - 1) _ (by omega)).2 ⟨f,p,rfl⟩
  refine ⟨?_,k⟩
  rw [← hl,List.mem_filter]
  unfold sLo sHi at a
  exact ⟨mem_rngL (by omega) (by omega),k⟩
 have hout : ∀ y ∈ l,K (n - 1) y = true:=fun y hy => by rw [← hl,List.mem_filter] at hy; exact hy.2
 have hne : l.map (smD z0 z1 es K wt (n - 1)) ≠ []:=fun h => by
  obtain ⟨w,pw⟩:=hp
  have:=(hin w pw).1
  rw [List.map_eq_nil_iff.1 h] at this
  cases this
 rw [hl]
 refine ⟨fun f p => ?_,fun f p => ?_,?_,?_⟩
 ·have a:=hin f p
  have b:=(hI _ a.2).lo f ⟨p,rfl⟩
  have c:=(cov1_le _ (List.mem_map_of_mem (f:=smD z0 z1 es K wt (n - 1)) a.1)).1
  omega
 ·have a:=hin f p
  have b:=(hI _ a.2).hi f ⟨p,rfl⟩
  have c:=(cov1_le _ (List.mem_map_of_mem (f:=smD z0 z1 es K wt (n - 1)) a.1)).2
  omega
 ·obtain ⟨x,hx,hx2⟩:=(cov1_at hne).1
  obtain ⟨y,hy,rfl⟩:=List.mem_map.1 hx
  obtain ⟨f,⟨p,hf⟩,hs⟩:=(hI y (hout y hy)).loAt
  exact ⟨f,p,by rw [hs,hx2]⟩
 ·obtain ⟨x,hx,hx2⟩:=(cov1_at hne).2
  obtain ⟨y,hy,rfl⟩:=List.mem_map.1 hx
  obtain ⟨f,⟨p,hf⟩,hs⟩:=(hI y (hout y hy)).hiAt
  exact ⟨f,p,by rw [hs,hx2]⟩
end
/-- What the reference knows of event i in the end. -/
def knB (st z0 z1 : Int) (es : List Ev) (gv zr : Int) (n i : Nat) (z : Int) : Bool:=fitB st z0 z1 es gv zr n (n - 1 - i) z
section
variable {st z0 z1 : Int} {es : List Ev} {gv zr : Int}
theorem knB_iff (h : LogOk st z0 z1 es) (i : Nat) (z : Int) (hi : i < es.length) : knB st z0 z1 es gv zr es.length i z = true ↔ ∃ y,PPath st z0 z1 es gv zr (es.length - 1) y ∧ y i = z:=by
 have a:=fitB_iff (gv:=gv) (zr:=zr) h.ev h.s1 h.r2 (Nat.le_refl es.length) (es.length - 1 - i) z (by omega)
 rw [show es.length - 1 - (es.length - 1 - i) = i by omega] at a
 exact a
theorem refNet_of (h : LogOk st z0 z1 es) (hn : 1 ≤ es.length) (wt : Nat → Int → Int × Int) (hp : ∃ y,PPath st z0 z1 es gv zr (es.length - 1) y) :
  NetIs (PPath st z0 z1 es gv zr (es.length - 1)) (sumLo wt 0 es.length) (sumHi wt 0 es.length) (smA z0 z1 es (knB st z0 z1 es gv zr es.length) wt es.length) :=
 smA_net (Nat.le_refl _) hn (fun i z hi => knB_iff h i z hi) wt hp
/-- The reference's net loads. -/
theorem refNet_eq (h : LogOk st z0 z1 es) (hf : Fits st z0 z1 es es.length) (hn : 1 ≤ es.length) (F B : List Int) :
  smA z0 z1 es (knB st z0 z1 es (-1) 0 es.length) (wtc st es F B) es.length = netOf st es F B (zst st z0 z1 es 0) es.length:=by
 have hN:=net_paths h hf hn F B
 obtain ⟨f,pf,_⟩:=hN.loAt
 refine NetIs.uniq (refNet_of h hn (wtc st es F B) ⟨f,pf.part (fun j _ hj => by omega)⟩) hN (fun y p => ⟨y,p.full,rfl,rfl⟩) fun y p => ⟨y,p.part (fun j _ hj => by omega),rfl,rfl⟩
/-- And when a zero is given. -/
theorem refNet_given (h : LogOk st z0 z1 es) (hf : Fits st z0 z1 es es.length) (F B : List Int) {i : Nat} (hi : i < es.length) {y : Int} (h1 : (zst st z0 z1 es 0 i).1 ≤ y) (h2 : y ≤ (zst st z0 z1 es 0 i).2) :
  (∃ f,PPath st z0 z1 es i y (es.length - 1) f) ∧ (smA z0 z1 es (knB st z0 z1 es i y es.length) (wtc st es F B) es.length).2 - (smA z0 z1 es (knB st z0 z1 es i y es.length) (wtc st es F B) es.length).1 = wideOf (Tbe (wtc st es F B) (folc es (zst st z0 z1 es 0)) (zst st z0 z1 es 0) (es.length - 1)) (Tab (wtc st es F B) (folc es (zst st z0 z1 es 0)) (zst st z0 z1 es 0) es.length es.length) i y:=by
 have hT:=through h hf F B i hi y h1 h2
 obtain ⟨f,⟨pf,hfy⟩,_⟩:=hT.loAt
 have hp : ∃ f,PPath st z0 z1 es i y (es.length - 1) f:=⟨f,pf.part (fun j _ hj => by rw [show j = i by omega]; exact hfy)⟩
 refine ⟨hp,?_⟩
 rw [NetIs.uniq (refNet_of h (by omega) (wtc st es F B) hp) hT (fun g p => ⟨g,⟨p.full,p.giv i (by omega) rfl⟩,rfl,rfl⟩) fun g p => ⟨g,p.1.part (fun j _ hj => by rw [show j = i by omega]; exact p.2),rfl,rfl⟩]
 unfold wideOf
 rfl
theorem wide_ok (h : LogOk st z0 z1 es) (hf : Fits st z0 z1 es es.length) (F B : List Int) {i : Nat} (hi : i < es.length) {y : Int} (h1 : (zst st z0 z1 es 0 i).1 ≤ y) (h2 : y ≤ (zst st z0 z1 es 0 i).2) :
  0 ≤ wideOf (Tbe (wtc st es F B) (folc es (zst st z0 z1 es 0)) (zst st z0 z1 es 0) (es.length - 1)) (Tab (wtc st es F B) (folc es (zst st z0 z1 es 0)) (zst st z0 z1 es 0) es.length es.length) i y ∧ wideOf (Tbe (wtc st es F B) (folc es (zst st z0 z1 es 0)) (zst st z0 z1 es 0) (es.length - 1)) (Tab (wtc st es F B) (folc es (zst st z0 z1 es 0)) (zst st z0 z1 es 0) es.length es.length) i y ≤ 2800000:=by
 have hT:=through h hf F B i hi y h1 h2
 obtain ⟨p,⟨hp,hpi⟩,e1⟩:=hT.loAt
 obtain ⟨q,⟨hq,hqi⟩,e2⟩:=hT.hiAt
 have a:=hT.hi p ⟨hp,hpi⟩
 have b1:=sum_bd (wtc_bd h F B) 0 p es.length
 have b2:=sum_bd (wtc_bd h F B) 0 q es.length
 have h14:=h.n
 have le : ∀ n,n ≤ es.length → sumLo (wtc st es F B) 0 n p ≤ sumHi (wtc st es F B) 0 n p:=by
  intro n
  induction n with
  | zero => intro _; unfold sumLo sumHi; simp
  | succ n ih =>
   intro hn
   have hv:=List.getElem?_eq_getElem (show n < es.length by omega)
   have s:=hp.at_ n _ hv
   have r:=ldRng_ne s.1 s.2 h.s1 (ld_le (h.ev _ (List.getElem_mem (show n < es.length by omega))))
   have:=ih (by omega)
   have hw : (wtc st es F B n (p n)).1 ≤ (wtc st es F B n (p n)).2:=by
    unfold wtc
    rw [hv]
    dsimp only
    split
    ·unfold wgt
     split
     ·dsimp only; omega
     ·split
      ·exact r
      ·exact Int.le_refl _
    ·exact Int.le_refl _
   rw [sumLo_back,sumHi_back,Nat.zero_add]
   omega
 have l:=le es.length (Nat.le_refl _)
 unfold wideOf
 dsimp only at e1 e2 a
 omega
end
end Go.Proofs.Ytgbogdckmfencaa

/-! Regions in phases: what is held until a certain operation has come up. -/
namespace Go.Proofs.Ytgbogdckmfencaa
open Go Go.RowKit
section
variable {P : Program} {ops : Array Oper} {Q : Exit → Act → World → Prop} {md : Region.Mode} {ps : List (Nat × (World → Prop))}
/-- Each S is held as long as its operation has not come up. -/
def Owe (ps : List (Nat × (World → Prop))) (L : Array Bool) (w : World) : Prop:=∀ p ∈ ps,L.getD p.1 false = false → p.2 w
def AnyO (P : Program) (md : Region.Mode) (ops : Array Oper) (Q : Exit → Act → World → Prop) (ps : List (Nat × (World → Prop))) : Nat → Array Bool → Act → World → Prop
 | 0,listed,a,w => Region.ready md ops listed = [] ∧ Q .normal a w
 | fuel + 1,listed,a,w =>
  (Region.ready md ops listed = [] → Q .normal a w) ∧
  ∀ i ∈ Region.ready md ops listed,wpOp P ops Q i (fun a' w' => Owe ps (listed.setIfInBounds i true) w' ∧ AnyO P md ops Q ps fuel (listed.setIfInBounds i true) a' w') a w
theorem AnyO.any : ∀ (fuel : Nat) (listed : Array Bool) (a : Act) (w : World),AnyO P md ops Q ps fuel listed a w → wpAny P md ops Q fuel listed a w
 | 0,_,_,_,h => h
 | fuel + 1,_,_,_,h => ⟨h.1,fun i hi => wpOp_mono (fun _ _ h' => AnyO.any fuel _ _ _ h'.2) (h.2 i hi)⟩
theorem Desc.op {i j : Nat} (h : Desc md ops i j) : ∃ o,ops[j]? = some o:=by
 cases h with
 | base ho _ => exact ⟨_,ho⟩
 | step ho _ _ => exact ⟨_,ho⟩
theorem Desc.unlisted {i j : Nat} {listed : Array Bool} (hc : Closed md ops listed) (hi : listed.getD i false = false) (h : Desc md ops i j) : listed.getD j false = false:=by
 obtain ⟨o,ho⟩:=h.op
 cases hl : listed.getD j false with
 | false => rfl
 | true => exact absurd (fun e he hb => hc j hl o ho e he hb) (h.no hc hi o ho)
theorem Owe.set {i : Nat} {L : Array Bool} {w : World} (h : Owe ps L w) (hne : ∀ p ∈ ps,p.1 ≠ i) : Owe ps (L.setIfInBounds i true) w:=fun p hp hl => h p hp (by rwa [getD_set_ne false (Ne.symm (hne p hp))] at hl)
theorem AnyO.first {i : Nat} {oi : Oper} {v : Value} {b : Nat} {S : World → Prop} (hps : (b,S) ∈ ps) (hne : ∀ p ∈ ps,p.1 ≠ i) (hb : Desc md ops i b) (hi : ops[i]? = some oi) (hsel : Region.noSelect ops = true)
  (hQ : ∀ c a w,Q (.panic c) (a.put oi.dst v) w → Q (.panic c) a w) :
  ∀ (fuel : Nat) (listed : Array Bool) (a : Act) (w : World),Closed md ops listed →
   (∀ j oj,ops[j]? = some oj → j ≠ i → listed.getD j true = false → (∀ e ∈ oj.after,Region.binds md e = true → e.on ≠ i) → oi.apart ops oj = true) →
   i ∈ Region.ready md ops listed → YieldsIf P ops S oi v a → Owe ps listed w →
   AnyO P md ops Q ps fuel (listed.setIfInBounds i true) (a.put oi.dst v) w → AnyO P md ops Q ps (fuel + 1) listed a w:=by
 intro fuel
 have hun0 : ∀ listed : Array Bool,i ∈ Region.ready md ops listed → listed.getD i false = false:=by
  intro listed hr
  have h0:=(mem_ready.1 hr).1
  rcases Nat.lt_or_ge i listed.size with h' | h'
  ·simp [h'] at h0 ⊢; exact h0
  ·simp [Array.getElem?_eq_none h']
 induction fuel with
 | zero =>
  intro listed a w hc _ hr hy hO H
  refine ⟨fun h => (by rw [h] at hr; cases hr),fun j hj => ?_⟩
  rcases Nat.decEq j i with hji | hji
  ·have hl:=ready_mono hj hji
   rw [H.1] at hl
   cases hl
  ·subst hji
   exact hy.wpOp hi (hO _ hps (hb.unlisted hc (hun0 _ hr))) ⟨hO.set hne,H⟩
 | succ fuel ih =>
  intro listed a w hc hfree hr hy hO H
  refine ⟨fun h => (by rw [h] at hr; cases hr),fun j hj => ?_⟩
  have hiun:=hun0 _ hr
  rcases Nat.decEq j i with hji | hji
  ·obtain ⟨hjun,oj,hoj,hall⟩:=mem_ready.1 hj
   have hnot : ∀ e ∈ oj.after,Region.binds md e = true → e.on ≠ i:=fun e he hb heq => by
    have h2:=hall e he hb
    rw [heq,hiun] at h2
    cases h2
   have hSw:=hO _ hps (hb.unlisted hc hiun)
   have h2:=wpOp_putIf hoj (hfree j oj hoj hji hjun hnot) (fun cs b => Region.noSelect_spec hsel i oi cs b hi) (fun cs b => Region.noSelect_spec hsel j oj cs b hoj) hQ hy (H.2 j (ready_mono hj hji))
   have hiun2 : (listed.setIfInBounds j true).getD i false = false:=by rw [getD_set_ne false hji]; exact hiun
   refine wpOp_mono (fun a' w' h3 => ?_) h2
   have hO2 : Owe ps (listed.setIfInBounds j true) w':=fun p hp hl => h3.2.1 p hp (by
    rw [Array.setIfInBounds_comm _ _ (Ne.symm hji),getD_set_ne false (Ne.symm (hne p hp))]
    exact hl)
   refine ⟨hO2,ih (listed.setIfInBounds j true) a' w' (hc.step hj) ?_ (ready_mono hr (Ne.symm hji)) h3.1 hO2 ?_⟩
   ·intro k ok hk hki hun hno
    refine hfree k ok hk hki ?_ hno
    rcases Nat.decEq j k with hjk | hjk
    ·rw [getD_set_ne true hjk] at hun; exact hun
    ·subst hjk; exact hjun
   ·rw [Array.setIfInBounds_comm _ _ hji]
    exact h3.2.2
  ·subst hji
   exact hy.wpOp hi (hO _ hps (hb.unlisted hc hiun)) ⟨hO.set hne,H⟩
/-- Number i is taken first: what it needs is held until number b. -/
theorem AnyO.take (k : Nat) {b : Nat} {S : World → Prop} {i : Nat} {oi : Oper} {v : Value} {fuel : Nat} {listed : Array Bool} {a : Act} {w : World} (hk : ps[k]? = some (b,S)) (hi : ops[i]? = some oi)
  (hs : (Region.noSelect ops && (descs md ops i).contains b && b != i && (ps.map (·.1)).all (· != i) && closedB md ops listed && Region.free md ops listed i && (Region.ready md ops listed).contains i) = true)
  (hQ : ∀ c a w,Q (.panic c) (a.put oi.dst v) w → Q (.panic c) a w) (hg : Region.wanted oi (yielded ops a.tmps) = true) (hy : ∀ w,S w → (execOp a.eval oi).run P w = .ok (.value v) w) (hO : Owe ps listed w)
  (h : Owe ps (listed.setIfInBounds i true) w → AnyO P md ops Q ps fuel (listed.setIfInBounds i true) (a.put oi.dst v) w) : AnyO P md ops Q ps (fuel + 1) listed a w:=by
 simp only [Bool.and_eq_true,bne_iff_ne,List.all_eq_true,List.contains_eq_mem,decide_eq_true_eq] at hs
 obtain ⟨⟨⟨⟨⟨⟨h1,h2⟩,h3⟩,h4⟩,h5⟩,h6⟩,h7⟩:=hs
 have hne : ∀ p ∈ ps,p.1 ≠ i:=fun p hp => h4 p.1 (List.mem_map_of_mem hp)
 exact AnyO.first (List.mem_of_getElem? hk) hne ((descs_ok _ h2).resolve_left h3) hi h1 hQ fuel listed a w (closedB_ok h5) (Region.free_spec hi h6) h7 (.inl ⟨hg,hy⟩) hO (h (hO.set hne))
def OnwardO (P : Program) (md : Region.Mode) (ops : Array Oper) (Q : Exit → Act → World → Prop) (ps : List (Nat × (World → Prop))) (fuel i : Nat) (listed : Array Bool) (a : Act) (w : World) : Prop :=
 Owe ps (listed.setIfInBounds i true) w ∧ AnyO P md ops Q ps fuel (listed.setIfInBounds i true) a w
theorem OnwardO.on {fuel i : Nat} {listed : Array Bool} {a : Act} {w : World} (hO : Owe ps (listed.setIfInBounds i true) w) (h : Owe ps (listed.setIfInBounds i true) w → AnyO P md ops Q ps fuel (listed.setIfInBounds i true) a w) : OnwardO P md ops Q ps fuel i listed a w:=⟨hO,h hO⟩
/-- The one operation that may come up is carried out. -/
theorem AnyO.one {i : Nat} {o : Oper} {fuel : Nat} {listed : Array Bool} {a : Act} {w : World} (hr : Region.ready md ops listed = [i]) (ho : ops[i]? = some o) (hg : Region.wanted o (yielded ops a.tmps) = true)
  (h : o.wp P a w (OnwardO P md ops Q ps fuel i listed) Q) : AnyO P md ops Q ps (fuel + 1) listed a w:=by
 refine ⟨fun h0 => absurd (hr.symm.trans h0) (by simp),fun j hj => ?_⟩
 rw [hr] at hj
 obtain rfl : j = i:=by simpa using hj
 unfold wpOp
 rw [ho]
 show if Region.wanted o (yielded ops a.tmps) = true then _ else _
 rw [if_pos hg]
 exact .inl h
theorem AnyO.done {listed : Array Bool} {a : Act} {w : World} (hr : Region.ready md ops listed = []) (h : Q .normal a w) : ∀ fuel,AnyO P md ops Q ps fuel listed a w
 | 0 => ⟨hr,h⟩
 | _ + 1 => ⟨fun _ => h,by rw [hr]; simp⟩
theorem AnyO.enter {fuel : Nat} {listed : Array Bool} {a : Act} {w : World} (ps : List (Nat × (World → Prop))) (hO : Owe ps listed w) (h : Owe ps listed w → AnyO P md ops Q ps fuel listed a w) : wpAny P md ops Q fuel listed a w:=AnyO.any _ _ _ _ (h hO)
theorem Owe.two {b1 b2 : Nat} {S1 S2 : World → Prop} {L : Array Bool} {w : World} (h1 : L.getD b1 false = true ∨ S1 w) (h2 : L.getD b2 false = true ∨ S2 w) : Owe [(b1,S1),(b2,S2)] L w:=by
 intro p hp hl
 simp only [List.mem_cons,List.not_mem_nil,or_false] at hp
 rcases hp with rfl | rfl
 ·exact h1.resolve_left (by rw [hl]; simp)
 ·exact h2.resolve_left (by rw [hl]; simp)
end
end Go.Proofs.Ytgbogdckmfencaa
