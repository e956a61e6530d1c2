/- What a feed leaves; orders that are being made. -/
import Derived.Test.YtmemcopfeabcgaaFd
import Derived.Test.YtmemcopfeabcgaaVc
import Derived.Test.YtmemcopfeabcgaaRbM
import Derived.Test.YtmemcopfeabcgaaPpM
import Derived.Test.YtmemcopfeabcgaaAlM
set_option linter.unusedSimpArgs false
set_option linter.unusedVariables false
namespace Go.Proofs.Ytmemcopfeabcgaa
open Go Go.RowKit
theorem own_ne {w : World} {b b' : Nat} {e e' : TypeId} {s s' : Nat} {v v' : Value} {n n' : Nat} {xs xs' : List Value} (h : w.ownsRow b e s v n xs) (h' : w.ownsRow b' e' s' v' n' xs') (hne : e ≠ e') : v.ownBlock = none ∨ v.ownBlock ≠ v'.ownBlock:=by
 rcases h.2 with ⟨rfl,_⟩ | ⟨g,cap,cur,rfl,_,hg,_⟩
 ·exact .inl rfl
 ·refine .inr fun he => ?_
  rcases h'.2 with ⟨rfl,_⟩ | ⟨g',cap',cur',rfl,_,hg',_⟩
  ·simp [Value.ownBlock] at he
  ·simp only [Value.ownBlock,Option.some.injEq] at he
   subst he
   rw [hg] at hg'
   injection hg' with h1
   injection h1 with _ h2
   exact hne h2
theorem own_set {w : World} {b : Nat} {e : TypeId} {s : Nat} {v : Value} {n : Nat} {xs : List Value} (h : w.ownsRow b e s v n xs) {q o : Nat} (hq : some q ≠ v.ownBlock) (u : Value) : (w.setCell ⟨q,o,none⟩ u).ownsRow b e s v n xs :=
 h.kept (grown_set w q o u) (.inr fun he => hq he.symm)
theorem bx_news {w : World} {q t : Nat} {cs : Array Value} (h : Bx w q t cs) : ∀ j u,cs.toList[j]? = some u → w.cell? ((⟨q,0,none⟩ : Addr).add j) = some u:=by
 intro j u hu
 have e : (⟨q,0,none⟩ : Addr).add j = ⟨q,j,none⟩:=by unfold Addr.add; split <;> simp_all
 rw [e,h.cell]
 simpa using hu
theorem fd_cell {g : Nat} {w : World} (h : Fd g w) {a : Addr} {v : Value} (hc : w.cell? a = some v) (hv : ∀ x,v ≠ .int .u64 x) : a.block ≠ g:=by
 intro e
 obtain ⟨x,_,_,hx⟩:=h
 unfold Bx at hx
 unfold World.cell? at hc
 rw [e,hx] at hc
 dsimp only at hc
 split at hc
 ·cases hc
 ·match hq : a.off with
  | 0 => rw [hq] at hc; exact hv x (by simpa using hc.symm)
  | k + 1 => rw [hq] at hc; simp at hc
theorem Sl.ft {g s : Nat} {V w' : World} {B : Nat} {A : Option Addr} {xs : List (List Value)} (h : Sl V B s A xs) (hf : Fd g V) (k : V.grownBy w' (some g)) (hx : ∀ r ∈ xs,∀ u ∈ r,∀ x,u ≠ .int .u64 x) : Sl w' B s A xs:=fun i r hr => by
 obtain ⟨ad,h1,h2,h3⟩:=h i r hr
 exact ⟨ad,h1,h2,fun j u hu => k.cell (h3 j u hu) (by simpa using fd_cell hf (h3 j u hu) (hx r (List.mem_of_getElem? hr) u (List.mem_of_getElem? hu)))⟩
theorem inr_no (l : List Int) : ∀ r ∈ inr l,∀ u ∈ r,∀ x,u ≠ .int .u64 x:=by
 intro r hr u hu x h
 unfold inr at hr
 obtain ⟨a,_,rfl⟩:=List.mem_map.1 hr
 obtain rfl : u = .int .i64 a:=by simpa using hu
 simp at h
theorem gnr_no (l : List (Int × Int)) : ∀ r ∈ gnr l,∀ u ∈ r,∀ x,u ≠ .int .u64 x:=by
 intro r hr u hu x h
 unfold gnr at hr
 obtain ⟨a,_,rfl⟩:=List.mem_map.1 hr
 subst h
 simp at hu
theorem own_free {w : World} {b q n c : Nat} {t : TypeId} {s : Nat} {xs : List Value} (h : w.ownsRow b t s (.slice (some ⟨q,0,none⟩) n c) n xs) : ∀ o,w.frozen? ⟨q,o,none⟩ = false:=by
 rcases h.2 with ⟨h,_⟩ | ⟨q',cap,cur,h,_,hg,_⟩
 ·simp at h
 ·simp only [Value.slice.injEq,Option.some.injEq,Addr.mk.injEq,and_true,true_and] at h
  obtain ⟨rfl,rfl⟩:=h
  exact Bx.free (show Bx w q t cur from hg)
theorem own_fd {g : Nat} {V w' : World} {b n : Nat} {t : TypeId} {s : Nat} {v : Value} {xs : List Value} (o : V.ownsRow b t s v n xs) (hf : Fd g V) (hgr : V.grownBy w' (some g)) (hne : (75 : Nat) ≠ t) : w'.ownsRow b t s v n xs :=
 o.kept hgr (.inr fun hk => by obtain ⟨y,_,_,hy⟩:=hf; exact own_bx o hy hne hk.symm)
theorem Fd.below {g : Nat} {w w' : World} (h : Fd g w) (hb : Below w.heap.size w w') : Fd g w':=by obtain ⟨y,h1,h2,h3⟩:=h; exact ⟨y,h1,h2,h3.call hb⟩
theorem gr_own {w x y : World} {row own : Option Nat} (g : w.grownBy x row) (h : x.grownBy y own) (ho : ∀ k,own = some k → w.heap.size ≤ k) : w.grownBy y row :=
 grown_trans g h (.inr ho)
theorem FT.alloc {g : Nat} {V x : World} (h : FT g V x) (o : Obj) : FT g V (x.alloc o):=h.step (FK.alloc g _ _)
theorem FT.call {g : Nat} {V x y : World} (h : FT g V x) (hg : x.grownBy y (some g)) (hf : Fd g y) : FT g V y:=⟨grownF_trans h.1 hg,hf⟩
theorem FT.set_ {g b : Nat} {V x : World} (h : FT g V x) (hb : V.heap.size ≤ b) (hg : g ≠ b) (o : Nat) (u : Value) : FT g V (x.setCell ⟨b,o,none⟩ u):=⟨grown_new h.1 hb u,h.2.far hg u⟩
theorem FT.size {g : Nat} {V x : World} (h : FT g V x) : V.heap.size ≤ x.heap.size:=h.1.size
theorem FT.bel {g : Nat} {V x y : World} (h : FT g V x) (hb : Below x.heap.size x y) : FT g V y:=⟨grownF_trans h.1 (grown_below hb),Fd.below h.2 hb⟩
theorem FT.self {g : Nat} {V : World} (h : Fd g V) : FT g V V:=⟨grown_refl _ _,h⟩
theorem FT.drew {g : Nat} {V x : World} (h : FT g V x) : FT g V x.drew:=⟨grownF_trans h.1 (grown_drew _ _),h.2.drew⟩
theorem FT.sl {g s : Nat} {V x : World} {A : Option Addr} {xs : List (List Value)} (h : FT g V x) (hf : Fd g V) (hs : Sl V V.heap.size s A xs) (hx : ∀ r ∈ xs,∀ u ∈ r,∀ x,u ≠ .int .u64 x) : Sl x x.heap.size s A xs:=(Sl.ft hs hf h.1 hx).more h.1.size
theorem FT.be {g : Nat} {w V x : World} (h : FT g V x) (hB : Below w.heap.size w V) (hg : w.heap.size ≤ g) : Below w.heap.size w x:=hB.grown h.1 hB.size (fun k e => by cases e; exact hg)
theorem FT.own {g : Nat} {V x y : World} (h : FT g V x) {b n : Nat} {t : TypeId} {s : Nat} {v : Value} {xs : List Value} (ho : x.ownsRow b t s v n xs) (hg : x.grownBy y v.ownBlock) (hb : V.heap.size ≤ b) (ht : (75 : Nat) ≠ t) : FT g V y:=by
 refine ⟨gr_own h.1 hg (fun k hk => Nat.le_trans hb (ho.lt k hk).1),?_⟩
 obtain ⟨z,h1,h2,h3⟩:=h.2
 exact ⟨z,h1,h2,h3.grown hg (own_bx ho h3 ht)⟩
/-- A row of one's own that lies behind V survives what FT turns. -/
theorem FT.row {g : Nat} {V x : World} (h : FT g V x) (hf : Fd g V) {b n : Nat} {t : TypeId} {s : Nat} {v : Value} {xs : List Value} (o : V.ownsRow b t s v n xs) (hne : (75 : Nat) ≠ t) : x.ownsRow b t s v n xs:=own_fd o hf h.1 hne
/-- An order in memory after the feed has turned. -/
theorem BinsAt.ft {g : Nat} {V x : World} {B : Nat} {A : Option Addr} {bs : List Bn} (h : BinsAt V B A bs) (hf : Fd g V) (k : V.grownBy x (some g)) : BinsAt x B A bs:=by
 obtain ⟨rs,h1,h2,h3⟩:=h.rows
 refine ⟨rs,h1.ft hf k fun r hr u hu y e => ?_,h2,fun j r b hr hb => ?_⟩
 ·obtain ⟨j,hj⟩:=List.getElem?_of_mem hr
  have hlt : j < bs.length:=by have:=(List.getElem?_eq_some_iff.1 hj).1; omega
  obtain ⟨A',c,e1,_⟩:=h3 j r bs[j] hj (List.getElem?_eq_getElem hlt)
  subst e1 e
  simp at hu
 ·obtain ⟨A',c,e1,h4⟩:=h3 j r b hr hb
  exact ⟨A',c,e1,h4.ft hf k (gnr_no _)⟩
theorem OrdAt.ft {g : Nat} {V x : World} {B : Nat} {LA BA : Option Addr} {o : Od} (h : OrdAt V B LA BA o) (hf : Fd g V) (k : V.grownBy x (some g)) : OrdAt x B LA BA o:=⟨h.lm.ft hf k (inr_no _),h.bs.ft hf k⟩
theorem FT.ord {g : Nat} {V x : World} {LA BA : Option Addr} {o : Od} (k : FT g V x) (hf : Fd g V) (h : OrdAt V V.heap.size LA BA o) : OrdAt x x.heap.size LA BA o:=(h.ft hf k.1).more k.size
theorem info39 : (Try.prog.info? 39).map (fun i => (i.zero,i.size,i.bytes)) = some (some (.agg #[.int .i64 0,.int .i64 0]),2,16):=by kernel_rfl
theorem info42 : (Try.prog.info? 42).map (fun i => (i.zero,i.size,i.bytes)) = some (some (.agg #[.slice none 0 0,.int .i64 0,.int .i64 0,.int .i64 0]),4,48):=by kernel_rfl
theorem bx2 {x y : Int} (P : Int → Prop) (h1 : P x) (h2 : P y) : ∀ i,i < 2 → ∃ q,(#[Value.int .i64 x,.int .i64 y] : Array Value)[i]? = some (.int .i64 q) ∧ P q:=by
 intro i hi
 match i,hi with
 | 0,_ => exact ⟨x,rfl,h1⟩
 | 1,_ => exact ⟨y,rfl,h2⟩
theorem inr_snoc (l : List Int) (x : Int) : (inr (l ++ [x])).flatten = (inr l).flatten ++ [.int .i64 x]:=by simp [inr]
theorem gnr_snoc (l : List (Int × Int)) (a b : Int) : (gnr (l ++ [(a,b)])).flatten = (gnr l).flatten ++ [.int .i64 a,.int .i64 b]:=by simp [gnr]
theorem rows_snoc (l : List (List Value)) (r : List Value) : (l ++ [r]).flatten = l.flatten ++ r:=by simp
/-- A bin whose grams are a row of one's own. -/
def GrRow (w : World) (base : Nat) (r : List Value) (b : Bn) : Prop :=
 ∃ (A : Option Addr) (c : Nat),r = [.slice A b.gr.length c,.int .i64 b.w,.int .i64 b.c,.int .i64 b.g] ∧ w.ownsRow base 39 2 (.slice A b.gr.length c) b.gr.length (gnr b.gr).flatten
structure BinsOwn (w : World) (base : Nat) (rs : List (List Value)) (bs : List Bn) : Prop where
 len : rs.length = bs.length
 row : ∀ (j : Nat) (r : List Value) (b : Bn),rs[j]? = some r → bs[j]? = some b → GrRow w base r b
section
variable {w w' : World} {base : Nat} {rs : List (List Value)} {bs : List Bn}
theorem BinsOwn.kept (h : BinsOwn w base rs bs) {row : Option Nat} (k : w.grownBy w' row) (hne : ∀ v n xs,w.ownsRow base 39 2 v n xs → v.ownBlock = none ∨ v.ownBlock ≠ row) : BinsOwn w' base rs bs :=
 ⟨h.len,fun j r b hr hb => by obtain ⟨A,c,e,o⟩:=h.row j r b hr hb; exact ⟨A,c,e,o.kept k (hne _ _ _ o)⟩⟩
theorem BinsOwn.ft {g : Nat} (h : BinsOwn w base rs bs) (hf : Fd g w) (k : w.grownBy w' (some g)) : BinsOwn w' base rs bs :=
 ⟨h.len,fun j r b hr hb => by obtain ⟨A,c,e,o⟩:=h.row j r b hr hb; exact ⟨A,c,e,own_fd o hf k (by decide)⟩⟩
theorem BinsOwn.set_ (h : BinsOwn w base rs bs) {q t : Nat} {cs : Array Value} (hb : Bx w q t cs) (ht : t ≠ 39) (o : Nat) (u : Value) : BinsOwn (w.setCell ⟨q,o,none⟩ u) base rs bs :=
 h.kept (grown_set w q o u) fun v n xs ho => .inr fun e => own_bx ho hb ht e.symm
theorem BinsOwn.own (h : BinsOwn w base rs bs) {b n t s : Nat} {v : Value} {xs : List Value} (ho : w.ownsRow b t s v n xs) (k : w.grownBy w' v.ownBlock) (ht : t ≠ 39) : BinsOwn w' base rs bs :=
 h.kept k fun v' n' xs' ho' => own_ne ho' ho (Ne.symm ht)
theorem BinsOwn.nil (w : World) (base : Nat) : BinsOwn w base [] []:=⟨rfl,fun j r b h => by simp at h⟩
theorem BinsOwn.snoc (h : BinsOwn w base rs bs) {r : List Value} {b : Bn} (hr : GrRow w base r b) : BinsOwn w base (rs ++ [r]) (bs ++ [b]):=by
 refine ⟨by simp [h.len],fun j r' b' h1 h2 => ?_⟩
 by_cases hj : j < rs.length
 ·rw [List.getElem?_append_left hj] at h1
  rw [List.getElem?_append_left (by rw [← h.len]; exact hj)] at h2
  exact h.row j r' b' h1 h2
 ·have hj2 : j < (rs ++ [r]).length:=(List.getElem?_eq_some_iff.1 h1).1
  obtain rfl : j = rs.length:=by simp at hj2; omega
  rw [List.getElem?_concat_length] at h1
  rw [h.len,List.getElem?_concat_length] at h2
  simp only [Option.some.injEq] at h1 h2
  subst h1 h2
  exact hr
theorem BinsOwn.four (h : BinsOwn w base rs bs) : ∀ r ∈ rs,r.length = 4:=by
 intro r hr
 obtain ⟨j,hj⟩:=List.getElem?_of_mem hr
 have hlt : j < bs.length:=by have:=(List.getElem?_eq_some_iff.1 hj).1; have:=h.len; omega
 obtain ⟨A,c,rfl,_⟩:=h.row j r bs[j] hj (List.getElem?_eq_getElem hlt)
 rfl
theorem gnr_two (l : List (Int × Int)) : ∀ r ∈ gnr l,r.length = 2:=by
 intro r hr; unfold gnr at hr; obtain ⟨x,_,rfl⟩:=List.mem_map.1 hr; rfl
theorem inr_one (l : List Int) : ∀ r ∈ inr l,r.length = 1:=by
 intro r hr; unfold inr at hr; obtain ⟨x,_,rfl⟩:=List.mem_map.1 hr; rfl
theorem own_inr {b n c : Nat} {A : Option Addr} {l : List Int} (h : w.ownsRow b 3 1 (.slice A n c) n (inr l).flatten) (hl : l.length = n) : Sl w w.heap.size 1 A (inr l):=by
 obtain ⟨A',c',e,hs⟩:=own_sl h (inr_one l) (by simpa [inr] using hl)
 simp only [Value.slice.injEq] at e
 rw [e.1]
 exact hs
theorem own_gnr {b n c : Nat} {A : Option Addr} {l : List (Int × Int)} (h : w.ownsRow b 39 2 (.slice A n c) n (gnr l).flatten) (hl : l.length = n) : Sl w w.heap.size 2 A (gnr l):=by
 obtain ⟨A',c',e,hs⟩:=own_sl h (gnr_two l) (by simpa [gnr] using hl)
 simp only [Value.slice.injEq] at e
 rw [e.1]
 exact hs
/-- What is one's own can be read. -/
theorem BinsOwn.at_ (h : BinsOwn w base rs bs) {b c n : Nat} {A : Option Addr} (ho : w.ownsRow b 42 4 (.slice A n c) n rs.flatten) (hn : bs.length = n) : BinsAt w w.heap.size A bs:=by
 obtain ⟨A',c',e,hs⟩:=own_sl ho h.four (by rw [h.len]; exact hn)
 simp only [Value.slice.injEq] at e
 rw [← e.1] at hs
 refine ⟨rs,hs,h.len,fun j r b' hr hb => ?_⟩
 obtain ⟨A2,c2,e2,o⟩:=h.row j r b' hr hb
 exact ⟨A2,c2,e2,own_gnr o rfl⟩
end
/-- An order in the making: its box behind w, its rows one's own. -/
structure OI (g : Nat) (w : World) (lm : List Int) (bs : List Bn) (le mo : Int) (lv bv : Value) (rs : List (List Value)) (wr : World) : Prop where
 k8 : Bx wr w.heap.size 27 #[.slice none 0 0,.int .i64 0,.int .i64 0,.slice none 0 0]
 k9 : Bx wr (w.heap.size + 1) 27 #[lv,.int .i64 le,.int .i64 mo,bv]
 ol : wr.ownsRow w.heap.size 3 1 lv lm.length (inr lm).flatten
 ob : wr.ownsRow w.heap.size 42 4 bv bs.length rs.flatten
 bo : BinsOwn wr w.heap.size rs bs
 fd : Fd g wr
 gr : w.grownBy wr (some g)
section
variable {g : Nat} {w V x : World} {lm : List Int} {bs : List Bn} {le mo : Int} {lv bv : Value} {rs : List (List Value)}
theorem OI.ft (h : OI g w lm bs le mo lv bv rs V) (k : FT g V x) (hg : g < w.heap.size) : OI g w lm bs le mo lv bv rs x :=
 ⟨k.bx h.k8 (by omega),k.bx h.k9 (by omega),k.row h.fd h.ol (by decide),k.row h.fd h.ob (by decide),h.bo.ft h.fd k.1,k.2,grownF_trans h.gr k.1⟩
/-- A limit more. -/
theorem OI.lim (h : OI g w lm bs le mo lv bv rs V) (hg : g < w.heap.size) {z : Int} {v' : Value} (k : V.grownBy x lv.ownBlock) (o : x.ownsRow w.heap.size 3 1 v' (lm.length + 1) ((inr lm).flatten ++ [.int .i64 z])) :
  OI g w (lm ++ [z]) bs le mo v' bv rs (x.setCell ⟨w.heap.size + 1,0,none⟩ v'):=by
 have k9':=h.k9.grown k (own_bx h.ol h.k9 (by decide))
 have k8':=h.k8.grown k (own_bx h.ol h.k8 (by decide))
 have hfd : Fd g x:=by obtain ⟨y,h1,h2,h3⟩:=h.fd; exact ⟨y,h1,h2,h3.grown k (own_bx h.ol h3 (by decide))⟩
 refine ⟨k8'.far (by simp) v',?_,?_,?_,?_,hfd.far (by simp; omega) v',?_⟩
 ·have:=k9'.set_ 0 v'; simpa using this
 ·rw [List.length_append,inr_snoc]
  exact own_set o (own_bx o k9' (by decide)) v'
 ·have ob':=h.ob.kept k (own_ne h.ob h.ol (by decide))
  exact own_set ob' (own_bx ob' k9' (by decide)) v'
 ·exact (h.bo.own h.ol k (by decide)).set_ k9' (by decide) 0 v'
 ·exact grown_new (gr_own h.gr k (fun i hi => (h.ol.lt i hi).1)) (by omega) v'
/-- A bin more. -/
theorem OI.bin (h : OI g w lm bs le mo lv bv rs V) (hg : g < w.heap.size) {r : List Value} {b : Bn} {v' : Value} (k : V.grownBy x bv.ownBlock) (o : x.ownsRow w.heap.size 42 4 v' (bs.length + 1) (rs.flatten ++ r)) (hr : GrRow V w.heap.size r b) :
  OI g w lm (bs ++ [b]) le mo lv v' (rs ++ [r]) (x.setCell ⟨w.heap.size + 1,3,none⟩ v'):=by
 have k9':=h.k9.grown k (own_bx h.ob h.k9 (by decide))
 have k8':=h.k8.grown k (own_bx h.ob h.k8 (by decide))
 have hfd : Fd g x:=by obtain ⟨y,h1,h2,h3⟩:=h.fd; exact ⟨y,h1,h2,h3.grown k (own_bx h.ob h3 (by decide))⟩
 refine ⟨k8'.far (by simp) v',?_,?_,?_,?_,hfd.far (by simp; omega) v',?_⟩
 ·have:=k9'.set_ 3 v'; simpa using this
 ·have ol':=h.ol.kept k (own_ne h.ol h.ob (by decide))
  exact own_set ol' (own_bx ol' k9' (by decide)) v'
 ·rw [List.length_append,rows_snoc]
  exact own_set o (own_bx o k9' (by decide)) v'
 ·exact ((h.bo.snoc hr).own h.ob k (by decide)).set_ k9' (by decide) 3 v'
 ·exact grown_new (gr_own h.gr k (fun i hi => (h.ob.lt i hi).1)) (by omega) v'
/-- A number set in the box. -/
theorem OI.num (h : OI g w lm bs le mo lv bv rs V) (hg : g < w.heap.size) (i : Nat) (z le' mo' : Int) (hi : (#[lv,.int .i64 le,.int .i64 mo,bv] : Array Value).setIfInBounds i (.int .i64 z) = #[lv,.int .i64 le',.int .i64 mo',bv]) : OI g w lm bs le' mo' lv bv rs (V.setCell ⟨w.heap.size + 1,i,none⟩ (.int .i64 z)):=by
 refine ⟨h.k8.far (by simp) _,?_,own_set h.ol (own_bx h.ol h.k9 (by decide)) _,own_set h.ob (own_bx h.ob h.k9 (by decide)) _,h.bo.set_ h.k9 (by decide) i _,h.fd.far (by simp; omega) _,grown_new h.gr (by omega) _⟩
 have:=h.k9.set_ i (.int .i64 z)
 rw [hi] at this
 exact this
end
/-- Orders that swarfkit makes: small numbers. -/
structure Small (o : Od) (bins metals grabs : Int) : Prop where
 lm : (o.lm.length : Int) ≤ metals
 li : ∀ x ∈ o.lm,20 ≤ x ∧ x ≤ 300
 b1 : 1 ≤ o.bs.length
 bs : (o.bs.length : Int) ≤ bins
 bn : ∀ b ∈ o.bs,b.gr.length = o.lm.length ∧ (∀ p ∈ b.gr,0 ≤ p.1 ∧ p.1 ≤ p.2 ∧ p.2 ≤ 600) ∧ 1 ≤ b.w ∧ b.w ≤ 20 ∧ 0 ≤ b.c ∧ b.c ≤ 49 ∧ 0 ≤ b.g ∧ b.g ≤ grabs
 le0 : 0 ≤ o.le
 lem : o.le ≤ o.mo
 mo : o.mo ≤ 1000
theorem Small.ok {o : Od} {bins metals grabs : Int} (h : Small o bins metals grabs) (hb : bins ≤ 4) (hm : metals ≤ 3) (hg : grabs ≤ 6) : o.Ok:=by
 have h1:=h.lm
 have h2:=h.bs
 have h3:=h.b1
 have h4:=h.le0
 have h5:=h.lem
 have h6:=h.mo
 refine ⟨by omega,fun x hx => by have:=h.li x hx; omega,by omega,by omega,by omega,by omega,by omega,fun b hb => ?_⟩
 obtain ⟨p1,p2,p3,p4,p5,p6,p7,p8⟩:=h.bn b hb
 refine ⟨p1,fun p hp => by have:=p2 p hp; omega,by omega,by omega,by omega,by omega,by omega,by omega⟩
end Go.Proofs.Ytmemcopfeabcgaa

/-! melt.checker.check, Verify: proofs that are checked. -/
namespace Go.Proofs.Ytmemcopfeabcgaa
open Go Go.RowKit
theorem add0 (a : Addr) : a.add 0 = a:=by
 obtain ⟨b,o,s⟩:=a
 cases s <;> simp [Addr.add]
theorem bds_drop {w : World} {B : Nat} {ad : Addr} {r : Bd} {L : List Bd} (h : Sl w B 3 (some ad) ((r :: L).map bdr)) : Sl w B 3 (some (ad.add 3)) (L.map bdr):=fun k r' hr => by
 obtain ⟨a',h1,h2,h3⟩:=h (k + 1) r' (by simpa using hr)
 simp only [Option.some.injEq] at h1
 subst h1
 refine ⟨_,rfl,by rw [add_block]; exact h2,?_⟩
 rw [add_add,show 3 + k * 3 = (k + 1) * 3 by omega]
 exact h3
theorem vfy_len {o : Od} {p : Int} : ∀ (n : Nat) (lo hi : Nat → Int) (L : List Bd),(vfy o p n lo hi L).1.length ≤ L.length:=by
 intro n
 induction n with
 | zero => intro lo hi L; simp [vfy]
 | succ n ih =>
  intro lo hi L
  cases L with
  | nil => simp [vfy]
  | cons r L =>
   unfold vfy
   split
   ·simp
   ·split
    ·simp
    ·split
     ·exact Nat.le_trans (ih _ _ _) (by simp)
     ·exact Nat.le_trans (ih _ _ _) (Nat.le_trans (ih _ _ _) (by simp))
theorem Bx.six {w : World} {g : Nat} {t : TypeId} {a b c d e f : Value} (h : Bx w g t #[a,b,c,d,e,f]) : w.cell? ⟨g,0,none⟩ = some a ∧ w.cell? ⟨g,1,none⟩ = some b ∧ w.cell? ⟨g,2,none⟩ = some c ∧ w.cell? ⟨g,3,none⟩ = some d ∧ w.cell? ⟨g,4,none⟩ = some e ∧ w.cell? ⟨g,5,none⟩ = some f ∧ (∀ o,w.frozen? ⟨g,o,none⟩ = false) ∧ g < w.heap.size:=⟨h.cell 0,h.cell 1,h.cell 2,h.cell 3,h.cell 4,h.cell 5,h.free,h.lt⟩
/-- What check gives back. -/
def CheckP (LA : Option Addr) (ln lc : Nat) (BA : Option Addr) (bn bc : Nat) (o : Od) (p : Int) (B q : Nat) (w : World) (R : List Bd × Int) (e : Ending) (w' : World) : Prop :=
 e = .returned (.int .i64 R.2) ∧ w.grownBy w' (some q) ∧ ∃ (RA : Option Addr) (rc : Nat),Bx w' q 103 #[.slice LA ln lc,.int .i64 o.le,.int .i64 o.mo,.slice BA bn bc,.int .i64 p,.slice RA R.1.length rc] ∧ Sl w' B 3 RA (R.1.map bdr) ∧ R.1.length ≤ rc
theorem ord_kept {w w' : World} {B q : Nat} {LA BA : Option Addr} {o : Od} (h : OrdAt w B LA BA o) (k : w.grownBy w' (some q)) (hB : B ≤ w.heap.size) (hq : B ≤ q) : OrdAt w' B LA BA o :=
 h.below ⟨k.os,k.tape,k.output,k.size,fun i hi => k.block i (by omega) (by simp; omega)⟩
set_option maxRecDepth 100000 in
set_option maxHeartbeats 8000000 in
theorem check64_any (LA : Option Addr) (ln lc : Nat) (BA : Option Addr) (bn bc : Nat) (o : Od) (p : Int) (B q : Nat) (hl : o.lm.length = ln) (hb' : o.bs.length = bn) (ho : o.Ok) (hBq : B ≤ q) : ∀ (fuel : Nat) (lo hi : Nat → Int) (L : List Bd) (RA : Option Addr) (rc : Nat) (w : World),wid lo hi < fuel → BoxOk lo hi → OrdAt w B LA BA o → Sl w B 3 RA (L.map bdr) → Bx w q 103 #[.slice LA ln lc,.int .i64 o.le,.int .i64 o.mo,.slice BA bn bc,.int .i64 p,.slice RA L.length rc] → B ≤ w.heap.size → L.length ≤ 9000000000000000000 → L.length ≤ rc →
  Calls Try.prog 64 #[.pointer (some ⟨q,0,none⟩),.agg (xarr lo hi)] w (CheckP LA ln lc BA bn bc o p B q w (vfy o p fuel lo hi L)):=by
 have HB:=Lib.hid hb'
 have HL:=Lib.hid hl
 have HO:=Lib.hid ho
 have hbn4 : bn ≤ 4:=by rw [← hb']; exact ho.b2
 clear hb' hl ho
 intro fuel
 induction fuel with
 | zero => intro lo hi L RA rc w hw; omega
 | succ fuel ih =>
  intro lo hi L RA rc w hw hbx hA hS hq hBw hL9 hrc
  have IH:=Lib.hid ih
  have HX:=Lib.hid hbx
  clear ih hbx
  have hql:=hq.lt
  have k1:=Bx.new w 91 (xarr lo hi)
  have B0:=(Below.refl w.heap.size w).alloc (Nat.le_refl _) (.cells (xarr lo hi) 91)
  obtain ⟨n,hn⟩ : ∃ n,L.length = n:=⟨_,rfl⟩
  rw [hn] at hq
  cases L with
  | nil =>
   obtain rfl : n = 0:=by simpa using hn.symm
   obtain ⟨q0,q1,q2,q3,q4,q5,qf,qz⟩:=(hq.call B0).six
   have hS1:=(hS.below (B0.mono hBw))
   have hq1:=hq.call B0
   go_enter Try.func64,Try.ntmps64
   go_wp2_with fail
   go_ret
   exact ⟨by simp [vfy],grown_below B0,RA,rc,by simpa [vfy] using hq1,by simpa [vfy] using hS1,by simp [vfy]⟩
  | cons r L =>
   have hnr : n = L.length + 1:=by simpa using hn.symm
   obtain ⟨ad,h0,had,r0,r1,r2⟩:=bd_at hS (k:=0) (by simp)
   subst h0
   have hSD:=bds_drop hS
   obtain ⟨rs,at_,ct⟩:=r
   simp only [Nat.zero_mul,Sp3,add0] at r0 r1 r2
   obtain ⟨V,hV⟩ : ∃ V,w.alloc (.cells (xarr lo hi) 91) = V:=⟨_,rfl⟩
   rw [hV] at k1 B0
   have HV:=Lib.hid hV
   have hqV:=hq.call B0
   have hSV:=hSD.below (B0.mono hBw)
   have hAV:=hA.below (B0.mono hBw)
   have r0V:=cellL (B0.mono hBw) had r0
   have r1V:=cellL (B0.mono hBw) (a:=⟨ad.block,ad.off + 1,none⟩) had r1
   have r2V:=cellL (B0.mono hBw) (a:=⟨ad.block,ad.off + 2,none⟩) had r2
   obtain ⟨q0,q1,q2,q3,q4,q5,qf,qz⟩:=hqV.six
   have HN:=Lib.hid hnr
   obtain ⟨NA,hNA⟩ : ∃ x,(if rc = 1 then some ad else some (⟨ad.block,ad.off + 3,none⟩ : Addr)) = x:=⟨_,rfl⟩
   have hSN : Sl V B 3 NA (L.map bdr):=by
    rw [← hNA]
    split
    ·have : L = []:=List.eq_nil_of_length_eq_zero (by simp at hrc; omega)
     subst this; exact Sl.nil _ _ _ _
    ·exact hSV
   clear hn hnr hV hS hSD hSV hA hq r0 r1 r2
   have hn0 : ((n : Int) == 0) = false:=by simp; have:=HN.out; omega
   have hn1 : 1 ≤ n:=by have:=HN.out; omega
   go_enter Try.func64,Try.ntmps64
   go_upto_region 1 with fail
   rw [HV.out]
   go_upto_region 5 with fail
   clear q0 q1 q2 q3 q4 q5 qf qz r0V r1V r2V hn0
   try rw [hNA]
   obtain ⟨V1,hV1⟩ : ∃ X,(V.setCell ⟨q,5,none⟩ (.slice NA (n - 1) (rc - 1))).alloc (.cells #[.int .i64 rs,.int .i64 at_,.int .i64 ct] 69) = X:=⟨_,rfl⟩
   have G1 : w.grownBy V1 (some q):=by rw [← hV1]; exact grown_alloc (grownF_trans (grown_below B0) (grown_set V q 5 _)) _
   have hqne : w.heap.size ≠ q:=by omega
   have kx1 : Bx V1 w.heap.size 91 (xarr lo hi):=by rw [← hV1]; exact (k1.far hqne _).alloc _
   have kq1 : Bx V1 q 103 #[.slice LA ln lc,.int .i64 o.le,.int .i64 o.mo,.slice BA bn bc,.int .i64 p,.slice NA L.length (rc - 1)]:=by
    have:=hqV.set_ 5 (.slice NA (n - 1) (rc - 1))
    rw [← hV1]
    refine Bx.alloc ?_ _
    have e : n - 1 = L.length:=by have:=HN.out; omega
    rw [← e]
    simpa using this
   have kb1 : Bx V1 V.heap.size 69 #[.int .i64 rs,.int .i64 at_,.int .i64 ct]:=by rw [← hV1]; exact Bx.at _ 69 _ (n:=V.heap.size) (by simp)
   have B1 : Below B V V1:=by rw [← hV1]; exact ((Below.refl B V).setCell hBq _).alloc (by have:=B0.size; simp; omega) _
   have hA1:=hAV.below B1
   have hS1:=hSN.below B1
   have hB1 : B ≤ V1.heap.size:=by have:=B1.size; have:=B0.size; omega
   rw [hV1]
   have HV1:=Lib.hid hV1
   clear hV1 k1 hqV hAV hSN B1 hNA
   have hVs:=kb1.lt
   obtain ⟨vb,hvb⟩ : ∃ b,V.heap.size = b:=⟨_,rfl⟩
   obtain ⟨xb,hxb⟩ : ∃ b,w.heap.size = b:=⟨_,rfl⟩
   have hbq : vb ≠ q:=by have:=B0.size; omega
   have hbx2 : xb ≠ q:=by omega
   have hvx : vb ≠ xb:=by have h:=B0.size; have : w.heap.size < V.heap.size:=(by rw [← HV.out]; simp); omega
   rw [hvb] at kb1 ⊢
   rw [hxb] at kx1 ⊢
   clear B0 HV
   go_wp2_with fail
   refine AnyG.startC (by kernel_rfl) ?_
   refine AnyG.takeP (i:=0) (v:=?_) rfl (by kernel_rfl) (fun _ _ _ h => h) rfl ?_ ?_
   rotate_left
   ·(intro w'; go_simp; try with_reducible rfl)
   try simp only [Act.put,Sp1,Sp2,Sp3,Sp4,Sp5,Sp6]
   refine AnyG.takeP (i:=1) (v:=?_) rfl (by kernel_rfl) (fun _ _ _ h => h) rfl ?_ ?_
   rotate_left
   ·(intro w'; go_simp; try with_reducible rfl)
   try simp only [Act.put,Sp1,Sp2,Sp3,Sp4,Sp5,Sp6]
   refine AnyG.takeP (i:=2) (v:=?_) rfl (by kernel_rfl) (fun _ _ _ h => h) rfl ?_ ?_
   rotate_left
   ·(intro w'; go_simp; try with_reducible rfl)
   try simp only [Act.put,Sp1,Sp2,Sp3,Sp4,Sp5,Sp6]
   refine AnyG.enter (fun w' : World => Below V1.heap.size V1 w') (fun i => true) ?_
   have hS : (fun w' : World => Below V1.heap.size V1 w') (World.drew _):=(Below.refl _ _).drew
   refine AnyG.takeC (i:=3) (v:=?_) rfl (by kernel_rfl) (fun _ _ _ h => h) rfl ?_ hS ?_
   rotate_left
   ·(intro w' hSw; (try dsimp only at hSw); obtain ⟨q0,q1,q2,q3,q4,q5,qf,qz⟩:=(kq1.call hSw).six; go_simp; try with_reducible rfl)
   try simp only [Act.put,Sp1,Sp2,Sp3,Sp4,Sp5,Sp6]
   refine AnyG.takeC (i:=4) (v:=?_) rfl (by kernel_rfl) (fun _ _ _ h => h) rfl ?_ hS ?_
   rotate_left
   ·(intro w' hSw; (try dsimp only at hSw); obtain ⟨b0,b1,b2,bf,bz⟩:=(kb1.call hSw).three; go_simp; try with_reducible rfl)
   try simp only [Act.put,Sp1,Sp2,Sp3,Sp4,Sp5,Sp6]
   refine AnyG.takeC (i:=5) (v:=?_) rfl (by kernel_rfl) (fun _ _ _ h => h) rfl ?_ hS ?_
   rotate_left
   ·(intro w' hSw; (try dsimp only at hSw); obtain ⟨p0,p1,p2,p3,p4,p5,p6,p7,pf,pz⟩:=(kx1.call hSw).xarr; go_simp; try with_reducible rfl)
   try simp only [Act.put,Sp1,Sp2,Sp3,Sp4,Sp5,Sp6]
   refine AnyG.one (i:=6) (by kernel_rfl) rfl rfl ?_
   go_simp
   rw [← xarr_def lo hi]
   refine (checkBound_any LA ln lc BA bn bc o p lo hi rs at_ ct _ HL.out HB.out ((hA1.below (hS.mono hB1)).more (Nat.le_trans hB1 hS.size)) HO.out HX.out).mono ?_
   rintro e6 y6 ⟨rfl,hb6⟩
   refine Onward.on (hS.trans (hb6.mono hS.size)) (fun hS2 => ?_)
   clear hS
   have hS:=hS2
   clear hS2
   try simp only [Act.put,Sp1,Sp2,Sp3,Sp4,Sp5,Sp6]
   refine AnyG.takeC (i:=7) (v:=?_) rfl (by kernel_rfl) (fun _ _ _ h => h) rfl ?_ hS ?_
   rotate_left
   ·(intro w' hSw; (try dsimp only at hSw); go_simp; try with_reducible rfl)
   try simp only [Act.put,Sp1,Sp2,Sp3,Sp4,Sp5,Sp6]
   refine AnyG.done (by kernel_rfl) ?_ _
   have hB2:=hS
   clear hS
   go_simp
   have kx2:=kx1.call hB2
   have kq2:=kq1.call hB2
   have kb2:=kb1.call hB2
   have hA2:=hA1.below (hB2.mono hB1)
   have hS2:=hS1.below (hB2.mono hB1)
   have G2:=grownF_trans G1 (grown_below (row:=some q) hB2)
   have hB2s:=hB2.size
   clear kx1 kq1 kb1 hA1 hS1 G1 hB2
   obtain ⟨cv,hcv⟩ : ∃ x,ckBd o p lo hi ⟨rs,at_,ct⟩ = x:=⟨_,rfl⟩
   rw [hcv]
   have HCV:=Lib.hid hcv
   clear hcv
   obtain ⟨b0,b1,b2,bf,bz⟩:=kb2.three
   by_cases hc0 : cv = 0
   ·subst hc0
    by_cases h1 : rs = 1
    ·subst h1
     obtain ⟨z0,z1,z2,z3⟩:=ckBd_cut HCV.out rfl
     dsimp only at z0 z1 z2 z3
     obtain ⟨m,rfl⟩ : ∃ m : Nat,at_ = m:=⟨at_.toNat,by omega⟩
     rw [Int.toNat_natCast] at z2 z3
     rw [HB.out] at z1
     have hm4 : m < 4:=by omega
     have hc6 : 0 ≤ ct ∧ ct ≤ 6:=by
      have:=HX.out.six m
      have:=HX.out.six2 m
      omega
     have HXL:=Lib.hid (HX.out.lower hm4 z2 z3)
     have HXU:=Lib.hid (HX.out.upper hm4 z2 z3)
     have hwl : wid lo (up1 hi m ct) < fuel:=by have:=wid_lower hm4 z2 z3; omega
     have hwu : wid (up1 lo m (ct + 1)) hi < fuel:=by have:=wid_upper hm4 z2 z3; omega
     have hL9' : L.length ≤ 9000000000000000000:=by simp at hL9; omega
     have hrc' : L.length ≤ rc - 1:=by simp at hrc; omega
     have ev : vfy o p (fuel + 1) lo hi (⟨1,(m : Int),ct⟩ :: L) = (if (vfy o p fuel lo (up1 hi m ct) L).2 ≠ 0 then vfy o p fuel lo (up1 hi m ct) L else vfy o p fuel (up1 lo m (ct + 1)) hi (vfy o p fuel lo (up1 hi m ct) L).1):=by
      have h:=HCV.out
      conv => lhs; unfold vfy
      rw [if_neg (fun h2 => h2 h),if_neg (fun h2 => h2 rfl)]
      dsimp only
      rw [Int.toNat_natCast]
     have HEV:=Lib.hid ev
     clear ev z0 z1 z2 z3 hw hL9 hrc
     obtain ⟨p0,p1,p2,p3,p4,p5,p6,p7,pf,pz⟩:=kx2.xarr
     go_upto_region 9 with (first | (go_at_call 91; rw [← xarr_def lo hi]; refine (cut_any lo hi m ct _ hm4 hc6).mono ?_; rintro e w4 ⟨rfl,hb4⟩; rw [xarr_def lo (up1 hi m ct),xarr_def (up1 lo m (ct + 1)) hi]) | fail)
     clear p0 p1 p2 p3 p4 p5 p6 p7 pf pz b0 b1 b2 bf bz
     rw [← xarr_def lo (up1 hi m ct),← xarr_def (up1 lo m (ct + 1)) hi]
     obtain ⟨V4,hV4⟩ : ∃ X,(w4.alloc (.cells (xarr lo (up1 hi m ct)) 91)).alloc (.cells (xarr (up1 lo m (ct + 1)) hi) 91) = X:=⟨_,rfl⟩
     have kl : Bx V4 w4.heap.size 91 (xarr lo (up1 hi m ct)):=by rw [← hV4]; exact (Bx.new _ _ _).alloc _
     have ku : Bx V4 (w4.heap.size + 1) 91 (xarr (up1 lo m (ct + 1)) hi):=by rw [← hV4]; exact Bx.at _ 91 _ (n:=w4.heap.size + 1) (by simp)
     have hB4 : Below _ y6 V4:=hb4.trans (by rw [← hV4]; exact ((Below.refl _ _).alloc hb4.size _).alloc (by have:=hb4.size; simp; omega) _)
     rw [hV4]
     have kq4:=kq2.call hB4
     have hA4:=hA2.below (hB4.mono (Nat.le_trans hB1 hB2s))
     have hS4:=hS2.below (hB4.mono (Nat.le_trans hB1 hB2s))
     have G4:=grownF_trans G2 (grown_below (row:=some q) hB4)
     have hB4' : B ≤ V4.heap.size:=Nat.le_trans (Nat.le_trans hB1 hB2s) hB4.size
     have hq4 : w4.heap.size ≠ q:=by have:=hb4.size; have:=kq2.lt; omega
     have hq41 : w4.heap.size + 1 ≠ q:=by have:=hb4.size; have:=kq2.lt; omega
     clear hV4 kx2 kq2 kb2 hA2 hS2 G2 hB2s hB4 hb4
     obtain ⟨bl,hbl⟩ : ∃ b,w4.heap.size = b:=⟨_,rfl⟩
     rw [hbl] at kl ku hq4 hq41 ⊢
     clear hbl
     obtain ⟨p0,p1,p2,p3,p4,p5,p6,p7,pf,pz⟩:=kl.xarr
     go_upto_region 10 with (first | (go_at_call 64; rw [← xarr_def lo (up1 hi m ct)]; refine (IH.out lo (up1 hi m ct) L NA (rc - 1) _ hwl HXL.out hA4 hS4 kq4 hB4' hL9' hrc').mono ?_; rintro e w5 ⟨rfl,G5,RA5,rc5,kq5,hS5,hr5⟩) | fail)
     have ku5:=ku.grown G5 (by simpa using hq41)
     have hA5:=ord_kept hA4 G5 hB4' hBq
     have hB5 : B ≤ w5.heap.size:=Nat.le_trans hB4' G5.size
     have GG5:=grownF_trans G4 G5
     clear p0 p1 p2 p3 p4 p5 p6 p7 pf pz kl ku kq4 hA4 hS4 G4 hB4' G5
     obtain ⟨e5,he5⟩ : ∃ x,(vfy o p fuel lo (up1 hi m ct) L).2 = x:=⟨_,rfl⟩
     obtain ⟨L5,hL5⟩ : ∃ x,(vfy o p fuel lo (up1 hi m ct) L).1 = x:=⟨_,rfl⟩
     have hR5 : vfy o p fuel lo (up1 hi m ct) L = (L5,e5):=by rw [← he5,← hL5]
     have hl5 : L5.length ≤ L.length:=by rw [← hL5]; exact vfy_len _ _ _ _
     rw [hR5] at HEV kq5 hS5 hr5
     rw [he5]
     clear he5 hL5 hR5
     dsimp only at HEV kq5 hS5 hr5
     by_cases h5 : e5 = 0
     ·subst h5
      obtain ⟨p0,p1,p2,p3,p4,p5,p6,p7,pf,pz⟩:=ku5.xarr
      go_wp2_with (first | (go_at_call 64; rw [← xarr_def (up1 lo m (ct + 1)) hi]; refine (IH.out (up1 lo m (ct + 1)) hi L5 RA5 rc5 _ hwu HXU.out hA5 hS5 kq5 hB5 (by omega) hr5).mono ?_; rintro e w6 ⟨rfl,G6,RA6,rc6,kq6,hS6,hr6⟩) | fail)
      go_ret
      rw [HEV.out,if_neg (fun h => h rfl)]
      exact ⟨rfl,grownF_trans GG5 G6,RA6,rc6,kq6,hS6,hr6⟩
     ·have d5 : (e5 == 0) = false:=by simp; exact h5
      have HH5:=Lib.hid h5
      clear h5
      go_wp2_with fail
      go_ret
      rw [HEV.out,if_pos HH5.out]
      exact ⟨rfl,GG5,RA5,rc5,kq5,hS5,hr5⟩
    ·have d1 : (rs == 1) = false:=by simp; exact h1
     have ev : vfy o p (fuel + 1) lo hi (⟨rs,at_,ct⟩ :: L) = (L,0):=by
      unfold vfy; rw [if_neg (fun h => h HCV.out),if_pos h1]
     have HEV:=Lib.hid ev
     clear h1 ev
     go_wp2_with fail
     go_ret
     rw [HEV.out]
     exact ⟨rfl,G2,NA,rc - 1,kq2,hS2,by simp at hrc; dsimp only; omega⟩
   ·have d0 : (cv == 0) = false:=by simp; exact hc0
    have ev : vfy o p (fuel + 1) lo hi (⟨rs,at_,ct⟩ :: L) = (L,cv):=by
     unfold vfy; rw [if_pos (fun h => hc0 (by rw [← HCV.out]; exact h)),HCV.out]
    have HEV:=Lib.hid ev
    clear hc0 ev
    go_wp2_with fail
    go_ret
    rw [HEV.out]
    exact ⟨rfl,G2,NA,rc - 1,kq2,hS2,by simp at hrc; dsimp only; omega⟩
end Go.Proofs.Ytmemcopfeabcgaa
