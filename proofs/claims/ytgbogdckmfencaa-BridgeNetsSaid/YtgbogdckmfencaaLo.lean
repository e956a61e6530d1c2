/- swarfkit.LogOf. -/
import Derived.Test.YtgbogdckmfencaaOwM
import Derived.Test.YtgbogdckmfencaaFiM
set_option linter.unusedSimpArgs false
set_option linter.unusedVariables false
namespace Go.Proofs.Ytgbogdckmfencaa
open Go.RowKit
theorem bx2 {x y : Int} (P : Int → Prop) (h1 : P x) (h2 : P y) : ∀ i,i < 2 → ∃ q,(#[Value.int .i64 x,.int .i64 y] : Array Value)[i]? = some (.int .i64 q) ∧ P q:=by
 intro i hi
 match i,hi with
 | 0,_ => exact ⟨x,rfl,h1⟩
 | 1,_ => exact ⟨y,rfl,h2⟩
theorem bx5 {x y z u v : Int} (P : Int → Prop) (h1 : P x) (h2 : P y) (h3 : P z) (h4 : P u) (h5 : P v) : ∀ i,i < 5 → ∃ q,(#[Value.int .i64 x,.int .i64 y,.int .i64 z,.int .i64 u,.int .i64 v] : Array Value)[i]? = some (.int .i64 q) ∧ P q:=by
 intro i hi
 match i,hi with
 | 0,_ => exact ⟨x,rfl,h1⟩
 | 1,_ => exact ⟨y,rfl,h2⟩
 | 2,_ => exact ⟨z,rfl,h3⟩
 | 3,_ => exact ⟨u,rfl,h4⟩
 | 4,_ => exact ⟨v,rfl,h5⟩
def LogPost (g : Nat) (m ld : Int) (ones : Bool) (w : World) (e : Ending) (w' : World) : Prop :=
 ∃ (st z0 z1 : Int) (ts : List (Ev × Int × Int)) (z : Int) (ev zv nv : Value),e = .returned (.tuple #[.agg #[.int .i64 st,.int .i64 z0,.int .i64 z1,ev],.agg #[zv,nv]]) ∧
  (1 ≤ st ∧ st ≤ 20 ∧ (ones = true → st = 1) ∧ -9 ≤ z0 ∧ z0 ≤ z1 ∧ z1 ≤ 9) ∧ Made st z0 z1 ld ts z ∧ (ts.length : Int) ≤ m ∧
  w'.ownsRow w.heap.size 28 5 ev ts.length ((evsOf ts).map Ev.cells).flatten ∧ w'.ownsRow w.heap.size 3 1 zv ts.length (ints (ts.map (·.2.1))).flatten ∧ w'.ownsRow w.heap.size 3 1 nv ts.length (ints (ts.map (·.2.2))).flatten ∧ (zv.ownBlock = none ∨ zv.ownBlock ≠ nv.ownBlock) ∧ Fd g w' ∧ w.grownBy w' (some g)
theorem es_snoc (ts : List (Ev × Int × Int)) (e : Ev) (z n : Int) : ((evsOf (ts ++ [(e,z,n)])).map Ev.cells).flatten = ((evsOf ts).map Ev.cells).flatten ++ e.cells:=by simp [evsOf]
theorem zs_snoc (ts : List (Ev × Int × Int)) (e : Ev) (z n : Int) : (ints ((ts ++ [(e,z,n)]).map (·.2.1))).flatten = (ints (ts.map (·.2.1))).flatten ++ [.int .i64 z]:=by simp [ints]
theorem ns_snoc (ts : List (Ev × Int × Int)) (e : Ev) (z n : Int) : (ints ((ts ++ [(e,z,n)]).map (·.2.2))).flatten = (ints (ts.map (·.2.2))).flatten ++ [.int .i64 n]:=by simp [ints]
theorem results_two {P : Program} {fn : Func} {p q : Tmp} {ty tz t u : TypeId} {tmps : Array Value} {w : World} {g k : Nat} {cs ds : Array Value} {d f : TypeDesc} (h : fn.results = #[.cell p ty,.cell q tz]) (hp : tmps.getD p undef = .pointer (some ⟨g,0,none⟩)) (hq : tmps.getD q undef = .pointer (some ⟨k,0,none⟩)) (hb : Bx w g t cs) (hk : Bx w k u ds)
  (hu : P.underlying ty = some d) (hd : (match d with | .struct _ | .array _ _ => true | _ => false) = true) (hi : (P.info? ty).map (·.size) = some cs.size) (hv : P.underlying tz = some f) (hf : (match f with | .struct _ | .array _ _ => true | _ => false) = true) (hj : (P.info? tz).map (·.size) = some ds.size) :
  (results fn tmps).run P w = .ok (.tuple #[.agg cs,.agg ds]) w:=by
 have hp' : tmps[p]?.getD undef = .pointer (some ⟨g,0,none⟩):=by simpa using hp
 have hq' : tmps[q]?.getD undef = .pointer (some ⟨k,0,none⟩):=by simpa using hq
 simp only [results,h]
 simp [Sem.run_bind,Result.andThen,hp',hq',asAddr,run_loadVar_row w g t ty cs (0,0) d hb hu hd hi,run_loadVar_row w k u tz ds (0,0) f hk hv hf hj]
theorem own_shape {w : World} {b : Nat} {e : TypeId} {s : Nat} {v : Value} {n : Nat} {xs : List Value} (h : w.ownsRow b e s v n xs) : ∃ A c,v = .slice A n c:=by
 rcases h.2 with ⟨rfl,rfl⟩ | ⟨g,cap,cur,rfl,_⟩
 ·exact ⟨none,0,rfl⟩
 ·exact ⟨_,_,rfl⟩
theorem apart_symm {a b : Option Nat} (h : a = none ∨ a ≠ b) : b = none ∨ b ≠ a:=by
 rcases h with h | h
 ·cases b with
  | none => exact .inl rfl
  | some k => exact .inr (by rw [h]; simp)
 ·exact .inr fun e => h e.symm
theorem own_apart {B : Nat} {U : World} {v zv nv : Value} {n : Nat} {xs : List Value} (h : v.ownBlock = zv.ownBlock ∨ ∀ k,v.ownBlock = some k → U.heap.size ≤ k) (ha : zv.ownBlock = none ∨ zv.ownBlock ≠ nv.ownBlock) (hn : U.ownsRow B 3 1 nv n xs) : v.ownBlock = none ∨ v.ownBlock ≠ nv.ownBlock:=by
 rcases h with h | h
 ·rw [h]; exact ha
 ·cases hv : v.ownBlock with
  | none => exact .inl rfl
  | some k => exact .inr fun e => by have:=h k hv; have:=hn.lt k e.symm; omega
theorem FT.alloc {g : Nat} {V x : World} (h : FT g V x) (o : Obj) : FT g V (x.alloc o):=h.step (FK.alloc g _ _)
theorem FT.call {g : Nat} {V x y : World} (h : FT g V x) (hg : x.grownBy y (some g)) (hf : Fd g y) : FT g V y:=⟨grown_trans h.1 hg,hf⟩
theorem FT.set_ {g b : Nat} {V x : World} (h : FT g V x) (hb : V.heap.size ≤ b) (hg : g ≠ b) (o : Nat) (u : Value) : FT g V (x.setCell ⟨b,o,none⟩ u):=⟨grown_new h.1 hb u,h.2.far hg u⟩
theorem FT.size {g : Nat} {V x : World} (h : FT g V x) : V.heap.size ≤ x.heap.size:=h.1.size
theorem either2_pair (g : Nat) (a b c d : Int) (P : Int → Int → Prop) (w : World) (h : Fd g w) (h1 : P a b) (h2 : P c d) : Calls Try.prog 55 #[.pointer (some ⟨g,0,none⟩),.agg #[.int .i64 a,.int .i64 b],.agg #[.int .i64 c,.int .i64 d]] w fun e w' => (∃ x y : Int,e = .returned (.agg #[.int .i64 x,.int .i64 y]) ∧ P x y) ∧ Fd g w' ∧ w.grownBy w' (some g):=by
 refine (either2_any g a b c d w h).mono ?_
 rintro e w1 ⟨he | he,r⟩
 ·exact ⟨⟨a,b,he,h1⟩,r⟩
 ·exact ⟨⟨c,d,he,h2⟩,r⟩
/-- Between two rounds of LogOf's loop. -/
structure LInv (g : Nat) (m ld : Int) (ones : Bool) (z0 z1 : Int) (w : World) (bL bF : Nat) (st z i : Int) (ts : List (Ev × Int × Int)) (ev zv nv : Value) (wr : World) : Prop where
 i0 : 0 ≤ i
 im : (ts.length : Int) + i ≤ m
 s1 : 1 ≤ st
 s2 : st ≤ 20
 s3 : ones = true → st = 1
 md : Made st z0 z1 ld ts z
 kL : Bx wr bL 26 #[.int .i64 st,.int .i64 z0,.int .i64 z1,ev]
 kF : Bx wr bF 32 #[zv,nv]
 oe : wr.ownsRow w.heap.size 28 5 ev ts.length ((evsOf ts).map Ev.cells).flatten
 oz : wr.ownsRow w.heap.size 3 1 zv ts.length (ints (ts.map (·.2.1))).flatten
 on : wr.ownsRow w.heap.size 3 1 nv ts.length (ints (ts.map (·.2.2))).flatten
 ap : zv.ownBlock = none ∨ zv.ownBlock ≠ nv.ownBlock
 k8 : Bx wr w.heap.size 26 #[.int .i64 0,.int .i64 0,.int .i64 0,.slice none 0 0]
 k9 : Bx wr (w.heap.size + 1) 32 #[.slice none 0 0,.slice none 0 0]
 fd : Fd g wr
 gr : w.grownBy wr (some g)
theorem LInv.ft {g : Nat} {m ld : Int} {ones : Bool} {z0 z1 : Int} {w : World} {bL bF : Nat} {st z i : Int} {ts : List (Ev × Int × Int)} {ev zv nv : Value} {wr x : World} (I : LInv g m ld ones z0 z1 w bL bF st z i ts ev zv nv wr) (h : FT g wr x) (hg : g < w.heap.size) (hL : w.heap.size ≤ bL) (hF : w.heap.size ≤ bF) : LInv g m ld ones z0 z1 w bL bF st z i ts ev zv nv x:=by
 have ne : ∀ {v : Value} {e s n : Nat} {xs : List Value},wr.ownsRow w.heap.size e s v n xs → v.ownBlock = none ∨ v.ownBlock ≠ some g:=fun {v e s n xs} ho => .inr fun hk => by have:=ho.lt g hk; omega
 exact ⟨I.i0,I.im,I.s1,I.s2,I.s3,I.md,h.bx I.kL (by omega),h.bx I.kF (by omega),I.oe.kept h.1 (ne I.oe),I.oz.kept h.1 (ne I.oz),I.on.kept h.1 (ne I.on),I.ap,h.bx I.k8 (by omega),h.bx I.k9 (by omega),h.2,grown_trans I.gr h.1⟩
set_option maxRecDepth 100000 in
set_option maxHeartbeats 8000000 in
theorem logOf_any (g : Nat) (m ld : Int) (ones : Bool) (w : World) (h : Fd g w) (hm0 : 0 ≤ m) (hm : m ≤ 14) (hl0 : 0 ≤ ld) (hl : ld ≤ 50000) :
  Calls Try.prog 15 #[.pointer (some ⟨g,0,none⟩),.int .i64 m,.int .i64 ld,.bool ones] w (LogPost g m ld ones w):=by
 have hgl:=h.lt
 have HF:=Lib.hid ((h.alloc (.cells #[.int .i64 0,.int .i64 0,.int .i64 0,.slice none 0 0] 26)).alloc (.cells #[.slice none 0 0,.slice none 0 0] 32))
 have HG:=Lib.hid (grown_alloc (grown_alloc (grown_refl w (some g)) (.cells #[.int .i64 0,.int .i64 0,.int .i64 0,.slice none 0 0] 26)) (.cells #[.slice none 0 0,.slice none 0 0] 32))
 have H8:=Lib.hid ((Bx.new w 26 #[.int .i64 0,.int .i64 0,.int .i64 0,.slice none 0 0]).alloc (.cells #[.slice none 0 0,.slice none 0 0] 32))
 have H9:=Lib.hid (Bx.at (w.alloc (.cells #[.int .i64 0,.int .i64 0,.int .i64 0,.slice none 0 0] 26)) 32 #[.slice none 0 0,.slice none 0 0] (n:=w.heap.size + 1) (by simp))
 cases ones
 ·skip
  go_enter Try.func15,Try.ntmps15
  go_wp2_with (first
   | (go_at_call 49; refine (between_any g 1 20 _ HF.out (by omega) (by omega) (by omega) (by omega)).mono ?_; rintro e w1 ⟨⟨s0,rfl,s01,s02⟩,hfd,hg1⟩; have gr:=grown_trans HG.out hg1; have k8:=H8.out.grown hg1 (by simp; omega); have k9:=H9.out.grown hg1 (by simp; omega); clear hg1)
   | (go_at_call 40; first | (have _t:=stB; clear _t; refine (either_any g _ 2 _ (fun r => 3 ≤ r ∧ r ≤ 9) _ (hfd.alloc _) (Bx.new _ _ _) (by have:=hfd.lt; omega) (by omega) (by omega) (bx2 _ ⟨by omega,by omega⟩ ⟨by omega,by omega⟩)).mono ?_; rintro e w1 ⟨⟨zb,rfl,zb1,zb2⟩,hfd1,hg1⟩; replace gr:=grown_trans (grown_alloc gr _) hg1; replace k8:=(k8.alloc _).grown hg1 (by simp; omega); replace k9:=(k9.alloc _).grown hg1 (by simp; omega); clear hg1 hfd; have hfd:=hfd1; clear hfd1; have stC:=True.intro) | (have _t:=stA; clear _t; refine (either_any g _ 2 _ (fun r => 2 ≤ r ∧ r ≤ 9) _ (hfd.alloc _) (Bx.new _ _ _) (by have:=hfd.lt; omega) (by omega) (by omega) (bx2 _ ⟨by omega,by omega⟩ ⟨by omega,by omega⟩)).mono ?_; rintro e w1 ⟨⟨za,rfl,za1,za2⟩,hfd1,hg1⟩; replace gr:=grown_trans (grown_alloc gr _) hg1; replace k8:=(k8.alloc _).grown hg1 (by simp; omega); replace k9:=(k9.alloc _).grown hg1 (by simp; omega); clear hg1 hfd; have hfd:=hfd1; clear hfd1; have stB:=True.intro) | (refine (either_any g _ 5 _ (fun r => 1 ≤ r ∧ r ≤ 20) _ (hfd.alloc _) (Bx.new _ _ _) (by have:=hfd.lt; omega) (by omega) (by omega) (bx5 _ ⟨by omega,by omega⟩ ⟨by omega,by omega⟩ ⟨by omega,by omega⟩ ⟨by omega,by omega⟩ ⟨by omega,by omega⟩)).mono ?_; rintro e w1 ⟨⟨st,rfl,st1,st2⟩,hfd1,hg1⟩; replace gr:=grown_trans (grown_alloc gr _) hg1; replace k8:=(k8.alloc _).grown hg1 (by simp; omega); replace k9:=(k9.alloc _).grown hg1 (by simp; omega); clear hg1 hfd; have hfd:=hfd1; clear hfd1; have stA:=True.intro))
   | (go_at_call 27; refine (range_any g _ _ _ hfd (by omega) (by omega) (by omega)).mono ?_; rintro e w2 ⟨⟨z0,z1,rfl,zr1,zr2,zr3⟩,hfd2,hg2⟩; replace gr:=grown_trans gr hg2; replace k8:=k8.grown hg2 (by simp; omega); replace k9:=k9.grown hg2 (by simp; omega); clear hg2 hfd; have hfd:=hfd2; clear hfd2; have kL:=Bx.new w2 26 #[.int .i64 st,.int .i64 z0,.int .i64 z1,.slice none 0 0]; obtain ⟨l0,l1,l2,l3,lf,lz⟩:=kL.four)
   | fail)
  refine (in_any g z0 z1 _ ((hfd.alloc _).alloc _) (by omega) (by omega) (by omega)).mono ?_
  rintro e w3 ⟨⟨z,rfl,zz1,zz2⟩,hfd3,hg3⟩
  have hw2:=k9.lt
  replace gr:=grown_trans (grown_alloc (grown_alloc gr (.cells #[.int .i64 st,.int .i64 z0,.int .i64 z1,.slice none 0 0] 26)) (.cells #[.slice none 0 0,.slice none 0 0] 32)) hg3
  replace k8:=((k8.alloc (.cells #[.int .i64 st,.int .i64 z0,.int .i64 z1,.slice none 0 0] 26)).alloc (.cells #[.slice none 0 0,.slice none 0 0] 32)).grown hg3 (by simp; omega)
  replace k9:=((k9.alloc (.cells #[.int .i64 st,.int .i64 z0,.int .i64 z1,.slice none 0 0] 26)).alloc (.cells #[.slice none 0 0,.slice none 0 0] 32)).grown hg3 (by simp; omega)
  have hgl2:=hfd.lt
  have kL:=((Bx.new w2 26 #[.int .i64 st,.int .i64 z0,.int .i64 z1,.slice none 0 0]).alloc (.cells #[.slice none 0 0,.slice none 0 0] 32)).grown hg3 (by simp; omega)
  have kF:=(Bx.at (w2.alloc (.cells #[.int .i64 st,.int .i64 z0,.int .i64 z1,.slice none 0 0] 26)) 32 #[.slice none 0 0,.slice none 0 0] (n:=w2.heap.size + 1) (by simp)).grown hg3 (by simp; omega)
  clear hg3 hfd
  go_wp2_with (go_at_call 47; refine (below_any g _ _ hfd3 (by omega) (by omega)).mono ?_; rintro e w4 ⟨⟨i0,rfl,i01,i02⟩,hfd4,hg4⟩; replace gr:=grown_trans gr hg4; replace k8:=k8.grown hg4 (by simp; omega); replace k9:=k9.grown hg4 (by simp; omega); replace kL:=kL.grown hg4 (by simp; omega); replace kF:=kF.grown hg4 (by simp; omega); clear hg4 hfd3)
  have hbL : w.heap.size + 1 < w2.heap.size:=hw2
  have hbg : g < w.heap.size:=hgl
  go_loopw [12,13] (fun vz vi wr => ∃ (st z i : Int) (ts : List (Ev × Int × Int)) (ev zv nv : Value),vi = .int .i64 i ∧ vz = .int .i64 z ∧ LInv g m ld false z0 z1 w w2.heap.size (w2.heap.size + 1) st z i ts ev zv nv wr) (fun _ i _ => (intOf i).toNat)
  case atStart => exact ⟨st,z,i0,[],.slice none 0 0,.slice none 0 0,.slice none 0 0,rfl,rfl,⟨i01,by simp; omega,by omega,by omega,by simp,.nil z zz1 zz2,kL,kF,World.ownsRow_nil _ _ _ _,World.ownsRow_nil _ _ _ _,World.ownsRow_nil _ _ _ _,.inl rfl,k8,k9,hfd4,gr⟩⟩
  case round =>
   clear kL kF k8 k9 gr hfd4 zz1 zz2 i01 i02
   obtain ⟨st,z,i,ts,ev,zv,nv,rfl,rfl,I⟩:=hrel
   have hidI:=Lib.hid I
   have i0':=I.i0
   have hzb:=I.md.bd (by omega) (by omega)
   have him:=I.im
   have hs1:=I.s1
   have hs2:=I.s2
   by_cases hi : 0 < i
   ·have ht : FT g wr wr:=⟨grown_refl _ _,I.fd⟩
    clear I
    go_wp2_with fail
    refine (either_any g _ 5 _ (fun r => r = 1 ∨ r = 2 ∨ r = 3) _ (ht.alloc _).2 (Bx.new _ _ _) (by have:=ht.2.lt; omega) (by omega) (by omega) (bx5 _ (by omega) (by omega) (by omega) (by omega) (by omega))).mono ?_
    rintro e v1 ⟨⟨kd,rfl,hkd⟩,hf,hg⟩
    replace ht:=(ht.alloc _).call hg hf
    clear hg hf
    rcases hkd with rfl | rfl | rfl
    ·go_wp2_with (first
     | (go_at_call 40; first | (have _t:=sA; clear _t; refine (either_any g _ 2 _ (fun r => 1 ≤ r ∧ r ≤ 4) _ (ht.alloc _).2 (Bx.new _ _ _) (by have:=ht.2.lt; omega) (by omega) (by omega) (bx2 _ ⟨by omega,by omega⟩ ⟨by omega,by omega⟩)).mono ?_; rintro e v1 ⟨⟨cb,rfl,cb1,cb2⟩,hf,hg⟩; replace ht:=(ht.alloc _).call hg hf; clear hg hf; have sB:=True.intro) | (refine (either_any g _ 2 _ (fun r => 0 ≤ r ∧ r ≤ 3) _ (ht.alloc _).2 (Bx.new _ _ _) (by have:=ht.2.lt; omega) (by omega) (by omega) (bx2 _ ⟨by omega,by omega⟩ ⟨by omega,by omega⟩)).mono ?_; rintro e v1 ⟨⟨ca,rfl,ca1,ca2⟩,hf,hg⟩; replace ht:=(ht.alloc _).call hg hf; clear hg hf; have sA:=True.intro))
     | (go_at_call 27; refine (range_any g _ _ _ ht.2 (by omega) (by omega) (by omega)).mono ?_; rintro e v2 ⟨⟨x0,x1,rfl,xr1,xr2,xr3⟩,hf,hg⟩; replace ht:=ht.call hg hf; clear hg hf)
     | (go_at_call 55; refine (either2_pair g _ _ _ _ (fun p q => -3 ≤ p ∧ p ≤ q ∧ q ≤ 4) _ ht.2 ⟨by omega,by omega,by omega⟩ ⟨by omega,by omega,by omega⟩).mono ?_; rintro e v3 ⟨⟨c0,c1,rfl,cr1,cr2,cr3⟩,hf,hg⟩; replace ht:=ht.call hg hf; clear hg hf; have hv3:=ht.size; have hv3g:=ht.2.lt)
     | (go_at_call 42; have k14:=Bx.new v3 28 #[.int .i64 1,.int .i64 0,.int .i64 0,.int .i64 c0,.int .i64 c1]; refine (in_any g c0 c1 _ (ht.alloc _).2 (by omega) (by omega) (by omega)).mono ?_; rintro e v4 ⟨⟨d,rfl,d1,d2⟩,hf,hg⟩; replace k14:=k14.grown hg (by simp; omega); replace ht:=(ht.alloc _).call hg hf; clear hg hf; obtain ⟨e0,e1,e2,e3,e4,ef,ez⟩:=k14.five; have J:=hidI.out.ft ht hbg (by omega) (by omega); obtain ⟨l0,l1,l2,l3,lf,lz⟩:=J.kL.four)
     | (go_at_call 47; refine (below_any g _ _ ht.2 (by omega) (by omega)).mono ?_; rintro e v5 ⟨⟨n,rfl,n1,n2⟩,hf,hg⟩; replace k14:=k14.grown hg (by simp; omega); replace ht:=ht.call hg hf; clear hg hf e0 e1 e2 e3 e4 ef ez l0 l1 l2 l3 lf lz J; obtain ⟨e0,e1,e2,e3,e4,ef,ez⟩:=k14.five; have J:=hidI.out.ft ht hbg (by omega) (by omega); obtain ⟨l0,l1,l2,l3,lf,lz⟩:=J.kL.four)
     | (go_at_call 56; refine (shows_any _ _ _ _ (by omega) (by omega) (by omega) (by omega) (by omega) (by omega)).mono ?_; rintro e v6 ⟨rfl,rfl⟩)
     | fail)
     replace ht:=ht.set_ hv3 (by omega) 1 (.int .i64 (shows st 0 (z + d)))
     replace k14:=k14.set_ 1 (.int .i64 (shows st 0 (z + d)))
     have KE : Bx (World.setCell v4 ⟨v3.heap.size,1,none⟩ (.int .i64 (shows st 0 (z + d)))) v3.heap.size 28 #[.int .i64 1,.int .i64 (shows st 0 (z + d)),.int .i64 0,.int .i64 c0,.int .i64 c1]:=by simpa using k14
     have htU:=ht
     obtain ⟨U,hU⟩ : ∃ U,(World.setCell v4 ⟨v3.heap.size,1,none⟩ (.int .i64 (shows st 0 (z + d)))) = U:=⟨_,rfl⟩
     rw [hU] at htU KE ⊢
     clear hU ht J k14 e0 e1 e2 e3 e4 ef ez l0 l1 l2 l3 lf lz
     have J:=hidI.out.ft htU hbg (by omega) (by omega)
     obtain ⟨kk,hkk⟩ : ∃ k,ts.length = k:=⟨_,rfl⟩
     have JE:=J.oe
     have JZ:=J.oz
     have JN:=J.on
     have JA:=J.ap
     have JL:=J.kL
     have JF:=J.kF
     have hneE : some v3.heap.size ≠ ev.ownBlock:=fun e => (by have:=hidI.out.oe.lt _ e.symm; omega)
     rw [hkk] at JE JZ JN
     obtain ⟨X1,hX1⟩ : ∃ X,((evsOf ts).map Ev.cells).flatten = X:=⟨_,rfl⟩
     obtain ⟨X2,hX2⟩ : ∃ X,(ints (ts.map (·.2.1))).flatten = X:=⟨_,rfl⟩
     obtain ⟨X3,hX3⟩ : ∃ X,(ints (ts.map (·.2.2))).flatten = X:=⟨_,rfl⟩
     rw [hX1] at JE
     rw [hX2] at JZ
     rw [hX3] at JN
     have HX:=Lib.hid (And.intro hX1 (And.intro hX2 hX3))
     have HKK:=Lib.hid hkk
     have hkm : kk ≤ 14:=by omega
     clear hX1 hX2 hX3 hkk
     have hwU : w.heap.size ≤ U.heap.size:=J.gr.size
     have HJ:=Lib.hid J
     clear J
     obtain ⟨i28,hi28,hz28,hs28,iy28⟩:=info_parts info28
     obtain ⟨i3,hi3,hz3,hs3,iy3⟩:=info_parts info3'
     refine AnyG.start (AT w.heap.size U 28 5 ev kk X1 zv kk X2 nv kk X3) (fun i => i != 16 && i != 17 && i != 18 && i != 19 && i != 20) (by kernel_rfl) ?_
     have hS : (AT w.heap.size U 28 5 ev kk X1 zv kk X2 nv kk X3) (World.drew _):=AT.start JE JZ JN
     refine AnyG.take (i:=0) (v:=?_) rfl (by kernel_rfl) (fun _ _ _ h => h) rfl ?_ hS ?_
     rotate_left
     ·(intro w' _; go_simp; try with_reducible rfl)
     try simp only [Act.put,Sp1,Sp2,Sp3,Sp4,Sp5,Sp6]
     refine AnyG.take (i:=1) (v:=?_) rfl (by kernel_rfl) (fun _ _ _ h => h) rfl ?_ hS ?_
     rotate_left
     ·(intro w' hSw; (try dsimp only at hSw); obtain ⟨l0,l1,l2,l3,lf,lz⟩:=(hSw.bx JE JZ JN JL (by decide) (by decide)).four; go_simp; try with_reducible rfl)
     try simp only [Act.put,Sp1,Sp2,Sp3,Sp4,Sp5,Sp6]
     refine AnyG.take (i:=2) (v:=?_) rfl (by kernel_rfl) (fun _ _ _ h => h) rfl ?_ hS ?_
     rotate_left
     ·(intro w' hSw; (try dsimp only at hSw); obtain ⟨e0,e1,e2,e3,e4,ef,ez⟩:=Bx.five (show Bx w' v3.heap.size 28 #[.int .i64 1,.int .i64 (shows st 0 (z + d)),.int .i64 0,.int .i64 c0,.int .i64 c1] from (hSw.block _ KE.lt hneE (own_bx JZ KE (by decide)) (own_bx JN KE (by decide))).trans KE); go_simp; try with_reducible rfl)
     try simp only [Act.put,Sp1,Sp2,Sp3,Sp4,Sp5,Sp6]
     refine AnyG.take (i:=10) (v:=?_) rfl (by kernel_rfl) (fun _ _ _ h => h) rfl ?_ hS ?_
     rotate_left
     ·(intro w' _; go_simp; try with_reducible rfl)
     try simp only [Act.put,Sp1,Sp2,Sp3,Sp4,Sp5,Sp6]
     refine AnyG.take (i:=11) (v:=?_) rfl (by kernel_rfl) (fun _ _ _ h => h) rfl ?_ hS ?_
     rotate_left
     ·(intro w' hSw; (try dsimp only at hSw); obtain ⟨f0,f1,ff,fz⟩:=(hSw.bx JE JZ JN JF (by decide) (by decide)).two; go_simp; try with_reducible rfl)
     try simp only [Act.put,Sp1,Sp2,Sp3,Sp4,Sp5,Sp6]
     refine RegRel.AnyG.rel3 [0,1,2,10,11] [16,17,18,19,20] [[],[],[],[],[3],[],[5],[],[7],[3,4,5,6,7,8],[],[],[],[12],[3,4,5,6,7,8,9,12,13],[3,4],[3,4,5,6,7,8,9,12,13,14,15],[3,4,5,6,7,8,9,12,13,14,15,16],[3,4,5,6,7,8,9,12,13,14,15,16,17],[3,4,5,6,7,8,9,12,13,14,15,16,17,18],[3,4,5,6,7,8,9,12,13,14,15,16,17,18,19]] [(90,3),(91,4),(92,5),(93,6),(94,7),(95,8),(96,9),(99,12),(100,13),(101,14),(102,15),(103,17),(104,19)] (AT w.heap.size U 28 5 ev kk X1 zv kk X2 nv kk X3) (AK 4 9 14 w.heap.size 28 5 ev kk X1 zv kk X2 nv kk X3) [(3,fun vs w1 => ∃ q0,vs 3 = .slice (some ⟨q0,0,none⟩) 1 1 ∧ U.heap.size ≤ q0 ∧ Bx w1 q0 28 #[.int .i64 1,.int .i64 (shows st 0 (z + d)),.int .i64 0,.int .i64 c0,.int .i64 c1]),(4,fun vs w1 => w1.ownsRow w.heap.size 28 5 (vs 4) (kk + 1) (X1 ++ [.int .i64 1,.int .i64 (shows st 0 (z + d)),.int .i64 0,.int .i64 c0,.int .i64 c1]) ∧ ((vs 4).ownBlock = ev.ownBlock ∨ ∀ k,(vs 4).ownBlock = some k → U.heap.size ≤ k)),(5,fun vs w1 => vs 5 = .pointer (some ⟨w2.heap.size + 1,0,none⟩)),(6,fun vs w1 => vs 6 = zv),(7,fun vs w1 => vs 7 = .int .i64 (z + d)),(8,fun vs w1 => ∃ q0,vs 8 = .slice (some ⟨q0,0,none⟩) 1 1 ∧ U.heap.size ≤ q0 ∧ Bx w1 q0 3 #[.int .i64 (z + d)]),(9,fun vs w1 => w1.ownsRow w.heap.size 3 1 (vs 9) (kk + 1) (X2 ++ [.int .i64 (z + d)]) ∧ ((vs 9).ownBlock = zv.ownBlock ∨ ∀ k,(vs 9).ownBlock = some k → U.heap.size ≤ k)),(12,fun vs w1 => vs 12 = .int .i64 0),(13,fun vs w1 => ∃ q0,vs 13 = .slice (some ⟨q0,0,none⟩) 1 1 ∧ U.heap.size ≤ q0 ∧ Bx w1 q0 3 #[.int .i64 0]),(14,fun vs w1 => w1.ownsRow w.heap.size 3 1 (vs 14) (kk + 1) (X3 ++ [.int .i64 0]) ∧ ((vs 9).ownBlock = none ∨ (vs 9).ownBlock ≠ (vs 14).ownBlock)),(15,fun vs w1 => vs 15 = .pointer (some ⟨w2.heap.size,3,none⟩))]
      (by kernel_rfl) (by kernel_rfl) (by kernel_rfl) (by decide) (by decide) hS (fun _ h => h) (fun _ _ _ h k => h.step k) ?hst ?hcg ?hstep ?hfin
     case hst => exact ⟨fun j vs w1 w2 hjd hjz hjp hji h ht hk => (by obtain ⟨q0,g1,g2,g3⟩:=h; exact ⟨q0,g1,g2,hk.fresh JE JZ JN g3 g2⟩),fun j vs w1 w2 hjd hjz hjp hji h ht hk => ⟨h.1.kept hk.gr (by unfold rowAt; rw [if_neg hji]; split; exact own_ne h.1 ht.oz (by decide); split; exact own_ne h.1 ht.on (by decide); cases (vs 4).ownBlock <;> simp),h.2⟩,fun j vs w1 w2 hjd hjz hjp hji h ht hk => h,fun j vs w1 w2 hjd hjz hjp hji h ht hk => h,fun j vs w1 w2 hjd hjz hjp hji h ht hk => h,fun j vs w1 w2 hjd hjz hjp hji h ht hk => (by obtain ⟨q0,g1,g2,g3⟩:=h; exact ⟨q0,g1,g2,hk.fresh JE JZ JN g3 g2⟩),fun j vs w1 w2 hjd hjz hjp hji h ht hk => ⟨h.1.kept hk.gr (by unfold rowAt; rw [if_neg (fun e => hjp (by rw [e]; simp)),if_neg hji]; split; exact own_apart h.2 JA JN; cases (vs 9).ownBlock <;> simp),h.2⟩,fun j vs w1 w2 hjd hjz hjp hji h ht hk => h,fun j vs w1 w2 hjd hjz hjp hji h ht hk => (by obtain ⟨q0,g1,g2,g3⟩:=h; exact ⟨q0,g1,g2,hk.fresh JE JZ JN g3 g2⟩),fun j vs w1 w2 hjd hjz hjp hji h ht hk => ⟨h.1.kept hk.gr (by unfold rowAt; rw [if_neg (fun e => hjp (by rw [e]; simp)),if_neg (fun e => hjp (by rw [e]; simp)),if_neg hji]; cases (vs 14).ownBlock <;> simp),h.2⟩,fun j vs w1 w2 hjd hjz hjp hji h ht hk => h,trivial⟩
     case hcg => exact ⟨fun vs vs2 _ he h => (by dsimp only at h ⊢; rw [he 3 (by simp)]; exact h),fun vs vs2 _ he h => (by dsimp only at h ⊢; rw [he 4 (by simp)]; exact h),fun vs vs2 _ he h => (by dsimp only at h ⊢; rw [he 5 (by simp)]; exact h),fun vs vs2 _ he h => (by dsimp only at h ⊢; rw [he 6 (by simp)]; exact h),fun vs vs2 _ he h => (by dsimp only at h ⊢; rw [he 7 (by simp)]; exact h),fun vs vs2 _ he h => (by dsimp only at h ⊢; rw [he 8 (by simp)]; exact h),fun vs vs2 _ he h => (by dsimp only at h ⊢; rw [he 9 (by simp)]; exact h),fun vs vs2 _ he h => (by dsimp only at h ⊢; rw [he 12 (by simp)]; exact h),fun vs vs2 _ he h => (by dsimp only at h ⊢; rw [he 13 (by simp)]; exact h),fun vs vs2 _ he h => (by dsimp only at h ⊢; rw [he 9 (by simp),he 14 (by simp)]; exact h),fun vs vs2 _ he h => (by dsimp only at h ⊢; rw [he 15 (by simp)]; exact h),trivial⟩
     case hstep =>
      refine ⟨?_,?_,?_,?_,?_,?_,?_,?_,?_,?_,?_,trivial⟩
      ·rintro vs v1 - hT
       refine ⟨_,_,rfl,rfl,?_⟩
       clear hS
       simp only [RegRel.fillT,List.foldl_cons,List.foldl_nil,Sp4,Sp5,Sp6]
       go_simp
       first | exact ⟨⟨_,rfl,hT.size,Bx.new _ _ _⟩,(AK.quiet (grown_alloc (grown_refl _ _) _) 4 9 14 w.heap.size 28 5 ev kk X1 zv kk X2 nv kk X3 _),rfl⟩ | exact ⟨⟨_,rfl,hT.size,Bx.new _ _ _⟩,(AK.quiet (grown_alloc (grown_refl _ _) _) 4 9 14 w.heap.size 28 5 ev kk X1 zv kk X2 nv kk X3 _)⟩ | trace_state
      ·rintro vs v1 ⟨⟨q3,h3,hq3,hb3⟩,-⟩ hT
       refine ⟨_,_,rfl,rfl,?_⟩
       clear hS
       try dsimp only at h3
       simp only [RegRel.fillT,List.foldl_cons,List.foldl_nil,Sp4,Sp5,Sp6]
       try simp only [h3]
       try clear h3
       have hw1 : w.heap.size ≤ v1.heap.size:=Nat.le_trans hwU hT.size
       refine wp_app2 (.tmp 88) (.tmp 90) 24 rfl w.heap.size 28 i28 _ 5 40 Try.underlying24 hi28 hz28 hs28 iy28 rfl (by decide) ev kk X1 (by simp [Act.eval]) hT.oe ⟨q3,0,none⟩ 1 1 [.int .i64 1,.int .i64 (shows st 0 (z + d)),.int .i64 0,.int .i64 c0,.int .i64 c1] (by simp [Act.eval]) rfl (bx_news hb3) (by simp [Value.oneCell']) (by unfold maxLen; omega) (by omega) hw1 ?_
       intro v' w' o1 o2 o3 o4
       have hv1:=hT.size
       refine ⟨?_,⟨by simpa [rowAt] using o2,fun _ => o3,fun h => h.kept o2 (own_ne h hT.oe (by decide)),fun h => h.kept o2 (own_ne h hT.oe (by decide))⟩,rfl⟩
       simp only [RegRel.upd,if_true,Act.put,Sp1,Sp2,Sp3,Sp4,Sp5,Sp6,Array.getD_eq_getD_getElem?,List.getElem?_toArray,List.getElem?_cons_succ,List.getElem?_cons_zero,Option.getD_some]
       exact ⟨o1,o4.imp id fun h k hk => Nat.le_trans hv1 (h k hk)⟩
      ·rintro vs v1 - hT
       refine ⟨_,_,rfl,rfl,?_⟩
       clear hS
       simp only [RegRel.fillT,List.foldl_cons,List.foldl_nil,Sp4,Sp5,Sp6]
       go_simp
       first | exact ⟨rfl,(AK.quiet (grown_refl _ _) 4 9 14 w.heap.size 28 5 ev kk X1 zv kk X2 nv kk X3 _),rfl⟩ | exact ⟨rfl,(AK.quiet (grown_refl _ _) 4 9 14 w.heap.size 28 5 ev kk X1 zv kk X2 nv kk X3 _)⟩ | trace_state
      ·rintro vs v1 ⟨h5,-⟩ hT
       refine ⟨_,_,rfl,rfl,?_⟩
       clear hS
       try dsimp only at h5
       simp only [RegRel.fillT,List.foldl_cons,List.foldl_nil,Sp4,Sp5,Sp6]
       try simp only [h5]
       try clear h5
       obtain ⟨f0,f1,ff,fz⟩:=(hT.bx JE JZ JN JF (by decide) (by decide)).two
       go_simp
       first | exact ⟨rfl,(AK.quiet (grown_refl _ _) 4 9 14 w.heap.size 28 5 ev kk X1 zv kk X2 nv kk X3 _),rfl⟩ | exact ⟨rfl,(AK.quiet (grown_refl _ _) 4 9 14 w.heap.size 28 5 ev kk X1 zv kk X2 nv kk X3 _)⟩ | trace_state
      ·rintro vs v1 - hT
       refine ⟨_,_,rfl,rfl,?_⟩
       clear hS
       simp only [RegRel.fillT,List.foldl_cons,List.foldl_nil,Sp4,Sp5,Sp6]
       go_simp
       first | exact ⟨rfl,(AK.quiet (grown_refl _ _) 4 9 14 w.heap.size 28 5 ev kk X1 zv kk X2 nv kk X3 _),rfl⟩ | exact ⟨rfl,(AK.quiet (grown_refl _ _) 4 9 14 w.heap.size 28 5 ev kk X1 zv kk X2 nv kk X3 _)⟩ | trace_state
      ·rintro vs v1 ⟨h7,-⟩ hT
       refine ⟨_,_,rfl,rfl,?_⟩
       clear hS
       try dsimp only at h7
       simp only [RegRel.fillT,List.foldl_cons,List.foldl_nil,Sp4,Sp5,Sp6]
       try simp only [h7]
       try clear h7
       go_simp
       first | exact ⟨⟨_,rfl,hT.size,Bx.new _ _ _⟩,(AK.quiet (grown_alloc (grown_refl _ _) _) 4 9 14 w.heap.size 28 5 ev kk X1 zv kk X2 nv kk X3 _),rfl⟩ | exact ⟨⟨_,rfl,hT.size,Bx.new _ _ _⟩,(AK.quiet (grown_alloc (grown_refl _ _) _) 4 9 14 w.heap.size 28 5 ev kk X1 zv kk X2 nv kk X3 _)⟩ | trace_state
      ·rintro vs v1 ⟨⟨q3,h3,hq3,hb3⟩,⟨h4,ha4⟩,h5,h6,h7,⟨q8,h8,hq8,hb8⟩,-⟩ hT
       refine ⟨_,_,rfl,rfl,?_⟩
       clear hS
       try dsimp only at h3 h4 h5 h6 h7 h8
       simp only [RegRel.fillT,List.foldl_cons,List.foldl_nil,Sp4,Sp5,Sp6]
       try simp only [h3,h4,h5,h6,h7,h8]
       try clear h3 h4 h5 h6 h7 h8
       have hw1 : w.heap.size ≤ v1.heap.size:=Nat.le_trans hwU hT.size
       refine wp_app2 (.tmp 93) (.tmp 95) 29 rfl w.heap.size 3 i3 _ 1 8 Try.underlying29 hi3 hz3 hs3 iy3 rfl (by decide) zv kk X2 (by simp [Act.eval]) hT.oz ⟨q8,0,none⟩ 1 1 [.int .i64 (z + d)] (by simp [Act.eval]) rfl (bx_news hb8) (by simp [Value.oneCell']) (by unfold maxLen; omega) (by omega) hw1 ?_
       intro v' w' o1 o2 o3 o4
       have hv1:=hT.size
       refine ⟨?_,⟨by simpa [rowAt] using o2,fun h => h.kept o2 (own_ne h hT.oz (by decide)),fun _ => o3,fun h => h.kept o2 (apart_symm JA)⟩,rfl⟩
       simp only [RegRel.upd,if_true,Act.put,Sp1,Sp2,Sp3,Sp4,Sp5,Sp6,Array.getD_eq_getD_getElem?,List.getElem?_toArray,List.getElem?_cons_succ,List.getElem?_cons_zero,Option.getD_some]
       exact ⟨o1,o4.imp id fun h k hk => Nat.le_trans hv1 (h k hk)⟩
      ·rintro vs v1 - hT
       refine ⟨_,_,rfl,rfl,?_⟩
       clear hS
       simp only [RegRel.fillT,List.foldl_cons,List.foldl_nil,Sp4,Sp5,Sp6]
       go_simp
       first | exact ⟨rfl,(AK.quiet (grown_refl _ _) 4 9 14 w.heap.size 28 5 ev kk X1 zv kk X2 nv kk X3 _),rfl⟩ | exact ⟨rfl,(AK.quiet (grown_refl _ _) 4 9 14 w.heap.size 28 5 ev kk X1 zv kk X2 nv kk X3 _)⟩ | trace_state
      ·rintro vs v1 ⟨h12,-⟩ hT
       refine ⟨_,_,rfl,rfl,?_⟩
       clear hS
       try dsimp only at h12
       simp only [RegRel.fillT,List.foldl_cons,List.foldl_nil,Sp4,Sp5,Sp6]
       try simp only [h12]
       try clear h12
       go_simp
       first | exact ⟨⟨_,rfl,hT.size,Bx.new _ _ _⟩,(AK.quiet (grown_alloc (grown_refl _ _) _) 4 9 14 w.heap.size 28 5 ev kk X1 zv kk X2 nv kk X3 _),rfl⟩ | exact ⟨⟨_,rfl,hT.size,Bx.new _ _ _⟩,(AK.quiet (grown_alloc (grown_refl _ _) _) 4 9 14 w.heap.size 28 5 ev kk X1 zv kk X2 nv kk X3 _)⟩ | trace_state
      ·rintro vs v1 ⟨⟨q3,h3,hq3,hb3⟩,⟨h4,ha4⟩,h5,h6,h7,⟨q8,h8,hq8,hb8⟩,⟨h9,ha9⟩,h12,⟨q13,h13,hq13,hb13⟩,-⟩ hT
       refine ⟨_,_,rfl,rfl,?_⟩
       clear hS
       try dsimp only at h3 h4 h5 h6 h7 h8 h9 h12 h13
       simp only [RegRel.fillT,List.foldl_cons,List.foldl_nil,Sp4,Sp5,Sp6]
       simp only [h13]
       have hw1 : w.heap.size ≤ v1.heap.size:=Nat.le_trans hwU hT.size
       refine wp_app2 (.tmp 98) (.tmp 100) 29 rfl w.heap.size 3 i3 _ 1 8 Try.underlying29 hi3 hz3 hs3 iy3 rfl (by decide) nv kk X3 (by simp [Act.eval]) hT.on ⟨q13,0,none⟩ 1 1 [.int .i64 0] (by simp [Act.eval]) rfl (bx_news hb13) (by simp [Value.oneCell']) (by unfold maxLen; omega) (by omega) hw1 ?_
       intro v' w' o1 o2 o3 o4
       have hv1:=hT.size
       refine ⟨?_,⟨by simpa [rowAt] using o2,fun h => h.kept o2 (own_ne h hT.on (by decide)),fun h => h.kept o2 JA,fun _ => o3⟩,rfl⟩
       simp only [RegRel.upd,if_true,Act.put,Sp1,Sp2,Sp3,Sp4,Sp5,Sp6,Array.getD_eq_getD_getElem?,List.getElem?_toArray,List.getElem?_cons_succ,List.getElem?_cons_zero,Option.getD_some]
       refine ⟨o1,?_⟩
       rw [if_neg (by decide)]
       rcases o4 with o4 | o4
       ·rw [o4]; exact own_apart ha9 JA JN
       ·cases hv9 : (vs 9).ownBlock with
        | none => exact .inl rfl
        | some k => exact .inr fun e => by have:=o4 k e.symm; have:=h9.lt k hv9; omega
      ·rintro vs v1 ⟨⟨q3,h3,hq3,hb3⟩,⟨h4,ha4⟩,-⟩ hT
       refine ⟨_,_,rfl,rfl,?_⟩
       clear hS
       try dsimp only at h3 h4
       simp only [RegRel.fillT,List.foldl_cons,List.foldl_nil,Sp4,Sp5,Sp6]
       try simp only [h3,h4]
       try clear h3 h4
       go_simp
       first | exact ⟨rfl,(AK.quiet (grown_refl _ _) 4 9 14 w.heap.size 28 5 ev kk X1 zv kk X2 nv kk X3 _),rfl⟩ | exact ⟨rfl,(AK.quiet (grown_refl _ _) 4 9 14 w.heap.size 28 5 ev kk X1 zv kk X2 nv kk X3 _)⟩ | trace_state
     case hfin =>
      rintro vs v1 ⟨⟨q3,h3,hq3,hb3⟩,⟨h4,ha4⟩,h5,h6,h7,⟨q8,h8,hq8,hb8⟩,⟨h9,ha9⟩,h12,⟨q13,h13,hq13,hb13⟩,⟨h14,ha14⟩,h15,-⟩ hT
      clear hS
      try dsimp only at h3 h4 h5 h6 h7 h8 h9 h12 h13 h14 h15
      simp only [List.filter_cons,List.contains_cons,List.contains_nil,Nat.reduceBEq,Bool.or_false,Bool.not_false,if_true,List.filter_nil]
      simp only [RegRel.fillT,List.foldl_cons,List.foldl_nil,Sp4,Sp5,Sp6]
      simp only [h3,h5,h6,h7,h8,h12,h13,h15]
      clear h3 h5 h6 h7 h8 h12 h13 h15 hb3 hb8 hb13 hq3 hq8 hq13
      generalize vs 4 = ev2 at *
      generalize vs 9 = zv2 at *
      generalize vs 14 = nv2 at *
      obtain ⟨A4,C4,rfl⟩:=own_shape h4
      obtain ⟨A9,C9,rfl⟩:=own_shape h9
      obtain ⟨A14,C14,rfl⟩:=own_shape h14
      have BL:=hT.bx JE JZ JN JL (by decide) (by decide)
      have BF:=hT.bx JE JZ JN JF (by decide) (by decide)
      have B8:=hT.bx JE JZ JN HJ.out.k8 (by decide) (by decide)
      have B9:=hT.bx JE JZ JN HJ.out.k9 (by decide) (by decide)
      have FD : Fd g v1:=by obtain ⟨x,x1,x2,x3⟩:=HJ.out.fd; exact ⟨x,x1,x2,hT.bx JE JZ JN x3 (by decide) (by decide)⟩
      have GR:=hT.gr HJ.out.gr JE JZ JN
      have Hs3:=Lib.hid HJ.out.s3
      have Hmd:=HJ.out.md
      obtain ⟨l0,l1,l2,l3,lf,lz⟩:=BL.four
      obtain ⟨f0,f1,ff,fz⟩:=BF.two
      refine RegRel.wpOps_go rfl rfl ?_
      go_simp
      refine RegRel.wpOps_go rfl rfl ?_
      go_simp
      refine RegRel.wpOps_go rfl rfl ?_
      go_simp
      refine RegRel.wpOps_go rfl rfl ?_
      go_simp
      refine RegRel.wpOps_go rfl rfl ?_
      go_simp
      refine RegRel.wpOps_end ?_
      go_simp
      go_wp2_with fail
      have nL4:=own_bx h4 BL (by decide)
      have nF4:=own_bx h4 BF (by decide)
      have nL9:=own_bx h9 BL (by decide)
      have nF9:=own_bx h9 BF (by decide)
      have nL14:=own_bx h14 BL (by decide)
      have nF14:=own_bx h14 BF (by decide)
      have hgw:=hbg
      go_roundw
      case rel =>
       refine ⟨st,z + d,i - 1,ts ++ [(⟨1,shows st 0 (z + d),0,c0,c1⟩,z + d,0)],.slice A4 (kk + 1) C4,.slice A9 (kk + 1) C9,.slice A14 (kk + 1) C14,by go_num,rfl,⟨by omega,?_,hs1,hs2,Hs3.out,.snoc ts z _ _ _ Hmd ⟨by simp,cr1,cr2,cr3,by omega,by omega,by simp,by simp,rfl⟩ (by dsimp only; omega) (by dsimp only; omega),?_,?_,?_,?_,?_,ha14,?_,?_,?_,?_⟩⟩
       ·rw [List.length_append,List.length_singleton]; push_cast; omega
       ·simpa using ((BL.set_ 3 (.slice A4 (kk + 1) C4)).far (p:=⟨w2.heap.size + 1,0,none⟩) (by simp) (.slice A9 (kk + 1) C9)).far (p:=⟨w2.heap.size + 1,1,none⟩) (by simp) (.slice A14 (kk + 1) C14)
       ·simpa using ((BF.far (p:=⟨w2.heap.size,3,none⟩) (by simp) (.slice A4 (kk + 1) C4)).set_ 0 (.slice A9 (kk + 1) C9)).set_ 1 (.slice A14 (kk + 1) C14)
       ·rw [List.length_append,List.length_singleton,HKK.out,es_snoc,HX.out.1]; exact own_set (own_set (own_set h4 nL4 _) nF4 _) nF4 _
       ·rw [List.length_append,List.length_singleton,HKK.out,zs_snoc,HX.out.2.1]; exact own_set (own_set (own_set h9 nL9 _) nF9 _) nF9 _
       ·rw [List.length_append,List.length_singleton,HKK.out,ns_snoc,HX.out.2.2]; exact own_set (own_set (own_set h14 nL14 _) nF14 _) nF14 _
       ·exact ((B8.far (by simp; omega) _).far (by simp; omega) _).far (by simp; omega) _
       ·exact ((B9.far (by simp; omega) _).far (by simp; omega) _).far (by simp; omega) _
       ·exact ((FD.far (by simp; omega) _).far (by simp; omega) _).far (by simp; omega) _
       ·exact grown_new (grown_new (grown_new GR (by omega) _) (by omega) _) (by omega) _
      case measure => simp [intOf]; omega
    ·go_wp2_with (first
     | (go_at_call 40; first | (have _t:=sA; clear _t; refine (either_any g _ 2 _ (fun r => 1 ≤ r ∧ r ≤ 4) _ (ht.alloc _).2 (Bx.new _ _ _) (by have:=ht.2.lt; omega) (by omega) (by omega) (bx2 _ ⟨by omega,by omega⟩ ⟨by omega,by omega⟩)).mono ?_; rintro e v1 ⟨⟨cb,rfl,cb1,cb2⟩,hf,hg⟩; replace ht:=(ht.alloc _).call hg hf; clear hg hf; have sB:=True.intro) | (refine (either_any g _ 2 _ (fun r => 0 ≤ r ∧ r ≤ 3) _ (ht.alloc _).2 (Bx.new _ _ _) (by have:=ht.2.lt; omega) (by omega) (by omega) (bx2 _ ⟨by omega,by omega⟩ ⟨by omega,by omega⟩)).mono ?_; rintro e v1 ⟨⟨ca,rfl,ca1,ca2⟩,hf,hg⟩; replace ht:=(ht.alloc _).call hg hf; clear hg hf; have sA:=True.intro))
     | (go_at_call 27; refine (range_any g _ _ _ ht.2 (by omega) (by omega) (by omega)).mono ?_; rintro e v2 ⟨⟨x0,x1,rfl,xr1,xr2,xr3⟩,hf,hg⟩; replace ht:=ht.call hg hf; clear hg hf)
     | (go_at_call 55; refine (either2_pair g _ _ _ _ (fun p q => -3 ≤ p ∧ p ≤ q ∧ q ≤ 4) _ ht.2 ⟨by omega,by omega,by omega⟩ ⟨by omega,by omega,by omega⟩).mono ?_; rintro e v3 ⟨⟨c0,c1,rfl,cr1,cr2,cr3⟩,hf,hg⟩; replace ht:=ht.call hg hf; clear hg hf; have hv3:=ht.size; have hv3g:=ht.2.lt)
     | (go_at_call 42; have k14:=Bx.new v3 28 #[.int .i64 2,.int .i64 0,.int .i64 0,.int .i64 c0,.int .i64 c1]; refine (in_any g c0 c1 _ (ht.alloc _).2 (by omega) (by omega) (by omega)).mono ?_; rintro e v4 ⟨⟨d,rfl,d1,d2⟩,hf,hg⟩; replace k14:=k14.grown hg (by simp; omega); replace ht:=(ht.alloc _).call hg hf; clear hg hf; obtain ⟨e0,e1,e2,e3,e4,ef,ez⟩:=k14.five; have J:=hidI.out.ft ht hbg (by omega) (by omega); obtain ⟨l0,l1,l2,l3,lf,lz⟩:=J.kL.four)
     | (go_at_call 47; refine (below_any g _ _ ht.2 (by omega) (by omega)).mono ?_; rintro e v5 ⟨⟨n,rfl,n1,n2⟩,hf,hg⟩; replace k14:=k14.grown hg (by simp; omega); replace ht:=ht.call hg hf; clear hg hf e0 e1 e2 e3 e4 ef ez l0 l1 l2 l3 lf lz J; obtain ⟨e0,e1,e2,e3,e4,ef,ez⟩:=k14.five; have J:=hidI.out.ft ht hbg (by omega) (by omega); obtain ⟨l0,l1,l2,l3,lf,lz⟩:=J.kL.four)
     | (go_at_call 56; refine (shows_any _ _ _ _ (by omega) (by omega) (by omega) (by omega) (by omega) (by omega)).mono ?_; rintro e v6 ⟨rfl,rfl⟩)
     | fail)
     replace ht:=ht.set_ hv3 (by omega) 2 (.int .i64 n)
     replace k14:=k14.set_ 2 (.int .i64 n)
     replace ht:=ht.set_ hv3 (by omega) 1 (.int .i64 (shows st n (z + d)))
     replace k14:=k14.set_ 1 (.int .i64 (shows st n (z + d)))
     have KE : Bx (World.setCell (World.setCell v5 ⟨v3.heap.size,2,none⟩ (.int .i64 n)) ⟨v3.heap.size,1,none⟩ (.int .i64 (shows st n (z + d)))) v3.heap.size 28 #[.int .i64 2,.int .i64 (shows st n (z + d)),.int .i64 n,.int .i64 c0,.int .i64 c1]:=by simpa using k14
     have htU:=ht
     obtain ⟨U,hU⟩ : ∃ U,(World.setCell (World.setCell v5 ⟨v3.heap.size,2,none⟩ (.int .i64 n)) ⟨v3.heap.size,1,none⟩ (.int .i64 (shows st n (z + d)))) = U:=⟨_,rfl⟩
     rw [hU] at htU KE ⊢
     clear hU ht J k14 e0 e1 e2 e3 e4 ef ez l0 l1 l2 l3 lf lz
     have J:=hidI.out.ft htU hbg (by omega) (by omega)
     obtain ⟨kk,hkk⟩ : ∃ k,ts.length = k:=⟨_,rfl⟩
     have JE:=J.oe
     have JZ:=J.oz
     have JN:=J.on
     have JA:=J.ap
     have JL:=J.kL
     have JF:=J.kF
     have hneE : some v3.heap.size ≠ ev.ownBlock:=fun e => (by have:=hidI.out.oe.lt _ e.symm; omega)
     rw [hkk] at JE JZ JN
     obtain ⟨X1,hX1⟩ : ∃ X,((evsOf ts).map Ev.cells).flatten = X:=⟨_,rfl⟩
     obtain ⟨X2,hX2⟩ : ∃ X,(ints (ts.map (·.2.1))).flatten = X:=⟨_,rfl⟩
     obtain ⟨X3,hX3⟩ : ∃ X,(ints (ts.map (·.2.2))).flatten = X:=⟨_,rfl⟩
     rw [hX1] at JE
     rw [hX2] at JZ
     rw [hX3] at JN
     have HX:=Lib.hid (And.intro hX1 (And.intro hX2 hX3))
     have HKK:=Lib.hid hkk
     have hkm : kk ≤ 14:=by omega
     clear hX1 hX2 hX3 hkk
     have hwU : w.heap.size ≤ U.heap.size:=J.gr.size
     have HJ:=Lib.hid J
     clear J
     obtain ⟨i28,hi28,hz28,hs28,iy28⟩:=info_parts info28
     obtain ⟨i3,hi3,hz3,hs3,iy3⟩:=info_parts info3'
     refine AnyG.start (AT w.heap.size U 28 5 ev kk X1 zv kk X2 nv kk X3) (fun i => i != 16 && i != 17 && i != 18 && i != 19 && i != 20) (by kernel_rfl) ?_
     have hS : (AT w.heap.size U 28 5 ev kk X1 zv kk X2 nv kk X3) (World.drew _):=AT.start JE JZ JN
     refine AnyG.take (i:=0) (v:=?_) rfl (by kernel_rfl) (fun _ _ _ h => h) rfl ?_ hS ?_
     rotate_left
     ·(intro w' _; go_simp; try with_reducible rfl)
     try simp only [Act.put,Sp1,Sp2,Sp3,Sp4,Sp5,Sp6]
     refine AnyG.take (i:=1) (v:=?_) rfl (by kernel_rfl) (fun _ _ _ h => h) rfl ?_ hS ?_
     rotate_left
     ·(intro w' hSw; (try dsimp only at hSw); obtain ⟨l0,l1,l2,l3,lf,lz⟩:=(hSw.bx JE JZ JN JL (by decide) (by decide)).four; go_simp; try with_reducible rfl)
     try simp only [Act.put,Sp1,Sp2,Sp3,Sp4,Sp5,Sp6]
     refine AnyG.take (i:=2) (v:=?_) rfl (by kernel_rfl) (fun _ _ _ h => h) rfl ?_ hS ?_
     rotate_left
     ·(intro w' hSw; (try dsimp only at hSw); obtain ⟨e0,e1,e2,e3,e4,ef,ez⟩:=Bx.five (show Bx w' v3.heap.size 28 #[.int .i64 2,.int .i64 (shows st n (z + d)),.int .i64 n,.int .i64 c0,.int .i64 c1] from (hSw.block _ KE.lt hneE (own_bx JZ KE (by decide)) (own_bx JN KE (by decide))).trans KE); go_simp; try with_reducible rfl)
     try simp only [Act.put,Sp1,Sp2,Sp3,Sp4,Sp5,Sp6]
     refine AnyG.take (i:=10) (v:=?_) rfl (by kernel_rfl) (fun _ _ _ h => h) rfl ?_ hS ?_
     rotate_left
     ·(intro w' _; go_simp; try with_reducible rfl)
     try simp only [Act.put,Sp1,Sp2,Sp3,Sp4,Sp5,Sp6]
     refine AnyG.take (i:=11) (v:=?_) rfl (by kernel_rfl) (fun _ _ _ h => h) rfl ?_ hS ?_
     rotate_left
     ·(intro w' hSw; (try dsimp only at hSw); obtain ⟨f0,f1,ff,fz⟩:=(hSw.bx JE JZ JN JF (by decide) (by decide)).two; go_simp; try with_reducible rfl)
     try simp only [Act.put,Sp1,Sp2,Sp3,Sp4,Sp5,Sp6]
     refine RegRel.AnyG.rel3 [0,1,2,10,11] [16,17,18,19,20] [[],[],[],[],[3],[],[5],[],[7],[3,4,5,6,7,8],[],[],[],[12],[3,4,5,6,7,8,9,12,13],[3,4],[3,4,5,6,7,8,9,12,13,14,15],[3,4,5,6,7,8,9,12,13,14,15,16],[3,4,5,6,7,8,9,12,13,14,15,16,17],[3,4,5,6,7,8,9,12,13,14,15,16,17,18],[3,4,5,6,7,8,9,12,13,14,15,16,17,18,19]] [(90,3),(91,4),(92,5),(93,6),(94,7),(95,8),(96,9),(99,12),(100,13),(101,14),(102,15),(103,17),(104,19)] (AT w.heap.size U 28 5 ev kk X1 zv kk X2 nv kk X3) (AK 4 9 14 w.heap.size 28 5 ev kk X1 zv kk X2 nv kk X3) [(3,fun vs w1 => ∃ q0,vs 3 = .slice (some ⟨q0,0,none⟩) 1 1 ∧ U.heap.size ≤ q0 ∧ Bx w1 q0 28 #[.int .i64 2,.int .i64 (shows st n (z + d)),.int .i64 n,.int .i64 c0,.int .i64 c1]),(4,fun vs w1 => w1.ownsRow w.heap.size 28 5 (vs 4) (kk + 1) (X1 ++ [.int .i64 2,.int .i64 (shows st n (z + d)),.int .i64 n,.int .i64 c0,.int .i64 c1]) ∧ ((vs 4).ownBlock = ev.ownBlock ∨ ∀ k,(vs 4).ownBlock = some k → U.heap.size ≤ k)),(5,fun vs w1 => vs 5 = .pointer (some ⟨w2.heap.size + 1,0,none⟩)),(6,fun vs w1 => vs 6 = zv),(7,fun vs w1 => vs 7 = .int .i64 (z + d)),(8,fun vs w1 => ∃ q0,vs 8 = .slice (some ⟨q0,0,none⟩) 1 1 ∧ U.heap.size ≤ q0 ∧ Bx w1 q0 3 #[.int .i64 (z + d)]),(9,fun vs w1 => w1.ownsRow w.heap.size 3 1 (vs 9) (kk + 1) (X2 ++ [.int .i64 (z + d)]) ∧ ((vs 9).ownBlock = zv.ownBlock ∨ ∀ k,(vs 9).ownBlock = some k → U.heap.size ≤ k)),(12,fun vs w1 => vs 12 = .int .i64 n),(13,fun vs w1 => ∃ q0,vs 13 = .slice (some ⟨q0,0,none⟩) 1 1 ∧ U.heap.size ≤ q0 ∧ Bx w1 q0 3 #[.int .i64 n]),(14,fun vs w1 => w1.ownsRow w.heap.size 3 1 (vs 14) (kk + 1) (X3 ++ [.int .i64 n]) ∧ ((vs 9).ownBlock = none ∨ (vs 9).ownBlock ≠ (vs 14).ownBlock)),(15,fun vs w1 => vs 15 = .pointer (some ⟨w2.heap.size,3,none⟩))]
      (by kernel_rfl) (by kernel_rfl) (by kernel_rfl) (by decide) (by decide) hS (fun _ h => h) (fun _ _ _ h k => h.step k) ?hst ?hcg ?hstep ?hfin
     case hst => exact ⟨fun j vs w1 w2 hjd hjz hjp hji h ht hk => (by obtain ⟨q0,g1,g2,g3⟩:=h; exact ⟨q0,g1,g2,hk.fresh JE JZ JN g3 g2⟩),fun j vs w1 w2 hjd hjz hjp hji h ht hk => ⟨h.1.kept hk.gr (by unfold rowAt; rw [if_neg hji]; split; exact own_ne h.1 ht.oz (by decide); split; exact own_ne h.1 ht.on (by decide); cases (vs 4).ownBlock <;> simp),h.2⟩,fun j vs w1 w2 hjd hjz hjp hji h ht hk => h,fun j vs w1 w2 hjd hjz hjp hji h ht hk => h,fun j vs w1 w2 hjd hjz hjp hji h ht hk => h,fun j vs w1 w2 hjd hjz hjp hji h ht hk => (by obtain ⟨q0,g1,g2,g3⟩:=h; exact ⟨q0,g1,g2,hk.fresh JE JZ JN g3 g2⟩),fun j vs w1 w2 hjd hjz hjp hji h ht hk => ⟨h.1.kept hk.gr (by unfold rowAt; rw [if_neg (fun e => hjp (by rw [e]; simp)),if_neg hji]; split; exact own_apart h.2 JA JN; cases (vs 9).ownBlock <;> simp),h.2⟩,fun j vs w1 w2 hjd hjz hjp hji h ht hk => h,fun j vs w1 w2 hjd hjz hjp hji h ht hk => (by obtain ⟨q0,g1,g2,g3⟩:=h; exact ⟨q0,g1,g2,hk.fresh JE JZ JN g3 g2⟩),fun j vs w1 w2 hjd hjz hjp hji h ht hk => ⟨h.1.kept hk.gr (by unfold rowAt; rw [if_neg (fun e => hjp (by rw [e]; simp)),if_neg (fun e => hjp (by rw [e]; simp)),if_neg hji]; cases (vs 14).ownBlock <;> simp),h.2⟩,fun j vs w1 w2 hjd hjz hjp hji h ht hk => h,trivial⟩
     case hcg => exact ⟨fun vs vs2 _ he h => (by dsimp only at h ⊢; rw [he 3 (by simp)]; exact h),fun vs vs2 _ he h => (by dsimp only at h ⊢; rw [he 4 (by simp)]; exact h),fun vs vs2 _ he h => (by dsimp only at h ⊢; rw [he 5 (by simp)]; exact h),fun vs vs2 _ he h => (by dsimp only at h ⊢; rw [he 6 (by simp)]; exact h),fun vs vs2 _ he h => (by dsimp only at h ⊢; rw [he 7 (by simp)]; exact h),fun vs vs2 _ he h => (by dsimp only at h ⊢; rw [he 8 (by simp)]; exact h),fun vs vs2 _ he h => (by dsimp only at h ⊢; rw [he 9 (by simp)]; exact h),fun vs vs2 _ he h => (by dsimp only at h ⊢; rw [he 12 (by simp)]; exact h),fun vs vs2 _ he h => (by dsimp only at h ⊢; rw [he 13 (by simp)]; exact h),fun vs vs2 _ he h => (by dsimp only at h ⊢; rw [he 9 (by simp),he 14 (by simp)]; exact h),fun vs vs2 _ he h => (by dsimp only at h ⊢; rw [he 15 (by simp)]; exact h),trivial⟩
     case hstep =>
      refine ⟨?_,?_,?_,?_,?_,?_,?_,?_,?_,?_,?_,trivial⟩
      ·rintro vs v1 - hT
       refine ⟨_,_,rfl,rfl,?_⟩
       clear hS
       simp only [RegRel.fillT,List.foldl_cons,List.foldl_nil,Sp4,Sp5,Sp6]
       go_simp
       first | exact ⟨⟨_,rfl,hT.size,Bx.new _ _ _⟩,(AK.quiet (grown_alloc (grown_refl _ _) _) 4 9 14 w.heap.size 28 5 ev kk X1 zv kk X2 nv kk X3 _),rfl⟩ | exact ⟨⟨_,rfl,hT.size,Bx.new _ _ _⟩,(AK.quiet (grown_alloc (grown_refl _ _) _) 4 9 14 w.heap.size 28 5 ev kk X1 zv kk X2 nv kk X3 _)⟩ | trace_state
      ·rintro vs v1 ⟨⟨q3,h3,hq3,hb3⟩,-⟩ hT
       refine ⟨_,_,rfl,rfl,?_⟩
       clear hS
       try dsimp only at h3
       simp only [RegRel.fillT,List.foldl_cons,List.foldl_nil,Sp4,Sp5,Sp6]
       try simp only [h3]
       try clear h3
       have hw1 : w.heap.size ≤ v1.heap.size:=Nat.le_trans hwU hT.size
       refine wp_app2 (.tmp 88) (.tmp 90) 24 rfl w.heap.size 28 i28 _ 5 40 Try.underlying24 hi28 hz28 hs28 iy28 rfl (by decide) ev kk X1 (by simp [Act.eval]) hT.oe ⟨q3,0,none⟩ 1 1 [.int .i64 2,.int .i64 (shows st n (z + d)),.int .i64 n,.int .i64 c0,.int .i64 c1] (by simp [Act.eval]) rfl (bx_news hb3) (by simp [Value.oneCell']) (by unfold maxLen; omega) (by omega) hw1 ?_
       intro v' w' o1 o2 o3 o4
       have hv1:=hT.size
       refine ⟨?_,⟨by simpa [rowAt] using o2,fun _ => o3,fun h => h.kept o2 (own_ne h hT.oe (by decide)),fun h => h.kept o2 (own_ne h hT.oe (by decide))⟩,rfl⟩
       simp only [RegRel.upd,if_true,Act.put,Sp1,Sp2,Sp3,Sp4,Sp5,Sp6,Array.getD_eq_getD_getElem?,List.getElem?_toArray,List.getElem?_cons_succ,List.getElem?_cons_zero,Option.getD_some]
       exact ⟨o1,o4.imp id fun h k hk => Nat.le_trans hv1 (h k hk)⟩
      ·rintro vs v1 - hT
       refine ⟨_,_,rfl,rfl,?_⟩
       clear hS
       simp only [RegRel.fillT,List.foldl_cons,List.foldl_nil,Sp4,Sp5,Sp6]
       go_simp
       first | exact ⟨rfl,(AK.quiet (grown_refl _ _) 4 9 14 w.heap.size 28 5 ev kk X1 zv kk X2 nv kk X3 _),rfl⟩ | exact ⟨rfl,(AK.quiet (grown_refl _ _) 4 9 14 w.heap.size 28 5 ev kk X1 zv kk X2 nv kk X3 _)⟩ | trace_state
      ·rintro vs v1 ⟨h5,-⟩ hT
       refine ⟨_,_,rfl,rfl,?_⟩
       clear hS
       try dsimp only at h5
       simp only [RegRel.fillT,List.foldl_cons,List.foldl_nil,Sp4,Sp5,Sp6]
       try simp only [h5]
       try clear h5
       obtain ⟨f0,f1,ff,fz⟩:=(hT.bx JE JZ JN JF (by decide) (by decide)).two
       go_simp
       first | exact ⟨rfl,(AK.quiet (grown_refl _ _) 4 9 14 w.heap.size 28 5 ev kk X1 zv kk X2 nv kk X3 _),rfl⟩ | exact ⟨rfl,(AK.quiet (grown_refl _ _) 4 9 14 w.heap.size 28 5 ev kk X1 zv kk X2 nv kk X3 _)⟩ | trace_state
      ·rintro vs v1 - hT
       refine ⟨_,_,rfl,rfl,?_⟩
       clear hS
       simp only [RegRel.fillT,List.foldl_cons,List.foldl_nil,Sp4,Sp5,Sp6]
       go_simp
       first | exact ⟨rfl,(AK.quiet (grown_refl _ _) 4 9 14 w.heap.size 28 5 ev kk X1 zv kk X2 nv kk X3 _),rfl⟩ | exact ⟨rfl,(AK.quiet (grown_refl _ _) 4 9 14 w.heap.size 28 5 ev kk X1 zv kk X2 nv kk X3 _)⟩ | trace_state
      ·rintro vs v1 ⟨h7,-⟩ hT
       refine ⟨_,_,rfl,rfl,?_⟩
       clear hS
       try dsimp only at h7
       simp only [RegRel.fillT,List.foldl_cons,List.foldl_nil,Sp4,Sp5,Sp6]
       try simp only [h7]
       try clear h7
       go_simp
       first | exact ⟨⟨_,rfl,hT.size,Bx.new _ _ _⟩,(AK.quiet (grown_alloc (grown_refl _ _) _) 4 9 14 w.heap.size 28 5 ev kk X1 zv kk X2 nv kk X3 _),rfl⟩ | exact ⟨⟨_,rfl,hT.size,Bx.new _ _ _⟩,(AK.quiet (grown_alloc (grown_refl _ _) _) 4 9 14 w.heap.size 28 5 ev kk X1 zv kk X2 nv kk X3 _)⟩ | trace_state
      ·rintro vs v1 ⟨⟨q3,h3,hq3,hb3⟩,⟨h4,ha4⟩,h5,h6,h7,⟨q8,h8,hq8,hb8⟩,-⟩ hT
       refine ⟨_,_,rfl,rfl,?_⟩
       clear hS
       try dsimp only at h3 h4 h5 h6 h7 h8
       simp only [RegRel.fillT,List.foldl_cons,List.foldl_nil,Sp4,Sp5,Sp6]
       try simp only [h3,h4,h5,h6,h7,h8]
       try clear h3 h4 h5 h6 h7 h8
       have hw1 : w.heap.size ≤ v1.heap.size:=Nat.le_trans hwU hT.size
       refine wp_app2 (.tmp 93) (.tmp 95) 29 rfl w.heap.size 3 i3 _ 1 8 Try.underlying29 hi3 hz3 hs3 iy3 rfl (by decide) zv kk X2 (by simp [Act.eval]) hT.oz ⟨q8,0,none⟩ 1 1 [.int .i64 (z + d)] (by simp [Act.eval]) rfl (bx_news hb8) (by simp [Value.oneCell']) (by unfold maxLen; omega) (by omega) hw1 ?_
       intro v' w' o1 o2 o3 o4
       have hv1:=hT.size
       refine ⟨?_,⟨by simpa [rowAt] using o2,fun h => h.kept o2 (own_ne h hT.oz (by decide)),fun _ => o3,fun h => h.kept o2 (apart_symm JA)⟩,rfl⟩
       simp only [RegRel.upd,if_true,Act.put,Sp1,Sp2,Sp3,Sp4,Sp5,Sp6,Array.getD_eq_getD_getElem?,List.getElem?_toArray,List.getElem?_cons_succ,List.getElem?_cons_zero,Option.getD_some]
       exact ⟨o1,o4.imp id fun h k hk => Nat.le_trans hv1 (h k hk)⟩
      ·rintro vs v1 - hT
       refine ⟨_,_,rfl,rfl,?_⟩
       clear hS
       simp only [RegRel.fillT,List.foldl_cons,List.foldl_nil,Sp4,Sp5,Sp6]
       go_simp
       first | exact ⟨rfl,(AK.quiet (grown_refl _ _) 4 9 14 w.heap.size 28 5 ev kk X1 zv kk X2 nv kk X3 _),rfl⟩ | exact ⟨rfl,(AK.quiet (grown_refl _ _) 4 9 14 w.heap.size 28 5 ev kk X1 zv kk X2 nv kk X3 _)⟩ | trace_state
      ·rintro vs v1 ⟨h12,-⟩ hT
       refine ⟨_,_,rfl,rfl,?_⟩
       clear hS
       try dsimp only at h12
       simp only [RegRel.fillT,List.foldl_cons,List.foldl_nil,Sp4,Sp5,Sp6]
       try simp only [h12]
       try clear h12
       go_simp
       first | exact ⟨⟨_,rfl,hT.size,Bx.new _ _ _⟩,(AK.quiet (grown_alloc (grown_refl _ _) _) 4 9 14 w.heap.size 28 5 ev kk X1 zv kk X2 nv kk X3 _),rfl⟩ | exact ⟨⟨_,rfl,hT.size,Bx.new _ _ _⟩,(AK.quiet (grown_alloc (grown_refl _ _) _) 4 9 14 w.heap.size 28 5 ev kk X1 zv kk X2 nv kk X3 _)⟩ | trace_state
      ·rintro vs v1 ⟨⟨q3,h3,hq3,hb3⟩,⟨h4,ha4⟩,h5,h6,h7,⟨q8,h8,hq8,hb8⟩,⟨h9,ha9⟩,h12,⟨q13,h13,hq13,hb13⟩,-⟩ hT
       refine ⟨_,_,rfl,rfl,?_⟩
       clear hS
       try dsimp only at h3 h4 h5 h6 h7 h8 h9 h12 h13
       simp only [RegRel.fillT,List.foldl_cons,List.foldl_nil,Sp4,Sp5,Sp6]
       simp only [h13]
       have hw1 : w.heap.size ≤ v1.heap.size:=Nat.le_trans hwU hT.size
       refine wp_app2 (.tmp 98) (.tmp 100) 29 rfl w.heap.size 3 i3 _ 1 8 Try.underlying29 hi3 hz3 hs3 iy3 rfl (by decide) nv kk X3 (by simp [Act.eval]) hT.on ⟨q13,0,none⟩ 1 1 [.int .i64 n] (by simp [Act.eval]) rfl (bx_news hb13) (by simp [Value.oneCell']) (by unfold maxLen; omega) (by omega) hw1 ?_
       intro v' w' o1 o2 o3 o4
       have hv1:=hT.size
       refine ⟨?_,⟨by simpa [rowAt] using o2,fun h => h.kept o2 (own_ne h hT.on (by decide)),fun h => h.kept o2 JA,fun _ => o3⟩,rfl⟩
       simp only [RegRel.upd,if_true,Act.put,Sp1,Sp2,Sp3,Sp4,Sp5,Sp6,Array.getD_eq_getD_getElem?,List.getElem?_toArray,List.getElem?_cons_succ,List.getElem?_cons_zero,Option.getD_some]
       refine ⟨o1,?_⟩
       rw [if_neg (by decide)]
       rcases o4 with o4 | o4
       ·rw [o4]; exact own_apart ha9 JA JN
       ·cases hv9 : (vs 9).ownBlock with
        | none => exact .inl rfl
        | some k => exact .inr fun e => by have:=o4 k e.symm; have:=h9.lt k hv9; omega
      ·rintro vs v1 ⟨⟨q3,h3,hq3,hb3⟩,⟨h4,ha4⟩,-⟩ hT
       refine ⟨_,_,rfl,rfl,?_⟩
       clear hS
       try dsimp only at h3 h4
       simp only [RegRel.fillT,List.foldl_cons,List.foldl_nil,Sp4,Sp5,Sp6]
       try simp only [h3,h4]
       try clear h3 h4
       go_simp
       first | exact ⟨rfl,(AK.quiet (grown_refl _ _) 4 9 14 w.heap.size 28 5 ev kk X1 zv kk X2 nv kk X3 _),rfl⟩ | exact ⟨rfl,(AK.quiet (grown_refl _ _) 4 9 14 w.heap.size 28 5 ev kk X1 zv kk X2 nv kk X3 _)⟩ | trace_state
     case hfin =>
      rintro vs v1 ⟨⟨q3,h3,hq3,hb3⟩,⟨h4,ha4⟩,h5,h6,h7,⟨q8,h8,hq8,hb8⟩,⟨h9,ha9⟩,h12,⟨q13,h13,hq13,hb13⟩,⟨h14,ha14⟩,h15,-⟩ hT
      clear hS
      try dsimp only at h3 h4 h5 h6 h7 h8 h9 h12 h13 h14 h15
      simp only [List.filter_cons,List.contains_cons,List.contains_nil,Nat.reduceBEq,Bool.or_false,Bool.not_false,if_true,List.filter_nil]
      simp only [RegRel.fillT,List.foldl_cons,List.foldl_nil,Sp4,Sp5,Sp6]
      simp only [h3,h5,h6,h7,h8,h12,h13,h15]
      clear h3 h5 h6 h7 h8 h12 h13 h15 hb3 hb8 hb13 hq3 hq8 hq13
      generalize vs 4 = ev2 at *
      generalize vs 9 = zv2 at *
      generalize vs 14 = nv2 at *
      obtain ⟨A4,C4,rfl⟩:=own_shape h4
      obtain ⟨A9,C9,rfl⟩:=own_shape h9
      obtain ⟨A14,C14,rfl⟩:=own_shape h14
      have BL:=hT.bx JE JZ JN JL (by decide) (by decide)
      have BF:=hT.bx JE JZ JN JF (by decide) (by decide)
      have B8:=hT.bx JE JZ JN HJ.out.k8 (by decide) (by decide)
      have B9:=hT.bx JE JZ JN HJ.out.k9 (by decide) (by decide)
      have FD : Fd g v1:=by obtain ⟨x,x1,x2,x3⟩:=HJ.out.fd; exact ⟨x,x1,x2,hT.bx JE JZ JN x3 (by decide) (by decide)⟩
      have GR:=hT.gr HJ.out.gr JE JZ JN
      have Hs3:=Lib.hid HJ.out.s3
      have Hmd:=HJ.out.md
      obtain ⟨l0,l1,l2,l3,lf,lz⟩:=BL.four
      obtain ⟨f0,f1,ff,fz⟩:=BF.two
      refine RegRel.wpOps_go rfl rfl ?_
      go_simp
      refine RegRel.wpOps_go rfl rfl ?_
      go_simp
      refine RegRel.wpOps_go rfl rfl ?_
      go_simp
      refine RegRel.wpOps_go rfl rfl ?_
      go_simp
      refine RegRel.wpOps_go rfl rfl ?_
      go_simp
      refine RegRel.wpOps_end ?_
      go_simp
      go_wp2_with fail
      have nL4:=own_bx h4 BL (by decide)
      have nF4:=own_bx h4 BF (by decide)
      have nL9:=own_bx h9 BL (by decide)
      have nF9:=own_bx h9 BF (by decide)
      have nL14:=own_bx h14 BL (by decide)
      have nF14:=own_bx h14 BF (by decide)
      have hgw:=hbg
      go_roundw
      case rel =>
       refine ⟨st,z + d,i - 1,ts ++ [(⟨2,shows st n (z + d),n,c0,c1⟩,z + d,n)],.slice A4 (kk + 1) C4,.slice A9 (kk + 1) C9,.slice A14 (kk + 1) C14,by go_num,rfl,⟨by omega,?_,hs1,hs2,Hs3.out,.snoc ts z _ _ _ Hmd ⟨by simp,cr1,cr2,cr3,by omega,by omega,by simp,by simp,rfl⟩ (by dsimp only; omega) (by dsimp only; omega),?_,?_,?_,?_,?_,ha14,?_,?_,?_,?_⟩⟩
       ·rw [List.length_append,List.length_singleton]; push_cast; omega
       ·simpa using ((BL.set_ 3 (.slice A4 (kk + 1) C4)).far (p:=⟨w2.heap.size + 1,0,none⟩) (by simp) (.slice A9 (kk + 1) C9)).far (p:=⟨w2.heap.size + 1,1,none⟩) (by simp) (.slice A14 (kk + 1) C14)
       ·simpa using ((BF.far (p:=⟨w2.heap.size,3,none⟩) (by simp) (.slice A4 (kk + 1) C4)).set_ 0 (.slice A9 (kk + 1) C9)).set_ 1 (.slice A14 (kk + 1) C14)
       ·rw [List.length_append,List.length_singleton,HKK.out,es_snoc,HX.out.1]; exact own_set (own_set (own_set h4 nL4 _) nF4 _) nF4 _
       ·rw [List.length_append,List.length_singleton,HKK.out,zs_snoc,HX.out.2.1]; exact own_set (own_set (own_set h9 nL9 _) nF9 _) nF9 _
       ·rw [List.length_append,List.length_singleton,HKK.out,ns_snoc,HX.out.2.2]; exact own_set (own_set (own_set h14 nL14 _) nF14 _) nF14 _
       ·exact ((B8.far (by simp; omega) _).far (by simp; omega) _).far (by simp; omega) _
       ·exact ((B9.far (by simp; omega) _).far (by simp; omega) _).far (by simp; omega) _
       ·exact ((FD.far (by simp; omega) _).far (by simp; omega) _).far (by simp; omega) _
       ·exact grown_new (grown_new (grown_new GR (by omega) _) (by omega) _) (by omega) _
      case measure => simp [intOf]; omega
    ·go_wp2_with (first
     | (go_at_call 40; first | (have _t:=sA; clear _t; refine (either_any g _ 2 _ (fun r => 1 ≤ r ∧ r ≤ 4) _ (ht.alloc _).2 (Bx.new _ _ _) (by have:=ht.2.lt; omega) (by omega) (by omega) (bx2 _ ⟨by omega,by omega⟩ ⟨by omega,by omega⟩)).mono ?_; rintro e v1 ⟨⟨cb,rfl,cb1,cb2⟩,hf,hg⟩; replace ht:=(ht.alloc _).call hg hf; clear hg hf; have sB:=True.intro) | (refine (either_any g _ 2 _ (fun r => 0 ≤ r ∧ r ≤ 3) _ (ht.alloc _).2 (Bx.new _ _ _) (by have:=ht.2.lt; omega) (by omega) (by omega) (bx2 _ ⟨by omega,by omega⟩ ⟨by omega,by omega⟩)).mono ?_; rintro e v1 ⟨⟨ca,rfl,ca1,ca2⟩,hf,hg⟩; replace ht:=(ht.alloc _).call hg hf; clear hg hf; have sA:=True.intro))
     | (go_at_call 27; refine (range_any g _ _ _ ht.2 (by omega) (by omega) (by omega)).mono ?_; rintro e v2 ⟨⟨x0,x1,rfl,xr1,xr2,xr3⟩,hf,hg⟩; replace ht:=ht.call hg hf; clear hg hf)
     | (go_at_call 55; refine (either2_pair g _ _ _ _ (fun p q => -3 ≤ p ∧ p ≤ q ∧ q ≤ 4) _ ht.2 ⟨by omega,by omega,by omega⟩ ⟨by omega,by omega,by omega⟩).mono ?_; rintro e v3 ⟨⟨c0,c1,rfl,cr1,cr2,cr3⟩,hf,hg⟩; replace ht:=ht.call hg hf; clear hg hf; have hv3:=ht.size; have hv3g:=ht.2.lt)
     | (go_at_call 42; have k14:=Bx.new v3 28 #[.int .i64 3,.int .i64 0,.int .i64 0,.int .i64 c0,.int .i64 c1]; refine (in_any g c0 c1 _ (ht.alloc _).2 (by omega) (by omega) (by omega)).mono ?_; rintro e v4 ⟨⟨d,rfl,d1,d2⟩,hf,hg⟩; replace k14:=k14.grown hg (by simp; omega); replace ht:=(ht.alloc _).call hg hf; clear hg hf; obtain ⟨e0,e1,e2,e3,e4,ef,ez⟩:=k14.five; have J:=hidI.out.ft ht hbg (by omega) (by omega); obtain ⟨l0,l1,l2,l3,lf,lz⟩:=J.kL.four)
     | (go_at_call 47; refine (below_any g _ _ ht.2 (by omega) (by omega)).mono ?_; rintro e v5 ⟨⟨n,rfl,n1,n2⟩,hf,hg⟩; replace k14:=k14.grown hg (by simp; omega); replace ht:=ht.call hg hf; clear hg hf e0 e1 e2 e3 e4 ef ez l0 l1 l2 l3 lf lz J; obtain ⟨e0,e1,e2,e3,e4,ef,ez⟩:=k14.five; have J:=hidI.out.ft ht hbg (by omega) (by omega); obtain ⟨l0,l1,l2,l3,lf,lz⟩:=J.kL.four)
     | (go_at_call 56; refine (shows_any _ _ _ _ (by omega) (by omega) (by omega) (by omega) (by omega) (by omega)).mono ?_; rintro e v6 ⟨rfl,rfl⟩)
     | fail)
     replace ht:=ht.set_ hv3 (by omega) 1 (.int .i64 (shows st n (z + d)))
     replace k14:=k14.set_ 1 (.int .i64 (shows st n (z + d)))
     have KE : Bx (World.setCell v5 ⟨v3.heap.size,1,none⟩ (.int .i64 (shows st n (z + d)))) v3.heap.size 28 #[.int .i64 3,.int .i64 (shows st n (z + d)),.int .i64 0,.int .i64 c0,.int .i64 c1]:=by simpa using k14
     have htU:=ht
     obtain ⟨U,hU⟩ : ∃ U,(World.setCell v5 ⟨v3.heap.size,1,none⟩ (.int .i64 (shows st n (z + d)))) = U:=⟨_,rfl⟩
     rw [hU] at htU KE ⊢
     clear hU ht J k14 e0 e1 e2 e3 e4 ef ez l0 l1 l2 l3 lf lz
     have J:=hidI.out.ft htU hbg (by omega) (by omega)
     obtain ⟨kk,hkk⟩ : ∃ k,ts.length = k:=⟨_,rfl⟩
     have JE:=J.oe
     have JZ:=J.oz
     have JN:=J.on
     have JA:=J.ap
     have JL:=J.kL
     have JF:=J.kF
     have hneE : some v3.heap.size ≠ ev.ownBlock:=fun e => (by have:=hidI.out.oe.lt _ e.symm; omega)
     rw [hkk] at JE JZ JN
     obtain ⟨X1,hX1⟩ : ∃ X,((evsOf ts).map Ev.cells).flatten = X:=⟨_,rfl⟩
     obtain ⟨X2,hX2⟩ : ∃ X,(ints (ts.map (·.2.1))).flatten = X:=⟨_,rfl⟩
     obtain ⟨X3,hX3⟩ : ∃ X,(ints (ts.map (·.2.2))).flatten = X:=⟨_,rfl⟩
     rw [hX1] at JE
     rw [hX2] at JZ
     rw [hX3] at JN
     have HX:=Lib.hid (And.intro hX1 (And.intro hX2 hX3))
     have HKK:=Lib.hid hkk
     have hkm : kk ≤ 14:=by omega
     clear hX1 hX2 hX3 hkk
     have hwU : w.heap.size ≤ U.heap.size:=J.gr.size
     have HJ:=Lib.hid J
     clear J
     obtain ⟨i28,hi28,hz28,hs28,iy28⟩:=info_parts info28
     obtain ⟨i3,hi3,hz3,hs3,iy3⟩:=info_parts info3'
     refine AnyG.start (AT w.heap.size U 28 5 ev kk X1 zv kk X2 nv kk X3) (fun i => i != 16 && i != 17 && i != 18 && i != 19 && i != 20) (by kernel_rfl) ?_
     have hS : (AT w.heap.size U 28 5 ev kk X1 zv kk X2 nv kk X3) (World.drew _):=AT.start JE JZ JN
     refine AnyG.take (i:=0) (v:=?_) rfl (by kernel_rfl) (fun _ _ _ h => h) rfl ?_ hS ?_
     rotate_left
     ·(intro w' _; go_simp; try with_reducible rfl)
     try simp only [Act.put,Sp1,Sp2,Sp3,Sp4,Sp5,Sp6]
     refine AnyG.take (i:=1) (v:=?_) rfl (by kernel_rfl) (fun _ _ _ h => h) rfl ?_ hS ?_
     rotate_left
     ·(intro w' hSw; (try dsimp only at hSw); obtain ⟨l0,l1,l2,l3,lf,lz⟩:=(hSw.bx JE JZ JN JL (by decide) (by decide)).four; go_simp; try with_reducible rfl)
     try simp only [Act.put,Sp1,Sp2,Sp3,Sp4,Sp5,Sp6]
     refine AnyG.take (i:=2) (v:=?_) rfl (by kernel_rfl) (fun _ _ _ h => h) rfl ?_ hS ?_
     rotate_left
     ·(intro w' hSw; (try dsimp only at hSw); obtain ⟨e0,e1,e2,e3,e4,ef,ez⟩:=Bx.five (show Bx w' v3.heap.size 28 #[.int .i64 3,.int .i64 (shows st n (z + d)),.int .i64 0,.int .i64 c0,.int .i64 c1] from (hSw.block _ KE.lt hneE (own_bx JZ KE (by decide)) (own_bx JN KE (by decide))).trans KE); go_simp; try with_reducible rfl)
     try simp only [Act.put,Sp1,Sp2,Sp3,Sp4,Sp5,Sp6]
     refine AnyG.take (i:=10) (v:=?_) rfl (by kernel_rfl) (fun _ _ _ h => h) rfl ?_ hS ?_
     rotate_left
     ·(intro w' _; go_simp; try with_reducible rfl)
     try simp only [Act.put,Sp1,Sp2,Sp3,Sp4,Sp5,Sp6]
     refine AnyG.take (i:=11) (v:=?_) rfl (by kernel_rfl) (fun _ _ _ h => h) rfl ?_ hS ?_
     rotate_left
     ·(intro w' hSw; (try dsimp only at hSw); obtain ⟨f0,f1,ff,fz⟩:=(hSw.bx JE JZ JN JF (by decide) (by decide)).two; go_simp; try with_reducible rfl)
     try simp only [Act.put,Sp1,Sp2,Sp3,Sp4,Sp5,Sp6]
     refine RegRel.AnyG.rel3 [0,1,2,10,11] [16,17,18,19,20] [[],[],[],[],[3],[],[5],[],[7],[3,4,5,6,7,8],[],[],[],[12],[3,4,5,6,7,8,9,12,13],[3,4],[3,4,5,6,7,8,9,12,13,14,15],[3,4,5,6,7,8,9,12,13,14,15,16],[3,4,5,6,7,8,9,12,13,14,15,16,17],[3,4,5,6,7,8,9,12,13,14,15,16,17,18],[3,4,5,6,7,8,9,12,13,14,15,16,17,18,19]] [(90,3),(91,4),(92,5),(93,6),(94,7),(95,8),(96,9),(99,12),(100,13),(101,14),(102,15),(103,17),(104,19)] (AT w.heap.size U 28 5 ev kk X1 zv kk X2 nv kk X3) (AK 4 9 14 w.heap.size 28 5 ev kk X1 zv kk X2 nv kk X3) [(3,fun vs w1 => ∃ q0,vs 3 = .slice (some ⟨q0,0,none⟩) 1 1 ∧ U.heap.size ≤ q0 ∧ Bx w1 q0 28 #[.int .i64 3,.int .i64 (shows st n (z + d)),.int .i64 0,.int .i64 c0,.int .i64 c1]),(4,fun vs w1 => w1.ownsRow w.heap.size 28 5 (vs 4) (kk + 1) (X1 ++ [.int .i64 3,.int .i64 (shows st n (z + d)),.int .i64 0,.int .i64 c0,.int .i64 c1]) ∧ ((vs 4).ownBlock = ev.ownBlock ∨ ∀ k,(vs 4).ownBlock = some k → U.heap.size ≤ k)),(5,fun vs w1 => vs 5 = .pointer (some ⟨w2.heap.size + 1,0,none⟩)),(6,fun vs w1 => vs 6 = zv),(7,fun vs w1 => vs 7 = .int .i64 (z + d)),(8,fun vs w1 => ∃ q0,vs 8 = .slice (some ⟨q0,0,none⟩) 1 1 ∧ U.heap.size ≤ q0 ∧ Bx w1 q0 3 #[.int .i64 (z + d)]),(9,fun vs w1 => w1.ownsRow w.heap.size 3 1 (vs 9) (kk + 1) (X2 ++ [.int .i64 (z + d)]) ∧ ((vs 9).ownBlock = zv.ownBlock ∨ ∀ k,(vs 9).ownBlock = some k → U.heap.size ≤ k)),(12,fun vs w1 => vs 12 = .int .i64 n),(13,fun vs w1 => ∃ q0,vs 13 = .slice (some ⟨q0,0,none⟩) 1 1 ∧ U.heap.size ≤ q0 ∧ Bx w1 q0 3 #[.int .i64 n]),(14,fun vs w1 => w1.ownsRow w.heap.size 3 1 (vs 14) (kk + 1) (X3 ++ [.int .i64 n]) ∧ ((vs 9).ownBlock = none ∨ (vs 9).ownBlock ≠ (vs 14).ownBlock)),(15,fun vs w1 => vs 15 = .pointer (some ⟨w2.heap.size,3,none⟩))]
      (by kernel_rfl) (by kernel_rfl) (by kernel_rfl) (by decide) (by decide) hS (fun _ h => h) (fun _ _ _ h k => h.step k) ?hst ?hcg ?hstep ?hfin
     case hst => exact ⟨fun j vs w1 w2 hjd hjz hjp hji h ht hk => (by obtain ⟨q0,g1,g2,g3⟩:=h; exact ⟨q0,g1,g2,hk.fresh JE JZ JN g3 g2⟩),fun j vs w1 w2 hjd hjz hjp hji h ht hk => ⟨h.1.kept hk.gr (by unfold rowAt; rw [if_neg hji]; split; exact own_ne h.1 ht.oz (by decide); split; exact own_ne h.1 ht.on (by decide); cases (vs 4).ownBlock <;> simp),h.2⟩,fun j vs w1 w2 hjd hjz hjp hji h ht hk => h,fun j vs w1 w2 hjd hjz hjp hji h ht hk => h,fun j vs w1 w2 hjd hjz hjp hji h ht hk => h,fun j vs w1 w2 hjd hjz hjp hji h ht hk => (by obtain ⟨q0,g1,g2,g3⟩:=h; exact ⟨q0,g1,g2,hk.fresh JE JZ JN g3 g2⟩),fun j vs w1 w2 hjd hjz hjp hji h ht hk => ⟨h.1.kept hk.gr (by unfold rowAt; rw [if_neg (fun e => hjp (by rw [e]; simp)),if_neg hji]; split; exact own_apart h.2 JA JN; cases (vs 9).ownBlock <;> simp),h.2⟩,fun j vs w1 w2 hjd hjz hjp hji h ht hk => h,fun j vs w1 w2 hjd hjz hjp hji h ht hk => (by obtain ⟨q0,g1,g2,g3⟩:=h; exact ⟨q0,g1,g2,hk.fresh JE JZ JN g3 g2⟩),fun j vs w1 w2 hjd hjz hjp hji h ht hk => ⟨h.1.kept hk.gr (by unfold rowAt; rw [if_neg (fun e => hjp (by rw [e]; simp)),if_neg (fun e => hjp (by rw [e]; simp)),if_neg hji]; cases (vs 14).ownBlock <;> simp),h.2⟩,fun j vs w1 w2 hjd hjz hjp hji h ht hk => h,trivial⟩
     case hcg => exact ⟨fun vs vs2 _ he h => (by dsimp only at h ⊢; rw [he 3 (by simp)]; exact h),fun vs vs2 _ he h => (by dsimp only at h ⊢; rw [he 4 (by simp)]; exact h),fun vs vs2 _ he h => (by dsimp only at h ⊢; rw [he 5 (by simp)]; exact h),fun vs vs2 _ he h => (by dsimp only at h ⊢; rw [he 6 (by simp)]; exact h),fun vs vs2 _ he h => (by dsimp only at h ⊢; rw [he 7 (by simp)]; exact h),fun vs vs2 _ he h => (by dsimp only at h ⊢; rw [he 8 (by simp)]; exact h),fun vs vs2 _ he h => (by dsimp only at h ⊢; rw [he 9 (by simp)]; exact h),fun vs vs2 _ he h => (by dsimp only at h ⊢; rw [he 12 (by simp)]; exact h),fun vs vs2 _ he h => (by dsimp only at h ⊢; rw [he 13 (by simp)]; exact h),fun vs vs2 _ he h => (by dsimp only at h ⊢; rw [he 9 (by simp),he 14 (by simp)]; exact h),fun vs vs2 _ he h => (by dsimp only at h ⊢; rw [he 15 (by simp)]; exact h),trivial⟩
     case hstep =>
      refine ⟨?_,?_,?_,?_,?_,?_,?_,?_,?_,?_,?_,trivial⟩
      ·rintro vs v1 - hT
       refine ⟨_,_,rfl,rfl,?_⟩
       clear hS
       simp only [RegRel.fillT,List.foldl_cons,List.foldl_nil,Sp4,Sp5,Sp6]
       go_simp
       first | exact ⟨⟨_,rfl,hT.size,Bx.new _ _ _⟩,(AK.quiet (grown_alloc (grown_refl _ _) _) 4 9 14 w.heap.size 28 5 ev kk X1 zv kk X2 nv kk X3 _),rfl⟩ | exact ⟨⟨_,rfl,hT.size,Bx.new _ _ _⟩,(AK.quiet (grown_alloc (grown_refl _ _) _) 4 9 14 w.heap.size 28 5 ev kk X1 zv kk X2 nv kk X3 _)⟩ | trace_state
      ·rintro vs v1 ⟨⟨q3,h3,hq3,hb3⟩,-⟩ hT
       refine ⟨_,_,rfl,rfl,?_⟩
       clear hS
       try dsimp only at h3
       simp only [RegRel.fillT,List.foldl_cons,List.foldl_nil,Sp4,Sp5,Sp6]
       try simp only [h3]
       try clear h3
       have hw1 : w.heap.size ≤ v1.heap.size:=Nat.le_trans hwU hT.size
       refine wp_app2 (.tmp 88) (.tmp 90) 24 rfl w.heap.size 28 i28 _ 5 40 Try.underlying24 hi28 hz28 hs28 iy28 rfl (by decide) ev kk X1 (by simp [Act.eval]) hT.oe ⟨q3,0,none⟩ 1 1 [.int .i64 3,.int .i64 (shows st n (z + d)),.int .i64 0,.int .i64 c0,.int .i64 c1] (by simp [Act.eval]) rfl (bx_news hb3) (by simp [Value.oneCell']) (by unfold maxLen; omega) (by omega) hw1 ?_
       intro v' w' o1 o2 o3 o4
       have hv1:=hT.size
       refine ⟨?_,⟨by simpa [rowAt] using o2,fun _ => o3,fun h => h.kept o2 (own_ne h hT.oe (by decide)),fun h => h.kept o2 (own_ne h hT.oe (by decide))⟩,rfl⟩
       simp only [RegRel.upd,if_true,Act.put,Sp1,Sp2,Sp3,Sp4,Sp5,Sp6,Array.getD_eq_getD_getElem?,List.getElem?_toArray,List.getElem?_cons_succ,List.getElem?_cons_zero,Option.getD_some]
       exact ⟨o1,o4.imp id fun h k hk => Nat.le_trans hv1 (h k hk)⟩
      ·rintro vs v1 - hT
       refine ⟨_,_,rfl,rfl,?_⟩
       clear hS
       simp only [RegRel.fillT,List.foldl_cons,List.foldl_nil,Sp4,Sp5,Sp6]
       go_simp
       first | exact ⟨rfl,(AK.quiet (grown_refl _ _) 4 9 14 w.heap.size 28 5 ev kk X1 zv kk X2 nv kk X3 _),rfl⟩ | exact ⟨rfl,(AK.quiet (grown_refl _ _) 4 9 14 w.heap.size 28 5 ev kk X1 zv kk X2 nv kk X3 _)⟩ | trace_state
      ·rintro vs v1 ⟨h5,-⟩ hT
       refine ⟨_,_,rfl,rfl,?_⟩
       clear hS
       try dsimp only at h5
       simp only [RegRel.fillT,List.foldl_cons,List.foldl_nil,Sp4,Sp5,Sp6]
       try simp only [h5]
       try clear h5
       obtain ⟨f0,f1,ff,fz⟩:=(hT.bx JE JZ JN JF (by decide) (by decide)).two
       go_simp
       first | exact ⟨rfl,(AK.quiet (grown_refl _ _) 4 9 14 w.heap.size 28 5 ev kk X1 zv kk X2 nv kk X3 _),rfl⟩ | exact ⟨rfl,(AK.quiet (grown_refl _ _) 4 9 14 w.heap.size 28 5 ev kk X1 zv kk X2 nv kk X3 _)⟩ | trace_state
      ·rintro vs v1 - hT
       refine ⟨_,_,rfl,rfl,?_⟩
       clear hS
       simp only [RegRel.fillT,List.foldl_cons,List.foldl_nil,Sp4,Sp5,Sp6]
       go_simp
       first | exact ⟨rfl,(AK.quiet (grown_refl _ _) 4 9 14 w.heap.size 28 5 ev kk X1 zv kk X2 nv kk X3 _),rfl⟩ | exact ⟨rfl,(AK.quiet (grown_refl _ _) 4 9 14 w.heap.size 28 5 ev kk X1 zv kk X2 nv kk X3 _)⟩ | trace_state
      ·rintro vs v1 ⟨h7,-⟩ hT
       refine ⟨_,_,rfl,rfl,?_⟩
       clear hS
       try dsimp only at h7
       simp only [RegRel.fillT,List.foldl_cons,List.foldl_nil,Sp4,Sp5,Sp6]
       try simp only [h7]
       try clear h7
       go_simp
       first | exact ⟨⟨_,rfl,hT.size,Bx.new _ _ _⟩,(AK.quiet (grown_alloc (grown_refl _ _) _) 4 9 14 w.heap.size 28 5 ev kk X1 zv kk X2 nv kk X3 _),rfl⟩ | exact ⟨⟨_,rfl,hT.size,Bx.new _ _ _⟩,(AK.quiet (grown_alloc (grown_refl _ _) _) 4 9 14 w.heap.size 28 5 ev kk X1 zv kk X2 nv kk X3 _)⟩ | trace_state
      ·rintro vs v1 ⟨⟨q3,h3,hq3,hb3⟩,⟨h4,ha4⟩,h5,h6,h7,⟨q8,h8,hq8,hb8⟩,-⟩ hT
       refine ⟨_,_,rfl,rfl,?_⟩
       clear hS
       try dsimp only at h3 h4 h5 h6 h7 h8
       simp only [RegRel.fillT,List.foldl_cons,List.foldl_nil,Sp4,Sp5,Sp6]
       try simp only [h3,h4,h5,h6,h7,h8]
       try clear h3 h4 h5 h6 h7 h8
       have hw1 : w.heap.size ≤ v1.heap.size:=Nat.le_trans hwU hT.size
       refine wp_app2 (.tmp 93) (.tmp 95) 29 rfl w.heap.size 3 i3 _ 1 8 Try.underlying29 hi3 hz3 hs3 iy3 rfl (by decide) zv kk X2 (by simp [Act.eval]) hT.oz ⟨q8,0,none⟩ 1 1 [.int .i64 (z + d)] (by simp [Act.eval]) rfl (bx_news hb8) (by simp [Value.oneCell']) (by unfold maxLen; omega) (by omega) hw1 ?_
       intro v' w' o1 o2 o3 o4
       have hv1:=hT.size
       refine ⟨?_,⟨by simpa [rowAt] using o2,fun h => h.kept o2 (own_ne h hT.oz (by decide)),fun _ => o3,fun h => h.kept o2 (apart_symm JA)⟩,rfl⟩
       simp only [RegRel.upd,if_true,Act.put,Sp1,Sp2,Sp3,Sp4,Sp5,Sp6,Array.getD_eq_getD_getElem?,List.getElem?_toArray,List.getElem?_cons_succ,List.getElem?_cons_zero,Option.getD_some]
       exact ⟨o1,o4.imp id fun h k hk => Nat.le_trans hv1 (h k hk)⟩
      ·rintro vs v1 - hT
       refine ⟨_,_,rfl,rfl,?_⟩
       clear hS
       simp only [RegRel.fillT,List.foldl_cons,List.foldl_nil,Sp4,Sp5,Sp6]
       go_simp
       first | exact ⟨rfl,(AK.quiet (grown_refl _ _) 4 9 14 w.heap.size 28 5 ev kk X1 zv kk X2 nv kk X3 _),rfl⟩ | exact ⟨rfl,(AK.quiet (grown_refl _ _) 4 9 14 w.heap.size 28 5 ev kk X1 zv kk X2 nv kk X3 _)⟩ | trace_state
      ·rintro vs v1 ⟨h12,-⟩ hT
       refine ⟨_,_,rfl,rfl,?_⟩
       clear hS
       try dsimp only at h12
       simp only [RegRel.fillT,List.foldl_cons,List.foldl_nil,Sp4,Sp5,Sp6]
       try simp only [h12]
       try clear h12
       go_simp
       first | exact ⟨⟨_,rfl,hT.size,Bx.new _ _ _⟩,(AK.quiet (grown_alloc (grown_refl _ _) _) 4 9 14 w.heap.size 28 5 ev kk X1 zv kk X2 nv kk X3 _),rfl⟩ | exact ⟨⟨_,rfl,hT.size,Bx.new _ _ _⟩,(AK.quiet (grown_alloc (grown_refl _ _) _) 4 9 14 w.heap.size 28 5 ev kk X1 zv kk X2 nv kk X3 _)⟩ | trace_state
      ·rintro vs v1 ⟨⟨q3,h3,hq3,hb3⟩,⟨h4,ha4⟩,h5,h6,h7,⟨q8,h8,hq8,hb8⟩,⟨h9,ha9⟩,h12,⟨q13,h13,hq13,hb13⟩,-⟩ hT
       refine ⟨_,_,rfl,rfl,?_⟩
       clear hS
       try dsimp only at h3 h4 h5 h6 h7 h8 h9 h12 h13
       simp only [RegRel.fillT,List.foldl_cons,List.foldl_nil,Sp4,Sp5,Sp6]
       simp only [h13]
       have hw1 : w.heap.size ≤ v1.heap.size:=Nat.le_trans hwU hT.size
       refine wp_app2 (.tmp 98) (.tmp 100) 29 rfl w.heap.size 3 i3 _ 1 8 Try.underlying29 hi3 hz3 hs3 iy3 rfl (by decide) nv kk X3 (by simp [Act.eval]) hT.on ⟨q13,0,none⟩ 1 1 [.int .i64 n] (by simp [Act.eval]) rfl (bx_news hb13) (by simp [Value.oneCell']) (by unfold maxLen; omega) (by omega) hw1 ?_
       intro v' w' o1 o2 o3 o4
       have hv1:=hT.size
       refine ⟨?_,⟨by simpa [rowAt] using o2,fun h => h.kept o2 (own_ne h hT.on (by decide)),fun h => h.kept o2 JA,fun _ => o3⟩,rfl⟩
       simp only [RegRel.upd,if_true,Act.put,Sp1,Sp2,Sp3,Sp4,Sp5,Sp6,Array.getD_eq_getD_getElem?,List.getElem?_toArray,List.getElem?_cons_succ,List.getElem?_cons_zero,Option.getD_some]
       refine ⟨o1,?_⟩
       rw [if_neg (by decide)]
       rcases o4 with o4 | o4
       ·rw [o4]; exact own_apart ha9 JA JN
       ·cases hv9 : (vs 9).ownBlock with
        | none => exact .inl rfl
        | some k => exact .inr fun e => by have:=o4 k e.symm; have:=h9.lt k hv9; omega
      ·rintro vs v1 ⟨⟨q3,h3,hq3,hb3⟩,⟨h4,ha4⟩,-⟩ hT
       refine ⟨_,_,rfl,rfl,?_⟩
       clear hS
       try dsimp only at h3 h4
       simp only [RegRel.fillT,List.foldl_cons,List.foldl_nil,Sp4,Sp5,Sp6]
       try simp only [h3,h4]
       try clear h3 h4
       go_simp
       first | exact ⟨rfl,(AK.quiet (grown_refl _ _) 4 9 14 w.heap.size 28 5 ev kk X1 zv kk X2 nv kk X3 _),rfl⟩ | exact ⟨rfl,(AK.quiet (grown_refl _ _) 4 9 14 w.heap.size 28 5 ev kk X1 zv kk X2 nv kk X3 _)⟩ | trace_state
     case hfin =>
      rintro vs v1 ⟨⟨q3,h3,hq3,hb3⟩,⟨h4,ha4⟩,h5,h6,h7,⟨q8,h8,hq8,hb8⟩,⟨h9,ha9⟩,h12,⟨q13,h13,hq13,hb13⟩,⟨h14,ha14⟩,h15,-⟩ hT
      clear hS
      try dsimp only at h3 h4 h5 h6 h7 h8 h9 h12 h13 h14 h15
      simp only [List.filter_cons,List.contains_cons,List.contains_nil,Nat.reduceBEq,Bool.or_false,Bool.not_false,if_true,List.filter_nil]
      simp only [RegRel.fillT,List.foldl_cons,List.foldl_nil,Sp4,Sp5,Sp6]
      simp only [h3,h5,h6,h7,h8,h12,h13,h15]
      clear h3 h5 h6 h7 h8 h12 h13 h15 hb3 hb8 hb13 hq3 hq8 hq13
      generalize vs 4 = ev2 at *
      generalize vs 9 = zv2 at *
      generalize vs 14 = nv2 at *
      obtain ⟨A4,C4,rfl⟩:=own_shape h4
      obtain ⟨A9,C9,rfl⟩:=own_shape h9
      obtain ⟨A14,C14,rfl⟩:=own_shape h14
      have BL:=hT.bx JE JZ JN JL (by decide) (by decide)
      have BF:=hT.bx JE JZ JN JF (by decide) (by decide)
      have B8:=hT.bx JE JZ JN HJ.out.k8 (by decide) (by decide)
      have B9:=hT.bx JE JZ JN HJ.out.k9 (by decide) (by decide)
      have FD : Fd g v1:=by obtain ⟨x,x1,x2,x3⟩:=HJ.out.fd; exact ⟨x,x1,x2,hT.bx JE JZ JN x3 (by decide) (by decide)⟩
      have GR:=hT.gr HJ.out.gr JE JZ JN
      have Hs3:=Lib.hid HJ.out.s3
      have Hmd:=HJ.out.md
      obtain ⟨l0,l1,l2,l3,lf,lz⟩:=BL.four
      obtain ⟨f0,f1,ff,fz⟩:=BF.two
      refine RegRel.wpOps_go rfl rfl ?_
      go_simp
      refine RegRel.wpOps_go rfl rfl ?_
      go_simp
      refine RegRel.wpOps_go rfl rfl ?_
      go_simp
      refine RegRel.wpOps_go rfl rfl ?_
      go_simp
      refine RegRel.wpOps_go rfl rfl ?_
      go_simp
      refine RegRel.wpOps_end ?_
      go_simp
      go_wp2_with fail
      have nL4:=own_bx h4 BL (by decide)
      have nF4:=own_bx h4 BF (by decide)
      have nL9:=own_bx h9 BL (by decide)
      have nF9:=own_bx h9 BF (by decide)
      have nL14:=own_bx h14 BL (by decide)
      have nF14:=own_bx h14 BF (by decide)
      have hgw:=hbg
      go_roundw
      case rel =>
       refine ⟨st,z + d,i - 1,ts ++ [(⟨3,shows st n (z + d),0,c0,c1⟩,z + d,n)],.slice A4 (kk + 1) C4,.slice A9 (kk + 1) C9,.slice A14 (kk + 1) C14,by go_num,rfl,⟨by omega,?_,hs1,hs2,Hs3.out,.snoc ts z _ _ _ Hmd ⟨by simp,cr1,cr2,cr3,by omega,by omega,by simp,by simp,rfl⟩ (by dsimp only; omega) (by dsimp only; omega),?_,?_,?_,?_,?_,ha14,?_,?_,?_,?_⟩⟩
       ·rw [List.length_append,List.length_singleton]; push_cast; omega
       ·simpa using ((BL.set_ 3 (.slice A4 (kk + 1) C4)).far (p:=⟨w2.heap.size + 1,0,none⟩) (by simp) (.slice A9 (kk + 1) C9)).far (p:=⟨w2.heap.size + 1,1,none⟩) (by simp) (.slice A14 (kk + 1) C14)
       ·simpa using ((BF.far (p:=⟨w2.heap.size,3,none⟩) (by simp) (.slice A4 (kk + 1) C4)).set_ 0 (.slice A9 (kk + 1) C9)).set_ 1 (.slice A14 (kk + 1) C14)
       ·rw [List.length_append,List.length_singleton,HKK.out,es_snoc,HX.out.1]; exact own_set (own_set (own_set h4 nL4 _) nF4 _) nF4 _
       ·rw [List.length_append,List.length_singleton,HKK.out,zs_snoc,HX.out.2.1]; exact own_set (own_set (own_set h9 nL9 _) nF9 _) nF9 _
       ·rw [List.length_append,List.length_singleton,HKK.out,ns_snoc,HX.out.2.2]; exact own_set (own_set (own_set h14 nL14 _) nF14 _) nF14 _
       ·exact ((B8.far (by simp; omega) _).far (by simp; omega) _).far (by simp; omega) _
       ·exact ((B9.far (by simp; omega) _).far (by simp; omega) _).far (by simp; omega) _
       ·exact ((FD.far (by simp; omega) _).far (by simp; omega) _).far (by simp; omega) _
       ·exact grown_new (grown_new (grown_new GR (by omega) _) (by omega) _) (by omega) _
      case measure => simp [intOf]; omega
   ·obtain rfl : i = 0:=by omega
    have BL:=I.kL
    have BF:=I.kF
    have B8:=I.k8
    have B9:=I.k9
    have IE:=I.oe
    have IZ:=I.oz
    have IN:=I.on
    obtain ⟨A4,C4,rfl⟩:=own_shape IE
    obtain ⟨A9,C9,rfl⟩:=own_shape IZ
    obtain ⟨A14,C14,rfl⟩:=own_shape IN
    have HS3:=Lib.hid I.s3
    have HMD:=Lib.hid I.md
    have HAP:=Lib.hid I.ap
    have HFD:=Lib.hid I.fd
    have HGR:=Lib.hid I.gr
    clear I
    obtain ⟨l0,l1,l2,l3,lf,lz⟩:=BL.four
    obtain ⟨f0,f1,ff,fz⟩:=BF.two
    obtain ⟨g0,g1,g2,g3,gf,gz⟩:=B8.four
    obtain ⟨k0,k1,kf,kz⟩:=B9.two
    go_wp2_with fail
    refine AnyG.start (fun w' : World => Bx w' w2.heap.size 26 #[.int .i64 st,.int .i64 z0,.int .i64 z1,.slice A4 ts.length C4] ∧ Bx w' (w2.heap.size + 1) 32 #[.slice A9 ts.length C9,.slice A14 ts.length C14]) (fun i => i != 3) (by kernel_rfl) ?_
    have hS : (fun w' : World => Bx w' w2.heap.size 26 #[.int .i64 st,.int .i64 z0,.int .i64 z1,.slice A4 ts.length C4] ∧ Bx w' (w2.heap.size + 1) 32 #[.slice A9 ts.length C9,.slice A14 ts.length C14]) (World.drew _):=⟨BL.drew,BF.drew⟩
    refine AnyG.take (i:=0) (v:=?_) rfl (by kernel_rfl) (fun _ _ _ h => h) rfl ?_ hS ?_
    rotate_left
    ·(intro w' hSw; (try dsimp only at hSw); obtain ⟨l0,l1,l2,l3,lf,lz⟩:=hSw.1.four; go_simp; try with_reducible rfl)
    try simp only [Act.put,Sp1,Sp2,Sp3,Sp4,Sp5,Sp6]
    refine AnyG.take (i:=1) (v:=?_) rfl (by kernel_rfl) (fun _ _ _ h => h) rfl ?_ hS ?_
    rotate_left
    ·(intro w' hSw; (try dsimp only at hSw); obtain ⟨f0,f1,ff,fz⟩:=hSw.2.two; go_simp; try with_reducible rfl)
    try simp only [Act.put,Sp1,Sp2,Sp3,Sp4,Sp5,Sp6]
    clear hS
    refine AnyG.one (i:=2) (by kernel_rfl) rfl rfl ?_
    go_simp
    refine Onward.on ⟨(((BL.drew.far (by simp; omega) _).far (by simp; omega) _).far (by simp; omega) _).far (by simp; omega) _,(((BF.drew.far (by simp; omega) _).far (by simp; omega) _).far (by simp; omega) _).far (by simp; omega) _⟩ (fun hS => ?_)
    clear hS
    try simp only [Act.put,Sp4,Sp5,Sp6]
    refine AnyG.one (i:=3) (by kernel_rfl) rfl rfl ?_
    go_simp
    refine Onward.last rfl ?_
    try simp only [Act.put,Sp4,Sp5,Sp6]
    refine AnyG.done (by kernel_rfl) ?_ _
    go_simp
    go_wp2_with fail
    have nE8:=own_bx IE B8 (by decide)
    have nE9:=own_bx IE B9 (by decide)
    have nZ8:=own_bx IZ B8 (by decide)
    have nZ9:=own_bx IZ B9 (by decide)
    have nN8:=own_bx IN B8 (by decide)
    have nN9:=own_bx IN B9 (by decide)
    refine bodyPost_ret (v:=.tuple #[.agg #[.int .i64 st,.int .i64 z0,.int .i64 z1,.slice A4 ts.length C4],.agg #[.slice A9 ts.length C9,.slice A14 ts.length C14]]) (results_two (g:=w.heap.size) (k:=w.heap.size + 1) (t:=26) (u:=32) rfl rfl rfl ?_ ?_ Try.underlying26 rfl (by kernel_rfl) Try.underlying32 rfl (by kernel_rfl)) rfl ⟨st,z0,z1,ts,z,_,_,_,rfl,⟨hs1,hs2,(by first | exact HS3.out | exact fun _ => HS3.out trivial),by omega,by omega,by omega⟩,HMD.out,by omega,?_,?_,?_,HAP.out,?_,?_⟩
    ·simpa using ((((((B8.set_ 0 (.int .i64 st)).set_ 1 (.int .i64 z0)).set_ 2 (.int .i64 z1)).set_ 3 (.slice A4 ts.length C4)).far (p:=⟨w.heap.size + 1,0,none⟩) (by simp) (.slice A9 ts.length C9)).far (p:=⟨w.heap.size + 1,1,none⟩) (by simp) (.slice A14 ts.length C14)).drew
    ·simpa using ((((((B9.far (p:=⟨w.heap.size,0,none⟩) (by simp) (.int .i64 st)).far (p:=⟨w.heap.size,1,none⟩) (by simp) (.int .i64 z0)).far (p:=⟨w.heap.size,2,none⟩) (by simp) (.int .i64 z1)).far (p:=⟨w.heap.size,3,none⟩) (by simp) (.slice A4 ts.length C4)).set_ 0 (.slice A9 ts.length C9)).set_ 1 (.slice A14 ts.length C14)).drew
    ·exact (own_set (own_set (own_set (own_set (own_set (own_set IE nE8 _) nE8 _) nE8 _) nE8 _) nE9 _) nE9 _).drew
    ·exact (own_set (own_set (own_set (own_set (own_set (own_set IZ nZ8 _) nZ8 _) nZ8 _) nZ8 _) nZ9 _) nZ9 _).drew
    ·exact (own_set (own_set (own_set (own_set (own_set (own_set IN nN8 _) nN8 _) nN8 _) nN8 _) nN9 _) nN9 _).drew
    ·exact ((((((HFD.out.far (by simp; omega) _).far (by simp; omega) _).far (by simp; omega) _).far (by simp; omega) _).far (by simp; omega) _).far (by simp; omega) _).drew
    ·exact grown_trans (grown_new (grown_new (grown_new (grown_new (grown_new (grown_new HGR.out (by omega) _) (by omega) _) (by omega) _) (by omega) _) (by omega) _) (by omega) _) (grown_drew _ _)
 ·skip
  go_enter Try.func15,Try.ntmps15
  go_wp2_with (first
   | (go_at_call 49; refine (between_any g 1 20 _ HF.out (by omega) (by omega) (by omega) (by omega)).mono ?_; rintro e w1 ⟨⟨s0,rfl,s01,s02⟩,hfd,hg1⟩; have gr:=grown_trans HG.out hg1; have k8:=H8.out.grown hg1 (by simp; omega); have k9:=H9.out.grown hg1 (by simp; omega); clear hg1)
   | (go_at_call 40; first | (have _t:=stB; clear _t; refine (either_any g _ 2 _ (fun r => 3 ≤ r ∧ r ≤ 9) _ (hfd.alloc _) (Bx.new _ _ _) (by have:=hfd.lt; omega) (by omega) (by omega) (bx2 _ ⟨by omega,by omega⟩ ⟨by omega,by omega⟩)).mono ?_; rintro e w1 ⟨⟨zb,rfl,zb1,zb2⟩,hfd1,hg1⟩; replace gr:=grown_trans (grown_alloc gr _) hg1; replace k8:=(k8.alloc _).grown hg1 (by simp; omega); replace k9:=(k9.alloc _).grown hg1 (by simp; omega); clear hg1 hfd; have hfd:=hfd1; clear hfd1; have stC:=True.intro) | (have _t:=stA; clear _t; refine (either_any g _ 2 _ (fun r => 2 ≤ r ∧ r ≤ 9) _ (hfd.alloc _) (Bx.new _ _ _) (by have:=hfd.lt; omega) (by omega) (by omega) (bx2 _ ⟨by omega,by omega⟩ ⟨by omega,by omega⟩)).mono ?_; rintro e w1 ⟨⟨za,rfl,za1,za2⟩,hfd1,hg1⟩; replace gr:=grown_trans (grown_alloc gr _) hg1; replace k8:=(k8.alloc _).grown hg1 (by simp; omega); replace k9:=(k9.alloc _).grown hg1 (by simp; omega); clear hg1 hfd; have hfd:=hfd1; clear hfd1; have stB:=True.intro) | (refine (either_any g _ 5 _ (fun r => 1 ≤ r ∧ r ≤ 20) _ (hfd.alloc _) (Bx.new _ _ _) (by have:=hfd.lt; omega) (by omega) (by omega) (bx5 _ ⟨by omega,by omega⟩ ⟨by omega,by omega⟩ ⟨by omega,by omega⟩ ⟨by omega,by omega⟩ ⟨by omega,by omega⟩)).mono ?_; rintro e w1 ⟨⟨st,rfl,st1,st2⟩,hfd1,hg1⟩; replace gr:=grown_trans (grown_alloc gr _) hg1; replace k8:=(k8.alloc _).grown hg1 (by simp; omega); replace k9:=(k9.alloc _).grown hg1 (by simp; omega); clear hg1 hfd; have hfd:=hfd1; clear hfd1; have stA:=True.intro))
   | (go_at_call 27; refine (range_any g _ _ _ hfd (by omega) (by omega) (by omega)).mono ?_; rintro e w2 ⟨⟨z0,z1,rfl,zr1,zr2,zr3⟩,hfd2,hg2⟩; replace gr:=grown_trans gr hg2; replace k8:=k8.grown hg2 (by simp; omega); replace k9:=k9.grown hg2 (by simp; omega); clear hg2 hfd; have hfd:=hfd2; clear hfd2; have kL:=Bx.new w2 26 #[.int .i64 st,.int .i64 z0,.int .i64 z1,.slice none 0 0]; obtain ⟨l0,l1,l2,l3,lf,lz⟩:=kL.four)
   | fail)
  refine (in_any g z0 z1 _ ((hfd.alloc _).alloc _) (by omega) (by omega) (by omega)).mono ?_
  rintro e w3 ⟨⟨z,rfl,zz1,zz2⟩,hfd3,hg3⟩
  have hw2:=k9.lt
  replace gr:=grown_trans (grown_alloc (grown_alloc gr (.cells #[.int .i64 1,.int .i64 z0,.int .i64 z1,.slice none 0 0] 26)) (.cells #[.slice none 0 0,.slice none 0 0] 32)) hg3
  replace k8:=((k8.alloc (.cells #[.int .i64 1,.int .i64 z0,.int .i64 z1,.slice none 0 0] 26)).alloc (.cells #[.slice none 0 0,.slice none 0 0] 32)).grown hg3 (by simp; omega)
  replace k9:=((k9.alloc (.cells #[.int .i64 1,.int .i64 z0,.int .i64 z1,.slice none 0 0] 26)).alloc (.cells #[.slice none 0 0,.slice none 0 0] 32)).grown hg3 (by simp; omega)
  have hgl2:=hfd.lt
  have kL:=((Bx.new w2 26 #[.int .i64 1,.int .i64 z0,.int .i64 z1,.slice none 0 0]).alloc (.cells #[.slice none 0 0,.slice none 0 0] 32)).grown hg3 (by simp; omega)
  have kF:=(Bx.at (w2.alloc (.cells #[.int .i64 1,.int .i64 z0,.int .i64 z1,.slice none 0 0] 26)) 32 #[.slice none 0 0,.slice none 0 0] (n:=w2.heap.size + 1) (by simp)).grown hg3 (by simp; omega)
  clear hg3 hfd
  go_wp2_with (go_at_call 47; refine (below_any g _ _ hfd3 (by omega) (by omega)).mono ?_; rintro e w4 ⟨⟨i0,rfl,i01,i02⟩,hfd4,hg4⟩; replace gr:=grown_trans gr hg4; replace k8:=k8.grown hg4 (by simp; omega); replace k9:=k9.grown hg4 (by simp; omega); replace kL:=kL.grown hg4 (by simp; omega); replace kF:=kF.grown hg4 (by simp; omega); clear hg4 hfd3)
  have hbL : w.heap.size + 1 < w2.heap.size:=hw2
  have hbg : g < w.heap.size:=hgl
  go_loopw [12,13] (fun vz vi wr => ∃ (st z i : Int) (ts : List (Ev × Int × Int)) (ev zv nv : Value),vi = .int .i64 i ∧ vz = .int .i64 z ∧ LInv g m ld true z0 z1 w w2.heap.size (w2.heap.size + 1) st z i ts ev zv nv wr) (fun _ i _ => (intOf i).toNat)
  case atStart => exact ⟨1,z,i0,[],.slice none 0 0,.slice none 0 0,.slice none 0 0,rfl,rfl,⟨i01,by simp; omega,by omega,by omega,by simp,.nil z zz1 zz2,kL,kF,World.ownsRow_nil _ _ _ _,World.ownsRow_nil _ _ _ _,World.ownsRow_nil _ _ _ _,.inl rfl,k8,k9,hfd4,gr⟩⟩
  case round =>
   clear kL kF k8 k9 gr hfd4 zz1 zz2 i01 i02
   obtain ⟨st,z,i,ts,ev,zv,nv,rfl,rfl,I⟩:=hrel
   have hidI:=Lib.hid I
   have i0':=I.i0
   have hzb:=I.md.bd (by omega) (by omega)
   have him:=I.im
   have hs1:=I.s1
   have hs2:=I.s2
   by_cases hi : 0 < i
   ·have ht : FT g wr wr:=⟨grown_refl _ _,I.fd⟩
    clear I
    go_wp2_with fail
    refine (either_any g _ 5 _ (fun r => r = 1 ∨ r = 2 ∨ r = 3) _ (ht.alloc _).2 (Bx.new _ _ _) (by have:=ht.2.lt; omega) (by omega) (by omega) (bx5 _ (by omega) (by omega) (by omega) (by omega) (by omega))).mono ?_
    rintro e v1 ⟨⟨kd,rfl,hkd⟩,hf,hg⟩
    replace ht:=(ht.alloc _).call hg hf
    clear hg hf
    rcases hkd with rfl | rfl | rfl
    ·go_wp2_with (first
     | (go_at_call 40; first | (have _t:=sA; clear _t; refine (either_any g _ 2 _ (fun r => 1 ≤ r ∧ r ≤ 4) _ (ht.alloc _).2 (Bx.new _ _ _) (by have:=ht.2.lt; omega) (by omega) (by omega) (bx2 _ ⟨by omega,by omega⟩ ⟨by omega,by omega⟩)).mono ?_; rintro e v1 ⟨⟨cb,rfl,cb1,cb2⟩,hf,hg⟩; replace ht:=(ht.alloc _).call hg hf; clear hg hf; have sB:=True.intro) | (refine (either_any g _ 2 _ (fun r => 0 ≤ r ∧ r ≤ 3) _ (ht.alloc _).2 (Bx.new _ _ _) (by have:=ht.2.lt; omega) (by omega) (by omega) (bx2 _ ⟨by omega,by omega⟩ ⟨by omega,by omega⟩)).mono ?_; rintro e v1 ⟨⟨ca,rfl,ca1,ca2⟩,hf,hg⟩; replace ht:=(ht.alloc _).call hg hf; clear hg hf; have sA:=True.intro))
     | (go_at_call 27; refine (range_any g _ _ _ ht.2 (by omega) (by omega) (by omega)).mono ?_; rintro e v2 ⟨⟨x0,x1,rfl,xr1,xr2,xr3⟩,hf,hg⟩; replace ht:=ht.call hg hf; clear hg hf)
     | (go_at_call 55; refine (either2_pair g _ _ _ _ (fun p q => -3 ≤ p ∧ p ≤ q ∧ q ≤ 4) _ ht.2 ⟨by omega,by omega,by omega⟩ ⟨by omega,by omega,by omega⟩).mono ?_; rintro e v3 ⟨⟨c0,c1,rfl,cr1,cr2,cr3⟩,hf,hg⟩; replace ht:=ht.call hg hf; clear hg hf; have hv3:=ht.size; have hv3g:=ht.2.lt)
     | (go_at_call 42; have k14:=Bx.new v3 28 #[.int .i64 1,.int .i64 0,.int .i64 0,.int .i64 c0,.int .i64 c1]; refine (in_any g c0 c1 _ (ht.alloc _).2 (by omega) (by omega) (by omega)).mono ?_; rintro e v4 ⟨⟨d,rfl,d1,d2⟩,hf,hg⟩; replace k14:=k14.grown hg (by simp; omega); replace ht:=(ht.alloc _).call hg hf; clear hg hf; obtain ⟨e0,e1,e2,e3,e4,ef,ez⟩:=k14.five; have J:=hidI.out.ft ht hbg (by omega) (by omega); obtain ⟨l0,l1,l2,l3,lf,lz⟩:=J.kL.four)
     | (go_at_call 47; refine (below_any g _ _ ht.2 (by omega) (by omega)).mono ?_; rintro e v5 ⟨⟨n,rfl,n1,n2⟩,hf,hg⟩; replace k14:=k14.grown hg (by simp; omega); replace ht:=ht.call hg hf; clear hg hf e0 e1 e2 e3 e4 ef ez l0 l1 l2 l3 lf lz J; obtain ⟨e0,e1,e2,e3,e4,ef,ez⟩:=k14.five; have J:=hidI.out.ft ht hbg (by omega) (by omega); obtain ⟨l0,l1,l2,l3,lf,lz⟩:=J.kL.four)
     | (go_at_call 56; refine (shows_any _ _ _ _ (by omega) (by omega) (by omega) (by omega) (by omega) (by omega)).mono ?_; rintro e v6 ⟨rfl,rfl⟩)
     | fail)
     replace ht:=ht.set_ hv3 (by omega) 1 (.int .i64 (shows st 0 (z + d)))
     replace k14:=k14.set_ 1 (.int .i64 (shows st 0 (z + d)))
     have KE : Bx (World.setCell v4 ⟨v3.heap.size,1,none⟩ (.int .i64 (shows st 0 (z + d)))) v3.heap.size 28 #[.int .i64 1,.int .i64 (shows st 0 (z + d)),.int .i64 0,.int .i64 c0,.int .i64 c1]:=by simpa using k14
     have htU:=ht
     obtain ⟨U,hU⟩ : ∃ U,(World.setCell v4 ⟨v3.heap.size,1,none⟩ (.int .i64 (shows st 0 (z + d)))) = U:=⟨_,rfl⟩
     rw [hU] at htU KE ⊢
     clear hU ht J k14 e0 e1 e2 e3 e4 ef ez l0 l1 l2 l3 lf lz
     have J:=hidI.out.ft htU hbg (by omega) (by omega)
     obtain ⟨kk,hkk⟩ : ∃ k,ts.length = k:=⟨_,rfl⟩
     have JE:=J.oe
     have JZ:=J.oz
     have JN:=J.on
     have JA:=J.ap
     have JL:=J.kL
     have JF:=J.kF
     have hneE : some v3.heap.size ≠ ev.ownBlock:=fun e => (by have:=hidI.out.oe.lt _ e.symm; omega)
     rw [hkk] at JE JZ JN
     obtain ⟨X1,hX1⟩ : ∃ X,((evsOf ts).map Ev.cells).flatten = X:=⟨_,rfl⟩
     obtain ⟨X2,hX2⟩ : ∃ X,(ints (ts.map (·.2.1))).flatten = X:=⟨_,rfl⟩
     obtain ⟨X3,hX3⟩ : ∃ X,(ints (ts.map (·.2.2))).flatten = X:=⟨_,rfl⟩
     rw [hX1] at JE
     rw [hX2] at JZ
     rw [hX3] at JN
     have HX:=Lib.hid (And.intro hX1 (And.intro hX2 hX3))
     have HKK:=Lib.hid hkk
     have hkm : kk ≤ 14:=by omega
     clear hX1 hX2 hX3 hkk
     have hwU : w.heap.size ≤ U.heap.size:=J.gr.size
     have HJ:=Lib.hid J
     clear J
     obtain ⟨i28,hi28,hz28,hs28,iy28⟩:=info_parts info28
     obtain ⟨i3,hi3,hz3,hs3,iy3⟩:=info_parts info3'
     refine AnyG.start (AT w.heap.size U 28 5 ev kk X1 zv kk X2 nv kk X3) (fun i => i != 16 && i != 17 && i != 18 && i != 19 && i != 20) (by kernel_rfl) ?_
     have hS : (AT w.heap.size U 28 5 ev kk X1 zv kk X2 nv kk X3) (World.drew _):=AT.start JE JZ JN
     refine AnyG.take (i:=0) (v:=?_) rfl (by kernel_rfl) (fun _ _ _ h => h) rfl ?_ hS ?_
     rotate_left
     ·(intro w' _; go_simp; try with_reducible rfl)
     try simp only [Act.put,Sp1,Sp2,Sp3,Sp4,Sp5,Sp6]
     refine AnyG.take (i:=1) (v:=?_) rfl (by kernel_rfl) (fun _ _ _ h => h) rfl ?_ hS ?_
     rotate_left
     ·(intro w' hSw; (try dsimp only at hSw); obtain ⟨l0,l1,l2,l3,lf,lz⟩:=(hSw.bx JE JZ JN JL (by decide) (by decide)).four; go_simp; try with_reducible rfl)
     try simp only [Act.put,Sp1,Sp2,Sp3,Sp4,Sp5,Sp6]
     refine AnyG.take (i:=2) (v:=?_) rfl (by kernel_rfl) (fun _ _ _ h => h) rfl ?_ hS ?_
     rotate_left
     ·(intro w' hSw; (try dsimp only at hSw); obtain ⟨e0,e1,e2,e3,e4,ef,ez⟩:=Bx.five (show Bx w' v3.heap.size 28 #[.int .i64 1,.int .i64 (shows st 0 (z + d)),.int .i64 0,.int .i64 c0,.int .i64 c1] from (hSw.block _ KE.lt hneE (own_bx JZ KE (by decide)) (own_bx JN KE (by decide))).trans KE); go_simp; try with_reducible rfl)
     try simp only [Act.put,Sp1,Sp2,Sp3,Sp4,Sp5,Sp6]
     refine AnyG.take (i:=10) (v:=?_) rfl (by kernel_rfl) (fun _ _ _ h => h) rfl ?_ hS ?_
     rotate_left
     ·(intro w' _; go_simp; try with_reducible rfl)
     try simp only [Act.put,Sp1,Sp2,Sp3,Sp4,Sp5,Sp6]
     refine AnyG.take (i:=11) (v:=?_) rfl (by kernel_rfl) (fun _ _ _ h => h) rfl ?_ hS ?_
     rotate_left
     ·(intro w' hSw; (try dsimp only at hSw); obtain ⟨f0,f1,ff,fz⟩:=(hSw.bx JE JZ JN JF (by decide) (by decide)).two; go_simp; try with_reducible rfl)
     try simp only [Act.put,Sp1,Sp2,Sp3,Sp4,Sp5,Sp6]
     refine RegRel.AnyG.rel3 [0,1,2,10,11] [16,17,18,19,20] [[],[],[],[],[3],[],[5],[],[7],[3,4,5,6,7,8],[],[],[],[12],[3,4,5,6,7,8,9,12,13],[3,4],[3,4,5,6,7,8,9,12,13,14,15],[3,4,5,6,7,8,9,12,13,14,15,16],[3,4,5,6,7,8,9,12,13,14,15,16,17],[3,4,5,6,7,8,9,12,13,14,15,16,17,18],[3,4,5,6,7,8,9,12,13,14,15,16,17,18,19]] [(90,3),(91,4),(92,5),(93,6),(94,7),(95,8),(96,9),(99,12),(100,13),(101,14),(102,15),(103,17),(104,19)] (AT w.heap.size U 28 5 ev kk X1 zv kk X2 nv kk X3) (AK 4 9 14 w.heap.size 28 5 ev kk X1 zv kk X2 nv kk X3) [(3,fun vs w1 => ∃ q0,vs 3 = .slice (some ⟨q0,0,none⟩) 1 1 ∧ U.heap.size ≤ q0 ∧ Bx w1 q0 28 #[.int .i64 1,.int .i64 (shows st 0 (z + d)),.int .i64 0,.int .i64 c0,.int .i64 c1]),(4,fun vs w1 => w1.ownsRow w.heap.size 28 5 (vs 4) (kk + 1) (X1 ++ [.int .i64 1,.int .i64 (shows st 0 (z + d)),.int .i64 0,.int .i64 c0,.int .i64 c1]) ∧ ((vs 4).ownBlock = ev.ownBlock ∨ ∀ k,(vs 4).ownBlock = some k → U.heap.size ≤ k)),(5,fun vs w1 => vs 5 = .pointer (some ⟨w2.heap.size + 1,0,none⟩)),(6,fun vs w1 => vs 6 = zv),(7,fun vs w1 => vs 7 = .int .i64 (z + d)),(8,fun vs w1 => ∃ q0,vs 8 = .slice (some ⟨q0,0,none⟩) 1 1 ∧ U.heap.size ≤ q0 ∧ Bx w1 q0 3 #[.int .i64 (z + d)]),(9,fun vs w1 => w1.ownsRow w.heap.size 3 1 (vs 9) (kk + 1) (X2 ++ [.int .i64 (z + d)]) ∧ ((vs 9).ownBlock = zv.ownBlock ∨ ∀ k,(vs 9).ownBlock = some k → U.heap.size ≤ k)),(12,fun vs w1 => vs 12 = .int .i64 0),(13,fun vs w1 => ∃ q0,vs 13 = .slice (some ⟨q0,0,none⟩) 1 1 ∧ U.heap.size ≤ q0 ∧ Bx w1 q0 3 #[.int .i64 0]),(14,fun vs w1 => w1.ownsRow w.heap.size 3 1 (vs 14) (kk + 1) (X3 ++ [.int .i64 0]) ∧ ((vs 9).ownBlock = none ∨ (vs 9).ownBlock ≠ (vs 14).ownBlock)),(15,fun vs w1 => vs 15 = .pointer (some ⟨w2.heap.size,3,none⟩))]
      (by kernel_rfl) (by kernel_rfl) (by kernel_rfl) (by decide) (by decide) hS (fun _ h => h) (fun _ _ _ h k => h.step k) ?hst ?hcg ?hstep ?hfin
     case hst => exact ⟨fun j vs w1 w2 hjd hjz hjp hji h ht hk => (by obtain ⟨q0,g1,g2,g3⟩:=h; exact ⟨q0,g1,g2,hk.fresh JE JZ JN g3 g2⟩),fun j vs w1 w2 hjd hjz hjp hji h ht hk => ⟨h.1.kept hk.gr (by unfold rowAt; rw [if_neg hji]; split; exact own_ne h.1 ht.oz (by decide); split; exact own_ne h.1 ht.on (by decide); cases (vs 4).ownBlock <;> simp),h.2⟩,fun j vs w1 w2 hjd hjz hjp hji h ht hk => h,fun j vs w1 w2 hjd hjz hjp hji h ht hk => h,fun j vs w1 w2 hjd hjz hjp hji h ht hk => h,fun j vs w1 w2 hjd hjz hjp hji h ht hk => (by obtain ⟨q0,g1,g2,g3⟩:=h; exact ⟨q0,g1,g2,hk.fresh JE JZ JN g3 g2⟩),fun j vs w1 w2 hjd hjz hjp hji h ht hk => ⟨h.1.kept hk.gr (by unfold rowAt; rw [if_neg (fun e => hjp (by rw [e]; simp)),if_neg hji]; split; exact own_apart h.2 JA JN; cases (vs 9).ownBlock <;> simp),h.2⟩,fun j vs w1 w2 hjd hjz hjp hji h ht hk => h,fun j vs w1 w2 hjd hjz hjp hji h ht hk => (by obtain ⟨q0,g1,g2,g3⟩:=h; exact ⟨q0,g1,g2,hk.fresh JE JZ JN g3 g2⟩),fun j vs w1 w2 hjd hjz hjp hji h ht hk => ⟨h.1.kept hk.gr (by unfold rowAt; rw [if_neg (fun e => hjp (by rw [e]; simp)),if_neg (fun e => hjp (by rw [e]; simp)),if_neg hji]; cases (vs 14).ownBlock <;> simp),h.2⟩,fun j vs w1 w2 hjd hjz hjp hji h ht hk => h,trivial⟩
     case hcg => exact ⟨fun vs vs2 _ he h => (by dsimp only at h ⊢; rw [he 3 (by simp)]; exact h),fun vs vs2 _ he h => (by dsimp only at h ⊢; rw [he 4 (by simp)]; exact h),fun vs vs2 _ he h => (by dsimp only at h ⊢; rw [he 5 (by simp)]; exact h),fun vs vs2 _ he h => (by dsimp only at h ⊢; rw [he 6 (by simp)]; exact h),fun vs vs2 _ he h => (by dsimp only at h ⊢; rw [he 7 (by simp)]; exact h),fun vs vs2 _ he h => (by dsimp only at h ⊢; rw [he 8 (by simp)]; exact h),fun vs vs2 _ he h => (by dsimp only at h ⊢; rw [he 9 (by simp)]; exact h),fun vs vs2 _ he h => (by dsimp only at h ⊢; rw [he 12 (by simp)]; exact h),fun vs vs2 _ he h => (by dsimp only at h ⊢; rw [he 13 (by simp)]; exact h),fun vs vs2 _ he h => (by dsimp only at h ⊢; rw [he 9 (by simp),he 14 (by simp)]; exact h),fun vs vs2 _ he h => (by dsimp only at h ⊢; rw [he 15 (by simp)]; exact h),trivial⟩
     case hstep =>
      refine ⟨?_,?_,?_,?_,?_,?_,?_,?_,?_,?_,?_,trivial⟩
      ·rintro vs v1 - hT
       refine ⟨_,_,rfl,rfl,?_⟩
       clear hS
       simp only [RegRel.fillT,List.foldl_cons,List.foldl_nil,Sp4,Sp5,Sp6]
       go_simp
       first | exact ⟨⟨_,rfl,hT.size,Bx.new _ _ _⟩,(AK.quiet (grown_alloc (grown_refl _ _) _) 4 9 14 w.heap.size 28 5 ev kk X1 zv kk X2 nv kk X3 _),rfl⟩ | exact ⟨⟨_,rfl,hT.size,Bx.new _ _ _⟩,(AK.quiet (grown_alloc (grown_refl _ _) _) 4 9 14 w.heap.size 28 5 ev kk X1 zv kk X2 nv kk X3 _)⟩ | trace_state
      ·rintro vs v1 ⟨⟨q3,h3,hq3,hb3⟩,-⟩ hT
       refine ⟨_,_,rfl,rfl,?_⟩
       clear hS
       try dsimp only at h3
       simp only [RegRel.fillT,List.foldl_cons,List.foldl_nil,Sp4,Sp5,Sp6]
       try simp only [h3]
       try clear h3
       have hw1 : w.heap.size ≤ v1.heap.size:=Nat.le_trans hwU hT.size
       refine wp_app2 (.tmp 88) (.tmp 90) 24 rfl w.heap.size 28 i28 _ 5 40 Try.underlying24 hi28 hz28 hs28 iy28 rfl (by decide) ev kk X1 (by simp [Act.eval]) hT.oe ⟨q3,0,none⟩ 1 1 [.int .i64 1,.int .i64 (shows st 0 (z + d)),.int .i64 0,.int .i64 c0,.int .i64 c1] (by simp [Act.eval]) rfl (bx_news hb3) (by simp [Value.oneCell']) (by unfold maxLen; omega) (by omega) hw1 ?_
       intro v' w' o1 o2 o3 o4
       have hv1:=hT.size
       refine ⟨?_,⟨by simpa [rowAt] using o2,fun _ => o3,fun h => h.kept o2 (own_ne h hT.oe (by decide)),fun h => h.kept o2 (own_ne h hT.oe (by decide))⟩,rfl⟩
       simp only [RegRel.upd,if_true,Act.put,Sp1,Sp2,Sp3,Sp4,Sp5,Sp6,Array.getD_eq_getD_getElem?,List.getElem?_toArray,List.getElem?_cons_succ,List.getElem?_cons_zero,Option.getD_some]
       exact ⟨o1,o4.imp id fun h k hk => Nat.le_trans hv1 (h k hk)⟩
      ·rintro vs v1 - hT
       refine ⟨_,_,rfl,rfl,?_⟩
       clear hS
       simp only [RegRel.fillT,List.foldl_cons,List.foldl_nil,Sp4,Sp5,Sp6]
       go_simp
       first | exact ⟨rfl,(AK.quiet (grown_refl _ _) 4 9 14 w.heap.size 28 5 ev kk X1 zv kk X2 nv kk X3 _),rfl⟩ | exact ⟨rfl,(AK.quiet (grown_refl _ _) 4 9 14 w.heap.size 28 5 ev kk X1 zv kk X2 nv kk X3 _)⟩ | trace_state
      ·rintro vs v1 ⟨h5,-⟩ hT
       refine ⟨_,_,rfl,rfl,?_⟩
       clear hS
       try dsimp only at h5
       simp only [RegRel.fillT,List.foldl_cons,List.foldl_nil,Sp4,Sp5,Sp6]
       try simp only [h5]
       try clear h5
       obtain ⟨f0,f1,ff,fz⟩:=(hT.bx JE JZ JN JF (by decide) (by decide)).two
       go_simp
       first | exact ⟨rfl,(AK.quiet (grown_refl _ _) 4 9 14 w.heap.size 28 5 ev kk X1 zv kk X2 nv kk X3 _),rfl⟩ | exact ⟨rfl,(AK.quiet (grown_refl _ _) 4 9 14 w.heap.size 28 5 ev kk X1 zv kk X2 nv kk X3 _)⟩ | trace_state
      ·rintro vs v1 - hT
       refine ⟨_,_,rfl,rfl,?_⟩
       clear hS
       simp only [RegRel.fillT,List.foldl_cons,List.foldl_nil,Sp4,Sp5,Sp6]
       go_simp
       first | exact ⟨rfl,(AK.quiet (grown_refl _ _) 4 9 14 w.heap.size 28 5 ev kk X1 zv kk X2 nv kk X3 _),rfl⟩ | exact ⟨rfl,(AK.quiet (grown_refl _ _) 4 9 14 w.heap.size 28 5 ev kk X1 zv kk X2 nv kk X3 _)⟩ | trace_state
      ·rintro vs v1 ⟨h7,-⟩ hT
       refine ⟨_,_,rfl,rfl,?_⟩
       clear hS
       try dsimp only at h7
       simp only [RegRel.fillT,List.foldl_cons,List.foldl_nil,Sp4,Sp5,Sp6]
       try simp only [h7]
       try clear h7
       go_simp
       first | exact ⟨⟨_,rfl,hT.size,Bx.new _ _ _⟩,(AK.quiet (grown_alloc (grown_refl _ _) _) 4 9 14 w.heap.size 28 5 ev kk X1 zv kk X2 nv kk X3 _),rfl⟩ | exact ⟨⟨_,rfl,hT.size,Bx.new _ _ _⟩,(AK.quiet (grown_alloc (grown_refl _ _) _) 4 9 14 w.heap.size 28 5 ev kk X1 zv kk X2 nv kk X3 _)⟩ | trace_state
      ·rintro vs v1 ⟨⟨q3,h3,hq3,hb3⟩,⟨h4,ha4⟩,h5,h6,h7,⟨q8,h8,hq8,hb8⟩,-⟩ hT
       refine ⟨_,_,rfl,rfl,?_⟩
       clear hS
       try dsimp only at h3 h4 h5 h6 h7 h8
       simp only [RegRel.fillT,List.foldl_cons,List.foldl_nil,Sp4,Sp5,Sp6]
       try simp only [h3,h4,h5,h6,h7,h8]
       try clear h3 h4 h5 h6 h7 h8
       have hw1 : w.heap.size ≤ v1.heap.size:=Nat.le_trans hwU hT.size
       refine wp_app2 (.tmp 93) (.tmp 95) 29 rfl w.heap.size 3 i3 _ 1 8 Try.underlying29 hi3 hz3 hs3 iy3 rfl (by decide) zv kk X2 (by simp [Act.eval]) hT.oz ⟨q8,0,none⟩ 1 1 [.int .i64 (z + d)] (by simp [Act.eval]) rfl (bx_news hb8) (by simp [Value.oneCell']) (by unfold maxLen; omega) (by omega) hw1 ?_
       intro v' w' o1 o2 o3 o4
       have hv1:=hT.size
       refine ⟨?_,⟨by simpa [rowAt] using o2,fun h => h.kept o2 (own_ne h hT.oz (by decide)),fun _ => o3,fun h => h.kept o2 (apart_symm JA)⟩,rfl⟩
       simp only [RegRel.upd,if_true,Act.put,Sp1,Sp2,Sp3,Sp4,Sp5,Sp6,Array.getD_eq_getD_getElem?,List.getElem?_toArray,List.getElem?_cons_succ,List.getElem?_cons_zero,Option.getD_some]
       exact ⟨o1,o4.imp id fun h k hk => Nat.le_trans hv1 (h k hk)⟩
      ·rintro vs v1 - hT
       refine ⟨_,_,rfl,rfl,?_⟩
       clear hS
       simp only [RegRel.fillT,List.foldl_cons,List.foldl_nil,Sp4,Sp5,Sp6]
       go_simp
       first | exact ⟨rfl,(AK.quiet (grown_refl _ _) 4 9 14 w.heap.size 28 5 ev kk X1 zv kk X2 nv kk X3 _),rfl⟩ | exact ⟨rfl,(AK.quiet (grown_refl _ _) 4 9 14 w.heap.size 28 5 ev kk X1 zv kk X2 nv kk X3 _)⟩ | trace_state
      ·rintro vs v1 ⟨h12,-⟩ hT
       refine ⟨_,_,rfl,rfl,?_⟩
       clear hS
       try dsimp only at h12
       simp only [RegRel.fillT,List.foldl_cons,List.foldl_nil,Sp4,Sp5,Sp6]
       try simp only [h12]
       try clear h12
       go_simp
       first | exact ⟨⟨_,rfl,hT.size,Bx.new _ _ _⟩,(AK.quiet (grown_alloc (grown_refl _ _) _) 4 9 14 w.heap.size 28 5 ev kk X1 zv kk X2 nv kk X3 _),rfl⟩ | exact ⟨⟨_,rfl,hT.size,Bx.new _ _ _⟩,(AK.quiet (grown_alloc (grown_refl _ _) _) 4 9 14 w.heap.size 28 5 ev kk X1 zv kk X2 nv kk X3 _)⟩ | trace_state
      ·rintro vs v1 ⟨⟨q3,h3,hq3,hb3⟩,⟨h4,ha4⟩,h5,h6,h7,⟨q8,h8,hq8,hb8⟩,⟨h9,ha9⟩,h12,⟨q13,h13,hq13,hb13⟩,-⟩ hT
       refine ⟨_,_,rfl,rfl,?_⟩
       clear hS
       try dsimp only at h3 h4 h5 h6 h7 h8 h9 h12 h13
       simp only [RegRel.fillT,List.foldl_cons,List.foldl_nil,Sp4,Sp5,Sp6]
       simp only [h13]
       have hw1 : w.heap.size ≤ v1.heap.size:=Nat.le_trans hwU hT.size
       refine wp_app2 (.tmp 98) (.tmp 100) 29 rfl w.heap.size 3 i3 _ 1 8 Try.underlying29 hi3 hz3 hs3 iy3 rfl (by decide) nv kk X3 (by simp [Act.eval]) hT.on ⟨q13,0,none⟩ 1 1 [.int .i64 0] (by simp [Act.eval]) rfl (bx_news hb13) (by simp [Value.oneCell']) (by unfold maxLen; omega) (by omega) hw1 ?_
       intro v' w' o1 o2 o3 o4
       have hv1:=hT.size
       refine ⟨?_,⟨by simpa [rowAt] using o2,fun h => h.kept o2 (own_ne h hT.on (by decide)),fun h => h.kept o2 JA,fun _ => o3⟩,rfl⟩
       simp only [RegRel.upd,if_true,Act.put,Sp1,Sp2,Sp3,Sp4,Sp5,Sp6,Array.getD_eq_getD_getElem?,List.getElem?_toArray,List.getElem?_cons_succ,List.getElem?_cons_zero,Option.getD_some]
       refine ⟨o1,?_⟩
       rw [if_neg (by decide)]
       rcases o4 with o4 | o4
       ·rw [o4]; exact own_apart ha9 JA JN
       ·cases hv9 : (vs 9).ownBlock with
        | none => exact .inl rfl
        | some k => exact .inr fun e => by have:=o4 k e.symm; have:=h9.lt k hv9; omega
      ·rintro vs v1 ⟨⟨q3,h3,hq3,hb3⟩,⟨h4,ha4⟩,-⟩ hT
       refine ⟨_,_,rfl,rfl,?_⟩
       clear hS
       try dsimp only at h3 h4
       simp only [RegRel.fillT,List.foldl_cons,List.foldl_nil,Sp4,Sp5,Sp6]
       try simp only [h3,h4]
       try clear h3 h4
       go_simp
       first | exact ⟨rfl,(AK.quiet (grown_refl _ _) 4 9 14 w.heap.size 28 5 ev kk X1 zv kk X2 nv kk X3 _),rfl⟩ | exact ⟨rfl,(AK.quiet (grown_refl _ _) 4 9 14 w.heap.size 28 5 ev kk X1 zv kk X2 nv kk X3 _)⟩ | trace_state
     case hfin =>
      rintro vs v1 ⟨⟨q3,h3,hq3,hb3⟩,⟨h4,ha4⟩,h5,h6,h7,⟨q8,h8,hq8,hb8⟩,⟨h9,ha9⟩,h12,⟨q13,h13,hq13,hb13⟩,⟨h14,ha14⟩,h15,-⟩ hT
      clear hS
      try dsimp only at h3 h4 h5 h6 h7 h8 h9 h12 h13 h14 h15
      simp only [List.filter_cons,List.contains_cons,List.contains_nil,Nat.reduceBEq,Bool.or_false,Bool.not_false,if_true,List.filter_nil]
      simp only [RegRel.fillT,List.foldl_cons,List.foldl_nil,Sp4,Sp5,Sp6]
      simp only [h3,h5,h6,h7,h8,h12,h13,h15]
      clear h3 h5 h6 h7 h8 h12 h13 h15 hb3 hb8 hb13 hq3 hq8 hq13
      generalize vs 4 = ev2 at *
      generalize vs 9 = zv2 at *
      generalize vs 14 = nv2 at *
      obtain ⟨A4,C4,rfl⟩:=own_shape h4
      obtain ⟨A9,C9,rfl⟩:=own_shape h9
      obtain ⟨A14,C14,rfl⟩:=own_shape h14
      have BL:=hT.bx JE JZ JN JL (by decide) (by decide)
      have BF:=hT.bx JE JZ JN JF (by decide) (by decide)
      have B8:=hT.bx JE JZ JN HJ.out.k8 (by decide) (by decide)
      have B9:=hT.bx JE JZ JN HJ.out.k9 (by decide) (by decide)
      have FD : Fd g v1:=by obtain ⟨x,x1,x2,x3⟩:=HJ.out.fd; exact ⟨x,x1,x2,hT.bx JE JZ JN x3 (by decide) (by decide)⟩
      have GR:=hT.gr HJ.out.gr JE JZ JN
      have Hs3:=Lib.hid HJ.out.s3
      have Hmd:=HJ.out.md
      obtain ⟨l0,l1,l2,l3,lf,lz⟩:=BL.four
      obtain ⟨f0,f1,ff,fz⟩:=BF.two
      refine RegRel.wpOps_go rfl rfl ?_
      go_simp
      refine RegRel.wpOps_go rfl rfl ?_
      go_simp
      refine RegRel.wpOps_go rfl rfl ?_
      go_simp
      refine RegRel.wpOps_go rfl rfl ?_
      go_simp
      refine RegRel.wpOps_go rfl rfl ?_
      go_simp
      refine RegRel.wpOps_end ?_
      go_simp
      go_wp2_with fail
      have nL4:=own_bx h4 BL (by decide)
      have nF4:=own_bx h4 BF (by decide)
      have nL9:=own_bx h9 BL (by decide)
      have nF9:=own_bx h9 BF (by decide)
      have nL14:=own_bx h14 BL (by decide)
      have nF14:=own_bx h14 BF (by decide)
      have hgw:=hbg
      go_roundw
      case rel =>
       refine ⟨st,z + d,i - 1,ts ++ [(⟨1,shows st 0 (z + d),0,c0,c1⟩,z + d,0)],.slice A4 (kk + 1) C4,.slice A9 (kk + 1) C9,.slice A14 (kk + 1) C14,by go_num,rfl,⟨by omega,?_,hs1,hs2,Hs3.out,.snoc ts z _ _ _ Hmd ⟨by simp,cr1,cr2,cr3,by omega,by omega,by simp,by simp,rfl⟩ (by dsimp only; omega) (by dsimp only; omega),?_,?_,?_,?_,?_,ha14,?_,?_,?_,?_⟩⟩
       ·rw [List.length_append,List.length_singleton]; push_cast; omega
       ·simpa using ((BL.set_ 3 (.slice A4 (kk + 1) C4)).far (p:=⟨w2.heap.size + 1,0,none⟩) (by simp) (.slice A9 (kk + 1) C9)).far (p:=⟨w2.heap.size + 1,1,none⟩) (by simp) (.slice A14 (kk + 1) C14)
       ·simpa using ((BF.far (p:=⟨w2.heap.size,3,none⟩) (by simp) (.slice A4 (kk + 1) C4)).set_ 0 (.slice A9 (kk + 1) C9)).set_ 1 (.slice A14 (kk + 1) C14)
       ·rw [List.length_append,List.length_singleton,HKK.out,es_snoc,HX.out.1]; exact own_set (own_set (own_set h4 nL4 _) nF4 _) nF4 _
       ·rw [List.length_append,List.length_singleton,HKK.out,zs_snoc,HX.out.2.1]; exact own_set (own_set (own_set h9 nL9 _) nF9 _) nF9 _
       ·rw [List.length_append,List.length_singleton,HKK.out,ns_snoc,HX.out.2.2]; exact own_set (own_set (own_set h14 nL14 _) nF14 _) nF14 _
       ·exact ((B8.far (by simp; omega) _).far (by simp; omega) _).far (by simp; omega) _
       ·exact ((B9.far (by simp; omega) _).far (by simp; omega) _).far (by simp; omega) _
       ·exact ((FD.far (by simp; omega) _).far (by simp; omega) _).far (by simp; omega) _
       ·exact grown_new (grown_new (grown_new GR (by omega) _) (by omega) _) (by omega) _
      case measure => simp [intOf]; omega
    ·go_wp2_with (first
     | (go_at_call 40; first | (have _t:=sA; clear _t; refine (either_any g _ 2 _ (fun r => 1 ≤ r ∧ r ≤ 4) _ (ht.alloc _).2 (Bx.new _ _ _) (by have:=ht.2.lt; omega) (by omega) (by omega) (bx2 _ ⟨by omega,by omega⟩ ⟨by omega,by omega⟩)).mono ?_; rintro e v1 ⟨⟨cb,rfl,cb1,cb2⟩,hf,hg⟩; replace ht:=(ht.alloc _).call hg hf; clear hg hf; have sB:=True.intro) | (refine (either_any g _ 2 _ (fun r => 0 ≤ r ∧ r ≤ 3) _ (ht.alloc _).2 (Bx.new _ _ _) (by have:=ht.2.lt; omega) (by omega) (by omega) (bx2 _ ⟨by omega,by omega⟩ ⟨by omega,by omega⟩)).mono ?_; rintro e v1 ⟨⟨ca,rfl,ca1,ca2⟩,hf,hg⟩; replace ht:=(ht.alloc _).call hg hf; clear hg hf; have sA:=True.intro))
     | (go_at_call 27; refine (range_any g _ _ _ ht.2 (by omega) (by omega) (by omega)).mono ?_; rintro e v2 ⟨⟨x0,x1,rfl,xr1,xr2,xr3⟩,hf,hg⟩; replace ht:=ht.call hg hf; clear hg hf)
     | (go_at_call 55; refine (either2_pair g _ _ _ _ (fun p q => -3 ≤ p ∧ p ≤ q ∧ q ≤ 4) _ ht.2 ⟨by omega,by omega,by omega⟩ ⟨by omega,by omega,by omega⟩).mono ?_; rintro e v3 ⟨⟨c0,c1,rfl,cr1,cr2,cr3⟩,hf,hg⟩; replace ht:=ht.call hg hf; clear hg hf; have hv3:=ht.size; have hv3g:=ht.2.lt)
     | (go_at_call 42; have k14:=Bx.new v3 28 #[.int .i64 2,.int .i64 0,.int .i64 0,.int .i64 c0,.int .i64 c1]; refine (in_any g c0 c1 _ (ht.alloc _).2 (by omega) (by omega) (by omega)).mono ?_; rintro e v4 ⟨⟨d,rfl,d1,d2⟩,hf,hg⟩; replace k14:=k14.grown hg (by simp; omega); replace ht:=(ht.alloc _).call hg hf; clear hg hf; obtain ⟨e0,e1,e2,e3,e4,ef,ez⟩:=k14.five; have J:=hidI.out.ft ht hbg (by omega) (by omega); obtain ⟨l0,l1,l2,l3,lf,lz⟩:=J.kL.four)
     | (go_at_call 47; refine (below_any g _ _ ht.2 (by omega) (by omega)).mono ?_; rintro e v5 ⟨⟨n,rfl,n1,n2⟩,hf,hg⟩; replace k14:=k14.grown hg (by simp; omega); replace ht:=ht.call hg hf; clear hg hf e0 e1 e2 e3 e4 ef ez l0 l1 l2 l3 lf lz J; obtain ⟨e0,e1,e2,e3,e4,ef,ez⟩:=k14.five; have J:=hidI.out.ft ht hbg (by omega) (by omega); obtain ⟨l0,l1,l2,l3,lf,lz⟩:=J.kL.four)
     | (go_at_call 56; refine (shows_any _ _ _ _ (by omega) (by omega) (by omega) (by omega) (by omega) (by omega)).mono ?_; rintro e v6 ⟨rfl,rfl⟩)
     | fail)
     replace ht:=ht.set_ hv3 (by omega) 2 (.int .i64 n)
     replace k14:=k14.set_ 2 (.int .i64 n)
     replace ht:=ht.set_ hv3 (by omega) 1 (.int .i64 (shows st n (z + d)))
     replace k14:=k14.set_ 1 (.int .i64 (shows st n (z + d)))
     have KE : Bx (World.setCell (World.setCell v5 ⟨v3.heap.size,2,none⟩ (.int .i64 n)) ⟨v3.heap.size,1,none⟩ (.int .i64 (shows st n (z + d)))) v3.heap.size 28 #[.int .i64 2,.int .i64 (shows st n (z + d)),.int .i64 n,.int .i64 c0,.int .i64 c1]:=by simpa using k14
     have htU:=ht
     obtain ⟨U,hU⟩ : ∃ U,(World.setCell (World.setCell v5 ⟨v3.heap.size,2,none⟩ (.int .i64 n)) ⟨v3.heap.size,1,none⟩ (.int .i64 (shows st n (z + d)))) = U:=⟨_,rfl⟩
     rw [hU] at htU KE ⊢
     clear hU ht J k14 e0 e1 e2 e3 e4 ef ez l0 l1 l2 l3 lf lz
     have J:=hidI.out.ft htU hbg (by omega) (by omega)
     obtain ⟨kk,hkk⟩ : ∃ k,ts.length = k:=⟨_,rfl⟩
     have JE:=J.oe
     have JZ:=J.oz
     have JN:=J.on
     have JA:=J.ap
     have JL:=J.kL
     have JF:=J.kF
     have hneE : some v3.heap.size ≠ ev.ownBlock:=fun e => (by have:=hidI.out.oe.lt _ e.symm; omega)
     rw [hkk] at JE JZ JN
     obtain ⟨X1,hX1⟩ : ∃ X,((evsOf ts).map Ev.cells).flatten = X:=⟨_,rfl⟩
     obtain ⟨X2,hX2⟩ : ∃ X,(ints (ts.map (·.2.1))).flatten = X:=⟨_,rfl⟩
     obtain ⟨X3,hX3⟩ : ∃ X,(ints (ts.map (·.2.2))).flatten = X:=⟨_,rfl⟩
     rw [hX1] at JE
     rw [hX2] at JZ
     rw [hX3] at JN
     have HX:=Lib.hid (And.intro hX1 (And.intro hX2 hX3))
     have HKK:=Lib.hid hkk
     have hkm : kk ≤ 14:=by omega
     clear hX1 hX2 hX3 hkk
     have hwU : w.heap.size ≤ U.heap.size:=J.gr.size
     have HJ:=Lib.hid J
     clear J
     obtain ⟨i28,hi28,hz28,hs28,iy28⟩:=info_parts info28
     obtain ⟨i3,hi3,hz3,hs3,iy3⟩:=info_parts info3'
     refine AnyG.start (AT w.heap.size U 28 5 ev kk X1 zv kk X2 nv kk X3) (fun i => i != 16 && i != 17 && i != 18 && i != 19 && i != 20) (by kernel_rfl) ?_
     have hS : (AT w.heap.size U 28 5 ev kk X1 zv kk X2 nv kk X3) (World.drew _):=AT.start JE JZ JN
     refine AnyG.take (i:=0) (v:=?_) rfl (by kernel_rfl) (fun _ _ _ h => h) rfl ?_ hS ?_
     rotate_left
     ·(intro w' _; go_simp; try with_reducible rfl)
     try simp only [Act.put,Sp1,Sp2,Sp3,Sp4,Sp5,Sp6]
     refine AnyG.take (i:=1) (v:=?_) rfl (by kernel_rfl) (fun _ _ _ h => h) rfl ?_ hS ?_
     rotate_left
     ·(intro w' hSw; (try dsimp only at hSw); obtain ⟨l0,l1,l2,l3,lf,lz⟩:=(hSw.bx JE JZ JN JL (by decide) (by decide)).four; go_simp; try with_reducible rfl)
     try simp only [Act.put,Sp1,Sp2,Sp3,Sp4,Sp5,Sp6]
     refine AnyG.take (i:=2) (v:=?_) rfl (by kernel_rfl) (fun _ _ _ h => h) rfl ?_ hS ?_
     rotate_left
     ·(intro w' hSw; (try dsimp only at hSw); obtain ⟨e0,e1,e2,e3,e4,ef,ez⟩:=Bx.five (show Bx w' v3.heap.size 28 #[.int .i64 2,.int .i64 (shows st n (z + d)),.int .i64 n,.int .i64 c0,.int .i64 c1] from (hSw.block _ KE.lt hneE (own_bx JZ KE (by decide)) (own_bx JN KE (by decide))).trans KE); go_simp; try with_reducible rfl)
     try simp only [Act.put,Sp1,Sp2,Sp3,Sp4,Sp5,Sp6]
     refine AnyG.take (i:=10) (v:=?_) rfl (by kernel_rfl) (fun _ _ _ h => h) rfl ?_ hS ?_
     rotate_left
     ·(intro w' _; go_simp; try with_reducible rfl)
     try simp only [Act.put,Sp1,Sp2,Sp3,Sp4,Sp5,Sp6]
     refine AnyG.take (i:=11) (v:=?_) rfl (by kernel_rfl) (fun _ _ _ h => h) rfl ?_ hS ?_
     rotate_left
     ·(intro w' hSw; (try dsimp only at hSw); obtain ⟨f0,f1,ff,fz⟩:=(hSw.bx JE JZ JN JF (by decide) (by decide)).two; go_simp; try with_reducible rfl)
     try simp only [Act.put,Sp1,Sp2,Sp3,Sp4,Sp5,Sp6]
     refine RegRel.AnyG.rel3 [0,1,2,10,11] [16,17,18,19,20] [[],[],[],[],[3],[],[5],[],[7],[3,4,5,6,7,8],[],[],[],[12],[3,4,5,6,7,8,9,12,13],[3,4],[3,4,5,6,7,8,9,12,13,14,15],[3,4,5,6,7,8,9,12,13,14,15,16],[3,4,5,6,7,8,9,12,13,14,15,16,17],[3,4,5,6,7,8,9,12,13,14,15,16,17,18],[3,4,5,6,7,8,9,12,13,14,15,16,17,18,19]] [(90,3),(91,4),(92,5),(93,6),(94,7),(95,8),(96,9),(99,12),(100,13),(101,14),(102,15),(103,17),(104,19)] (AT w.heap.size U 28 5 ev kk X1 zv kk X2 nv kk X3) (AK 4 9 14 w.heap.size 28 5 ev kk X1 zv kk X2 nv kk X3) [(3,fun vs w1 => ∃ q0,vs 3 = .slice (some ⟨q0,0,none⟩) 1 1 ∧ U.heap.size ≤ q0 ∧ Bx w1 q0 28 #[.int .i64 2,.int .i64 (shows st n (z + d)),.int .i64 n,.int .i64 c0,.int .i64 c1]),(4,fun vs w1 => w1.ownsRow w.heap.size 28 5 (vs 4) (kk + 1) (X1 ++ [.int .i64 2,.int .i64 (shows st n (z + d)),.int .i64 n,.int .i64 c0,.int .i64 c1]) ∧ ((vs 4).ownBlock = ev.ownBlock ∨ ∀ k,(vs 4).ownBlock = some k → U.heap.size ≤ k)),(5,fun vs w1 => vs 5 = .pointer (some ⟨w2.heap.size + 1,0,none⟩)),(6,fun vs w1 => vs 6 = zv),(7,fun vs w1 => vs 7 = .int .i64 (z + d)),(8,fun vs w1 => ∃ q0,vs 8 = .slice (some ⟨q0,0,none⟩) 1 1 ∧ U.heap.size ≤ q0 ∧ Bx w1 q0 3 #[.int .i64 (z + d)]),(9,fun vs w1 => w1.ownsRow w.heap.size 3 1 (vs 9) (kk + 1) (X2 ++ [.int .i64 (z + d)]) ∧ ((vs 9).ownBlock = zv.ownBlock ∨ ∀ k,(vs 9).ownBlock = some k → U.heap.size ≤ k)),(12,fun vs w1 => vs 12 = .int .i64 n),(13,fun vs w1 => ∃ q0,vs 13 = .slice (some ⟨q0,0,none⟩) 1 1 ∧ U.heap.size ≤ q0 ∧ Bx w1 q0 3 #[.int .i64 n]),(14,fun vs w1 => w1.ownsRow w.heap.size 3 1 (vs 14) (kk + 1) (X3 ++ [.int .i64 n]) ∧ ((vs 9).ownBlock = none ∨ (vs 9).ownBlock ≠ (vs 14).ownBlock)),(15,fun vs w1 => vs 15 = .pointer (some ⟨w2.heap.size,3,none⟩))]
      (by kernel_rfl) (by kernel_rfl) (by kernel_rfl) (by decide) (by decide) hS (fun _ h => h) (fun _ _ _ h k => h.step k) ?hst ?hcg ?hstep ?hfin
     case hst => exact ⟨fun j vs w1 w2 hjd hjz hjp hji h ht hk => (by obtain ⟨q0,g1,g2,g3⟩:=h; exact ⟨q0,g1,g2,hk.fresh JE JZ JN g3 g2⟩),fun j vs w1 w2 hjd hjz hjp hji h ht hk => ⟨h.1.kept hk.gr (by unfold rowAt; rw [if_neg hji]; split; exact own_ne h.1 ht.oz (by decide); split; exact own_ne h.1 ht.on (by decide); cases (vs 4).ownBlock <;> simp),h.2⟩,fun j vs w1 w2 hjd hjz hjp hji h ht hk => h,fun j vs w1 w2 hjd hjz hjp hji h ht hk => h,fun j vs w1 w2 hjd hjz hjp hji h ht hk => h,fun j vs w1 w2 hjd hjz hjp hji h ht hk => (by obtain ⟨q0,g1,g2,g3⟩:=h; exact ⟨q0,g1,g2,hk.fresh JE JZ JN g3 g2⟩),fun j vs w1 w2 hjd hjz hjp hji h ht hk => ⟨h.1.kept hk.gr (by unfold rowAt; rw [if_neg (fun e => hjp (by rw [e]; simp)),if_neg hji]; split; exact own_apart h.2 JA JN; cases (vs 9).ownBlock <;> simp),h.2⟩,fun j vs w1 w2 hjd hjz hjp hji h ht hk => h,fun j vs w1 w2 hjd hjz hjp hji h ht hk => (by obtain ⟨q0,g1,g2,g3⟩:=h; exact ⟨q0,g1,g2,hk.fresh JE JZ JN g3 g2⟩),fun j vs w1 w2 hjd hjz hjp hji h ht hk => ⟨h.1.kept hk.gr (by unfold rowAt; rw [if_neg (fun e => hjp (by rw [e]; simp)),if_neg (fun e => hjp (by rw [e]; simp)),if_neg hji]; cases (vs 14).ownBlock <;> simp),h.2⟩,fun j vs w1 w2 hjd hjz hjp hji h ht hk => h,trivial⟩
     case hcg => exact ⟨fun vs vs2 _ he h => (by dsimp only at h ⊢; rw [he 3 (by simp)]; exact h),fun vs vs2 _ he h => (by dsimp only at h ⊢; rw [he 4 (by simp)]; exact h),fun vs vs2 _ he h => (by dsimp only at h ⊢; rw [he 5 (by simp)]; exact h),fun vs vs2 _ he h => (by dsimp only at h ⊢; rw [he 6 (by simp)]; exact h),fun vs vs2 _ he h => (by dsimp only at h ⊢; rw [he 7 (by simp)]; exact h),fun vs vs2 _ he h => (by dsimp only at h ⊢; rw [he 8 (by simp)]; exact h),fun vs vs2 _ he h => (by dsimp only at h ⊢; rw [he 9 (by simp)]; exact h),fun vs vs2 _ he h => (by dsimp only at h ⊢; rw [he 12 (by simp)]; exact h),fun vs vs2 _ he h => (by dsimp only at h ⊢; rw [he 13 (by simp)]; exact h),fun vs vs2 _ he h => (by dsimp only at h ⊢; rw [he 9 (by simp),he 14 (by simp)]; exact h),fun vs vs2 _ he h => (by dsimp only at h ⊢; rw [he 15 (by simp)]; exact h),trivial⟩
     case hstep =>
      refine ⟨?_,?_,?_,?_,?_,?_,?_,?_,?_,?_,?_,trivial⟩
      ·rintro vs v1 - hT
       refine ⟨_,_,rfl,rfl,?_⟩
       clear hS
       simp only [RegRel.fillT,List.foldl_cons,List.foldl_nil,Sp4,Sp5,Sp6]
       go_simp
       first | exact ⟨⟨_,rfl,hT.size,Bx.new _ _ _⟩,(AK.quiet (grown_alloc (grown_refl _ _) _) 4 9 14 w.heap.size 28 5 ev kk X1 zv kk X2 nv kk X3 _),rfl⟩ | exact ⟨⟨_,rfl,hT.size,Bx.new _ _ _⟩,(AK.quiet (grown_alloc (grown_refl _ _) _) 4 9 14 w.heap.size 28 5 ev kk X1 zv kk X2 nv kk X3 _)⟩ | trace_state
      ·rintro vs v1 ⟨⟨q3,h3,hq3,hb3⟩,-⟩ hT
       refine ⟨_,_,rfl,rfl,?_⟩
       clear hS
       try dsimp only at h3
       simp only [RegRel.fillT,List.foldl_cons,List.foldl_nil,Sp4,Sp5,Sp6]
       try simp only [h3]
       try clear h3
       have hw1 : w.heap.size ≤ v1.heap.size:=Nat.le_trans hwU hT.size
       refine wp_app2 (.tmp 88) (.tmp 90) 24 rfl w.heap.size 28 i28 _ 5 40 Try.underlying24 hi28 hz28 hs28 iy28 rfl (by decide) ev kk X1 (by simp [Act.eval]) hT.oe ⟨q3,0,none⟩ 1 1 [.int .i64 2,.int .i64 (shows st n (z + d)),.int .i64 n,.int .i64 c0,.int .i64 c1] (by simp [Act.eval]) rfl (bx_news hb3) (by simp [Value.oneCell']) (by unfold maxLen; omega) (by omega) hw1 ?_
       intro v' w' o1 o2 o3 o4
       have hv1:=hT.size
       refine ⟨?_,⟨by simpa [rowAt] using o2,fun _ => o3,fun h => h.kept o2 (own_ne h hT.oe (by decide)),fun h => h.kept o2 (own_ne h hT.oe (by decide))⟩,rfl⟩
       simp only [RegRel.upd,if_true,Act.put,Sp1,Sp2,Sp3,Sp4,Sp5,Sp6,Array.getD_eq_getD_getElem?,List.getElem?_toArray,List.getElem?_cons_succ,List.getElem?_cons_zero,Option.getD_some]
       exact ⟨o1,o4.imp id fun h k hk => Nat.le_trans hv1 (h k hk)⟩
      ·rintro vs v1 - hT
       refine ⟨_,_,rfl,rfl,?_⟩
       clear hS
       simp only [RegRel.fillT,List.foldl_cons,List.foldl_nil,Sp4,Sp5,Sp6]
       go_simp
       first | exact ⟨rfl,(AK.quiet (grown_refl _ _) 4 9 14 w.heap.size 28 5 ev kk X1 zv kk X2 nv kk X3 _),rfl⟩ | exact ⟨rfl,(AK.quiet (grown_refl _ _) 4 9 14 w.heap.size 28 5 ev kk X1 zv kk X2 nv kk X3 _)⟩ | trace_state
      ·rintro vs v1 ⟨h5,-⟩ hT
       refine ⟨_,_,rfl,rfl,?_⟩
       clear hS
       try dsimp only at h5
       simp only [RegRel.fillT,List.foldl_cons,List.foldl_nil,Sp4,Sp5,Sp6]
       try simp only [h5]
       try clear h5
       obtain ⟨f0,f1,ff,fz⟩:=(hT.bx JE JZ JN JF (by decide) (by decide)).two
       go_simp
       first | exact ⟨rfl,(AK.quiet (grown_refl _ _) 4 9 14 w.heap.size 28 5 ev kk X1 zv kk X2 nv kk X3 _),rfl⟩ | exact ⟨rfl,(AK.quiet (grown_refl _ _) 4 9 14 w.heap.size 28 5 ev kk X1 zv kk X2 nv kk X3 _)⟩ | trace_state
      ·rintro vs v1 - hT
       refine ⟨_,_,rfl,rfl,?_⟩
       clear hS
       simp only [RegRel.fillT,List.foldl_cons,List.foldl_nil,Sp4,Sp5,Sp6]
       go_simp
       first | exact ⟨rfl,(AK.quiet (grown_refl _ _) 4 9 14 w.heap.size 28 5 ev kk X1 zv kk X2 nv kk X3 _),rfl⟩ | exact ⟨rfl,(AK.quiet (grown_refl _ _) 4 9 14 w.heap.size 28 5 ev kk X1 zv kk X2 nv kk X3 _)⟩ | trace_state
      ·rintro vs v1 ⟨h7,-⟩ hT
       refine ⟨_,_,rfl,rfl,?_⟩
       clear hS
       try dsimp only at h7
       simp only [RegRel.fillT,List.foldl_cons,List.foldl_nil,Sp4,Sp5,Sp6]
       try simp only [h7]
       try clear h7
       go_simp
       first | exact ⟨⟨_,rfl,hT.size,Bx.new _ _ _⟩,(AK.quiet (grown_alloc (grown_refl _ _) _) 4 9 14 w.heap.size 28 5 ev kk X1 zv kk X2 nv kk X3 _),rfl⟩ | exact ⟨⟨_,rfl,hT.size,Bx.new _ _ _⟩,(AK.quiet (grown_alloc (grown_refl _ _) _) 4 9 14 w.heap.size 28 5 ev kk X1 zv kk X2 nv kk X3 _)⟩ | trace_state
      ·rintro vs v1 ⟨⟨q3,h3,hq3,hb3⟩,⟨h4,ha4⟩,h5,h6,h7,⟨q8,h8,hq8,hb8⟩,-⟩ hT
       refine ⟨_,_,rfl,rfl,?_⟩
       clear hS
       try dsimp only at h3 h4 h5 h6 h7 h8
       simp only [RegRel.fillT,List.foldl_cons,List.foldl_nil,Sp4,Sp5,Sp6]
       try simp only [h3,h4,h5,h6,h7,h8]
       try clear h3 h4 h5 h6 h7 h8
       have hw1 : w.heap.size ≤ v1.heap.size:=Nat.le_trans hwU hT.size
       refine wp_app2 (.tmp 93) (.tmp 95) 29 rfl w.heap.size 3 i3 _ 1 8 Try.underlying29 hi3 hz3 hs3 iy3 rfl (by decide) zv kk X2 (by simp [Act.eval]) hT.oz ⟨q8,0,none⟩ 1 1 [.int .i64 (z + d)] (by simp [Act.eval]) rfl (bx_news hb8) (by simp [Value.oneCell']) (by unfold maxLen; omega) (by omega) hw1 ?_
       intro v' w' o1 o2 o3 o4
       have hv1:=hT.size
       refine ⟨?_,⟨by simpa [rowAt] using o2,fun h => h.kept o2 (own_ne h hT.oz (by decide)),fun _ => o3,fun h => h.kept o2 (apart_symm JA)⟩,rfl⟩
       simp only [RegRel.upd,if_true,Act.put,Sp1,Sp2,Sp3,Sp4,Sp5,Sp6,Array.getD_eq_getD_getElem?,List.getElem?_toArray,List.getElem?_cons_succ,List.getElem?_cons_zero,Option.getD_some]
       exact ⟨o1,o4.imp id fun h k hk => Nat.le_trans hv1 (h k hk)⟩
      ·rintro vs v1 - hT
       refine ⟨_,_,rfl,rfl,?_⟩
       clear hS
       simp only [RegRel.fillT,List.foldl_cons,List.foldl_nil,Sp4,Sp5,Sp6]
       go_simp
       first | exact ⟨rfl,(AK.quiet (grown_refl _ _) 4 9 14 w.heap.size 28 5 ev kk X1 zv kk X2 nv kk X3 _),rfl⟩ | exact ⟨rfl,(AK.quiet (grown_refl _ _) 4 9 14 w.heap.size 28 5 ev kk X1 zv kk X2 nv kk X3 _)⟩ | trace_state
      ·rintro vs v1 ⟨h12,-⟩ hT
       refine ⟨_,_,rfl,rfl,?_⟩
       clear hS
       try dsimp only at h12
       simp only [RegRel.fillT,List.foldl_cons,List.foldl_nil,Sp4,Sp5,Sp6]
       try simp only [h12]
       try clear h12
       go_simp
       first | exact ⟨⟨_,rfl,hT.size,Bx.new _ _ _⟩,(AK.quiet (grown_alloc (grown_refl _ _) _) 4 9 14 w.heap.size 28 5 ev kk X1 zv kk X2 nv kk X3 _),rfl⟩ | exact ⟨⟨_,rfl,hT.size,Bx.new _ _ _⟩,(AK.quiet (grown_alloc (grown_refl _ _) _) 4 9 14 w.heap.size 28 5 ev kk X1 zv kk X2 nv kk X3 _)⟩ | trace_state
      ·rintro vs v1 ⟨⟨q3,h3,hq3,hb3⟩,⟨h4,ha4⟩,h5,h6,h7,⟨q8,h8,hq8,hb8⟩,⟨h9,ha9⟩,h12,⟨q13,h13,hq13,hb13⟩,-⟩ hT
       refine ⟨_,_,rfl,rfl,?_⟩
       clear hS
       try dsimp only at h3 h4 h5 h6 h7 h8 h9 h12 h13
       simp only [RegRel.fillT,List.foldl_cons,List.foldl_nil,Sp4,Sp5,Sp6]
       simp only [h13]
       have hw1 : w.heap.size ≤ v1.heap.size:=Nat.le_trans hwU hT.size
       refine wp_app2 (.tmp 98) (.tmp 100) 29 rfl w.heap.size 3 i3 _ 1 8 Try.underlying29 hi3 hz3 hs3 iy3 rfl (by decide) nv kk X3 (by simp [Act.eval]) hT.on ⟨q13,0,none⟩ 1 1 [.int .i64 n] (by simp [Act.eval]) rfl (bx_news hb13) (by simp [Value.oneCell']) (by unfold maxLen; omega) (by omega) hw1 ?_
       intro v' w' o1 o2 o3 o4
       have hv1:=hT.size
       refine ⟨?_,⟨by simpa [rowAt] using o2,fun h => h.kept o2 (own_ne h hT.on (by decide)),fun h => h.kept o2 JA,fun _ => o3⟩,rfl⟩
       simp only [RegRel.upd,if_true,Act.put,Sp1,Sp2,Sp3,Sp4,Sp5,Sp6,Array.getD_eq_getD_getElem?,List.getElem?_toArray,List.getElem?_cons_succ,List.getElem?_cons_zero,Option.getD_some]
       refine ⟨o1,?_⟩
       rw [if_neg (by decide)]
       rcases o4 with o4 | o4
       ·rw [o4]; exact own_apart ha9 JA JN
       ·cases hv9 : (vs 9).ownBlock with
        | none => exact .inl rfl
        | some k => exact .inr fun e => by have:=o4 k e.symm; have:=h9.lt k hv9; omega
      ·rintro vs v1 ⟨⟨q3,h3,hq3,hb3⟩,⟨h4,ha4⟩,-⟩ hT
       refine ⟨_,_,rfl,rfl,?_⟩
       clear hS
       try dsimp only at h3 h4
       simp only [RegRel.fillT,List.foldl_cons,List.foldl_nil,Sp4,Sp5,Sp6]
       try simp only [h3,h4]
       try clear h3 h4
       go_simp
       first | exact ⟨rfl,(AK.quiet (grown_refl _ _) 4 9 14 w.heap.size 28 5 ev kk X1 zv kk X2 nv kk X3 _),rfl⟩ | exact ⟨rfl,(AK.quiet (grown_refl _ _) 4 9 14 w.heap.size 28 5 ev kk X1 zv kk X2 nv kk X3 _)⟩ | trace_state
     case hfin =>
      rintro vs v1 ⟨⟨q3,h3,hq3,hb3⟩,⟨h4,ha4⟩,h5,h6,h7,⟨q8,h8,hq8,hb8⟩,⟨h9,ha9⟩,h12,⟨q13,h13,hq13,hb13⟩,⟨h14,ha14⟩,h15,-⟩ hT
      clear hS
      try dsimp only at h3 h4 h5 h6 h7 h8 h9 h12 h13 h14 h15
      simp only [List.filter_cons,List.contains_cons,List.contains_nil,Nat.reduceBEq,Bool.or_false,Bool.not_false,if_true,List.filter_nil]
      simp only [RegRel.fillT,List.foldl_cons,List.foldl_nil,Sp4,Sp5,Sp6]
      simp only [h3,h5,h6,h7,h8,h12,h13,h15]
      clear h3 h5 h6 h7 h8 h12 h13 h15 hb3 hb8 hb13 hq3 hq8 hq13
      generalize vs 4 = ev2 at *
      generalize vs 9 = zv2 at *
      generalize vs 14 = nv2 at *
      obtain ⟨A4,C4,rfl⟩:=own_shape h4
      obtain ⟨A9,C9,rfl⟩:=own_shape h9
      obtain ⟨A14,C14,rfl⟩:=own_shape h14
      have BL:=hT.bx JE JZ JN JL (by decide) (by decide)
      have BF:=hT.bx JE JZ JN JF (by decide) (by decide)
      have B8:=hT.bx JE JZ JN HJ.out.k8 (by decide) (by decide)
      have B9:=hT.bx JE JZ JN HJ.out.k9 (by decide) (by decide)
      have FD : Fd g v1:=by obtain ⟨x,x1,x2,x3⟩:=HJ.out.fd; exact ⟨x,x1,x2,hT.bx JE JZ JN x3 (by decide) (by decide)⟩
      have GR:=hT.gr HJ.out.gr JE JZ JN
      have Hs3:=Lib.hid HJ.out.s3
      have Hmd:=HJ.out.md
      obtain ⟨l0,l1,l2,l3,lf,lz⟩:=BL.four
      obtain ⟨f0,f1,ff,fz⟩:=BF.two
      refine RegRel.wpOps_go rfl rfl ?_
      go_simp
      refine RegRel.wpOps_go rfl rfl ?_
      go_simp
      refine RegRel.wpOps_go rfl rfl ?_
      go_simp
      refine RegRel.wpOps_go rfl rfl ?_
      go_simp
      refine RegRel.wpOps_go rfl rfl ?_
      go_simp
      refine RegRel.wpOps_end ?_
      go_simp
      go_wp2_with fail
      have nL4:=own_bx h4 BL (by decide)
      have nF4:=own_bx h4 BF (by decide)
      have nL9:=own_bx h9 BL (by decide)
      have nF9:=own_bx h9 BF (by decide)
      have nL14:=own_bx h14 BL (by decide)
      have nF14:=own_bx h14 BF (by decide)
      have hgw:=hbg
      go_roundw
      case rel =>
       refine ⟨st,z + d,i - 1,ts ++ [(⟨2,shows st n (z + d),n,c0,c1⟩,z + d,n)],.slice A4 (kk + 1) C4,.slice A9 (kk + 1) C9,.slice A14 (kk + 1) C14,by go_num,rfl,⟨by omega,?_,hs1,hs2,Hs3.out,.snoc ts z _ _ _ Hmd ⟨by simp,cr1,cr2,cr3,by omega,by omega,by simp,by simp,rfl⟩ (by dsimp only; omega) (by dsimp only; omega),?_,?_,?_,?_,?_,ha14,?_,?_,?_,?_⟩⟩
       ·rw [List.length_append,List.length_singleton]; push_cast; omega
       ·simpa using ((BL.set_ 3 (.slice A4 (kk + 1) C4)).far (p:=⟨w2.heap.size + 1,0,none⟩) (by simp) (.slice A9 (kk + 1) C9)).far (p:=⟨w2.heap.size + 1,1,none⟩) (by simp) (.slice A14 (kk + 1) C14)
       ·simpa using ((BF.far (p:=⟨w2.heap.size,3,none⟩) (by simp) (.slice A4 (kk + 1) C4)).set_ 0 (.slice A9 (kk + 1) C9)).set_ 1 (.slice A14 (kk + 1) C14)
       ·rw [List.length_append,List.length_singleton,HKK.out,es_snoc,HX.out.1]; exact own_set (own_set (own_set h4 nL4 _) nF4 _) nF4 _
       ·rw [List.length_append,List.length_singleton,HKK.out,zs_snoc,HX.out.2.1]; exact own_set (own_set (own_set h9 nL9 _) nF9 _) nF9 _
       ·rw [List.length_append,List.length_singleton,HKK.out,ns_snoc,HX.out.2.2]; exact own_set (own_set (own_set h14 nL14 _) nF14 _) nF14 _
       ·exact ((B8.far (by simp; omega) _).far (by simp; omega) _).far (by simp; omega) _
       ·exact ((B9.far (by simp; omega) _).far (by simp; omega) _).far (by simp; omega) _
       ·exact ((FD.far (by simp; omega) _).far (by simp; omega) _).far (by simp; omega) _
       ·exact grown_new (grown_new (grown_new GR (by omega) _) (by omega) _) (by omega) _
      case measure => simp [intOf]; omega
    ·go_wp2_with (first
     | (go_at_call 40; first | (have _t:=sA; clear _t; refine (either_any g _ 2 _ (fun r => 1 ≤ r ∧ r ≤ 4) _ (ht.alloc _).2 (Bx.new _ _ _) (by have:=ht.2.lt; omega) (by omega) (by omega) (bx2 _ ⟨by omega,by omega⟩ ⟨by omega,by omega⟩)).mono ?_; rintro e v1 ⟨⟨cb,rfl,cb1,cb2⟩,hf,hg⟩; replace ht:=(ht.alloc _).call hg hf; clear hg hf; have sB:=True.intro) | (refine (either_any g _ 2 _ (fun r => 0 ≤ r ∧ r ≤ 3) _ (ht.alloc _).2 (Bx.new _ _ _) (by have:=ht.2.lt; omega) (by omega) (by omega) (bx2 _ ⟨by omega,by omega⟩ ⟨by omega,by omega⟩)).mono ?_; rintro e v1 ⟨⟨ca,rfl,ca1,ca2⟩,hf,hg⟩; replace ht:=(ht.alloc _).call hg hf; clear hg hf; have sA:=True.intro))
     | (go_at_call 27; refine (range_any g _ _ _ ht.2 (by omega) (by omega) (by omega)).mono ?_; rintro e v2 ⟨⟨x0,x1,rfl,xr1,xr2,xr3⟩,hf,hg⟩; replace ht:=ht.call hg hf; clear hg hf)
     | (go_at_call 55; refine (either2_pair g _ _ _ _ (fun p q => -3 ≤ p ∧ p ≤ q ∧ q ≤ 4) _ ht.2 ⟨by omega,by omega,by omega⟩ ⟨by omega,by omega,by omega⟩).mono ?_; rintro e v3 ⟨⟨c0,c1,rfl,cr1,cr2,cr3⟩,hf,hg⟩; replace ht:=ht.call hg hf; clear hg hf; have hv3:=ht.size; have hv3g:=ht.2.lt)
     | (go_at_call 42; have k14:=Bx.new v3 28 #[.int .i64 3,.int .i64 0,.int .i64 0,.int .i64 c0,.int .i64 c1]; refine (in_any g c0 c1 _ (ht.alloc _).2 (by omega) (by omega) (by omega)).mono ?_; rintro e v4 ⟨⟨d,rfl,d1,d2⟩,hf,hg⟩; replace k14:=k14.grown hg (by simp; omega); replace ht:=(ht.alloc _).call hg hf; clear hg hf; obtain ⟨e0,e1,e2,e3,e4,ef,ez⟩:=k14.five; have J:=hidI.out.ft ht hbg (by omega) (by omega); obtain ⟨l0,l1,l2,l3,lf,lz⟩:=J.kL.four)
     | (go_at_call 47; refine (below_any g _ _ ht.2 (by omega) (by omega)).mono ?_; rintro e v5 ⟨⟨n,rfl,n1,n2⟩,hf,hg⟩; replace k14:=k14.grown hg (by simp; omega); replace ht:=ht.call hg hf; clear hg hf e0 e1 e2 e3 e4 ef ez l0 l1 l2 l3 lf lz J; obtain ⟨e0,e1,e2,e3,e4,ef,ez⟩:=k14.five; have J:=hidI.out.ft ht hbg (by omega) (by omega); obtain ⟨l0,l1,l2,l3,lf,lz⟩:=J.kL.four)
     | (go_at_call 56; refine (shows_any _ _ _ _ (by omega) (by omega) (by omega) (by omega) (by omega) (by omega)).mono ?_; rintro e v6 ⟨rfl,rfl⟩)
     | fail)
     replace ht:=ht.set_ hv3 (by omega) 1 (.int .i64 (shows st n (z + d)))
     replace k14:=k14.set_ 1 (.int .i64 (shows st n (z + d)))
     have KE : Bx (World.setCell v5 ⟨v3.heap.size,1,none⟩ (.int .i64 (shows st n (z + d)))) v3.heap.size 28 #[.int .i64 3,.int .i64 (shows st n (z + d)),.int .i64 0,.int .i64 c0,.int .i64 c1]:=by simpa using k14
     have htU:=ht
     obtain ⟨U,hU⟩ : ∃ U,(World.setCell v5 ⟨v3.heap.size,1,none⟩ (.int .i64 (shows st n (z + d)))) = U:=⟨_,rfl⟩
     rw [hU] at htU KE ⊢
     clear hU ht J k14 e0 e1 e2 e3 e4 ef ez l0 l1 l2 l3 lf lz
     have J:=hidI.out.ft htU hbg (by omega) (by omega)
     obtain ⟨kk,hkk⟩ : ∃ k,ts.length = k:=⟨_,rfl⟩
     have JE:=J.oe
     have JZ:=J.oz
     have JN:=J.on
     have JA:=J.ap
     have JL:=J.kL
     have JF:=J.kF
     have hneE : some v3.heap.size ≠ ev.ownBlock:=fun e => (by have:=hidI.out.oe.lt _ e.symm; omega)
     rw [hkk] at JE JZ JN
     obtain ⟨X1,hX1⟩ : ∃ X,((evsOf ts).map Ev.cells).flatten = X:=⟨_,rfl⟩
     obtain ⟨X2,hX2⟩ : ∃ X,(ints (ts.map (·.2.1))).flatten = X:=⟨_,rfl⟩
     obtain ⟨X3,hX3⟩ : ∃ X,(ints (ts.map (·.2.2))).flatten = X:=⟨_,rfl⟩
     rw [hX1] at JE
     rw [hX2] at JZ
     rw [hX3] at JN
     have HX:=Lib.hid (And.intro hX1 (And.intro hX2 hX3))
     have HKK:=Lib.hid hkk
     have hkm : kk ≤ 14:=by omega
     clear hX1 hX2 hX3 hkk
     have hwU : w.heap.size ≤ U.heap.size:=J.gr.size
     have HJ:=Lib.hid J
     clear J
     obtain ⟨i28,hi28,hz28,hs28,iy28⟩:=info_parts info28
     obtain ⟨i3,hi3,hz3,hs3,iy3⟩:=info_parts info3'
     refine AnyG.start (AT w.heap.size U 28 5 ev kk X1 zv kk X2 nv kk X3) (fun i => i != 16 && i != 17 && i != 18 && i != 19 && i != 20) (by kernel_rfl) ?_
     have hS : (AT w.heap.size U 28 5 ev kk X1 zv kk X2 nv kk X3) (World.drew _):=AT.start JE JZ JN
     refine AnyG.take (i:=0) (v:=?_) rfl (by kernel_rfl) (fun _ _ _ h => h) rfl ?_ hS ?_
     rotate_left
     ·(intro w' _; go_simp; try with_reducible rfl)
     try simp only [Act.put,Sp1,Sp2,Sp3,Sp4,Sp5,Sp6]
     refine AnyG.take (i:=1) (v:=?_) rfl (by kernel_rfl) (fun _ _ _ h => h) rfl ?_ hS ?_
     rotate_left
     ·(intro w' hSw; (try dsimp only at hSw); obtain ⟨l0,l1,l2,l3,lf,lz⟩:=(hSw.bx JE JZ JN JL (by decide) (by decide)).four; go_simp; try with_reducible rfl)
     try simp only [Act.put,Sp1,Sp2,Sp3,Sp4,Sp5,Sp6]
     refine AnyG.take (i:=2) (v:=?_) rfl (by kernel_rfl) (fun _ _ _ h => h) rfl ?_ hS ?_
     rotate_left
     ·(intro w' hSw; (try dsimp only at hSw); obtain ⟨e0,e1,e2,e3,e4,ef,ez⟩:=Bx.five (show Bx w' v3.heap.size 28 #[.int .i64 3,.int .i64 (shows st n (z + d)),.int .i64 0,.int .i64 c0,.int .i64 c1] from (hSw.block _ KE.lt hneE (own_bx JZ KE (by decide)) (own_bx JN KE (by decide))).trans KE); go_simp; try with_reducible rfl)
     try simp only [Act.put,Sp1,Sp2,Sp3,Sp4,Sp5,Sp6]
     refine AnyG.take (i:=10) (v:=?_) rfl (by kernel_rfl) (fun _ _ _ h => h) rfl ?_ hS ?_
     rotate_left
     ·(intro w' _; go_simp; try with_reducible rfl)
     try simp only [Act.put,Sp1,Sp2,Sp3,Sp4,Sp5,Sp6]
     refine AnyG.take (i:=11) (v:=?_) rfl (by kernel_rfl) (fun _ _ _ h => h) rfl ?_ hS ?_
     rotate_left
     ·(intro w' hSw; (try dsimp only at hSw); obtain ⟨f0,f1,ff,fz⟩:=(hSw.bx JE JZ JN JF (by decide) (by decide)).two; go_simp; try with_reducible rfl)
     try simp only [Act.put,Sp1,Sp2,Sp3,Sp4,Sp5,Sp6]
     refine RegRel.AnyG.rel3 [0,1,2,10,11] [16,17,18,19,20] [[],[],[],[],[3],[],[5],[],[7],[3,4,5,6,7,8],[],[],[],[12],[3,4,5,6,7,8,9,12,13],[3,4],[3,4,5,6,7,8,9,12,13,14,15],[3,4,5,6,7,8,9,12,13,14,15,16],[3,4,5,6,7,8,9,12,13,14,15,16,17],[3,4,5,6,7,8,9,12,13,14,15,16,17,18],[3,4,5,6,7,8,9,12,13,14,15,16,17,18,19]] [(90,3),(91,4),(92,5),(93,6),(94,7),(95,8),(96,9),(99,12),(100,13),(101,14),(102,15),(103,17),(104,19)] (AT w.heap.size U 28 5 ev kk X1 zv kk X2 nv kk X3) (AK 4 9 14 w.heap.size 28 5 ev kk X1 zv kk X2 nv kk X3) [(3,fun vs w1 => ∃ q0,vs 3 = .slice (some ⟨q0,0,none⟩) 1 1 ∧ U.heap.size ≤ q0 ∧ Bx w1 q0 28 #[.int .i64 3,.int .i64 (shows st n (z + d)),.int .i64 0,.int .i64 c0,.int .i64 c1]),(4,fun vs w1 => w1.ownsRow w.heap.size 28 5 (vs 4) (kk + 1) (X1 ++ [.int .i64 3,.int .i64 (shows st n (z + d)),.int .i64 0,.int .i64 c0,.int .i64 c1]) ∧ ((vs 4).ownBlock = ev.ownBlock ∨ ∀ k,(vs 4).ownBlock = some k → U.heap.size ≤ k)),(5,fun vs w1 => vs 5 = .pointer (some ⟨w2.heap.size + 1,0,none⟩)),(6,fun vs w1 => vs 6 = zv),(7,fun vs w1 => vs 7 = .int .i64 (z + d)),(8,fun vs w1 => ∃ q0,vs 8 = .slice (some ⟨q0,0,none⟩) 1 1 ∧ U.heap.size ≤ q0 ∧ Bx w1 q0 3 #[.int .i64 (z + d)]),(9,fun vs w1 => w1.ownsRow w.heap.size 3 1 (vs 9) (kk + 1) (X2 ++ [.int .i64 (z + d)]) ∧ ((vs 9).ownBlock = zv.ownBlock ∨ ∀ k,(vs 9).ownBlock = some k → U.heap.size ≤ k)),(12,fun vs w1 => vs 12 = .int .i64 n),(13,fun vs w1 => ∃ q0,vs 13 = .slice (some ⟨q0,0,none⟩) 1 1 ∧ U.heap.size ≤ q0 ∧ Bx w1 q0 3 #[.int .i64 n]),(14,fun vs w1 => w1.ownsRow w.heap.size 3 1 (vs 14) (kk + 1) (X3 ++ [.int .i64 n]) ∧ ((vs 9).ownBlock = none ∨ (vs 9).ownBlock ≠ (vs 14).ownBlock)),(15,fun vs w1 => vs 15 = .pointer (some ⟨w2.heap.size,3,none⟩))]
      (by kernel_rfl) (by kernel_rfl) (by kernel_rfl) (by decide) (by decide) hS (fun _ h => h) (fun _ _ _ h k => h.step k) ?hst ?hcg ?hstep ?hfin
     case hst => exact ⟨fun j vs w1 w2 hjd hjz hjp hji h ht hk => (by obtain ⟨q0,g1,g2,g3⟩:=h; exact ⟨q0,g1,g2,hk.fresh JE JZ JN g3 g2⟩),fun j vs w1 w2 hjd hjz hjp hji h ht hk => ⟨h.1.kept hk.gr (by unfold rowAt; rw [if_neg hji]; split; exact own_ne h.1 ht.oz (by decide); split; exact own_ne h.1 ht.on (by decide); cases (vs 4).ownBlock <;> simp),h.2⟩,fun j vs w1 w2 hjd hjz hjp hji h ht hk => h,fun j vs w1 w2 hjd hjz hjp hji h ht hk => h,fun j vs w1 w2 hjd hjz hjp hji h ht hk => h,fun j vs w1 w2 hjd hjz hjp hji h ht hk => (by obtain ⟨q0,g1,g2,g3⟩:=h; exact ⟨q0,g1,g2,hk.fresh JE JZ JN g3 g2⟩),fun j vs w1 w2 hjd hjz hjp hji h ht hk => ⟨h.1.kept hk.gr (by unfold rowAt; rw [if_neg (fun e => hjp (by rw [e]; simp)),if_neg hji]; split; exact own_apart h.2 JA JN; cases (vs 9).ownBlock <;> simp),h.2⟩,fun j vs w1 w2 hjd hjz hjp hji h ht hk => h,fun j vs w1 w2 hjd hjz hjp hji h ht hk => (by obtain ⟨q0,g1,g2,g3⟩:=h; exact ⟨q0,g1,g2,hk.fresh JE JZ JN g3 g2⟩),fun j vs w1 w2 hjd hjz hjp hji h ht hk => ⟨h.1.kept hk.gr (by unfold rowAt; rw [if_neg (fun e => hjp (by rw [e]; simp)),if_neg (fun e => hjp (by rw [e]; simp)),if_neg hji]; cases (vs 14).ownBlock <;> simp),h.2⟩,fun j vs w1 w2 hjd hjz hjp hji h ht hk => h,trivial⟩
     case hcg => exact ⟨fun vs vs2 _ he h => (by dsimp only at h ⊢; rw [he 3 (by simp)]; exact h),fun vs vs2 _ he h => (by dsimp only at h ⊢; rw [he 4 (by simp)]; exact h),fun vs vs2 _ he h => (by dsimp only at h ⊢; rw [he 5 (by simp)]; exact h),fun vs vs2 _ he h => (by dsimp only at h ⊢; rw [he 6 (by simp)]; exact h),fun vs vs2 _ he h => (by dsimp only at h ⊢; rw [he 7 (by simp)]; exact h),fun vs vs2 _ he h => (by dsimp only at h ⊢; rw [he 8 (by simp)]; exact h),fun vs vs2 _ he h => (by dsimp only at h ⊢; rw [he 9 (by simp)]; exact h),fun vs vs2 _ he h => (by dsimp only at h ⊢; rw [he 12 (by simp)]; exact h),fun vs vs2 _ he h => (by dsimp only at h ⊢; rw [he 13 (by simp)]; exact h),fun vs vs2 _ he h => (by dsimp only at h ⊢; rw [he 9 (by simp),he 14 (by simp)]; exact h),fun vs vs2 _ he h => (by dsimp only at h ⊢; rw [he 15 (by simp)]; exact h),trivial⟩
     case hstep =>
      refine ⟨?_,?_,?_,?_,?_,?_,?_,?_,?_,?_,?_,trivial⟩
      ·rintro vs v1 - hT
       refine ⟨_,_,rfl,rfl,?_⟩
       clear hS
       simp only [RegRel.fillT,List.foldl_cons,List.foldl_nil,Sp4,Sp5,Sp6]
       go_simp
       first | exact ⟨⟨_,rfl,hT.size,Bx.new _ _ _⟩,(AK.quiet (grown_alloc (grown_refl _ _) _) 4 9 14 w.heap.size 28 5 ev kk X1 zv kk X2 nv kk X3 _),rfl⟩ | exact ⟨⟨_,rfl,hT.size,Bx.new _ _ _⟩,(AK.quiet (grown_alloc (grown_refl _ _) _) 4 9 14 w.heap.size 28 5 ev kk X1 zv kk X2 nv kk X3 _)⟩ | trace_state
      ·rintro vs v1 ⟨⟨q3,h3,hq3,hb3⟩,-⟩ hT
       refine ⟨_,_,rfl,rfl,?_⟩
       clear hS
       try dsimp only at h3
       simp only [RegRel.fillT,List.foldl_cons,List.foldl_nil,Sp4,Sp5,Sp6]
       try simp only [h3]
       try clear h3
       have hw1 : w.heap.size ≤ v1.heap.size:=Nat.le_trans hwU hT.size
       refine wp_app2 (.tmp 88) (.tmp 90) 24 rfl w.heap.size 28 i28 _ 5 40 Try.underlying24 hi28 hz28 hs28 iy28 rfl (by decide) ev kk X1 (by simp [Act.eval]) hT.oe ⟨q3,0,none⟩ 1 1 [.int .i64 3,.int .i64 (shows st n (z + d)),.int .i64 0,.int .i64 c0,.int .i64 c1] (by simp [Act.eval]) rfl (bx_news hb3) (by simp [Value.oneCell']) (by unfold maxLen; omega) (by omega) hw1 ?_
       intro v' w' o1 o2 o3 o4
       have hv1:=hT.size
       refine ⟨?_,⟨by simpa [rowAt] using o2,fun _ => o3,fun h => h.kept o2 (own_ne h hT.oe (by decide)),fun h => h.kept o2 (own_ne h hT.oe (by decide))⟩,rfl⟩
       simp only [RegRel.upd,if_true,Act.put,Sp1,Sp2,Sp3,Sp4,Sp5,Sp6,Array.getD_eq_getD_getElem?,List.getElem?_toArray,List.getElem?_cons_succ,List.getElem?_cons_zero,Option.getD_some]
       exact ⟨o1,o4.imp id fun h k hk => Nat.le_trans hv1 (h k hk)⟩
      ·rintro vs v1 - hT
       refine ⟨_,_,rfl,rfl,?_⟩
       clear hS
       simp only [RegRel.fillT,List.foldl_cons,List.foldl_nil,Sp4,Sp5,Sp6]
       go_simp
       first | exact ⟨rfl,(AK.quiet (grown_refl _ _) 4 9 14 w.heap.size 28 5 ev kk X1 zv kk X2 nv kk X3 _),rfl⟩ | exact ⟨rfl,(AK.quiet (grown_refl _ _) 4 9 14 w.heap.size 28 5 ev kk X1 zv kk X2 nv kk X3 _)⟩ | trace_state
      ·rintro vs v1 ⟨h5,-⟩ hT
       refine ⟨_,_,rfl,rfl,?_⟩
       clear hS
       try dsimp only at h5
       simp only [RegRel.fillT,List.foldl_cons,List.foldl_nil,Sp4,Sp5,Sp6]
       try simp only [h5]
       try clear h5
       obtain ⟨f0,f1,ff,fz⟩:=(hT.bx JE JZ JN JF (by decide) (by decide)).two
       go_simp
       first | exact ⟨rfl,(AK.quiet (grown_refl _ _) 4 9 14 w.heap.size 28 5 ev kk X1 zv kk X2 nv kk X3 _),rfl⟩ | exact ⟨rfl,(AK.quiet (grown_refl _ _) 4 9 14 w.heap.size 28 5 ev kk X1 zv kk X2 nv kk X3 _)⟩ | trace_state
      ·rintro vs v1 - hT
       refine ⟨_,_,rfl,rfl,?_⟩
       clear hS
       simp only [RegRel.fillT,List.foldl_cons,List.foldl_nil,Sp4,Sp5,Sp6]
       go_simp
       first | exact ⟨rfl,(AK.quiet (grown_refl _ _) 4 9 14 w.heap.size 28 5 ev kk X1 zv kk X2 nv kk X3 _),rfl⟩ | exact ⟨rfl,(AK.quiet (grown_refl _ _) 4 9 14 w.heap.size 28 5 ev kk X1 zv kk X2 nv kk X3 _)⟩ | trace_state
      ·rintro vs v1 ⟨h7,-⟩ hT
       refine ⟨_,_,rfl,rfl,?_⟩
       clear hS
       try dsimp only at h7
       simp only [RegRel.fillT,List.foldl_cons,List.foldl_nil,Sp4,Sp5,Sp6]
       try simp only [h7]
       try clear h7
       go_simp
       first | exact ⟨⟨_,rfl,hT.size,Bx.new _ _ _⟩,(AK.quiet (grown_alloc (grown_refl _ _) _) 4 9 14 w.heap.size 28 5 ev kk X1 zv kk X2 nv kk X3 _),rfl⟩ | exact ⟨⟨_,rfl,hT.size,Bx.new _ _ _⟩,(AK.quiet (grown_alloc (grown_refl _ _) _) 4 9 14 w.heap.size 28 5 ev kk X1 zv kk X2 nv kk X3 _)⟩ | trace_state
      ·rintro vs v1 ⟨⟨q3,h3,hq3,hb3⟩,⟨h4,ha4⟩,h5,h6,h7,⟨q8,h8,hq8,hb8⟩,-⟩ hT
       refine ⟨_,_,rfl,rfl,?_⟩
       clear hS
       try dsimp only at h3 h4 h5 h6 h7 h8
       simp only [RegRel.fillT,List.foldl_cons,List.foldl_nil,Sp4,Sp5,Sp6]
       try simp only [h3,h4,h5,h6,h7,h8]
       try clear h3 h4 h5 h6 h7 h8
       have hw1 : w.heap.size ≤ v1.heap.size:=Nat.le_trans hwU hT.size
       refine wp_app2 (.tmp 93) (.tmp 95) 29 rfl w.heap.size 3 i3 _ 1 8 Try.underlying29 hi3 hz3 hs3 iy3 rfl (by decide) zv kk X2 (by simp [Act.eval]) hT.oz ⟨q8,0,none⟩ 1 1 [.int .i64 (z + d)] (by simp [Act.eval]) rfl (bx_news hb8) (by simp [Value.oneCell']) (by unfold maxLen; omega) (by omega) hw1 ?_
       intro v' w' o1 o2 o3 o4
       have hv1:=hT.size
       refine ⟨?_,⟨by simpa [rowAt] using o2,fun h => h.kept o2 (own_ne h hT.oz (by decide)),fun _ => o3,fun h => h.kept o2 (apart_symm JA)⟩,rfl⟩
       simp only [RegRel.upd,if_true,Act.put,Sp1,Sp2,Sp3,Sp4,Sp5,Sp6,Array.getD_eq_getD_getElem?,List.getElem?_toArray,List.getElem?_cons_succ,List.getElem?_cons_zero,Option.getD_some]
       exact ⟨o1,o4.imp id fun h k hk => Nat.le_trans hv1 (h k hk)⟩
      ·rintro vs v1 - hT
       refine ⟨_,_,rfl,rfl,?_⟩
       clear hS
       simp only [RegRel.fillT,List.foldl_cons,List.foldl_nil,Sp4,Sp5,Sp6]
       go_simp
       first | exact ⟨rfl,(AK.quiet (grown_refl _ _) 4 9 14 w.heap.size 28 5 ev kk X1 zv kk X2 nv kk X3 _),rfl⟩ | exact ⟨rfl,(AK.quiet (grown_refl _ _) 4 9 14 w.heap.size 28 5 ev kk X1 zv kk X2 nv kk X3 _)⟩ | trace_state
      ·rintro vs v1 ⟨h12,-⟩ hT
       refine ⟨_,_,rfl,rfl,?_⟩
       clear hS
       try dsimp only at h12
       simp only [RegRel.fillT,List.foldl_cons,List.foldl_nil,Sp4,Sp5,Sp6]
       try simp only [h12]
       try clear h12
       go_simp
       first | exact ⟨⟨_,rfl,hT.size,Bx.new _ _ _⟩,(AK.quiet (grown_alloc (grown_refl _ _) _) 4 9 14 w.heap.size 28 5 ev kk X1 zv kk X2 nv kk X3 _),rfl⟩ | exact ⟨⟨_,rfl,hT.size,Bx.new _ _ _⟩,(AK.quiet (grown_alloc (grown_refl _ _) _) 4 9 14 w.heap.size 28 5 ev kk X1 zv kk X2 nv kk X3 _)⟩ | trace_state
      ·rintro vs v1 ⟨⟨q3,h3,hq3,hb3⟩,⟨h4,ha4⟩,h5,h6,h7,⟨q8,h8,hq8,hb8⟩,⟨h9,ha9⟩,h12,⟨q13,h13,hq13,hb13⟩,-⟩ hT
       refine ⟨_,_,rfl,rfl,?_⟩
       clear hS
       try dsimp only at h3 h4 h5 h6 h7 h8 h9 h12 h13
       simp only [RegRel.fillT,List.foldl_cons,List.foldl_nil,Sp4,Sp5,Sp6]
       simp only [h13]
       have hw1 : w.heap.size ≤ v1.heap.size:=Nat.le_trans hwU hT.size
       refine wp_app2 (.tmp 98) (.tmp 100) 29 rfl w.heap.size 3 i3 _ 1 8 Try.underlying29 hi3 hz3 hs3 iy3 rfl (by decide) nv kk X3 (by simp [Act.eval]) hT.on ⟨q13,0,none⟩ 1 1 [.int .i64 n] (by simp [Act.eval]) rfl (bx_news hb13) (by simp [Value.oneCell']) (by unfold maxLen; omega) (by omega) hw1 ?_
       intro v' w' o1 o2 o3 o4
       have hv1:=hT.size
       refine ⟨?_,⟨by simpa [rowAt] using o2,fun h => h.kept o2 (own_ne h hT.on (by decide)),fun h => h.kept o2 JA,fun _ => o3⟩,rfl⟩
       simp only [RegRel.upd,if_true,Act.put,Sp1,Sp2,Sp3,Sp4,Sp5,Sp6,Array.getD_eq_getD_getElem?,List.getElem?_toArray,List.getElem?_cons_succ,List.getElem?_cons_zero,Option.getD_some]
       refine ⟨o1,?_⟩
       rw [if_neg (by decide)]
       rcases o4 with o4 | o4
       ·rw [o4]; exact own_apart ha9 JA JN
       ·cases hv9 : (vs 9).ownBlock with
        | none => exact .inl rfl
        | some k => exact .inr fun e => by have:=o4 k e.symm; have:=h9.lt k hv9; omega
      ·rintro vs v1 ⟨⟨q3,h3,hq3,hb3⟩,⟨h4,ha4⟩,-⟩ hT
       refine ⟨_,_,rfl,rfl,?_⟩
       clear hS
       try dsimp only at h3 h4
       simp only [RegRel.fillT,List.foldl_cons,List.foldl_nil,Sp4,Sp5,Sp6]
       try simp only [h3,h4]
       try clear h3 h4
       go_simp
       first | exact ⟨rfl,(AK.quiet (grown_refl _ _) 4 9 14 w.heap.size 28 5 ev kk X1 zv kk X2 nv kk X3 _),rfl⟩ | exact ⟨rfl,(AK.quiet (grown_refl _ _) 4 9 14 w.heap.size 28 5 ev kk X1 zv kk X2 nv kk X3 _)⟩ | trace_state
     case hfin =>
      rintro vs v1 ⟨⟨q3,h3,hq3,hb3⟩,⟨h4,ha4⟩,h5,h6,h7,⟨q8,h8,hq8,hb8⟩,⟨h9,ha9⟩,h12,⟨q13,h13,hq13,hb13⟩,⟨h14,ha14⟩,h15,-⟩ hT
      clear hS
      try dsimp only at h3 h4 h5 h6 h7 h8 h9 h12 h13 h14 h15
      simp only [List.filter_cons,List.contains_cons,List.contains_nil,Nat.reduceBEq,Bool.or_false,Bool.not_false,if_true,List.filter_nil]
      simp only [RegRel.fillT,List.foldl_cons,List.foldl_nil,Sp4,Sp5,Sp6]
      simp only [h3,h5,h6,h7,h8,h12,h13,h15]
      clear h3 h5 h6 h7 h8 h12 h13 h15 hb3 hb8 hb13 hq3 hq8 hq13
      generalize vs 4 = ev2 at *
      generalize vs 9 = zv2 at *
      generalize vs 14 = nv2 at *
      obtain ⟨A4,C4,rfl⟩:=own_shape h4
      obtain ⟨A9,C9,rfl⟩:=own_shape h9
      obtain ⟨A14,C14,rfl⟩:=own_shape h14
      have BL:=hT.bx JE JZ JN JL (by decide) (by decide)
      have BF:=hT.bx JE JZ JN JF (by decide) (by decide)
      have B8:=hT.bx JE JZ JN HJ.out.k8 (by decide) (by decide)
      have B9:=hT.bx JE JZ JN HJ.out.k9 (by decide) (by decide)
      have FD : Fd g v1:=by obtain ⟨x,x1,x2,x3⟩:=HJ.out.fd; exact ⟨x,x1,x2,hT.bx JE JZ JN x3 (by decide) (by decide)⟩
      have GR:=hT.gr HJ.out.gr JE JZ JN
      have Hs3:=Lib.hid HJ.out.s3
      have Hmd:=HJ.out.md
      obtain ⟨l0,l1,l2,l3,lf,lz⟩:=BL.four
      obtain ⟨f0,f1,ff,fz⟩:=BF.two
      refine RegRel.wpOps_go rfl rfl ?_
      go_simp
      refine RegRel.wpOps_go rfl rfl ?_
      go_simp
      refine RegRel.wpOps_go rfl rfl ?_
      go_simp
      refine RegRel.wpOps_go rfl rfl ?_
      go_simp
      refine RegRel.wpOps_go rfl rfl ?_
      go_simp
      refine RegRel.wpOps_end ?_
      go_simp
      go_wp2_with fail
      have nL4:=own_bx h4 BL (by decide)
      have nF4:=own_bx h4 BF (by decide)
      have nL9:=own_bx h9 BL (by decide)
      have nF9:=own_bx h9 BF (by decide)
      have nL14:=own_bx h14 BL (by decide)
      have nF14:=own_bx h14 BF (by decide)
      have hgw:=hbg
      go_roundw
      case rel =>
       refine ⟨st,z + d,i - 1,ts ++ [(⟨3,shows st n (z + d),0,c0,c1⟩,z + d,n)],.slice A4 (kk + 1) C4,.slice A9 (kk + 1) C9,.slice A14 (kk + 1) C14,by go_num,rfl,⟨by omega,?_,hs1,hs2,Hs3.out,.snoc ts z _ _ _ Hmd ⟨by simp,cr1,cr2,cr3,by omega,by omega,by simp,by simp,rfl⟩ (by dsimp only; omega) (by dsimp only; omega),?_,?_,?_,?_,?_,ha14,?_,?_,?_,?_⟩⟩
       ·rw [List.length_append,List.length_singleton]; push_cast; omega
       ·simpa using ((BL.set_ 3 (.slice A4 (kk + 1) C4)).far (p:=⟨w2.heap.size + 1,0,none⟩) (by simp) (.slice A9 (kk + 1) C9)).far (p:=⟨w2.heap.size + 1,1,none⟩) (by simp) (.slice A14 (kk + 1) C14)
       ·simpa using ((BF.far (p:=⟨w2.heap.size,3,none⟩) (by simp) (.slice A4 (kk + 1) C4)).set_ 0 (.slice A9 (kk + 1) C9)).set_ 1 (.slice A14 (kk + 1) C14)
       ·rw [List.length_append,List.length_singleton,HKK.out,es_snoc,HX.out.1]; exact own_set (own_set (own_set h4 nL4 _) nF4 _) nF4 _
       ·rw [List.length_append,List.length_singleton,HKK.out,zs_snoc,HX.out.2.1]; exact own_set (own_set (own_set h9 nL9 _) nF9 _) nF9 _
       ·rw [List.length_append,List.length_singleton,HKK.out,ns_snoc,HX.out.2.2]; exact own_set (own_set (own_set h14 nL14 _) nF14 _) nF14 _
       ·exact ((B8.far (by simp; omega) _).far (by simp; omega) _).far (by simp; omega) _
       ·exact ((B9.far (by simp; omega) _).far (by simp; omega) _).far (by simp; omega) _
       ·exact ((FD.far (by simp; omega) _).far (by simp; omega) _).far (by simp; omega) _
       ·exact grown_new (grown_new (grown_new GR (by omega) _) (by omega) _) (by omega) _
      case measure => simp [intOf]; omega
   ·obtain rfl : i = 0:=by omega
    have BL:=I.kL
    have BF:=I.kF
    have B8:=I.k8
    have B9:=I.k9
    have IE:=I.oe
    have IZ:=I.oz
    have IN:=I.on
    obtain ⟨A4,C4,rfl⟩:=own_shape IE
    obtain ⟨A9,C9,rfl⟩:=own_shape IZ
    obtain ⟨A14,C14,rfl⟩:=own_shape IN
    have HS3:=Lib.hid I.s3
    have HMD:=Lib.hid I.md
    have HAP:=Lib.hid I.ap
    have HFD:=Lib.hid I.fd
    have HGR:=Lib.hid I.gr
    clear I
    obtain ⟨l0,l1,l2,l3,lf,lz⟩:=BL.four
    obtain ⟨f0,f1,ff,fz⟩:=BF.two
    obtain ⟨g0,g1,g2,g3,gf,gz⟩:=B8.four
    obtain ⟨k0,k1,kf,kz⟩:=B9.two
    go_wp2_with fail
    refine AnyG.start (fun w' : World => Bx w' w2.heap.size 26 #[.int .i64 st,.int .i64 z0,.int .i64 z1,.slice A4 ts.length C4] ∧ Bx w' (w2.heap.size + 1) 32 #[.slice A9 ts.length C9,.slice A14 ts.length C14]) (fun i => i != 3) (by kernel_rfl) ?_
    have hS : (fun w' : World => Bx w' w2.heap.size 26 #[.int .i64 st,.int .i64 z0,.int .i64 z1,.slice A4 ts.length C4] ∧ Bx w' (w2.heap.size + 1) 32 #[.slice A9 ts.length C9,.slice A14 ts.length C14]) (World.drew _):=⟨BL.drew,BF.drew⟩
    refine AnyG.take (i:=0) (v:=?_) rfl (by kernel_rfl) (fun _ _ _ h => h) rfl ?_ hS ?_
    rotate_left
    ·(intro w' hSw; (try dsimp only at hSw); obtain ⟨l0,l1,l2,l3,lf,lz⟩:=hSw.1.four; go_simp; try with_reducible rfl)
    try simp only [Act.put,Sp1,Sp2,Sp3,Sp4,Sp5,Sp6]
    refine AnyG.take (i:=1) (v:=?_) rfl (by kernel_rfl) (fun _ _ _ h => h) rfl ?_ hS ?_
    rotate_left
    ·(intro w' hSw; (try dsimp only at hSw); obtain ⟨f0,f1,ff,fz⟩:=hSw.2.two; go_simp; try with_reducible rfl)
    try simp only [Act.put,Sp1,Sp2,Sp3,Sp4,Sp5,Sp6]
    clear hS
    refine AnyG.one (i:=2) (by kernel_rfl) rfl rfl ?_
    go_simp
    refine Onward.on ⟨(((BL.drew.far (by simp; omega) _).far (by simp; omega) _).far (by simp; omega) _).far (by simp; omega) _,(((BF.drew.far (by simp; omega) _).far (by simp; omega) _).far (by simp; omega) _).far (by simp; omega) _⟩ (fun hS => ?_)
    clear hS
    try simp only [Act.put,Sp4,Sp5,Sp6]
    refine AnyG.one (i:=3) (by kernel_rfl) rfl rfl ?_
    go_simp
    refine Onward.last rfl ?_
    try simp only [Act.put,Sp4,Sp5,Sp6]
    refine AnyG.done (by kernel_rfl) ?_ _
    go_simp
    go_wp2_with fail
    have nE8:=own_bx IE B8 (by decide)
    have nE9:=own_bx IE B9 (by decide)
    have nZ8:=own_bx IZ B8 (by decide)
    have nZ9:=own_bx IZ B9 (by decide)
    have nN8:=own_bx IN B8 (by decide)
    have nN9:=own_bx IN B9 (by decide)
    refine bodyPost_ret (v:=.tuple #[.agg #[.int .i64 st,.int .i64 z0,.int .i64 z1,.slice A4 ts.length C4],.agg #[.slice A9 ts.length C9,.slice A14 ts.length C14]]) (results_two (g:=w.heap.size) (k:=w.heap.size + 1) (t:=26) (u:=32) rfl rfl rfl ?_ ?_ Try.underlying26 rfl (by kernel_rfl) Try.underlying32 rfl (by kernel_rfl)) rfl ⟨st,z0,z1,ts,z,_,_,_,rfl,⟨hs1,hs2,(by first | exact HS3.out | exact fun _ => HS3.out trivial),by omega,by omega,by omega⟩,HMD.out,by omega,?_,?_,?_,HAP.out,?_,?_⟩
    ·simpa using ((((((B8.set_ 0 (.int .i64 st)).set_ 1 (.int .i64 z0)).set_ 2 (.int .i64 z1)).set_ 3 (.slice A4 ts.length C4)).far (p:=⟨w.heap.size + 1,0,none⟩) (by simp) (.slice A9 ts.length C9)).far (p:=⟨w.heap.size + 1,1,none⟩) (by simp) (.slice A14 ts.length C14)).drew
    ·simpa using ((((((B9.far (p:=⟨w.heap.size,0,none⟩) (by simp) (.int .i64 st)).far (p:=⟨w.heap.size,1,none⟩) (by simp) (.int .i64 z0)).far (p:=⟨w.heap.size,2,none⟩) (by simp) (.int .i64 z1)).far (p:=⟨w.heap.size,3,none⟩) (by simp) (.slice A4 ts.length C4)).set_ 0 (.slice A9 ts.length C9)).set_ 1 (.slice A14 ts.length C14)).drew
    ·exact (own_set (own_set (own_set (own_set (own_set (own_set IE nE8 _) nE8 _) nE8 _) nE8 _) nE9 _) nE9 _).drew
    ·exact (own_set (own_set (own_set (own_set (own_set (own_set IZ nZ8 _) nZ8 _) nZ8 _) nZ8 _) nZ9 _) nZ9 _).drew
    ·exact (own_set (own_set (own_set (own_set (own_set (own_set IN nN8 _) nN8 _) nN8 _) nN8 _) nN9 _) nN9 _).drew
    ·exact ((((((HFD.out.far (by simp; omega) _).far (by simp; omega) _).far (by simp; omega) _).far (by simp; omega) _).far (by simp; omega) _).far (by simp; omega) _).drew
    ·exact grown_trans (grown_new (grown_new (grown_new (grown_new (grown_new (grown_new HGR.out (by omega) _) (by omega) _) (by omega) _) (by omega) _) (by omega) _) (by omega) _) (grown_drew _ _)
end Go.Proofs.Ytgbogdckmfencaa
