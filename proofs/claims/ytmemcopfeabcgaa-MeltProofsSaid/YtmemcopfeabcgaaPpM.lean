/- append to a slice of one's own: where the new slice lies. -/
import Derived.Test.YtmemcopfeabcgaaCh
import Derived.Test.YtmemcopfeabcgaaFr
import Derived.ArgAppend
import Derived.OwnWalk
import Derived.Test.YtmemcopfeabcgaaBlM
import Derived.Defers
import Derived.Recover
import Derived.Laws.Pointers
set_option linter.unusedSimpArgs false
set_option linter.unusedVariables false
namespace Go.Proofs.Ytmemcopfeabcgaa
open Go Go.RowKit
section
variable {P : Program}
theorem ownsRow_pre {w : World} {b : Nat} {e : TypeId} {size : Nat} {g n m cap : Nat} {xs ys : List Value} (h : w.ownsRow b e size (.slice (some ⟨g,0,none⟩) (n + m) cap) (n + m) (xs ++ ys)) (hx : xs.length = n * size) : w.ownsRow b e size (.slice (some ⟨g,0,none⟩) n cap) n xs:=by
 refine ⟨hx,?_⟩
 rcases h.2 with ⟨h1,_⟩ | ⟨g',cap',cur,h1,hb,hg,hc,hm,hs,ht⟩
 ·simp at h1
 ·simp only [Value.slice.injEq,Option.some.injEq,Addr.mk.injEq,and_true,true_and] at h1
  obtain ⟨rfl,rfl⟩:=h1
  refine .inr ⟨g,cap,cur,rfl,hb,hg,by omega,hm,hs,?_⟩
  have:=congrArg (List.take (n * size)) ht
  rw [List.take_take,Nat.min_eq_left (Nat.mul_le_mul_right _ (by omega)),List.take_left' hx] at this
  exact this
theorem app2 (w : World) (base : Nat) (t ty e : TypeId) (i : TypeInfo) (z : Value) (size bytes : Nat) (ht : P.underlying t = some (.slice e)) (hi : P.info? e = some i) (hz : i.zero = some z)
  (hsize : i.size = size) (hby : i.bytes = bytes) (hzs : z.cells.size = size) (hsz : 0 < size)
  (v : Value) (n : Nat) (xs : List Value) (hown : w.ownsRow base e size v n xs)
  (a : Addr) (m c : Nat) (news : List Value) (hl : news.length = m * size) (hnews : ∀ j u,news[j]? = some u → w.cell? (a.add j) = some u) (h1 : ∀ u ∈ news,u.oneCell' = true)
  (h63 : n + m ≤ maxLen) (hbytes : (n + m) * bytes ≤ 140737488355328) (hbase : base ≤ w.heap.size) :
  ∃ v' w',(Builtin.append_ #[t,t] ty #[v,.slice (some a) m c]).run P w = .ok v' w' ∧ w'.ownsRow base e size v' (n + m) (xs ++ news) ∧ w.grownBy w' v.ownBlock ∧ w'.ownsRow base e size v n xs ∧ (v'.ownBlock = v.ownBlock ∨ ∀ k,v'.ownBlock = some k → w.heap.size ≤ k):=by
 obtain ⟨v',w',hr,h2,h3,_⟩:=run_append_own (P:=P) w base t ty e i z size bytes ht hi hz hsize hby hzs hsz v n xs hown a m c news hl hnews h1 h63 hbytes hbase
 refine ⟨v',w',hr,h2,h3,?_⟩
 have hown':=hown
 rcases hown'.2 with ⟨rfl,rfl⟩ | ⟨g,cap,cur,rfl,hbg,hg,hnc,hcm,hcs,htake⟩
 ·have hx : xs = []:=List.eq_nil_of_length_eq_zero (by simpa using hown.1)
  subst hx
  refine ⟨World.ownsRow_nil _ _ _ _,.inr ?_⟩
  obtain ⟨v2,w2,hr2,k2,_,_⟩:=run_append_own (P:=P) w w.heap.size t ty e i z size bytes ht hi hz hsize hby hzs hsz (.slice none 0 0) 0 [] (World.ownsRow_nil _ _ _ _) a m c news hl hnews h1 h63 hbytes (Nat.le_refl _)
  rw [hr] at hr2
  injection hr2 with e1 e2
  subst e1
  exact fun k hk => (k2.lt k hk).1
 ·by_cases hroom : n + m ≤ cap
  ·have hfit : n * i.size + news.length ≤ cur.size:=by rw [hl,hcs,hsize,← Nat.add_mul]; exact Nat.mul_le_mul_right _ hroom
   have hr2:=run_append_room (P:=P) w t ty e i ht hi g n cap cur hg a m c news (by rw [hl,hsize]) hnews h1 hroom hfit
   rw [hr] at hr2
   injection hr2 with e1 e2
   subst e1
   exact ⟨ownsRow_pre h2 hown.1,.inl rfl⟩
  ·have holds : ∀ j u,xs[j]? = some u → w.cell? ((⟨g,0,none⟩ : Addr).add j) = some u:=hown.cells (g:=g) rfl
   obtain ⟨v2,w2,hr2,k2,k3⟩:=run_append_arg_grows (P:=P) w t ty e i z size bytes ht hi hz hsize hby hzs hsz ⟨g,0,none⟩ n cap xs hown.1 holds a m c news hl hnews (by omega) h63 hbytes
   rw [hr] at hr2
   injection hr2 with e1 e2
   subst e1 e2
   exact ⟨hown.kept k3 (.inr (by simp [Value.ownBlock])),.inr fun k hk => (k2.lt k hk).1⟩
theorem wp_app2 {o : Oper} {a : Act} {w : World} {K : Act → World → Prop} {Q : Exit → Act → World → Prop} (s x : Operand) (t : TypeId)
  (ho : o.op = .call { callee:=.builtin .append,args:=#[s,x],argTypes:=#[t,t] })
  (base : Nat) (e : TypeId) (i : TypeInfo) (z : Value) (size bytes : Nat) (ht : P.underlying t = some (.slice e)) (hi : P.info? e = some i) (hz : i.zero = some z)
  (hsize : i.size = size) (hby : i.bytes = bytes) (hzs : z.cells.size = size) (hsz : 0 < size)
  (v : Value) (n : Nat) (xs : List Value) (hs : a.eval s = v) (hown : w.ownsRow base e size v n xs)
  (ad : Addr) (m c : Nat) (news : List Value) (hx : a.eval x = .slice (some ad) m c) (hl : news.length = m * size) (hnews : ∀ j u,news[j]? = some u → w.cell? (ad.add j) = some u) (h1 : ∀ u ∈ news,u.oneCell' = true)
  (h63 : n + m ≤ maxLen) (hbytes : (n + m) * bytes ≤ 140737488355328) (hbase : base ≤ w.heap.size)
  (h : ∀ v' w',w'.ownsRow base e size v' (n + m) (xs ++ news) → w.grownBy w' v.ownBlock → w'.ownsRow base e size v n xs → (v'.ownBlock = v.ownBlock ∨ ∀ k,v'.ownBlock = some k → w.heap.size ≤ k) → K (a.put o.dst v') w') : o.wp P a w K Q:=by
 obtain ⟨v',w',hr,h2,h3,h4,h5⟩:=app2 (P:=P) w base t o.type e i z size bytes ht hi hz hsize hby hzs hsz v n xs hown ad m c news hl hnews h1 h63 hbytes hbase
 unfold Oper.wp execOp
 simp only [ho,resolve,invoke,builtin,Sem.run_bind,Sem.run_pure,Result.andThen_ok,List.map_toArray,List.map_cons,List.map_nil,hs,hx,hr]
 exact h v' w' h2 h3 h4 h5
theorem wpList_app2 {w : World} {ops : Array Oper} {rest : List Oper} {o : Oper} {a : Act} {Q : Exit → Act → World → Prop} (hgd : o.guard = none) (s x : Operand) (t : TypeId)
  (ho : o.op = .call { callee:=.builtin .append,args:=#[s,x],argTypes:=#[t,t] })
  (base : Nat) (e : TypeId) (i : TypeInfo) (z : Value) (size bytes : Nat) (ht : P.underlying t = some (.slice e)) (hi : P.info? e = some i) (hz : i.zero = some z)
  (hsize : i.size = size) (hby : i.bytes = bytes) (hzs : z.cells.size = size) (hsz : 0 < size)
  (v : Value) (n : Nat) (xs : List Value) (hs : a.eval s = v) (hown : w.ownsRow base e size v n xs)
  (ad : Addr) (m c : Nat) (news : List Value) (hx : a.eval x = .slice (some ad) m c) (hl : news.length = m * size) (hnews : ∀ j u,news[j]? = some u → w.cell? (ad.add j) = some u) (h1 : ∀ u ∈ news,u.oneCell' = true)
  (h63 : n + m ≤ maxLen) (hbytes : (n + m) * bytes ≤ 140737488355328) (hbase : base ≤ w.heap.size)
  (h : ∀ v' w',w'.ownsRow base e size v' (n + m) (xs ++ news) → w.grownBy w' v.ownBlock → (v'.ownBlock = v.ownBlock ∨ ∀ k,v'.ownBlock = some k → w.heap.size ≤ k) → wpList P ops Q rest (a.put o.dst v') w') : wpList P ops Q (o :: rest) a w :=
 wpList_plain hgd fun _ hK => wp_app2 s x t ho base e i z size bytes ht hi hz hsize hby hzs hsz v n xs hs hown ad m c news hx hl hnews h1 h63 hbytes hbase fun v' w' h2 h3 _ h5 => hK _ _ (h v' w' h2 h3 h5)
end
theorem own_bx {w : World} {b : Nat} {e : TypeId} {s : Nat} {v : Value} {n : Nat} {xs : List Value} {q t : Nat} {cs : Array Value} (h : w.ownsRow b e s v n xs) (k : Bx w q t cs) (hne : t ≠ e) : some q ≠ v.ownBlock:=by
 intro he
 rcases h.2 with ⟨rfl,_⟩ | ⟨g,cap,cur,rfl,_,hg,_⟩
 ·simp [Value.ownBlock] at he
 ·simp only [Value.ownBlock,Option.some.injEq] at he
  subst he
  unfold Bx at k
  rw [k] at hg
  injection hg with h1
  injection h1 with _ h2
  exact hne h2
theorem own_bel {w x : World} {b n : Nat} {t : TypeId} {s : Nat} {v : Value} {xs : List Value} (h : w.ownsRow b t s v n xs) (hb : Below w.heap.size w x) : x.ownsRow b t s v n xs :=
 h.kept (grown_below (row:=none) hb) (by cases h : v.ownBlock <;> simp)
end Go.Proofs.Ytmemcopfeabcgaa

/-! melt.claim.prove: the plain proof, where there is one. -/
namespace Go.Proofs.Ytmemcopfeabcgaa
open Go Go.RowKit
def bdr (r : Bd) : List Value:=[.int .i64 r.rs,.int .i64 r.at_,.int .i64 r.ct]
def bdrs (L : List Bd) : List Value:=(L.map bdr).flatten
theorem bdrs_append (L M : List Bd) : bdrs (L ++ M) = bdrs L ++ bdrs M:=by simp [bdrs]
theorem bdrs_one (r : Bd) : bdrs [r] = bdr r:=by simp [bdrs]
theorem info69' : (Try.prog.info? 69).map (fun i => (i.zero,i.size,i.bytes)) = some (some (.agg #[.int .i64 0,.int .i64 0,.int .i64 0]),3,24):=by kernel_rfl
theorem bd_cells (w : World) (r : Bd) : ∀ j u,(bdr r)[j]? = some u → (w.alloc (.cells #[.int .i64 r.rs,.int .i64 r.at_,.int .i64 r.ct] 69)).cell? ((⟨w.heap.size,0,none⟩ : Addr).add j) = some u:=by
 intro j u hu
 have hj : j < 3:=by simpa [bdr] using (List.getElem?_eq_some_iff.1 hu).1
 have e : (⟨w.heap.size,0,none⟩ : Addr).add j = ⟨w.heap.size,j,none⟩:=by unfold Addr.add; split <;> simp_all
 rw [e,(Bx.new w 69 #[.int .i64 r.rs,.int .i64 r.at_,.int .i64 r.ct]).cell j]
 simpa [bdr] using hu
theorem bd_one (r : Bd) : ∀ u ∈ bdr r,u.oneCell' = true:=by intro u hu; simp [bdr] at hu; rcases hu with rfl | rfl | rfl <;> rfl
/-- What prove gives back: the proof that came, and L behind it. -/
def ProveP (B : Nat) (w : World) (v : Value) (n : Nat) (xs : List Value) (L : List Bd) (e : Ending) (w' : World) : Prop :=
 ∃ v',e = .returned v' ∧ w'.ownsRow B 69 3 v' (n + L.length) (xs ++ bdrs L) ∧ w.grownBy w' v.ownBlock ∧ (v'.ownBlock = v.ownBlock ∨ ∀ k,v'.ownBlock = some k → w.heap.size ≤ k)
theorem alt_low {a b : Option Nat} {x y : Nat} (h : a = b ∨ ∀ k,a = some k → y ≤ k) (hxy : x ≤ y) : a = b ∨ ∀ k,a = some k → x ≤ k:=by
 rcases h with h | h
 ·exact .inl h
 ·exact .inr fun k hk => Nat.le_trans hxy (h k hk)
theorem alt_trans {a b c : Option Nat} {x y : Nat} (h : a = b ∨ ∀ k,a = some k → x ≤ k) (h' : c = a ∨ ∀ k,c = some k → y ≤ k) (hxy : x ≤ y) : c = b ∨ ∀ k,c = some k → x ≤ k:=by
 rcases h' with rfl | h'
 ·exact h
 ·exact .inr fun k hk => Nat.le_trans hxy (h' k hk)
theorem grown_trans {a b c : World} {r s : Option Nat} (h : a.grownBy b r) (k : b.grownBy c s) (hs : s = r ∨ ∀ i,s = some i → a.heap.size ≤ i) : a.grownBy c r :=
 ⟨k.os.trans h.os,k.tape.trans h.tape,k.output.trans h.output,Nat.le_trans h.size k.size,fun i hi hne => (k.block i (by have:=h.size; omega) (fun e => by
  rcases hs with rfl | hs
  ·exact hne e
  ·have:=hs i e.symm; omega)).trans (h.block i hi hne)⟩
set_option maxRecDepth 100000 in
set_option maxHeartbeats 4000000 in
theorem prove_some (LA : Option Addr) (ln lc : Nat) (BA : Option Addr) (bn bc : Nat) (o : Od) (p : Int) (B : Nat) (ho : o.Ok) (hl : o.lm.length = ln) (hb' : o.bs.length = bn) : ∀ (fuel : Nat) (lo hi : Nat → Int) (L : List Bd) (v : Value) (n : Nat) (xs : List Value) (w : World),BoxOk lo hi → prf o p fuel lo hi = some L → OrdAt w B LA BA o → w.ownsRow B 69 3 v n xs → B ≤ w.heap.size → n + L.length ≤ 100000 →
  Calls Try.prog 89 #[.agg #[.slice LA ln lc,.int .i64 o.le,.int .i64 o.mo,.slice BA bn bc,.int .i64 p],v,.agg (xarr lo hi)] w fun e w' => ProveP B w v n xs L e w':=by
 have HB:=Lib.hid hb'
 have HL:=Lib.hid hl
 have HO:=Lib.hid ho
 clear hb' hl ho
 obtain ⟨i69,hi69,hz69,hs69,iy69⟩:=info_parts info69'
 intro fuel
 induction fuel with
 | zero => intro lo hi L v n xs w _ h; simp [prf] at h
 | succ fuel ih =>
  intro lo hi L v n xs w hbx hp hA how hBw hnL
  have IH:=Lib.hid ih
  have HX:=Lib.hid hbx
  have k1:=(Bx.new w 100 #[.slice LA ln lc,.int .i64 o.le,.int .i64 o.mo,.slice BA bn bc,.int .i64 p]).alloc (.cells (xarr lo hi) 91)
  have k2:=Bx.at (w.alloc (.cells #[.slice LA ln lc,.int .i64 o.le,.int .i64 o.mo,.slice BA bn bc,.int .i64 p] 100)) 91 (xarr lo hi) (n:=w.heap.size + 1) (by simp)
  have B0:=((Below.refl w.heap.size w).alloc (Nat.le_refl _) (.cells #[.slice LA ln lc,.int .i64 o.le,.int .i64 o.mo,.slice BA bn bc,.int .i64 p] 100)).alloc (by simp) (.cells (xarr lo hi) 91)
  clear ih hbx
  obtain ⟨c0,c1,c2,c3,c4,cf,cz⟩:=k1.five
  obtain ⟨p0,p1,p2,p3,p4,p5,p6,p7,pf,pz⟩:=k2.xarr
  unfold prf at hp
  cases hr : reason o p lo hi with
  | some r =>
   rw [hr] at hp
   simp only [Option.some.injEq] at hp
   subst hp
   have HR : Hid (reasonV o p lo hi = .tuple #[.agg #[.int .i64 r.rs,.int .i64 r.at_,.int .i64 r.ct],.bool true]):=by unfold Hid reasonV; rw [hr]
   clear hr
   have h1c:=bd_one r
   go_enter Try.func89,Try.ntmps89
   go_wp2_with (first
    | (go_at_call 97; rw [← xarr_def lo hi]; refine (firstReason_any LA ln lc BA bn bc o p lo hi _ HL.out HB.out ((hA.below (B0.mono hBw)).more (Nat.le_trans hBw B0.size)) HO.out HX.out).mono ?_; rintro e w1 ⟨rfl,hb1⟩; rw [HR.out]; have B1:=B0.trans (hb1.mono B0.size))
    | (at_builtin; have how':=own_bel how ((B1.alloc B1.size (.cells #[.int .i64 r.rs,.int .i64 r.at_,.int .i64 r.ct] 69)).alloc (by have:=B1.size; simp; omega) (.cells #[.int .i64 r.rs,.int .i64 r.at_,.int .i64 r.ct] 69)); have hcs:=bd_cells (w1.alloc (.cells #[.int .i64 r.rs,.int .i64 r.at_,.int .i64 r.ct] 69)) r; rw [World.size_alloc] at hcs; refine wpList_app2 rfl (.tmp 20) (.tmp 22) 51 rfl B 69 i69 _ 3 24 Try.underlying51 hi69 hz69 hs69 iy69 rfl (by decide) v n xs rfl how' ⟨w1.heap.size + 1,0,none⟩ 1 1 (bdr r) rfl rfl hcs h1c (by unfold maxLen; simp at hnL; omega) (by simp at hnL; omega) (by have:=B1.size; simp; omega) ?_; intro v' w' o1 o2 o3))
   have hW2 : Below w.heap.size w ((w1.alloc (.cells #[.int .i64 r.rs,.int .i64 r.at_,.int .i64 r.ct] 69)).alloc (.cells #[.int .i64 r.rs,.int .i64 r.at_,.int .i64 r.ct] 69)):=(B1.alloc B1.size _).alloc (by have:=B1.size; simp; omega) _
   go_ret
   refine ⟨v',rfl,by rw [bdrs_one]; exact o1,grown_trans (grown_below (row:=v.ownBlock) hW2) o2 (.inl rfl),?_⟩
   rcases o3 with h | h
   ·exact .inl h
   ·exact .inr fun k hk => Nat.le_trans hW2.size (h k hk)
  | none =>
   rw [hr] at hp
   have HR : Hid (reasonV o p lo hi = .tuple #[.agg #[.int .i64 0,.int .i64 0,.int .i64 0],.bool false]):=by unfold Hid reasonV; rw [hr]
   clear hr
   cases h1 : one4 lo hi with
   | true => rw [h1] at hp; simp at hp
   | false =>
    rw [h1] at hp
    simp only [Bool.false_eq_true,if_false] at hp
    obtain ⟨hm4,_⟩:=mid_lt h1
    obtain ⟨cc1,cc2⟩:=cutAt_bd HX.out h1
    have hc6 : 0 ≤ cutAt lo hi ∧ cutAt lo hi ≤ 6:=by
     have:=HX.out.six (mid lo hi)
     have:=HX.out.six2 (mid lo hi)
     omega
    have HXL:=Lib.hid (HX.out.lower hm4 cc1 cc2)
    have HXU:=Lib.hid (HX.out.upper hm4 cc1 cc2)
    have HONE:=Lib.hid h1
    split at hp
    ·rename_i X Y hX hY
     simp only [Option.some.injEq] at hp
     subst hp
     generalize hm : mid lo hi = m at *
     generalize hc : cutAt lo hi = c at *
     have HM:=Lib.hid hm
     have HC:=Lib.hid hc
     have HPX:=Lib.hid hX
     have HPY:=Lib.hid hY
     have hlen : n + (1 + X.length + Y.length) ≤ 100000:=by simp at hnL; omega
     have h1c:=bd_one ⟨1,m,c⟩
     clear h1 cc1 cc2 hX hY hm hc hnL
     go_enter Try.func89,Try.ntmps89
     go_wp2_with (first
      | (go_at_call 97; rw [← xarr_def lo hi]; refine (firstReason_any LA ln lc BA bn bc o p lo hi _ HL.out HB.out ((hA.below (B0.mono hBw)).more (Nat.le_trans hBw B0.size)) HO.out HX.out).mono ?_; rintro e w1 ⟨rfl,hb1⟩; rw [HR.out]; replace k1:=(k1.call hb1).alloc (.cells #[.int .i64 0,.int .i64 0,.int .i64 0] 69); replace k2:=(k2.call hb1).alloc (.cells #[.int .i64 0,.int .i64 0,.int .i64 0] 69); have B1:=(B0.trans (hb1.mono B0.size)).alloc (B0.trans (hb1.mono B0.size)).size (.cells #[.int .i64 0,.int .i64 0,.int .i64 0] 69); clear c0 c1 c2 c3 c4 cf cz p0 p1 p2 p3 p4 p5 p6 p7 pf pz; obtain ⟨c0,c1,c2,c3,c4,cf,cz⟩:=k1.five; obtain ⟨p0,p1,p2,p3,p4,p5,p6,p7,pf,pz⟩:=k2.xarr)
      | (go_at_call 98; rw [← xarr_def lo hi]; refine (isOne_any lo hi _ HX.out).mono ?_; rintro e w2 ⟨rfl,hb2⟩; rw [HONE.out]; replace k1:=k1.call hb2; replace k2:=k2.call hb2; have B2:=B1.trans (hb2.mono B1.size); clear c0 c1 c2 c3 c4 cf cz p0 p1 p2 p3 p4 p5 p6 p7 pf pz; obtain ⟨c0,c1,c2,c3,c4,cf,cz⟩:=k1.five; obtain ⟨p0,p1,p2,p3,p4,p5,p6,p7,pf,pz⟩:=k2.xarr)
      | (go_at_call 99; rw [← xarr_def lo hi]; refine (middle_any lo hi _ HX.out HONE.out).mono ?_; rintro e w3 ⟨rfl,hb3⟩; rw [HM.out,HC.out]; replace k1:=k1.call hb3; replace k2:=k2.call hb3; have B3:=B2.trans (hb3.mono B2.size); clear c0 c1 c2 c3 c4 cf cz p0 p1 p2 p3 p4 p5 p6 p7 pf pz; obtain ⟨c0,c1,c2,c3,c4,cf,cz⟩:=k1.five; obtain ⟨p0,p1,p2,p3,p4,p5,p6,p7,pf,pz⟩:=k2.xarr)
      | (go_at_call 91; rw [← xarr_def lo hi]; refine (cut_any lo hi m c _ hm4 hc6).mono ?_; rintro e w4 ⟨rfl,hb4⟩; replace k1:=k1.call hb4; have B4:=B3.trans (hb4.mono B3.size); rw [xarr_def lo (up1 hi m c),xarr_def (up1 lo m (c + 1)) hi])
      | (at_builtin; have k1':=((k1.alloc (.cells #[.int .i64 (lo 0),.int .i64 (up1 hi m c 0),.int .i64 (lo 1),.int .i64 (up1 hi m c 1),.int .i64 (lo 2),.int .i64 (up1 hi m c 2),.int .i64 (lo 3),.int .i64 (up1 hi m c 3)] 91)).alloc (.cells #[.int .i64 (up1 lo m (c + 1) 0),.int .i64 (hi 0),.int .i64 (up1 lo m (c + 1) 1),.int .i64 (hi 1),.int .i64 (up1 lo m (c + 1) 2),.int .i64 (hi 2),.int .i64 (up1 lo m (c + 1) 3),.int .i64 (hi 3)] 91)).alloc (.cells #[.int .i64 1,.int .i64 (m : Int),.int .i64 c] 69); have kl:=((Bx.new w4 91 #[.int .i64 (lo 0),.int .i64 (up1 hi m c 0),.int .i64 (lo 1),.int .i64 (up1 hi m c 1),.int .i64 (lo 2),.int .i64 (up1 hi m c 2),.int .i64 (lo 3),.int .i64 (up1 hi m c 3)]).alloc (.cells #[.int .i64 (up1 lo m (c + 1) 0),.int .i64 (hi 0),.int .i64 (up1 lo m (c + 1) 1),.int .i64 (hi 1),.int .i64 (up1 lo m (c + 1) 2),.int .i64 (hi 2),.int .i64 (up1 lo m (c + 1) 3),.int .i64 (hi 3)] 91)).alloc (.cells #[.int .i64 1,.int .i64 (m : Int),.int .i64 c] 69); have ku:=(Bx.at (w4.alloc (.cells #[.int .i64 (lo 0),.int .i64 (up1 hi m c 0),.int .i64 (lo 1),.int .i64 (up1 hi m c 1),.int .i64 (lo 2),.int .i64 (up1 hi m c 2),.int .i64 (lo 3),.int .i64 (up1 hi m c 3)] 91)) 91 #[.int .i64 (up1 lo m (c + 1) 0),.int .i64 (hi 0),.int .i64 (up1 lo m (c + 1) 1),.int .i64 (hi 1),.int .i64 (up1 lo m (c + 1) 2),.int .i64 (hi 2),.int .i64 (up1 lo m (c + 1) 3),.int .i64 (hi 3)] (n:=w4.heap.size + 1) (by simp)).alloc (.cells #[.int .i64 1,.int .i64 (m : Int),.int .i64 c] 69); have B5:=((B4.alloc B4.size (.cells #[.int .i64 (lo 0),.int .i64 (up1 hi m c 0),.int .i64 (lo 1),.int .i64 (up1 hi m c 1),.int .i64 (lo 2),.int .i64 (up1 hi m c 2),.int .i64 (lo 3),.int .i64 (up1 hi m c 3)] 91)).alloc (by have:=B4.size; simp; omega) (.cells #[.int .i64 (up1 lo m (c + 1) 0),.int .i64 (hi 0),.int .i64 (up1 lo m (c + 1) 1),.int .i64 (hi 1),.int .i64 (up1 lo m (c + 1) 2),.int .i64 (hi 2),.int .i64 (up1 lo m (c + 1) 3),.int .i64 (hi 3)] 91)).alloc (by have:=B4.size; simp; omega) (.cells #[.int .i64 1,.int .i64 (m : Int),.int .i64 c] 69); have how':=own_bel how B5; have hcs:=bd_cells ((w4.alloc (.cells #[.int .i64 (lo 0),.int .i64 (up1 hi m c 0),.int .i64 (lo 1),.int .i64 (up1 hi m c 1),.int .i64 (lo 2),.int .i64 (up1 hi m c 2),.int .i64 (lo 3),.int .i64 (up1 hi m c 3)] 91)).alloc (.cells #[.int .i64 (up1 lo m (c + 1) 0),.int .i64 (hi 0),.int .i64 (up1 lo m (c + 1) 1),.int .i64 (hi 1),.int .i64 (up1 lo m (c + 1) 2),.int .i64 (hi 2),.int .i64 (up1 lo m (c + 1) 3),.int .i64 (hi 3)] 91)) ⟨1,m,c⟩; simp only [World.size_alloc] at hcs; refine wpList_app2 rfl (.tmp 41) (.tmp 45) 51 rfl B 69 i69 _ 3 24 Try.underlying51 hi69 hz69 hs69 iy69 rfl (by decide) v n xs rfl how' ⟨w4.heap.size + 1 + 1,0,none⟩ 1 1 (bdr ⟨1,m,c⟩) rfl rfl hcs h1c (by unfold maxLen; omega) (by omega) (Nat.le_trans hBw B5.size) ?_; intro v5 w5 o1 o2 o3; have j1:=k1'.grown o2 (own_bx how' k1' (by decide)); have jl:=kl.grown o2 (own_bx how' kl (by decide)); have ju:=ku.grown o2 (own_bx how' ku (by decide)); have BB:=(B5.mono hBw).grown o2 (Nat.le_trans hBw B5.size) (fun k e => (how'.lt k e).1); have GG:=grown_trans (grown_below (row:=v.ownBlock) B5) o2 (.inl rfl); rw [← xarr_def lo (up1 hi m c)] at jl; rw [← xarr_def (up1 lo m (c + 1)) hi] at ju; clear k1 k2 kl ku k1' c0 c1 c2 c3 c4 cf cz p0 p1 p2 p3 p4 p5 p6 p7 pf pz hcs; obtain ⟨c0,c1,c2,c3,c4,cf,cz⟩:=j1.five; obtain ⟨p0,p1,p2,p3,p4,p5,p6,p7,pf,pz⟩:=jl.xarr; obtain ⟨y0,y1,y2,y3,y4,y5,y6,y7,yf,yz⟩:=ju.xarr)
      | (have _t:=q1; clear _t; go_at_call 89; rw [← xarr_def (up1 lo m (c + 1)) hi]; refine (IH.out (up1 lo m (c + 1)) hi Y v6 (n + 1 + X.length) (xs ++ bdr ⟨1,m,c⟩ ++ bdrs X) _ HXU.out HPY.out (hA.below BB6) q1 (Nat.le_trans hBw BB6.size) (by omega)).mono ?_; rintro e w7 ⟨v7,rfl,r1,r2,r3⟩)
      | (go_at_call 89; rw [← xarr_def lo (up1 hi m c)]; refine (IH.out lo (up1 hi m c) X v5 (n + 1) (xs ++ bdr ⟨1,m,c⟩) _ HXL.out HPX.out (hA.below BB) o1 (Nat.le_trans hBw BB.size) (by omega)).mono ?_; rintro e w6 ⟨v6,rfl,q1,q2,q3⟩; have i1:=j1.grown q2 (own_bx o1 j1 (by decide)); have iu:=ju.grown q2 (own_bx o1 ju (by decide)); have BB6:=BB.grown q2 (Nat.le_trans hBw BB.size) (fun k e => (o1.lt k e).1); clear c0 c1 c2 c3 c4 cf cz p0 p1 p2 p3 p4 p5 p6 p7 pf pz y0 y1 y2 y3 y4 y5 y6 y7 yf yz; obtain ⟨c0,c1,c2,c3,c4,cf,cz⟩:=i1.five; obtain ⟨y0,y1,y2,y3,y4,y5,y6,y7,yf,yz⟩:=iu.xarr)
      | fail)
     go_ret
     have hz6:=GG.size
     refine ⟨v7,rfl,?_,?_,?_⟩
     ·have e1 : n + 1 + X.length + Y.length = n + ((⟨1,(m : Int),c⟩ :: (X ++ Y) : List Bd)).length:=by simp; omega
      have e2 : xs ++ bdr ⟨1,m,c⟩ ++ bdrs X ++ bdrs Y = xs ++ bdrs (⟨1,(m : Int),c⟩ :: (X ++ Y)):=by simp [bdrs]
      rw [← e1,← e2]; exact r1
     ·refine grown_trans (grown_trans GG q2 ?_) r2 ?_
      ·rcases o3 with h | h
       ·exact .inl h
       ·exact .inr fun k hk => Nat.le_trans B5.size (h k hk)
      ·exact alt_trans (alt_low o3 B5.size) q3 (Nat.le_trans B5.size o2.size)
     ·exact alt_trans (alt_trans (alt_low o3 B5.size) q3 (Nat.le_trans B5.size o2.size)) r3 (Nat.le_trans (Nat.le_trans B5.size o2.size) q2.size)
    ·cases hp
end Go.Proofs.Ytmemcopfeabcgaa

/-! melt.claim.plainProof, checkPrice, Prove: where there is a plain proof. -/
namespace Go.Proofs.Ytmemcopfeabcgaa
open Go Go.RowKit
theorem catch_idle (p q : Addr) (w : World) :
  CallsD Try.prog 88 #[.pointer (some p),.pointer (some q)] .returning w fun e u' w' => e = .returned (.tuple #[]) ∧ u' = .returning ∧ w' = w:=by
 refine callsD_of_wpS Try.func88 rfl fun c₀ cs hu => ?_
 apply wpS_seq
 apply wpS_region
 simp [wpOpsS,go_sem,recoverD,hu,Try.ntmps88,Exit.thenS]
 refine wpS_cond (t:=false) (by simp [Act.eval,Array.replicate]) ?_
 simp only [Bool.false_eq_true,if_false]
 refine wpS_of_wp (wp_skip ?_)
 cases c₀
 simp_all [bodyPostS,results,Try.results88]
set_option maxRecDepth 100000 in
set_option maxHeartbeats 2000000 in
theorem plainProof_some (LA : Option Addr) (ln lc : Nat) (BA : Option Addr) (bn bc : Nat) (o : Od) (p : Int) (fuel : Nat) (L : List Bd) (w : World) (hl : o.lm.length = ln) (hb' : o.bs.length = bn) (hA : OrdAt w w.heap.size LA BA o) (ho : o.Ok) (hp : prf o p fuel zer o.mx = some L) (hL : L.length ≤ 100000) :
  Calls Try.prog 63 #[.agg #[.slice LA ln lc,.int .i64 o.le,.int .i64 o.mo,.slice BA bn bc,.int .i64 p]] w fun e w' => (∃ A C,e = .returned (.tuple #[.slice A L.length C,.int .i64 0]) ∧ w'.ownsRow w.heap.size 69 3 (.slice A L.length C) L.length (bdrs L)) ∧ Below w.heap.size w w':=by
 have hmf : ∀ (fn : Fn) (first cap : Array Value) (w : World),(Instr.makeFunc fn first cap).run Try.prog w = .ok (.func fn first cap) w:=fun _ _ _ _ => rfl
 have k1:=((Bx.new w 100 #[.slice LA ln lc,.int .i64 o.le,.int .i64 o.mo,.slice BA bn bc,.int .i64 p]).alloc (.cells #[.slice none 0 0] 51)).alloc (.cells #[.int .i64 0] 30)
 have k2:=(Bx.at (w.alloc (.cells #[.slice LA ln lc,.int .i64 o.le,.int .i64 o.mo,.slice BA bn bc,.int .i64 p] 100)) 51 #[.slice none 0 0] (n:=w.heap.size + 1) (by simp)).alloc (.cells #[.int .i64 0] 30)
 have k3:=Bx.at ((w.alloc (.cells #[.slice LA ln lc,.int .i64 o.le,.int .i64 o.mo,.slice BA bn bc,.int .i64 p] 100)).alloc (.cells #[.slice none 0 0] 51)) 30 #[.int .i64 0] (n:=w.heap.size + 1 + 1) (by simp)
 have B0:=(((Below.refl w.heap.size w).alloc (Nat.le_refl _) (.cells #[.slice LA ln lc,.int .i64 o.le,.int .i64 o.mo,.slice BA bn bc,.int .i64 p] 100)).alloc (by simp) (.cells #[.slice none 0 0] 51)).alloc (by simp; omega) (.cells #[.int .i64 0] 30)
 have HB:=Lib.hid hb'
 have HL:=Lib.hid hl
 have HO:=Lib.hid ho
 have HP:=Lib.hid hp
 clear hb' hl ho hp
 go_enter_defers Try.func63,Try.ntmps63
 go_wp2
 refine wp_only ?_
 refine AnyG.startC (by kernel_rfl) ?_
 refine AnyG.takeP (i:=1) (v:=?_) rfl (by kernel_rfl) (fun _ _ _ h => h) rfl ?_ ?_
 rotate_left
 ·(intro w'; go_simp; try with_reducible rfl)
 try simp only [Act.put,Sp1,Sp2,Sp3,Sp4,Sp5,Sp6]
 refine AnyG.enter (fun w' : World => Bx w' w.heap.size 100 #[.slice LA ln lc,.int .i64 o.le,.int .i64 o.mo,.slice BA bn bc,.int .i64 p] ∧ (∃ x,Bx w' (w.heap.size + 1) 51 #[x]) ∧ (∃ y,Bx w' (w.heap.size + 1 + 1) 30 #[y]) ∧ Below w.heap.size w w') (fun i => i != 6 && i != 5 && i != 4) ?_
 have hS : (fun w' : World => Bx w' w.heap.size 100 #[.slice LA ln lc,.int .i64 o.le,.int .i64 o.mo,.slice BA bn bc,.int .i64 p] ∧ (∃ x,Bx w' (w.heap.size + 1) 51 #[x]) ∧ (∃ y,Bx w' (w.heap.size + 1 + 1) 30 #[y]) ∧ Below w.heap.size w w') (World.drew _):=⟨k1.drew,⟨_,k2.drew⟩,⟨_,k3.drew⟩,B0.drew⟩
 refine AnyG.takeC (i:=0) (v:=?_) rfl (by kernel_rfl) (fun _ _ _ h => h) rfl ?_ hS ?_
 rotate_left
 ·(intro w' hSw; (try dsimp only at hSw); obtain ⟨c0,c1,c2,c3,c4,cf,cz⟩:=hSw.1.five; go_simp; try with_reducible rfl)
 try simp only [Act.put,Sp1,Sp2,Sp3,Sp4,Sp5,Sp6]
 refine AnyG.takeC (i:=2) (v:=?_) rfl (by kernel_rfl) (fun _ _ _ h => h) rfl ?_ hS ?_
 rotate_left
 ·(intro w' hSw; (try dsimp only at hSw); obtain ⟨c0,c1,c2,c3,c4,cf,cz⟩:=hSw.1.five; go_simp; try with_reducible rfl)
 try simp only [Act.put,Sp1,Sp2,Sp3,Sp4,Sp5,Sp6]
 refine AnyG.one (i:=3) (by kernel_rfl) rfl rfl ?_
 go_simp
 refine (wholeBox_any LA ln lc BA bn bc o _ HL.out HB.out ((hA.below hS.2.2.2).more hS.2.2.2.size) HO.out).mono ?_
 rintro e3 y3 ⟨rfl,hq3⟩
 obtain ⟨s1,⟨x2,s2⟩,⟨x3,s3⟩,s4⟩:=hS
 have hT : Bx y3 w.heap.size 100 #[.slice LA ln lc,.int .i64 o.le,.int .i64 o.mo,.slice BA bn bc,.int .i64 p] ∧ (∃ x,Bx y3 (w.heap.size + 1) 51 #[x]) ∧ (∃ y,Bx y3 (w.heap.size + 1 + 1) 30 #[y]) ∧ Below w.heap.size w y3:=⟨s1.call hq3,⟨_,s2.call hq3⟩,⟨_,s3.call hq3⟩,s4.trans (hq3.mono s4.size)⟩
 have hS:=hT
 clear hT s1 s2 s3 s4
 refine Onward.on hS (fun hS2 => ?_)
 clear hS
 have hS:=hS2
 clear hS2
 try simp only [Act.put,Sp1,Sp2,Sp3,Sp4,Sp5,Sp6]
 refine AnyG.one (i:=4) (by kernel_rfl) rfl rfl ?_
 go_simp
 refine (prove_some LA ln lc BA bn bc o p w.heap.size HO.out HL.out HB.out fuel zer o.mx L (.slice none 0 0) 0 [] _ HO.out.mx HP.out (hA.below hS.2.2.2) (World.ownsRow_nil _ _ _ _) hS.2.2.2.size (by omega)).mono ?_
 rintro e4 y4 ⟨v4,rfl,r1,r2,r3⟩
 obtain ⟨A4,C4,rfl⟩:=own_shape r1
 rw [Nat.zero_add] at r1
 rw [List.nil_append] at r1
 obtain ⟨s1,⟨x2,s2⟩,⟨x3,s3⟩,s4⟩:=hS
 have hT : Bx y4 w.heap.size 100 #[.slice LA ln lc,.int .i64 o.le,.int .i64 o.mo,.slice BA bn bc,.int .i64 p] ∧ (∃ x,Bx y4 (w.heap.size + 1) 51 #[x]) ∧ (∃ y,Bx y4 (w.heap.size + 1 + 1) 30 #[y]) ∧ Below w.heap.size w y4:=⟨s1.grown r2 (by simp [Value.ownBlock]),⟨_,s2.grown r2 (by simp [Value.ownBlock])⟩,⟨_,s3.grown r2 (by simp [Value.ownBlock])⟩,s4.grown r2 s4.size (fun k e => by simp [Value.ownBlock] at e)⟩
 have hS:=hT
 clear hT s1 s2 s3 s4
 refine Onward.last rfl ?_
 try simp only [Act.put,Sp1,Sp2,Sp3,Sp4,Sp5,Sp6]
 refine AnyG.one (i:=5) (by kernel_rfl) rfl rfl ?_
 obtain ⟨s1,⟨x2,s2⟩,⟨x3,s3⟩,s4⟩:=hS
 obtain ⟨b0,bf,bz⟩:=s2.one
 obtain ⟨d0,df,dz⟩:=s3.one
 go_simp
 have r1b:=r1.kept (grown_set y4 (w.heap.size + 1) 0 (.slice A4 (0 + L.length) C4)) (.inr (fun e => own_bx r1 s2 (by decide) e.symm))
 have hT : Bx (y4.setCell ⟨w.heap.size + 1,0,none⟩ (.slice A4 (0 + L.length) C4)) w.heap.size 100 #[.slice LA ln lc,.int .i64 o.le,.int .i64 o.mo,.slice BA bn bc,.int .i64 p] ∧ (∃ x,Bx (y4.setCell ⟨w.heap.size + 1,0,none⟩ (.slice A4 (0 + L.length) C4)) (w.heap.size + 1) 51 #[x]) ∧ (∃ y,Bx (y4.setCell ⟨w.heap.size + 1,0,none⟩ (.slice A4 (0 + L.length) C4)) (w.heap.size + 1 + 1) 30 #[y]) ∧ Below w.heap.size w (y4.setCell ⟨w.heap.size + 1,0,none⟩ (.slice A4 (0 + L.length) C4)):=⟨s1.far (by simp) _,⟨_,s2.set_ 0 _⟩,⟨_,s3.far (by simp) _⟩,s4.setCell (by simp) _⟩
 have hbx2:=s2.set_ 0 (.slice A4 (0 + L.length) C4)
 have hS:=hT
 clear hT s1 s2 s3 s4 b0 bf bz
 refine Onward.last rfl ?_
 try simp only [Act.put,Sp1,Sp2,Sp3,Sp4,Sp5,Sp6]
 refine AnyG.one (i:=6) (by kernel_rfl) rfl rfl ?_
 have hS0:=hS
 obtain ⟨s1,⟨x2,s2⟩,⟨x3,s3⟩,s4⟩:=hS0
 have hs3:=s3
 go_simp
 refine Onward.last rfl ?_
 try simp only [Act.put,Sp1,Sp2,Sp3,Sp4,Sp5,Sp6]
 refine AnyG.done (by kernel_rfl) ?_ _
 refine onlyN_go ?_
 go_simp
 go_wp2
 have hfin:=r1b.kept (grown_set (y4.setCell ⟨w.heap.size + 1,0,none⟩ (.slice A4 (0 + L.length) C4)) (w.heap.size + 1 + 1) 0 (.int .i64 0)) (.inr (fun e => own_bx r1b hs3 (by decide) e.symm))
 have z2 : Bx ((y4.setCell ⟨w.heap.size + 1,0,none⟩ (.slice A4 (0 + L.length) C4)).setCell ⟨w.heap.size + 1 + 1,0,none⟩ (.int .i64 0)) (w.heap.size + 1) 51 #[.slice A4 (0 + L.length) C4]:=hbx2.far (by simp) _
 have z3 : Bx ((y4.setCell ⟨w.heap.size + 1,0,none⟩ (.slice A4 (0 + L.length) C4)).setCell ⟨w.heap.size + 1 + 1,0,none⟩ (.int .i64 0)) (w.heap.size + 1 + 1) 30 #[.int .i64 0]:=hs3.set_ 0 _
 have hlow : Below w.heap.size w ((y4.setCell ⟨w.heap.size + 1,0,none⟩ (.slice A4 (0 + L.length) C4)).setCell ⟨w.heap.size + 1 + 1,0,none⟩ (.int .i64 0)):=hS.2.2.2.setCell (by simp; omega) _
 rw [Nat.zero_add] at hfin z2 z3 hlow
 refine leaves_cons (f:=88) (args:=#[.pointer (some ⟨w.heap.size + 1,0,none⟩),.pointer (some ⟨w.heap.size + 1 + 1,0,none⟩)]) (by simp) (by simp [go_sem]) ?_
 refine (catch_idle _ _ _).mono ?_
 rintro e u' w'' ⟨rfl,rfl,rfl⟩
 generalize (y4.setCell ⟨w.heap.size + 1,0,none⟩ (.slice A4 L.length C4)).setCell ⟨w.heap.size + 1 + 1,0,none⟩ (.int .i64 0) = W9 at *
 obtain ⟨a0,af,az⟩:=z2.one
 obtain ⟨b0,bf,bz⟩:=z3.one
 simp [Leaves,settle,results,Try.results63,go_sem,a0,b0]
 exact ⟨⟨A4,C4,⟨rfl,rfl⟩,hfin⟩,hlow⟩
theorem checkPrice_ok (LA : Option Addr) (ln lc : Nat) (BA : Option Addr) (bn bc : Nat) (o : Od) (p : Int) (w : World) (hln : ln ≤ 9223372036854775807) (hbn : bn ≤ 9223372036854775807) (hl : o.lm.length = ln) (hb' : o.bs.length = bn) (hA : OrdAt w w.heap.size LA BA o) (ho : o.Ok) (hp : 0 ≤ p ∧ p ≤ 300000000) :
  Calls Try.prog 62 #[.agg #[.slice LA ln lc,.int .i64 o.le,.int .i64 o.mo,.slice BA bn bc],.int .i64 p] w fun e w' => e = .returned (.int .i64 0) ∧ Below w.heap.size w w':=by
 have k1:=Bx.new w 27 #[.slice LA ln lc,.int .i64 o.le,.int .i64 o.mo,.slice BA bn bc]
 have B0:=(Below.refl w.heap.size w).alloc (Nat.le_refl _) (.cells #[.slice LA ln lc,.int .i64 o.le,.int .i64 o.mo,.slice BA bn bc] 27)
 have hck:=check_any LA ln lc o.le o.mo BA bn bc o (w.alloc (.cells #[.slice LA ln lc,.int .i64 o.le,.int .i64 o.mo,.slice BA bn bc] 27)) hln hbn hl hb' rfl rfl ((hA.below B0).more B0.size) (fun b hb2 => by have:=(ho.bs b hb2).len; have:=ho.lm; omega)
 rw [ckO_zero.2 ho] at hck
 obtain ⟨c0,c1,c2,c3,cf,cz⟩:=k1.four
 go_enter Try.func62,Try.ntmps62
 go_wp2_with (first | (go_at_call 37; refine hck.mono ?_; rintro e w1 ⟨rfl,hb1⟩; have B1:=B0.trans (hb1.mono B0.size)) | (go_at_call 81; refine (isWithin_yes _ _ _ _ hp).mono ?_; rintro e w2 ⟨rfl,hb2⟩; have B2:=B1.trans (hb2.mono B1.size)))
 go_ret
 exact ⟨rfl,B2⟩
set_option maxRecDepth 100000 in
theorem prove_ok (LA : Option Addr) (ln lc : Nat) (BA : Option Addr) (bn bc : Nat) (o : Od) (p : Int) (fuel : Nat) (L : List Bd) (w : World) (hln : ln ≤ 9223372036854775807) (hbn : bn ≤ 9223372036854775807) (hl : o.lm.length = ln) (hb' : o.bs.length = bn) (hA : OrdAt w w.heap.size LA BA o) (ho : o.Ok) (hpp : 0 ≤ p ∧ p ≤ 300000000) (hp : prf o p fuel zer o.mx = some L) (hL : L.length ≤ 100000) :
  Calls Try.prog 26 #[.agg #[.slice LA ln lc,.int .i64 o.le,.int .i64 o.mo,.slice BA bn bc],.int .i64 p] w fun e w' => (∃ A C,e = .returned (.tuple #[.slice A L.length C,.int .i64 0]) ∧ w'.ownsRow w.heap.size 69 3 (.slice A L.length C) L.length (bdrs L)) ∧ Below w.heap.size w w':=by
 have k1:=Bx.new w 27 #[.slice LA ln lc,.int .i64 o.le,.int .i64 o.mo,.slice BA bn bc]
 have B0:=(Below.refl w.heap.size w).alloc (Nat.le_refl _) (.cells #[.slice LA ln lc,.int .i64 o.le,.int .i64 o.mo,.slice BA bn bc] 27)
 have hck:=checkPrice_ok LA ln lc BA bn bc o p (w.alloc (.cells #[.slice LA ln lc,.int .i64 o.le,.int .i64 o.mo,.slice BA bn bc] 27)) hln hbn hl hb' ((hA.below B0).more B0.size) ho hpp
 have HB:=Lib.hid hb'
 have HL:=Lib.hid hl
 have HO:=Lib.hid ho
 have HP:=Lib.hid hp
 clear hb' hl ho hp
 obtain ⟨c0,c1,c2,c3,cf,cz⟩:=k1.four
 go_enter Try.func26,Try.ntmps26
 go_wp2_with (first | (go_at_call 62; refine hck.mono ?_; rintro e w1 ⟨rfl,hb1⟩; have k2:=k1.call hb1; have B1:=B0.trans (hb1.mono B0.size); clear c0 c1 c2 c3 cf cz; obtain ⟨c0,c1,c2,c3,cf,cz⟩:=k2.four) | (go_at_call 63; refine (plainProof_some LA ln lc BA bn bc o p fuel L _ HL.out HB.out ((hA.below B1).more B1.size) HO.out HP.out hL).mono ?_; rintro e w2 ⟨⟨A2,C2,rfl,ho2⟩,hb2⟩; have B2:=B1.trans (hb2.mono B1.size)))
 refine bodyPost_ret (v:=.tuple #[.slice A2 L.length C2,.int .i64 0]) (by simp [results,Try.results26,go_sem]) rfl ⟨⟨A2,C2,rfl,ownsRow_up ho2 (fun k e => by have:=(ho2.lt k e).1; have:=B1.size; omega)⟩,B2⟩
end Go.Proofs.Ytmemcopfeabcgaa
