/- swarfkit.SlipOf. -/
import Derived.Test.YtgbogdckmfencaaLo
import Derived.Test.YtgbogdckmfencaaSqM
import Derived.Test.YtgbogdckmfencaaAkM
import Derived.Test.YtgbogdckmfencaaFiM
import Derived.Deep.CutBlock
import Derived.Deep.CutRange
set_option linter.unusedSimpArgs false
set_option linter.unusedVariables false
namespace Go.Proofs.Ytgbogdckmfencaa
open Go Go.RowKit
section
variable {P : Program} {ops : Array Oper} {Q : Exit → Act → World → Prop} {md : Region.Mode} {S : World → Prop} {G : Nat → Bool}
/-- An operation under a guard that leaves it out. -/
theorem AnyG.takeN {i : Nat} {oi : Oper} {fuel : Nat} {listed : Array Bool} {a : Act} {w : World} (hi : ops[i]? = some oi)
  (hs : (Region.noSelect ops && waits md ops G i && Region.free md ops listed i && (Region.ready md ops listed).contains i) = true)
  (hQ : ∀ c a w,Q (.panic c) (a.put oi.dst undef) w → Q (.panic c) a w) (hg : Region.wanted oi (yielded ops a.tmps) = false) (hS : S w)
  (h : AnyG P md ops Q S G fuel (listed.setIfInBounds i true) (a.put oi.dst undef) w) : AnyG P md ops Q S G (fuel + 1) listed a w:=by
 simp only [Bool.and_eq_true] at hs
 obtain ⟨⟨⟨h1,h2⟩,h3⟩,h4⟩:=hs
 exact AnyG.first hi h1 h2 hQ fuel listed a w (Region.free_spec hi h3) (by simpa using h4) (.inr ⟨hg,rfl⟩) hS h
end
theorem ints_flat (l : List Int) : (ints l).flatten = l.map (Value.int .i64):=by
 induction l with
 | nil => rfl
 | cons a r ih => simp [ints] at ih ⊢; exact ih
theorem ints_len (l : List Int) : ∀ r ∈ ints l,r.length = 1:=by
 intro r hr
 obtain ⟨x,_,rfl⟩:=List.mem_map.1 hr
 rfl
theorem addr_q (q j : Nat) : (⟨q,0,none⟩ : Addr).add j = ⟨q,j,none⟩:=by unfold Addr.add; split <;> simp_all
def Ap (u v : Value) : Prop:=u.ownBlock = none ∨ u.ownBlock ≠ v.ownBlock
theorem Ap.nil (u : Value) : Ap u (.slice none 0 0):=by
 unfold Ap
 cases u.ownBlock <;> simp [Value.ownBlock]
theorem Ap.symm {u v : Value} (h : Ap u v) : Ap v u:=apart_symm h
theorem Ap.new {u v v' : Value} {N : Nat} (h : Ap u v) (ho : v'.ownBlock = v.ownBlock ∨ ∀ k,v'.ownBlock = some k → N ≤ k) (hu : ∀ k,u.ownBlock = some k → k < N) : Ap u v':=by
 unfold Ap at *
 rcases ho with ho | ho
 ·rw [ho]; exact h
 ·cases hk : u.ownBlock with
  | none => exact .inl rfl
  | some k => exact .inr fun e => by have:=ho k e.symm; have:=hu k hk; omega
/-- Between two rounds of SlipOf's second loop. -/
structure SI (g a : Nat) (l : List Int) (w : World) (bR bS : Nat) (v8 : Value) (fs bs d0 d1 : Int) (j : Nat) (F B : List Int) (fv bv : Value) (wr : World) : Prop where
 sp : SpOk l a j F B
 sum : F.length + B.length = j
 jl : j ≤ l.length
 kS : Bx wr bS 50 #[fv,bv,.int .i64 fs,.int .i64 bs,.int .i64 d0,.int .i64 d1]
 kR : Bx wr bR 50 #[.slice none 0 0,.slice none 0 0,.int .i64 0,.int .i64 0,.int .i64 0,.int .i64 0]
 oa : wr.ownsRow w.heap.size 3 1 v8 l.length (ints l).flatten
 of : wr.ownsRow w.heap.size 3 1 fv F.length (ints F).flatten
 ob : wr.ownsRow w.heap.size 3 1 bv B.length (ints B).flatten
 a1 : Ap v8 fv
 a2 : Ap v8 bv
 a3 : Ap fv bv
 fd : Fd g wr
 gr : w.grownBy wr (some g)
theorem SI.ft {g a : Nat} {l : List Int} {w : World} {bR bS : Nat} {v8 : Value} {fs bs d0 d1 : Int} {j : Nat} {F B : List Int} {fv bv : Value} {wr x : World} (I : SI g a l w bR bS v8 fs bs d0 d1 j F B fv bv wr) (h : FT g wr x) (hg : g < w.heap.size) (hR : w.heap.size ≤ bR) (hS : w.heap.size ≤ bS) : SI g a l w bR bS v8 fs bs d0 d1 j F B fv bv x:=by
 have ne : ∀ {v : Value} {n : Nat} {xs : List Value},wr.ownsRow w.heap.size 3 1 v n xs → v.ownBlock = none ∨ v.ownBlock ≠ some g:=fun {v n xs} ho => .inr fun hk => by have:=ho.lt g hk; omega
 exact ⟨I.sp,I.sum,I.jl,h.bx I.kS (by omega),h.bx I.kR (by omega),I.oa.kept h.1 (ne I.oa),I.of.kept h.1 (ne I.of),I.ob.kept h.1 (ne I.ob),I.a1,I.a2,I.a3,h.2,grown_trans I.gr h.1⟩
theorem own_cap {w : World} {b : Nat} {e : TypeId} {sz n c : Nat} {A : Option Addr} {xs : List Value} (h : w.ownsRow b e sz (.slice A n c) n xs) : n ≤ c:=by
 rcases h.2 with ⟨h,h0⟩ | ⟨q',cap,cur,h,_,hg,hc,_⟩
 ·omega
 ·simp only [Value.slice.injEq] at h
  omega
theorem own_sl2 {w : World} {b n c : Nat} {A : Option Addr} {l : List Int} (h : w.ownsRow b 3 1 (.slice A n c) n (ints l).flatten) (hl : l.length = n) : Sl w w.heap.size 1 A (ints l):=by
 obtain ⟨A',c',he,hs⟩:=own_sl h (ints_len l) (by simpa [ints] using hl)
 simp only [Value.slice.injEq] at he
 rw [he.1]
 exact hs
theorem sl_take1 {w : World} {B : Nat} {A : Option Addr} {l : List Int} (h : Sl w B 1 A (ints l)) (k : Nat) : Sl w B 1 A (ints (l.take k)):=by
 unfold ints
 rw [List.map_take]
 exact Sl.take h k
theorem sl_drop1 {w : World} {B q : Nat} {l : List Int} (h : Sl w B 1 (some ⟨q,0,none⟩) (ints l)) : Sl w B 1 (some ⟨q,1,none⟩) (ints (l.drop 1)):=by
 intro k r hr
 have hr' : (ints l)[k + 1]? = some r:=by
  unfold ints at hr ⊢
  rw [List.map_drop,List.getElem?_drop,Nat.add_comm] at hr
  exact hr
 obtain ⟨ad,ha,hb,hc⟩:=h (k + 1) r hr'
 simp only [Option.some.injEq] at ha
 subst ha
 refine ⟨⟨q,1,none⟩,rfl,hb,fun j u hu => ?_⟩
 have:=hc j u hu
 rw [add_add,addr_q] at this
 have e1 : (⟨q,1,none⟩ : Addr).add (k * 1) = ⟨q,1 + k * 1,none⟩:=by unfold Addr.add; split <;> simp_all
 have e2 : (⟨q,1 + k * 1,none⟩ : Addr).add j = ⟨q,1 + k * 1 + j,none⟩:=by unfold Addr.add; split <;> simp_all
 rw [e1,e2,show 1 + k * 1 + j = (k + 1) * 1 + j by omega]
 exact this
theorem gr_own {w x y : World} {row own : Option Nat} (g : w.grownBy x row) (h : x.grownBy y own) (ho : ∀ k,own = some k → w.heap.size ≤ k) : w.grownBy y row :=
 ⟨h.os.trans g.os,h.tape.trans g.tape,h.output.trans g.output,Nat.le_trans g.size h.size,fun k hk hn => (h.block k (Nat.lt_of_lt_of_le hk g.size) (fun e => by have:=ho k e.symm; omega)).trans (g.block k hk hn)⟩
theorem SI.addF {g a : Nat} {l : List Int} {w : World} {bR bS : Nat} {v8 : Value} {fs bs d0 d1 : Int} {j : Nat} {F B : List Int} {fv bv v' : Value} {wc w' : World} {x : Int} (J : SI g a l w bR bS v8 fs bs d0 d1 j F B fv bv wc) (hl : l.Pairwise (· < ·)) (hj : j < l.length) (hf : F.length < a) (hx : l[j] = x)
  (o1 : w'.ownsRow w.heap.size 3 1 v' (F.length + 1) ((ints F).flatten ++ [.int .i64 x])) (o2 : (wc.drew.alloc (.cells #[.int .i64 x] 3)).grownBy w' fv.ownBlock) (o4 : v'.ownBlock = fv.ownBlock ∨ ∀ k,v'.ownBlock = some k → (wc.drew.alloc (.cells #[.int .i64 x] 3)).heap.size ≤ k) (hR : bR ≠ bS) (hg : g ≠ bS) (hS : w.heap.size ≤ bS) :
  SI g a l w bR bS v8 fs bs d0 d1 (j + 1) (F ++ [l[j]]) B v' bv (w'.setCell ⟨bS,0,none⟩ v'):=by
 have ho:=(J.of.drew).alloc (.cells #[.int .i64 x] 3)
 have kS:=(J.kS.drew.alloc (.cells #[.int .i64 x] 3)).grown o2 (own_bx ho (J.kS.drew.alloc _) (by decide))
 have kR:=(J.kR.drew.alloc (.cells #[.int .i64 x] 3)).grown o2 (own_bx ho (J.kR.drew.alloc _) (by decide))
 have oa:=((J.oa.drew).alloc (.cells #[.int .i64 x] 3)).kept o2 J.a1
 have ob:=((J.ob.drew).alloc (.cells #[.int .i64 x] 3)).kept o2 J.a3.symm
 have lt : ∀ {v : Value} {n : Nat} {xs : List Value},wc.ownsRow w.heap.size 3 1 v n xs → ∀ k,v.ownBlock = some k → k < (wc.drew.alloc (.cells #[.int .i64 x] 3)).heap.size:=fun {v n xs} h k hk => by have:=(h.lt k hk).2; simp; omega
 refine ⟨J.sp.full hl hj hf,by rw [List.length_append,List.length_singleton]; have:=J.sum; omega,hj,by simpa using kS.set_ 0 v',kR.far (by simpa using hR) _,own_set oa (own_bx oa kS (by decide)) _,?_,own_set ob (own_bx ob kS (by decide)) _,J.a1.new o4 (lt J.oa),J.a2,(J.a3.symm.new o4 (lt J.ob)).symm,?_,?_⟩
 ·rw [List.length_append,List.length_singleton,show (ints (F ++ [l[j]])).flatten = (ints F).flatten ++ [.int .i64 l[j]] by simp [ints],hx]
  exact own_set o1 (own_bx o1 kS (by decide)) _
 ·obtain ⟨y,y1,y2,y3⟩:=J.fd
  exact ⟨y,y1,y2,((y3.drew.alloc (.cells #[.int .i64 x] 3)).grown o2 (own_bx ho (y3.drew.alloc _) (by decide))).far (by simpa using hg) _⟩
 ·exact grown_new (gr_own (grown_alloc (grown_trans J.gr (grown_drew _ _)) _) o2 (fun k hk => (J.of.lt k hk).1)) hS _
theorem SI.addB {g a : Nat} {l : List Int} {w : World} {bR bS : Nat} {v8 : Value} {fs bs d0 d1 : Int} {j : Nat} {F B : List Int} {fv bv v' : Value} {wc w' : World} {x : Int} (J : SI g a l w bR bS v8 fs bs d0 d1 j F B fv bv wc) (hl : l.Pairwise (· < ·)) (hj : j < l.length) (hf : B.length < a) (hx : l[j] = x)
  (o1 : w'.ownsRow w.heap.size 3 1 v' (B.length + 1) ((ints B).flatten ++ [.int .i64 x])) (o2 : (wc.drew.alloc (.cells #[.int .i64 x] 3)).grownBy w' bv.ownBlock) (o4 : v'.ownBlock = bv.ownBlock ∨ ∀ k,v'.ownBlock = some k → (wc.drew.alloc (.cells #[.int .i64 x] 3)).heap.size ≤ k) (hR : bR ≠ bS) (hg : g ≠ bS) (hS : w.heap.size ≤ bS) :
  SI g a l w bR bS v8 fs bs d0 d1 (j + 1) F (B ++ [l[j]]) fv v' (w'.setCell ⟨bS,1,none⟩ v'):=by
 have ho:=(J.ob.drew).alloc (.cells #[.int .i64 x] 3)
 have kS:=(J.kS.drew.alloc (.cells #[.int .i64 x] 3)).grown o2 (own_bx ho (J.kS.drew.alloc _) (by decide))
 have kR:=(J.kR.drew.alloc (.cells #[.int .i64 x] 3)).grown o2 (own_bx ho (J.kR.drew.alloc _) (by decide))
 have oa:=((J.oa.drew).alloc (.cells #[.int .i64 x] 3)).kept o2 J.a2
 have of:=((J.of.drew).alloc (.cells #[.int .i64 x] 3)).kept o2 J.a3
 have lt : ∀ {v : Value} {n : Nat} {xs : List Value},wc.ownsRow w.heap.size 3 1 v n xs → ∀ k,v.ownBlock = some k → k < (wc.drew.alloc (.cells #[.int .i64 x] 3)).heap.size:=fun {v n xs} h k hk => by have:=(h.lt k hk).2; simp; omega
 refine ⟨J.sp.bare hl hj hf,by rw [List.length_append,List.length_singleton]; have:=J.sum; omega,hj,by simpa using kS.set_ 1 v',kR.far (by simpa using hR) _,own_set oa (own_bx oa kS (by decide)) _,own_set of (own_bx of kS (by decide)) _,?_,J.a1,J.a2.new o4 (lt J.oa),J.a3.new o4 (lt J.of),?_,?_⟩
 ·rw [List.length_append,List.length_singleton,show (ints (B ++ [l[j]])).flatten = (ints B).flatten ++ [.int .i64 l[j]] by simp [ints],hx]
  exact own_set o1 (own_bx o1 kS (by decide)) _
 ·obtain ⟨y,y1,y2,y3⟩:=J.fd
  exact ⟨y,y1,y2,((y3.drew.alloc (.cells #[.int .i64 x] 3)).grown o2 (own_bx ho (y3.drew.alloc _) (by decide))).far (by simpa using hg) _⟩
 ·exact grown_new (gr_own (grown_alloc (grown_trans J.gr (grown_drew _ _)) _) o2 (fun k hk => (J.ob.lt k hk).1)) hS _
def SlipPost (g : Nat) (es : List Ev) (a : Nat) (w : World) (e : Ending) (w' : World) : Prop :=
 ∃ (FA : Option Addr) (fn fc : Nat) (BA : Option Addr) (bn bc : Nat) (fs bs d0 d1 : Int) (F B l : List Int) (j : Nat),e = .returned (.tuple #[.agg #[.slice FA fn fc,.slice BA bn bc,.int .i64 fs,.int .i64 bs,.int .i64 d0,.int .i64 d1],.bool (decide (0 < fn ∧ 0 < bn))]) ∧
  F.length = fn ∧ B.length = bn ∧ Sl w' w'.heap.size 1 FA (ints F) ∧ Sl w' w'.heap.size 1 BA (ints B) ∧ (fn ≤ fc ∧ bn ≤ bc) ∧ AtOk es es.length l ∧ SpOk l a j F B ∧ (0 ≤ fs ∧ fs ≤ 2) ∧ (0 ≤ bs ∧ bs ≤ 2) ∧ 50 ≤ d0 ∧ d0 ≤ d1 ∧ d1 ≤ 120 ∧ Fd g w' ∧ w.grownBy w' (some g)
set_option maxRecDepth 100000 in
set_option maxHeartbeats 8000000 in
theorem slipOf_any (g : Nat) (st z0 z1 : Int) (A : Option Addr) (n c : Nat) (es : List Ev) (a : Nat) (w : World) (h : Fd g w) (hl : es.length = n) (hn : n ≤ 14) (hA : EvsAt w w.heap.size A es) (ha1 : 1 ≤ a) (ha : a ≤ 4) :
  Calls Try.prog 26 #[.pointer (some ⟨g,0,none⟩),.agg #[.int .i64 st,.int .i64 z0,.int .i64 z1,.slice A n c],.int .i64 a] w (SlipPost g es a w):=by
 have HL:=Lib.hid hl
 clear hl
 have hgl:=h.lt
 have HFD:=Lib.hid h
 clear h
 obtain ⟨i3,hi3,hz3,hs3,iy3⟩:=info_parts info3'
 go_enter Try.func26,Try.ntmps26
 go_wp2_with fail
 go_loopw [8,9] (fun v8 v9 wr => ∃ (i : Nat) (l : List Int),i ≤ n ∧ v9 = .int .i64 i ∧ AtOk es i l ∧ l.length ≤ i ∧ wr.ownsRow w.heap.size 3 1 v8 l.length (ints l).flatten ∧ Bx wr w.heap.size 26 #[.int .i64 st,.int .i64 z0,.int .i64 z1,.slice A n c] ∧ Bx wr (w.heap.size + 1) 50 #[.slice none 0 0,.slice none 0 0,.int .i64 0,.int .i64 0,.int .i64 0,.int .i64 0] ∧ Below w.heap.size w wr) (fun _ v9 _ => n - (intOf v9).toNat)
 case atStart => exact ⟨0,[],by omega,rfl,AtOk.nil es,Nat.le_refl _,World.ownsRow_nil _ _ _ _,(Bx.new _ _ _).alloc _,Bx.at _ 50 _ (by simp),((Below.refl _ _).alloc (Nat.le_refl _) _).alloc (by simp) _⟩
 case round =>
  obtain ⟨i,l,hi,rfl,hat,hll,how,k4,kR,hBe⟩:=hrel
  obtain ⟨TA,TC,rfl⟩:=own_shape how
  obtain ⟨l0,l1,l2,l3,lf,lz⟩:=k4.four
  have HAT:=Lib.hid hat
  clear hat
  by_cases hin : i < n
  ·have hie : i < es.length:=by rw [HL.out]; exact hin
   obtain ⟨ad,rfl,hab,p0,p1,p2,p3,p4⟩:=(hA.below hBe).at_ hie
   have HK : Hid (∀ k,es[i].kd = k → k = es[i].kd):=fun _ h => h.symm
   by_cases hkd : es[i].kd = 3
   ·rw [hkd] at p0
    have HKD:=Lib.hid hkd
    clear hkd HK
    go_wp2_with (first
     | (at_builtin; refine wpList_append_own _ rfl (.tmp 27) (.tmp 29) 29 rfl w.heap.size 3 i3 _ 1 8 Try.underlying29 hi3 hz3 hs3 iy3 rfl (by decide) _ l.length (ints l).flatten rfl (how.alloc _) ⟨wr.heap.size,0,none⟩ 1 1 [.int .i64 (i : Int)] rfl rfl (bx_news (Bx.new wr 3 #[.int .i64 (i : Int)])) (by simp [Value.oneCell']) (by unfold maxLen; omega) (by omega) (by have:=hBe.size; simp; omega) ?_; intro v' w' o1 o2 o3)
     | fail)
    have nb4:=own_bx how k4 (by decide)
    have nbR:=own_bx how kR (by decide)
    go_wp2_with fail
    go_roundw
    case rel => exact ⟨i + 1,l ++ [(i : Int)],by omega,by go_num,HAT.out.take hie HKD.out,by simp; omega,by rw [show (ints (l ++ [(i : Int)])).flatten = (ints l).flatten ++ [.int .i64 (i : Int)] by simp [ints],List.length_append,List.length_singleton]; exact o1,(k4.alloc _).grown o2 nb4,(kR.alloc _).grown o2 nbR,(hBe.alloc hBe.size _).grown o2 (by have:=hBe.size; simp; omega) (fun q e => (how.lt q e).1)⟩
    case measure => simp [intOf]; omega
   ·have hkb : (es[i].kd == 3) = false:=by simpa using hkd
    clear HK
    go_wp2_with fail
    go_roundw
    case rel => exact ⟨i + 1,l,by omega,by go_num,HAT.out.skip,by omega,how,k4,kR,hBe⟩
    case measure => simp [intOf]; omega
  ·obtain rfl : i = n:=by omega
   have hfd : Fd g wr:=by obtain ⟨x,x1,x2,x3⟩:=HFD.out; exact ⟨x,x1,x2,x3.below hBe hgl⟩
   have ht : FT g wr wr:=⟨grown_refl _ _,hfd⟩
   have gr:=grown_below (row:=some g) hBe
   have nog : ∀ k,(Value.slice TA l.length TC).ownBlock = some k → w.heap.size ≤ k ∧ k < wr.heap.size:=how.lt
   clear hfd
   go_upto_block 2 with (first
    | (go_at_call 47; first
     | (have _t:=tg; clear _t; refine (below_any g _ _ ht.2 (by omega) (by omega)).mono ?_; rintro e v2 ⟨⟨bs,rfl,b1,b2⟩,hf,hg⟩; replace ht:=ht.call hg hf; clear hg hf)
     | (refine (below_any g _ _ ht.2 (by omega) (by omega)).mono ?_; rintro e v1 ⟨⟨fs,rfl,f1,f2⟩,hf,hg⟩; replace ht:=ht.call hg hf; clear hg hf; have tg:=True.intro))
    | (go_at_call 27; refine (range_any g _ _ _ ht.2 (by omega) (by omega) (by omega)).mono ?_; rintro e v3 ⟨⟨d0,d1,rfl,dr1,dr2,dr3⟩,hf,hg⟩; replace ht:=ht.call hg hf; clear hg hf)
    | fail)
   have hv3:=ht.size
   have hwr:=hBe.size
   have hfs : fs ≤ 2:=by omega
   have hbs : bs ≤ 2:=by omega
   have I0 : SI g a l w (w.heap.size + 1) v3.heap.size (.slice TA l.length TC) fs bs d0 d1 0 [] [] (.slice none 0 0) (.slice none 0 0) (v3.alloc (.cells #[.slice none 0 0,.slice none 0 0,.int .i64 fs,.int .i64 bs,.int .i64 d0,.int .i64 d1] 50)) :=
    ⟨SpOk.nil l a,rfl,Nat.zero_le _,Bx.new _ _ _,(ht.bx kR (by omega)).alloc _,(how.kept ht.1 (.inr fun hk => by have:=how.lt g hk; omega)).alloc _,World.ownsRow_nil _ _ _ _,World.ownsRow_nil _ _ _ _,Ap.nil _,Ap.nil _,Ap.nil _,ht.2.alloc _,grown_alloc (grown_trans gr ht.1) _⟩
   obtain ⟨bS,hbS⟩ : ∃ b,v3.heap.size = b:=⟨_,rfl⟩
   have hbSw : w.heap.size + 1 < bS:=by have:=kR.lt; omega
   rw [hbS] at I0 ⊢
   have HI:=Lib.hid I0
   clear I0 ht hbS how k4 kR hBe gr nog l0 l1 l2 l3 lf lz hv3 f2 b2
   go_cut [11] (fun v11 wr => ∃ (j : Nat) (F B : List Int) (fv bv : Value),SI g a l w (w.heap.size + 1) bS (.slice TA l.length TC) fs bs d0 d1 j F B fv bv wr ∧ (j = l.length ∨ (F.length = a ∧ B.length = a)))
   case first =>
    go_wp2_with fail
    go_loopw [11] (fun v11 wr => ∃ (j : Nat) (F B : List Int) (fv bv : Value),v11 = .int .i64 j ∧ SI g a l w (w.heap.size + 1) bS (.slice TA l.length TC) fs bs d0 d1 j F B fv bv wr ∧ ¬ (F.length = a ∧ B.length = a)) (fun v11 _ => l.length - (intOf v11).toNat)
    case atStart => exact ⟨0,[],[],_,_,rfl,HI.out,by simp; omega⟩
    case round =>
     clear HI
     obtain ⟨j,F,B,fv,bv,rfl,I,hnn⟩:=hrel
     have HN:=Lib.hid hnn
     have hjl:=I.jl
     by_cases hj : j < l.length
     ·obtain ⟨q,rfl⟩ : ∃ q,TA = some ⟨q,0,none⟩:=by
       rcases I.oa.2 with ⟨h,h0⟩ | ⟨q,cap,cur,h,_⟩
       ·omega
       ·simp only [Value.slice.injEq] at h; exact ⟨q,h.1⟩
      have hidI:=Lib.hid I
      clear I hnn
      go_upto_region 12 with (first
       | (go_at_call 37; refine (often_any g _ _ _ hidI.out.fd (by omega) (by omega)).mono ?_; rintro e x1 ⟨⟨b,rfl⟩,hf,hg⟩; have J:=hidI.out.ft ⟨hg,hf⟩ hgl (by omega) (by omega); clear hg hf; obtain ⟨FA,FC,rfl⟩:=own_shape J.of; obtain ⟨BA,BC,rfl⟩:=own_shape J.ob; have hidJ:=Lib.hid J; obtain ⟨s0,s1,s2,s3,s4,s5,sf,sz⟩:=J.kS.six; clear J)
       | fail)
      have hfl:=hidJ.out.sp.fl
      have hbl:=hidJ.out.sp.bl
      go_cut [60] from 46 to 60 (fun v60 wx => ∃ full : Bool,v60 = .bool full ∧ wx = x1 ∧ (full = true → F.length < a) ∧ (full = false → B.length < a))
      case first =>
       have hnn:=HN.out
       by_cases hf : F.length < a
       ·by_cases hb : B.length = a
        ·cases b
         all_goals
          go_wp2_with fail
          go_meet
          exact ⟨_,rfl,rfl,fun _ => hf,fun h => by simp at h⟩
        ·have hbb : ((B.length : Int) == (a : Int)) = false:=by simp; omega
         cases b
         ·go_wp2_with fail
          go_meet
          exact ⟨_,rfl,rfl,fun h => by simp at h,fun _ => by omega⟩
         ·go_wp2_with fail
          go_meet
          exact ⟨_,rfl,rfl,fun _ => hf,fun h => by simp at h⟩
       ·have hbb : ((B.length : Int) == (a : Int)) = false:=by simp; omega
        cases b
        all_goals
         go_wp2_with fail
         go_meet
         exact ⟨_,rfl,rfl,fun h => by simp at h,fun _ => by omega⟩
      case rest =>
       obtain ⟨full,rfl,rfl,hcf,hcb⟩:=hcut
       cases full
       ·have hbl1:=hcb rfl
        clear hcf hcb
        go_wp2_with fail
        obtain ⟨x,hx⟩ : ∃ x,l[j] = x:=⟨_,rfl⟩
        have hxj : (ints l).flatten[j]? = some (.int .i64 x):=by rw [ints_flat,← hx]; simp [hj]
        have HXJ:=Lib.hid hxj
        have HX:=Lib.hid hx
        clear hx hxj s0 s1 s2 s3 s4 s5 sf sz
        have hwc:=hidJ.out.gr.size
        refine AnyG.start (fun w' : World => Bx w' bS 50 #[.slice FA F.length FC,.slice BA B.length BC,.int .i64 fs,.int .i64 bs,.int .i64 d0,.int .i64 d1] ∧ w'.ownsRow w.heap.size 3 1 (.slice (some ⟨q,0,none⟩) l.length TC) l.length (ints l).flatten) (fun i => i != 9) (by kernel_rfl) ?_
        have hS : (fun w' : World => Bx w' bS 50 #[.slice FA F.length FC,.slice BA B.length BC,.int .i64 fs,.int .i64 bs,.int .i64 d0,.int .i64 d1] ∧ w'.ownsRow w.heap.size 3 1 (.slice (some ⟨q,0,none⟩) l.length TC) l.length (ints l).flatten) (World.drew _):=⟨hidJ.out.kS.drew,hidJ.out.oa.drew⟩
        refine AnyG.take (i:=0) (v:=?_) rfl (by kernel_rfl) (fun _ _ _ h => h) rfl ?_ hS ?_
        rotate_left
        ·(intro w' hSw; (try dsimp only at hSw); go_simp; try with_reducible rfl)
        try simp only [Act.put,Sp1,Sp2,Sp3,Sp4,Sp5,Sp6]
        refine AnyG.take (i:=1) (v:=?_) rfl (by kernel_rfl) (fun _ _ _ h => h) rfl ?_ hS ?_
        rotate_left
        ·(intro w' hSw; (try dsimp only at hSw); obtain ⟨s0,s1,s2,s3,s4,s5,sf,sz⟩:=hSw.1.six; go_simp; try with_reducible rfl)
        try simp only [Act.put,Sp1,Sp2,Sp3,Sp4,Sp5,Sp6]
        refine AnyG.take (i:=2) (v:=?_) rfl (by kernel_rfl) (fun _ _ _ h => h) rfl ?_ hS ?_
        rotate_left
        ·(intro w' hSw; (try dsimp only at hSw); go_simp; try with_reducible rfl)
        try simp only [Act.put,Sp1,Sp2,Sp3,Sp4,Sp5,Sp6]
        refine AnyG.take (i:=3) (v:=?_) rfl (by kernel_rfl) (fun _ _ _ h => h) rfl ?_ hS ?_
        rotate_left
        ·(intro w' hSw; (try dsimp only at hSw); go_simp; try with_reducible rfl)
        try simp only [Act.put,Sp1,Sp2,Sp3,Sp4,Sp5,Sp6]
        refine AnyG.take (i:=4) (v:=?_) rfl (by kernel_rfl) (fun _ _ _ h => h) rfl ?_ hS ?_
        rotate_left
        ·(intro w' hSw; (try dsimp only at hSw); go_simp; try with_reducible rfl)
        try simp only [Act.put,Sp1,Sp2,Sp3,Sp4,Sp5,Sp6]
        refine AnyG.take (i:=5) (v:=?_) rfl (by kernel_rfl) (fun _ _ _ h => h) rfl ?_ hS ?_
        rotate_left
        ·(intro w' hSw; (try dsimp only at hSw); have p0:=hSw.2.cells (g:=q) rfl j _ HXJ.out; rw [addr_q] at p0; go_simp; try with_reducible rfl)
        try simp only [Act.put,Sp1,Sp2,Sp3,Sp4,Sp5,Sp6]
        refine AnyG.one (i:=6) (by kernel_rfl) rfl rfl ?_
        go_simp
        have kb:=Bx.new wc.drew 3 #[.int .i64 x]
        have ho:=(hidJ.out.ob.drew).alloc (.cells #[.int .i64 x] 3)
        refine Onward.on ⟨hS.1.alloc _,hS.2.alloc _⟩ (fun hS2 => ?_)
        clear hS
        have hS:=hS2
        clear hS2
        try simp only [Act.put,Sp1,Sp2,Sp3,Sp4,Sp5,Sp6]
        refine AnyG.one (i:=7) (by kernel_rfl) rfl rfl ?_
        refine wp_app2 (.tmp 71) (.tmp 76) 29 rfl w.heap.size 3 i3 _ 1 8 Try.underlying29 hi3 hz3 hs3 iy3 rfl (by decide) (.slice BA B.length BC) B.length (ints B).flatten (by simp [Act.eval]) ho ⟨wc.drew.heap.size,0,none⟩ 1 1 [.int .i64 x] (by simp [Act.eval]) rfl (bx_news kb) (by simp [Value.oneCell']) (by unfold maxLen; omega) (by omega) (by simp; omega) ?_
        intro v' w' o1 o2 o3 o4
        obtain ⟨NA,NC,rfl⟩:=own_shape o1
        refine Onward.on ⟨hS.1.grown o2 (own_bx ho hS.1 (by decide)),hS.2.kept o2 hidJ.out.a2⟩ (fun hS2 => ?_)
        clear hS
        have hS:=hS2
        clear hS2
        try simp only [Act.put,Sp1,Sp2,Sp3,Sp4,Sp5,Sp6]
        refine AnyG.one (i:=8) (by kernel_rfl) rfl rfl ?_
        go_simp
        refine Onward.on hS (fun hS2 => ?_)
        clear hS
        have hS:=hS2
        clear hS2
        try simp only [Act.put,Sp1,Sp2,Sp3,Sp4,Sp5,Sp6]
        refine AnyG.one (i:=9) (by kernel_rfl) rfl rfl ?_
        obtain ⟨s0,s1,s2,s3,s4,s5,sf,sz⟩:=hS.1.six
        have hS8:=Lib.hid hS
        clear hS
        go_simp
        clear s0 s1 s2 s3 s4 s5 sf sz
        have hS:=hS8.out
        refine Onward.last rfl ?_
        try simp only [Act.put,Sp1,Sp2,Sp3,Sp4,Sp5,Sp6]
        refine AnyG.done (by kernel_rfl) ?_ _
        go_simp
        have J2:=hidJ.out.addB HAT.out.asc hj hbl1 HX.out o1 o2 o4 (by omega) (by omega) (by omega)
        clear hS hS8 o1 o2 o3 o4 ho kb
        obtain ⟨X2,hX2⟩ : ∃ X,World.setCell w' ⟨bS,1,none⟩ (.slice NA (B.length + 1) NC) = X:=⟨_,rfl⟩
        rw [hX2] at J2 ⊢
        clear hX2
        have hJ2:=Lib.hid J2
        obtain ⟨s0,s1,s2,s3,s4,s5,sf,sz⟩:=J2.kS.six
        clear J2
        by_cases hx1 : B.length + 1 = a
        ·have hx1b : ((B.length : Int) + 1 == (a : Int)) = true:=by simp; omega
         have HX1:=Lib.hid hx1
         clear hx1
         by_cases hy1 : F.length = a
         ·have hy1b : ((F.length : Int) == (a : Int)) = true:=by simp; omega
          have HY1:=Lib.hid hy1
          clear hy1
          go_wp2_with fail
          go_meet
          exact ⟨j + 1,_,_,_,_,hJ2.out,.inr ⟨HY1.out,by simp; exact HX1.out⟩⟩
         ·have hy1b : ((F.length : Int) == (a : Int)) = false:=by simp; omega
          have HY1:=Lib.hid hy1
          clear hy1
          go_wp2_with fail
          go_roundw
          case rel => exact ⟨j + 1,_,_,_,_,by go_num,hJ2.out,fun hh => HY1.out hh.1⟩
          case measure => simp [intOf]; omega
        ·have hx1b : ((B.length : Int) + 1 == (a : Int)) = false:=by simp; omega
         have HX1:=Lib.hid hx1
         clear hx1
         by_cases hy1 : F.length = a
         ·have hy1b : ((F.length : Int) == (a : Int)) = true:=by simp; omega
          have HY1:=Lib.hid hy1
          clear hy1
          go_wp2_with fail
          go_roundw
          case rel => exact ⟨j + 1,_,_,_,_,by go_num,hJ2.out,fun hh => HX1.out (by simpa using hh.2)⟩
          case measure => simp [intOf]; omega
         ·have hy1b : ((F.length : Int) == (a : Int)) = false:=by simp; omega
          have HY1:=Lib.hid hy1
          clear hy1
          go_wp2_with fail
          go_roundw
          case rel => exact ⟨j + 1,_,_,_,_,by go_num,hJ2.out,fun hh => HX1.out (by simpa using hh.2)⟩
          case measure => simp [intOf]; omega
       ·have hfl1:=hcf rfl
        clear hcf hcb
        go_wp2_with fail
        obtain ⟨x,hx⟩ : ∃ x,l[j] = x:=⟨_,rfl⟩
        have hxj : (ints l).flatten[j]? = some (.int .i64 x):=by rw [ints_flat,← hx]; simp [hj]
        have HXJ:=Lib.hid hxj
        have HX:=Lib.hid hx
        clear hx hxj s0 s1 s2 s3 s4 s5 sf sz
        have hwc:=hidJ.out.gr.size
        refine AnyG.start (fun w' : World => Bx w' bS 50 #[.slice FA F.length FC,.slice BA B.length BC,.int .i64 fs,.int .i64 bs,.int .i64 d0,.int .i64 d1] ∧ w'.ownsRow w.heap.size 3 1 (.slice (some ⟨q,0,none⟩) l.length TC) l.length (ints l).flatten) (fun i => i != 9) (by kernel_rfl) ?_
        have hS : (fun w' : World => Bx w' bS 50 #[.slice FA F.length FC,.slice BA B.length BC,.int .i64 fs,.int .i64 bs,.int .i64 d0,.int .i64 d1] ∧ w'.ownsRow w.heap.size 3 1 (.slice (some ⟨q,0,none⟩) l.length TC) l.length (ints l).flatten) (World.drew _):=⟨hidJ.out.kS.drew,hidJ.out.oa.drew⟩
        refine AnyG.take (i:=0) (v:=?_) rfl (by kernel_rfl) (fun _ _ _ h => h) rfl ?_ hS ?_
        rotate_left
        ·(intro w' hSw; (try dsimp only at hSw); go_simp; try with_reducible rfl)
        try simp only [Act.put,Sp1,Sp2,Sp3,Sp4,Sp5,Sp6]
        refine AnyG.take (i:=1) (v:=?_) rfl (by kernel_rfl) (fun _ _ _ h => h) rfl ?_ hS ?_
        rotate_left
        ·(intro w' hSw; (try dsimp only at hSw); obtain ⟨s0,s1,s2,s3,s4,s5,sf,sz⟩:=hSw.1.six; go_simp; try with_reducible rfl)
        try simp only [Act.put,Sp1,Sp2,Sp3,Sp4,Sp5,Sp6]
        refine AnyG.take (i:=2) (v:=?_) rfl (by kernel_rfl) (fun _ _ _ h => h) rfl ?_ hS ?_
        rotate_left
        ·(intro w' hSw; (try dsimp only at hSw); go_simp; try with_reducible rfl)
        try simp only [Act.put,Sp1,Sp2,Sp3,Sp4,Sp5,Sp6]
        refine AnyG.take (i:=3) (v:=?_) rfl (by kernel_rfl) (fun _ _ _ h => h) rfl ?_ hS ?_
        rotate_left
        ·(intro w' hSw; (try dsimp only at hSw); go_simp; try with_reducible rfl)
        try simp only [Act.put,Sp1,Sp2,Sp3,Sp4,Sp5,Sp6]
        refine AnyG.take (i:=4) (v:=?_) rfl (by kernel_rfl) (fun _ _ _ h => h) rfl ?_ hS ?_
        rotate_left
        ·(intro w' hSw; (try dsimp only at hSw); go_simp; try with_reducible rfl)
        try simp only [Act.put,Sp1,Sp2,Sp3,Sp4,Sp5,Sp6]
        refine AnyG.take (i:=5) (v:=?_) rfl (by kernel_rfl) (fun _ _ _ h => h) rfl ?_ hS ?_
        rotate_left
        ·(intro w' hSw; (try dsimp only at hSw); have p0:=hSw.2.cells (g:=q) rfl j _ HXJ.out; rw [addr_q] at p0; go_simp; try with_reducible rfl)
        try simp only [Act.put,Sp1,Sp2,Sp3,Sp4,Sp5,Sp6]
        refine AnyG.one (i:=6) (by kernel_rfl) rfl rfl ?_
        go_simp
        have kb:=Bx.new wc.drew 3 #[.int .i64 x]
        have ho:=(hidJ.out.of.drew).alloc (.cells #[.int .i64 x] 3)
        refine Onward.on ⟨hS.1.alloc _,hS.2.alloc _⟩ (fun hS2 => ?_)
        clear hS
        have hS:=hS2
        clear hS2
        try simp only [Act.put,Sp1,Sp2,Sp3,Sp4,Sp5,Sp6]
        refine AnyG.one (i:=7) (by kernel_rfl) rfl rfl ?_
        refine wp_app2 (.tmp 62) (.tmp 67) 29 rfl w.heap.size 3 i3 _ 1 8 Try.underlying29 hi3 hz3 hs3 iy3 rfl (by decide) (.slice FA F.length FC) F.length (ints F).flatten (by simp [Act.eval]) ho ⟨wc.drew.heap.size,0,none⟩ 1 1 [.int .i64 x] (by simp [Act.eval]) rfl (bx_news kb) (by simp [Value.oneCell']) (by unfold maxLen; omega) (by omega) (by simp; omega) ?_
        intro v' w' o1 o2 o3 o4
        obtain ⟨NA,NC,rfl⟩:=own_shape o1
        refine Onward.on ⟨hS.1.grown o2 (own_bx ho hS.1 (by decide)),hS.2.kept o2 hidJ.out.a1⟩ (fun hS2 => ?_)
        clear hS
        have hS:=hS2
        clear hS2
        try simp only [Act.put,Sp1,Sp2,Sp3,Sp4,Sp5,Sp6]
        refine AnyG.one (i:=8) (by kernel_rfl) rfl rfl ?_
        go_simp
        refine Onward.on hS (fun hS2 => ?_)
        clear hS
        have hS:=hS2
        clear hS2
        try simp only [Act.put,Sp1,Sp2,Sp3,Sp4,Sp5,Sp6]
        refine AnyG.one (i:=9) (by kernel_rfl) rfl rfl ?_
        obtain ⟨s0,s1,s2,s3,s4,s5,sf,sz⟩:=hS.1.six
        have hS8:=Lib.hid hS
        clear hS
        go_simp
        clear s0 s1 s2 s3 s4 s5 sf sz
        have hS:=hS8.out
        refine Onward.last rfl ?_
        try simp only [Act.put,Sp1,Sp2,Sp3,Sp4,Sp5,Sp6]
        refine AnyG.done (by kernel_rfl) ?_ _
        go_simp
        have J2:=hidJ.out.addF HAT.out.asc hj hfl1 HX.out o1 o2 o4 (by omega) (by omega) (by omega)
        clear hS hS8 o1 o2 o3 o4 ho kb
        obtain ⟨X2,hX2⟩ : ∃ X,World.setCell w' ⟨bS,0,none⟩ (.slice NA (F.length + 1) NC) = X:=⟨_,rfl⟩
        rw [hX2] at J2 ⊢
        clear hX2
        have hJ2:=Lib.hid J2
        obtain ⟨s0,s1,s2,s3,s4,s5,sf,sz⟩:=J2.kS.six
        clear J2
        by_cases hx1 : F.length + 1 = a
        ·have hx1b : ((F.length : Int) + 1 == (a : Int)) = true:=by simp; omega
         have HX1:=Lib.hid hx1
         clear hx1
         by_cases hy1 : B.length = a
         ·have hy1b : ((B.length : Int) == (a : Int)) = true:=by simp; omega
          have HY1:=Lib.hid hy1
          clear hy1
          go_wp2_with fail
          go_meet
          exact ⟨j + 1,_,_,_,_,hJ2.out,.inr ⟨by simp; exact HX1.out,HY1.out⟩⟩
         ·have hy1b : ((B.length : Int) == (a : Int)) = false:=by simp; omega
          have HY1:=Lib.hid hy1
          clear hy1
          go_wp2_with fail
          go_roundw
          case rel => exact ⟨j + 1,_,_,_,_,by go_num,hJ2.out,fun hh => HY1.out hh.2⟩
          case measure => simp [intOf]; omega
        ·have hx1b : ((F.length : Int) + 1 == (a : Int)) = false:=by simp; omega
         have HX1:=Lib.hid hx1
         clear hx1
         by_cases hy1 : B.length = a
         ·have hy1b : ((B.length : Int) == (a : Int)) = true:=by simp; omega
          have HY1:=Lib.hid hy1
          clear hy1
          go_wp2_with fail
          go_roundw
          case rel => exact ⟨j + 1,_,_,_,_,by go_num,hJ2.out,fun hh => HX1.out (by simpa using hh.1)⟩
          case measure => simp [intOf]; omega
         ·have hy1b : ((B.length : Int) == (a : Int)) = false:=by simp; omega
          have HY1:=Lib.hid hy1
          clear hy1
          go_wp2_with fail
          go_roundw
          case rel => exact ⟨j + 1,_,_,_,_,by go_num,hJ2.out,fun hh => HX1.out (by simpa using hh.1)⟩
          case measure => simp [intOf]; omega
     ·obtain rfl : j = l.length:=by omega
      go_wp2_with fail
      go_meet
      exact ⟨_,F,B,fv,bv,I,.inl rfl⟩
   case rest =>
    clear HI
    obtain ⟨j,F,B,fv,bv,I,hend⟩:=hcut
    obtain ⟨FA,FC,rfl⟩:=own_shape I.of
    obtain ⟨BA,BC,rfl⟩:=own_shape I.ob
    have hsum:=I.sum
    have hjl:=I.jl
    have hFC:=own_cap I.of
    have hBC:=own_cap I.ob
    have hidJ:=Lib.hid I
    obtain ⟨s0,s1,s2,s3,s4,s5,sf,sz⟩:=I.kS.six
    clear I
    have HEND:=Lib.hid hend
    clear hend
    by_cases hl1 : 1 < l.length
    ·by_cases hF0 : F.length = 0
     ·obtain rfl : F = []:=List.eq_nil_of_length_eq_zero hF0
      have hB2 : 2 ≤ B.length:=by
       have:=HEND.out
       simp at hsum this
       omega
      clear hF0
      simp only [List.length_nil] at s0
      have h1C : (1 : Int) ≤ (BC : Int):=by omega
      have h1B : (1 : Int) ≤ (B.length : Int):=by omega
      have hcn : ¬ BC = 1:=by omega
      obtain ⟨q,rfl⟩ : ∃ q,BA = some ⟨q,0,none⟩:=by
       rcases hidJ.out.ob.2 with ⟨h,h0⟩ | ⟨q,cap,cur,h,_⟩
       ·omega
       ·simp only [Value.slice.injEq] at h; exact ⟨q,h.1⟩
      go_wp2_with fail
      refine AnyG.start (fun _ => True) (fun i => true) (by kernel_rfl) ?_
      have hS : (fun _ : World => True) (World.drew wc):=trivial
      refine AnyG.take (i:=0) (v:=?_) rfl (by kernel_rfl) (fun _ _ _ h => h) rfl ?_ hS ?_
      rotate_left
      ·(intro w' hSw; (try dsimp only at hSw); go_simp; try with_reducible rfl)
      try simp only [Act.put,Sp1,Sp2,Sp3,Sp4,Sp5,Sp6]
      refine AnyG.take (i:=3) (v:=?_) rfl (by kernel_rfl) (fun _ _ _ h => h) rfl ?_ hS ?_
      rotate_left
      ·(intro w' hSw; (try dsimp only at hSw); go_simp; try with_reducible rfl)
      try simp only [Act.put,Sp1,Sp2,Sp3,Sp4,Sp5,Sp6]
      refine AnyG.all (rs:=[1,4]) (by kernel_rfl) (by simp) ?_
      intro ii hii
      simp only [List.mem_cons,List.not_mem_nil,or_false] at hii
      rcases hii with rfl | rfl
      ·refine ⟨_,rfl,rfl,?_⟩
       go_simp
       refine Onward.on trivial (fun hS => ?_)
       try simp only [Act.put,Sp1,Sp2,Sp3,Sp4,Sp5,Sp6]
       refine AnyG.take (i:=2) (v:=?_) rfl (by kernel_rfl) (fun _ _ _ h => h) rfl ?_ hS ?_
       rotate_left
       ·(intro w' hSw; (try dsimp only at hSw); go_simp; try with_reducible rfl)
       try simp only [Act.put,Sp1,Sp2,Sp3,Sp4,Sp5,Sp6]
       refine AnyG.one (i:=4) (by kernel_rfl) rfl rfl ?_
       go_simp
       refine Onward.on trivial (fun hS => ?_)
       try simp only [Act.put,Sp1,Sp2,Sp3,Sp4,Sp5,Sp6]
       refine AnyG.take (i:=5) (v:=?_) rfl (by kernel_rfl) (fun _ _ _ h => h) rfl ?_ hS ?_
       rotate_left
       ·(intro w' hSw; (try dsimp only at hSw); go_simp; try with_reducible rfl)
       try simp only [Act.put,Sp1,Sp2,Sp3,Sp4,Sp5,Sp6]
       refine AnyG.take (i:=6) (v:=?_) rfl (by kernel_rfl) (fun _ _ _ h => h) rfl ?_ hS ?_
       rotate_left
       ·(intro w' hSw; (try dsimp only at hSw); go_simp; try with_reducible rfl)
       try simp only [Act.put,Sp1,Sp2,Sp3,Sp4,Sp5,Sp6]
       refine AnyG.one (i:=7) (by kernel_rfl) rfl rfl ?_
       go_simp
       refine Onward.on trivial (fun hS => ?_)
       try simp only [Act.put,Sp1,Sp2,Sp3,Sp4,Sp5,Sp6]
       refine AnyG.take (i:=8) (v:=?_) rfl (by kernel_rfl) (fun _ _ _ h => h) rfl ?_ hS ?_
       rotate_left
       ·(intro w' hSw; (try dsimp only at hSw); go_simp; try with_reducible rfl)
       try simp only [Act.put,Sp1,Sp2,Sp3,Sp4,Sp5,Sp6]
       refine AnyG.one (i:=9) (by kernel_rfl) rfl rfl ?_
       go_simp
       refine Onward.on trivial (fun hS => ?_)
       try simp only [Act.put,Sp1,Sp2,Sp3,Sp4,Sp5,Sp6]
       refine AnyG.done (by kernel_rfl) ?_ _
       clear hS
       go_simp
       have hX:=hidJ.out
       have kS : Bx ((World.setCell (World.setCell wc ⟨bS,0,none⟩ (.slice (some ⟨q,0,none⟩) 1 BC)) ⟨bS,1,none⟩ (.slice (some ⟨q,1,none⟩) (B.length - 1) (BC - 1))).drew) bS 50 #[(.slice (some ⟨q,0,none⟩) 1 BC),(.slice (some ⟨q,1,none⟩) (B.length - 1) (BC - 1)),.int .i64 fs,.int .i64 bs,.int .i64 d0,.int .i64 d1]:=by simpa using ((hX.kS.set_ 0 (.slice (some ⟨q,0,none⟩) 1 BC)).set_ 1 (.slice (some ⟨q,1,none⟩) (B.length - 1) (BC - 1))).drew
       have kR : Bx ((World.setCell (World.setCell wc ⟨bS,0,none⟩ (.slice (some ⟨q,0,none⟩) 1 BC)) ⟨bS,1,none⟩ (.slice (some ⟨q,1,none⟩) (B.length - 1) (BC - 1))).drew) (w.heap.size + 1) 50 #[.slice none 0 0,.slice none 0 0,.int .i64 0,.int .i64 0,.int .i64 0,.int .i64 0]:=((hX.kR.far (by simp; omega) _).far (by simp; omega) _).drew
       have oF:=(own_set (own_set hX.of (own_bx hX.of hX.kS (by decide)) (o:=0) (.slice (some ⟨q,0,none⟩) 1 BC)) (own_bx hX.of hX.kS (by decide)) (o:=1) (.slice (some ⟨q,1,none⟩) (B.length - 1) (BC - 1))).drew
       have oB:=(own_set (own_set hX.ob (own_bx hX.ob hX.kS (by decide)) (o:=0) (.slice (some ⟨q,0,none⟩) 1 BC)) (own_bx hX.ob hX.kS (by decide)) (o:=1) (.slice (some ⟨q,1,none⟩) (B.length - 1) (BC - 1))).drew
       have fdX : Fd g ((World.setCell (World.setCell wc ⟨bS,0,none⟩ (.slice (some ⟨q,0,none⟩) 1 BC)) ⟨bS,1,none⟩ (.slice (some ⟨q,1,none⟩) (B.length - 1) (BC - 1))).drew):=((hX.fd.far (by simp; omega) _).far (by simp; omega) _).drew
       have grX : w.grownBy ((World.setCell (World.setCell wc ⟨bS,0,none⟩ (.slice (some ⟨q,0,none⟩) 1 BC)) ⟨bS,1,none⟩ (.slice (some ⟨q,1,none⟩) (B.length - 1) (BC - 1))).drew) (some g):=grown_trans (grown_new (grown_new hX.gr (by omega) _) (by omega) _) (grown_drew _ _)
       obtain ⟨X,hXX⟩ : ∃ X,((World.setCell (World.setCell wc ⟨bS,0,none⟩ (.slice (some ⟨q,0,none⟩) 1 BC)) ⟨bS,1,none⟩ (.slice (some ⟨q,1,none⟩) (B.length - 1) (BC - 1))).drew) = X:=⟨_,rfl⟩
       rw [hXX] at kS kR oF oB fdX grX ⊢
       clear hXX hX
       have spX:=hidJ.out.sp.split ha1
       obtain ⟨N,hN⟩ : ∃ N,B.length - 1 = N:=⟨_,rfl⟩
       have hN1 : 0 < N:=by omega
       have HN:=Lib.hid hN
       rw [hN] at kS ⊢
       clear hN
       have hNb : ((N : Int) == 0) = false:=by rw [beq_eq_false_iff_ne]; omega
       have hF1 : 0 < 1:=by omega
       obtain ⟨s0,s1,s2,s3,s4,s5,sf,sz⟩:=kS.six
       go_wp2_with fail
       try clear s0 s1 s2 s3 s4 s5 sf sz
       refine AnyG.start (fun w' : World => Bx w' bS 50 #[(.slice (some ⟨q,0,none⟩) 1 BC),(.slice (some ⟨q,1,none⟩) N (BC - 1)),.int .i64 fs,.int .i64 bs,.int .i64 d0,.int .i64 d1]) (fun i => true) (by kernel_rfl) ?_
       have hS : (fun w' : World => Bx w' bS 50 #[(.slice (some ⟨q,0,none⟩) 1 BC),(.slice (some ⟨q,1,none⟩) N (BC - 1)),.int .i64 fs,.int .i64 bs,.int .i64 d0,.int .i64 d1]) (World.drew _):=kS.drew
       refine AnyG.take (i:=0) (v:=?_) rfl (by kernel_rfl) (fun _ _ _ h => h) rfl ?_ hS ?_
       rotate_left
       ·(intro w' hSw; (try dsimp only at hSw); obtain ⟨s0,s1,s2,s3,s4,s5,sf,sz⟩:=hSw.six; go_simp; try with_reducible rfl)
       try simp only [Act.put,Sp1,Sp2,Sp3,Sp4,Sp5,Sp6]
       refine AnyG.take (i:=1) (v:=?_) rfl (by kernel_rfl) (fun _ _ _ h => h) rfl ?_ hS ?_
       rotate_left
       ·(intro w' hSw; (try dsimp only at hSw); go_simp; try with_reducible rfl)
       try simp only [Act.put,Sp1,Sp2,Sp3,Sp4,Sp5,Sp6]
       refine AnyG.take (i:=2) (v:=?_) rfl (by kernel_rfl) (fun _ _ _ h => h) rfl ?_ hS ?_
       rotate_left
       ·(intro w' hSw; (try dsimp only at hSw); obtain ⟨s0,s1,s2,s3,s4,s5,sf,sz⟩:=hSw.six; go_simp; try with_reducible rfl)
       try simp only [Act.put,Sp1,Sp2,Sp3,Sp4,Sp5,Sp6]
       refine AnyG.take (i:=3) (v:=?_) rfl (by kernel_rfl) (fun _ _ _ h => h) rfl ?_ hS ?_
       rotate_left
       ·(intro w' hSw; (try dsimp only at hSw); go_simp; try with_reducible rfl)
       try simp only [Act.put,Sp1,Sp2,Sp3,Sp4,Sp5,Sp6]
       refine AnyG.take (i:=4) (v:=?_) rfl (by kernel_rfl) (fun _ _ _ h => h) rfl ?_ hS ?_
       rotate_left
       ·(intro w' hSw; (try dsimp only at hSw); go_simp; try with_reducible rfl)
       try simp only [Act.put,Sp1,Sp2,Sp3,Sp4,Sp5,Sp6]
       refine AnyG.take (i:=5) (v:=?_) rfl (by kernel_rfl) (fun _ _ _ h => h) rfl ?_ hS ?_
       rotate_left
       ·(intro w' hSw; (try dsimp only at hSw); go_simp; try with_reducible rfl)
       try simp only [Act.put,Sp1,Sp2,Sp3,Sp4,Sp5,Sp6]
       refine AnyG.takeG (i:=6) (v:=?_) rfl (by kernel_rfl) (fun _ _ _ h => h) (by simp [Region.wanted,yielded,hF1]) ?_ hS ?_
       rotate_left
       ·(intro w' hSw; (try dsimp only at hSw); go_simp; try with_reducible rfl)
       try simp only [Act.put,Sp1,Sp2,Sp3,Sp4,Sp5,Sp6]
       refine AnyG.takeG (i:=7) (v:=?_) rfl (by kernel_rfl) (fun _ _ _ h => h) (by simp [Region.wanted,yielded,hF1]) ?_ hS ?_
       rotate_left
       ·(intro w' hSw; (try dsimp only at hSw); obtain ⟨s0,s1,s2,s3,s4,s5,sf,sz⟩:=hSw.six; go_simp; try with_reducible rfl)
       try simp only [Act.put,Sp1,Sp2,Sp3,Sp4,Sp5,Sp6]
       refine AnyG.takeG (i:=8) (v:=?_) rfl (by kernel_rfl) (fun _ _ _ h => h) (by simp [Region.wanted,yielded,hF1]) ?_ hS ?_
       rotate_left
       ·(intro w' hSw; (try dsimp only at hSw); go_simp; try with_reducible rfl)
       try simp only [Act.put,Sp1,Sp2,Sp3,Sp4,Sp5,Sp6]
       refine AnyG.takeG (i:=9) (v:=?_) rfl (by kernel_rfl) (fun _ _ _ h => h) (by simp [Region.wanted,yielded,hF1]) ?_ hS ?_
       rotate_left
       ·(intro w' hSw; (try dsimp only at hSw); go_simp; try with_reducible rfl)
       try simp only [Act.put,Sp1,Sp2,Sp3,Sp4,Sp5,Sp6]
       refine AnyG.take (i:=10) (v:=?_) rfl (by kernel_rfl) (fun _ _ _ h => h) rfl ?_ hS ?_
       rotate_left
       ·(intro w' hSw; (try dsimp only at hSw); go_simp; try with_reducible rfl)
       try simp only [Act.put,Sp1,Sp2,Sp3,Sp4,Sp5,Sp6]
       refine AnyG.one (i:=11) (by kernel_rfl) rfl rfl ?_
       obtain ⟨r0,r1,r2,r3,r4,r5,rf,rz⟩:=kR.six
       have hS8:=Lib.hid hS
       clear hS
       go_simp
       clear r0 r1 r2 r3 r4 r5 rf rz
       have hS:=hS8.out
       refine Onward.on ((((((kS.far (by simp; omega) _).far (by simp; omega) _).far (by simp; omega) _).far (by simp; omega) _).far (by simp; omega) _).far (by simp; omega) _).drew (fun hS2 => ?_)
       clear hS
       have hS:=hS2
       clear hS2
       try simp only [Act.put,Sp1,Sp2,Sp3,Sp4,Sp5,Sp6]
       refine AnyG.take (i:=12) (v:=?_) rfl (by kernel_rfl) (fun _ _ _ h => h) rfl ?_ hS ?_
       rotate_left
       ·(intro w' hSw; (try dsimp only at hSw); go_simp; try with_reducible rfl)
       try simp only [Act.put,Sp1,Sp2,Sp3,Sp4,Sp5,Sp6]
       refine AnyG.done (by kernel_rfl) ?_ _
       go_simp
       go_wp2_with fail
       have nFR:=own_bx oF kR (by decide)
       have nBR:=own_bx oB kR (by decide)
       have kE : Bx (((((((X.setCell ⟨w.heap.size + 1,0,none⟩ (.slice (some ⟨q,0,none⟩) 1 BC)).setCell ⟨w.heap.size + 1,1,none⟩ (.slice (some ⟨q,1,none⟩) N (BC - 1))).setCell ⟨w.heap.size + 1,2,none⟩ (.int .i64 fs)).setCell ⟨w.heap.size + 1,3,none⟩ (.int .i64 bs)).setCell ⟨w.heap.size + 1,4,none⟩ (.int .i64 d0)).setCell ⟨w.heap.size + 1,5,none⟩ (.int .i64 d1)).drew) (w.heap.size + 1) 50 #[(.slice (some ⟨q,0,none⟩) 1 BC),(.slice (some ⟨q,1,none⟩) N (BC - 1)),.int .i64 fs,.int .i64 bs,.int .i64 d0,.int .i64 d1]:=by simpa using ((((((kR.set_ 0 (.slice (some ⟨q,0,none⟩) 1 BC)).set_ 1 (.slice (some ⟨q,1,none⟩) N (BC - 1))).set_ 2 (.int .i64 fs)).set_ 3 (.int .i64 bs)).set_ 4 (.int .i64 d0)).set_ 5 (.int .i64 d1)).drew
       refine bodyPost_ret (v:=.tuple #[.agg #[(.slice (some ⟨q,0,none⟩) 1 BC),(.slice (some ⟨q,1,none⟩) N (BC - 1)),.int .i64 fs,.int .i64 bs,.int .i64 d0,.int .i64 d1],.bool true]) (by rw [results_row_tmp (t:=50) rfl rfl kE Try.underlying50 rfl (by kernel_rfl)]; rfl) rfl ⟨(some ⟨q,0,none⟩),1,BC,(some ⟨q,1,none⟩),N,(BC - 1),fs,bs,d0,d1,(B.take 1),(B.drop 1),l,_,by simp [hN1],by simp; omega,by simp; exact HN.out,sl_take1 (own_sl2 (own_set (own_set (own_set (own_set (own_set (own_set oB nBR _) nBR _) nBR _) nBR _) nBR _) nBR _).drew rfl) 1,sl_drop1 (own_sl2 (own_set (own_set (own_set (own_set (own_set (own_set oB nBR _) nBR _) nBR _) nBR _) nBR _) nBR _).drew rfl),⟨by omega,by have:=HN.out; omega⟩,by rw [HL.out]; exact HAT.out,spX,⟨f1,hfs⟩,⟨b1,hbs⟩,dr1,dr2,dr3,((((((fdX.far (by simp; omega) _).far (by simp; omega) _).far (by simp; omega) _).far (by simp; omega) _).far (by simp; omega) _).far (by simp; omega) _).drew,grown_trans (grown_new (grown_new (grown_new (grown_new (grown_new (grown_new grX (by omega) _) (by omega) _) (by omega) _) (by omega) _) (by omega) _) (by omega) _) (grown_drew _ _)⟩
      ·refine ⟨_,rfl,rfl,?_⟩
       go_simp
       refine Onward.on trivial (fun hS => ?_)
       try simp only [Act.put,Sp1,Sp2,Sp3,Sp4,Sp5,Sp6]
       refine AnyG.take (i:=5) (v:=?_) rfl (by kernel_rfl) (fun _ _ _ h => h) rfl ?_ hS ?_
       rotate_left
       ·(intro w' hSw; (try dsimp only at hSw); go_simp; try with_reducible rfl)
       try simp only [Act.put,Sp1,Sp2,Sp3,Sp4,Sp5,Sp6]
       refine AnyG.one (i:=1) (by kernel_rfl) rfl rfl ?_
       go_simp
       refine Onward.on trivial (fun hS => ?_)
       try simp only [Act.put,Sp1,Sp2,Sp3,Sp4,Sp5,Sp6]
       refine AnyG.take (i:=2) (v:=?_) rfl (by kernel_rfl) (fun _ _ _ h => h) rfl ?_ hS ?_
       rotate_left
       ·(intro w' hSw; (try dsimp only at hSw); go_simp; try with_reducible rfl)
       try simp only [Act.put,Sp1,Sp2,Sp3,Sp4,Sp5,Sp6]
       refine AnyG.take (i:=6) (v:=?_) rfl (by kernel_rfl) (fun _ _ _ h => h) rfl ?_ hS ?_
       rotate_left
       ·(intro w' hSw; (try dsimp only at hSw); go_simp; try with_reducible rfl)
       try simp only [Act.put,Sp1,Sp2,Sp3,Sp4,Sp5,Sp6]
       refine AnyG.one (i:=7) (by kernel_rfl) rfl rfl ?_
       go_simp
       refine Onward.on trivial (fun hS => ?_)
       try simp only [Act.put,Sp1,Sp2,Sp3,Sp4,Sp5,Sp6]
       refine AnyG.take (i:=8) (v:=?_) rfl (by kernel_rfl) (fun _ _ _ h => h) rfl ?_ hS ?_
       rotate_left
       ·(intro w' hSw; (try dsimp only at hSw); go_simp; try with_reducible rfl)
       try simp only [Act.put,Sp1,Sp2,Sp3,Sp4,Sp5,Sp6]
       refine AnyG.one (i:=9) (by kernel_rfl) rfl rfl ?_
       go_simp
       refine Onward.on trivial (fun hS => ?_)
       try simp only [Act.put,Sp1,Sp2,Sp3,Sp4,Sp5,Sp6]
       refine AnyG.done (by kernel_rfl) ?_ _
       clear hS
       go_simp
       have hX:=hidJ.out
       have kS : Bx ((World.setCell (World.setCell wc ⟨bS,0,none⟩ (.slice (some ⟨q,0,none⟩) 1 BC)) ⟨bS,1,none⟩ (.slice (some ⟨q,1,none⟩) (B.length - 1) (BC - 1))).drew) bS 50 #[(.slice (some ⟨q,0,none⟩) 1 BC),(.slice (some ⟨q,1,none⟩) (B.length - 1) (BC - 1)),.int .i64 fs,.int .i64 bs,.int .i64 d0,.int .i64 d1]:=by simpa using ((hX.kS.set_ 0 (.slice (some ⟨q,0,none⟩) 1 BC)).set_ 1 (.slice (some ⟨q,1,none⟩) (B.length - 1) (BC - 1))).drew
       have kR : Bx ((World.setCell (World.setCell wc ⟨bS,0,none⟩ (.slice (some ⟨q,0,none⟩) 1 BC)) ⟨bS,1,none⟩ (.slice (some ⟨q,1,none⟩) (B.length - 1) (BC - 1))).drew) (w.heap.size + 1) 50 #[.slice none 0 0,.slice none 0 0,.int .i64 0,.int .i64 0,.int .i64 0,.int .i64 0]:=((hX.kR.far (by simp; omega) _).far (by simp; omega) _).drew
       have oF:=(own_set (own_set hX.of (own_bx hX.of hX.kS (by decide)) (o:=0) (.slice (some ⟨q,0,none⟩) 1 BC)) (own_bx hX.of hX.kS (by decide)) (o:=1) (.slice (some ⟨q,1,none⟩) (B.length - 1) (BC - 1))).drew
       have oB:=(own_set (own_set hX.ob (own_bx hX.ob hX.kS (by decide)) (o:=0) (.slice (some ⟨q,0,none⟩) 1 BC)) (own_bx hX.ob hX.kS (by decide)) (o:=1) (.slice (some ⟨q,1,none⟩) (B.length - 1) (BC - 1))).drew
       have fdX : Fd g ((World.setCell (World.setCell wc ⟨bS,0,none⟩ (.slice (some ⟨q,0,none⟩) 1 BC)) ⟨bS,1,none⟩ (.slice (some ⟨q,1,none⟩) (B.length - 1) (BC - 1))).drew):=((hX.fd.far (by simp; omega) _).far (by simp; omega) _).drew
       have grX : w.grownBy ((World.setCell (World.setCell wc ⟨bS,0,none⟩ (.slice (some ⟨q,0,none⟩) 1 BC)) ⟨bS,1,none⟩ (.slice (some ⟨q,1,none⟩) (B.length - 1) (BC - 1))).drew) (some g):=grown_trans (grown_new (grown_new hX.gr (by omega) _) (by omega) _) (grown_drew _ _)
       obtain ⟨X,hXX⟩ : ∃ X,((World.setCell (World.setCell wc ⟨bS,0,none⟩ (.slice (some ⟨q,0,none⟩) 1 BC)) ⟨bS,1,none⟩ (.slice (some ⟨q,1,none⟩) (B.length - 1) (BC - 1))).drew) = X:=⟨_,rfl⟩
       rw [hXX] at kS kR oF oB fdX grX ⊢
       clear hXX hX
       have spX:=hidJ.out.sp.split ha1
       obtain ⟨N,hN⟩ : ∃ N,B.length - 1 = N:=⟨_,rfl⟩
       have hN1 : 0 < N:=by omega
       have HN:=Lib.hid hN
       rw [hN] at kS ⊢
       clear hN
       have hNb : ((N : Int) == 0) = false:=by rw [beq_eq_false_iff_ne]; omega
       have hF1 : 0 < 1:=by omega
       obtain ⟨s0,s1,s2,s3,s4,s5,sf,sz⟩:=kS.six
       go_wp2_with fail
       try clear s0 s1 s2 s3 s4 s5 sf sz
       refine AnyG.start (fun w' : World => Bx w' bS 50 #[(.slice (some ⟨q,0,none⟩) 1 BC),(.slice (some ⟨q,1,none⟩) N (BC - 1)),.int .i64 fs,.int .i64 bs,.int .i64 d0,.int .i64 d1]) (fun i => true) (by kernel_rfl) ?_
       have hS : (fun w' : World => Bx w' bS 50 #[(.slice (some ⟨q,0,none⟩) 1 BC),(.slice (some ⟨q,1,none⟩) N (BC - 1)),.int .i64 fs,.int .i64 bs,.int .i64 d0,.int .i64 d1]) (World.drew _):=kS.drew
       refine AnyG.take (i:=0) (v:=?_) rfl (by kernel_rfl) (fun _ _ _ h => h) rfl ?_ hS ?_
       rotate_left
       ·(intro w' hSw; (try dsimp only at hSw); obtain ⟨s0,s1,s2,s3,s4,s5,sf,sz⟩:=hSw.six; go_simp; try with_reducible rfl)
       try simp only [Act.put,Sp1,Sp2,Sp3,Sp4,Sp5,Sp6]
       refine AnyG.take (i:=1) (v:=?_) rfl (by kernel_rfl) (fun _ _ _ h => h) rfl ?_ hS ?_
       rotate_left
       ·(intro w' hSw; (try dsimp only at hSw); go_simp; try with_reducible rfl)
       try simp only [Act.put,Sp1,Sp2,Sp3,Sp4,Sp5,Sp6]
       refine AnyG.take (i:=2) (v:=?_) rfl (by kernel_rfl) (fun _ _ _ h => h) rfl ?_ hS ?_
       rotate_left
       ·(intro w' hSw; (try dsimp only at hSw); obtain ⟨s0,s1,s2,s3,s4,s5,sf,sz⟩:=hSw.six; go_simp; try with_reducible rfl)
       try simp only [Act.put,Sp1,Sp2,Sp3,Sp4,Sp5,Sp6]
       refine AnyG.take (i:=3) (v:=?_) rfl (by kernel_rfl) (fun _ _ _ h => h) rfl ?_ hS ?_
       rotate_left
       ·(intro w' hSw; (try dsimp only at hSw); go_simp; try with_reducible rfl)
       try simp only [Act.put,Sp1,Sp2,Sp3,Sp4,Sp5,Sp6]
       refine AnyG.take (i:=4) (v:=?_) rfl (by kernel_rfl) (fun _ _ _ h => h) rfl ?_ hS ?_
       rotate_left
       ·(intro w' hSw; (try dsimp only at hSw); go_simp; try with_reducible rfl)
       try simp only [Act.put,Sp1,Sp2,Sp3,Sp4,Sp5,Sp6]
       refine AnyG.take (i:=5) (v:=?_) rfl (by kernel_rfl) (fun _ _ _ h => h) rfl ?_ hS ?_
       rotate_left
       ·(intro w' hSw; (try dsimp only at hSw); go_simp; try with_reducible rfl)
       try simp only [Act.put,Sp1,Sp2,Sp3,Sp4,Sp5,Sp6]
       refine AnyG.takeG (i:=6) (v:=?_) rfl (by kernel_rfl) (fun _ _ _ h => h) (by simp [Region.wanted,yielded,hF1]) ?_ hS ?_
       rotate_left
       ·(intro w' hSw; (try dsimp only at hSw); go_simp; try with_reducible rfl)
       try simp only [Act.put,Sp1,Sp2,Sp3,Sp4,Sp5,Sp6]
       refine AnyG.takeG (i:=7) (v:=?_) rfl (by kernel_rfl) (fun _ _ _ h => h) (by simp [Region.wanted,yielded,hF1]) ?_ hS ?_
       rotate_left
       ·(intro w' hSw; (try dsimp only at hSw); obtain ⟨s0,s1,s2,s3,s4,s5,sf,sz⟩:=hSw.six; go_simp; try with_reducible rfl)
       try simp only [Act.put,Sp1,Sp2,Sp3,Sp4,Sp5,Sp6]
       refine AnyG.takeG (i:=8) (v:=?_) rfl (by kernel_rfl) (fun _ _ _ h => h) (by simp [Region.wanted,yielded,hF1]) ?_ hS ?_
       rotate_left
       ·(intro w' hSw; (try dsimp only at hSw); go_simp; try with_reducible rfl)
       try simp only [Act.put,Sp1,Sp2,Sp3,Sp4,Sp5,Sp6]
       refine AnyG.takeG (i:=9) (v:=?_) rfl (by kernel_rfl) (fun _ _ _ h => h) (by simp [Region.wanted,yielded,hF1]) ?_ hS ?_
       rotate_left
       ·(intro w' hSw; (try dsimp only at hSw); go_simp; try with_reducible rfl)
       try simp only [Act.put,Sp1,Sp2,Sp3,Sp4,Sp5,Sp6]
       refine AnyG.take (i:=10) (v:=?_) rfl (by kernel_rfl) (fun _ _ _ h => h) rfl ?_ hS ?_
       rotate_left
       ·(intro w' hSw; (try dsimp only at hSw); go_simp; try with_reducible rfl)
       try simp only [Act.put,Sp1,Sp2,Sp3,Sp4,Sp5,Sp6]
       refine AnyG.one (i:=11) (by kernel_rfl) rfl rfl ?_
       obtain ⟨r0,r1,r2,r3,r4,r5,rf,rz⟩:=kR.six
       have hS8:=Lib.hid hS
       clear hS
       go_simp
       clear r0 r1 r2 r3 r4 r5 rf rz
       have hS:=hS8.out
       refine Onward.on ((((((kS.far (by simp; omega) _).far (by simp; omega) _).far (by simp; omega) _).far (by simp; omega) _).far (by simp; omega) _).far (by simp; omega) _).drew (fun hS2 => ?_)
       clear hS
       have hS:=hS2
       clear hS2
       try simp only [Act.put,Sp1,Sp2,Sp3,Sp4,Sp5,Sp6]
       refine AnyG.take (i:=12) (v:=?_) rfl (by kernel_rfl) (fun _ _ _ h => h) rfl ?_ hS ?_
       rotate_left
       ·(intro w' hSw; (try dsimp only at hSw); go_simp; try with_reducible rfl)
       try simp only [Act.put,Sp1,Sp2,Sp3,Sp4,Sp5,Sp6]
       refine AnyG.done (by kernel_rfl) ?_ _
       go_simp
       go_wp2_with fail
       have nFR:=own_bx oF kR (by decide)
       have nBR:=own_bx oB kR (by decide)
       have kE : Bx (((((((X.setCell ⟨w.heap.size + 1,0,none⟩ (.slice (some ⟨q,0,none⟩) 1 BC)).setCell ⟨w.heap.size + 1,1,none⟩ (.slice (some ⟨q,1,none⟩) N (BC - 1))).setCell ⟨w.heap.size + 1,2,none⟩ (.int .i64 fs)).setCell ⟨w.heap.size + 1,3,none⟩ (.int .i64 bs)).setCell ⟨w.heap.size + 1,4,none⟩ (.int .i64 d0)).setCell ⟨w.heap.size + 1,5,none⟩ (.int .i64 d1)).drew) (w.heap.size + 1) 50 #[(.slice (some ⟨q,0,none⟩) 1 BC),(.slice (some ⟨q,1,none⟩) N (BC - 1)),.int .i64 fs,.int .i64 bs,.int .i64 d0,.int .i64 d1]:=by simpa using ((((((kR.set_ 0 (.slice (some ⟨q,0,none⟩) 1 BC)).set_ 1 (.slice (some ⟨q,1,none⟩) N (BC - 1))).set_ 2 (.int .i64 fs)).set_ 3 (.int .i64 bs)).set_ 4 (.int .i64 d0)).set_ 5 (.int .i64 d1)).drew
       refine bodyPost_ret (v:=.tuple #[.agg #[(.slice (some ⟨q,0,none⟩) 1 BC),(.slice (some ⟨q,1,none⟩) N (BC - 1)),.int .i64 fs,.int .i64 bs,.int .i64 d0,.int .i64 d1],.bool true]) (by rw [results_row_tmp (t:=50) rfl rfl kE Try.underlying50 rfl (by kernel_rfl)]; rfl) rfl ⟨(some ⟨q,0,none⟩),1,BC,(some ⟨q,1,none⟩),N,(BC - 1),fs,bs,d0,d1,(B.take 1),(B.drop 1),l,_,by simp [hN1],by simp; omega,by simp; exact HN.out,sl_take1 (own_sl2 (own_set (own_set (own_set (own_set (own_set (own_set oB nBR _) nBR _) nBR _) nBR _) nBR _) nBR _).drew rfl) 1,sl_drop1 (own_sl2 (own_set (own_set (own_set (own_set (own_set (own_set oB nBR _) nBR _) nBR _) nBR _) nBR _) nBR _).drew rfl),⟨by omega,by have:=HN.out; omega⟩,by rw [HL.out]; exact HAT.out,spX,⟨f1,hfs⟩,⟨b1,hbs⟩,dr1,dr2,dr3,((((((fdX.far (by simp; omega) _).far (by simp; omega) _).far (by simp; omega) _).far (by simp; omega) _).far (by simp; omega) _).far (by simp; omega) _).drew,grown_trans (grown_new (grown_new (grown_new (grown_new (grown_new (grown_new grX (by omega) _) (by omega) _) (by omega) _) (by omega) _) (by omega) _) (by omega) _) (grown_drew _ _)⟩
     ·have hF1 : 0 < F.length:=by omega
      have hFb : ((F.length : Int) == 0) = false:=by rw [beq_eq_false_iff_ne]; omega
      by_cases hB0 : B.length = 0
      ·obtain rfl : B = []:=List.eq_nil_of_length_eq_zero hB0
       clear hB0
       simp only [List.length_nil] at s1
       have hF2 : 2 ≤ F.length:=by
        have:=HEND.out
        simp at hsum this
        omega
       have h1C : (1 : Int) ≤ (FC : Int):=by omega
       have h1B : (1 : Int) ≤ (F.length : Int):=by omega
       have hcn : ¬ FC = 1:=by omega
       obtain ⟨q,rfl⟩ : ∃ q,FA = some ⟨q,0,none⟩:=by
        rcases hidJ.out.of.2 with ⟨h,h0⟩ | ⟨q,cap,cur,h,_⟩
        ·omega
        ·simp only [Value.slice.injEq] at h; exact ⟨q,h.1⟩
       go_wp2_with fail
       refine AnyG.start (fun _ => True) (fun i => true) (by kernel_rfl) ?_
       have hS : (fun _ : World => True) (World.drew wc):=trivial
       refine AnyG.take (i:=0) (v:=?_) rfl (by kernel_rfl) (fun _ _ _ h => h) rfl ?_ hS ?_
       rotate_left
       ·(intro w' hSw; (try dsimp only at hSw); go_simp; try with_reducible rfl)
       try simp only [Act.put,Sp1,Sp2,Sp3,Sp4,Sp5,Sp6]
       refine AnyG.take (i:=3) (v:=?_) rfl (by kernel_rfl) (fun _ _ _ h => h) rfl ?_ hS ?_
       rotate_left
       ·(intro w' hSw; (try dsimp only at hSw); go_simp; try with_reducible rfl)
       try simp only [Act.put,Sp1,Sp2,Sp3,Sp4,Sp5,Sp6]
       refine AnyG.all (rs:=[1,4]) (by kernel_rfl) (by simp) ?_
       intro ii hii
       simp only [List.mem_cons,List.not_mem_nil,or_false] at hii
       rcases hii with rfl | rfl
       ·refine ⟨_,rfl,rfl,?_⟩
        go_simp
        refine Onward.on trivial (fun hS => ?_)
        try simp only [Act.put,Sp1,Sp2,Sp3,Sp4,Sp5,Sp6]
        refine AnyG.take (i:=2) (v:=?_) rfl (by kernel_rfl) (fun _ _ _ h => h) rfl ?_ hS ?_
        rotate_left
        ·(intro w' hSw; (try dsimp only at hSw); go_simp; try with_reducible rfl)
        try simp only [Act.put,Sp1,Sp2,Sp3,Sp4,Sp5,Sp6]
        refine AnyG.one (i:=4) (by kernel_rfl) rfl rfl ?_
        go_simp
        refine Onward.on trivial (fun hS => ?_)
        try simp only [Act.put,Sp1,Sp2,Sp3,Sp4,Sp5,Sp6]
        refine AnyG.take (i:=5) (v:=?_) rfl (by kernel_rfl) (fun _ _ _ h => h) rfl ?_ hS ?_
        rotate_left
        ·(intro w' hSw; (try dsimp only at hSw); go_simp; try with_reducible rfl)
        try simp only [Act.put,Sp1,Sp2,Sp3,Sp4,Sp5,Sp6]
        refine AnyG.take (i:=6) (v:=?_) rfl (by kernel_rfl) (fun _ _ _ h => h) rfl ?_ hS ?_
        rotate_left
        ·(intro w' hSw; (try dsimp only at hSw); go_simp; try with_reducible rfl)
        try simp only [Act.put,Sp1,Sp2,Sp3,Sp4,Sp5,Sp6]
        refine AnyG.one (i:=7) (by kernel_rfl) rfl rfl ?_
        go_simp
        refine Onward.on trivial (fun hS => ?_)
        try simp only [Act.put,Sp1,Sp2,Sp3,Sp4,Sp5,Sp6]
        refine AnyG.take (i:=8) (v:=?_) rfl (by kernel_rfl) (fun _ _ _ h => h) rfl ?_ hS ?_
        rotate_left
        ·(intro w' hSw; (try dsimp only at hSw); go_simp; try with_reducible rfl)
        try simp only [Act.put,Sp1,Sp2,Sp3,Sp4,Sp5,Sp6]
        refine AnyG.one (i:=9) (by kernel_rfl) rfl rfl ?_
        go_simp
        refine Onward.on trivial (fun hS => ?_)
        try simp only [Act.put,Sp1,Sp2,Sp3,Sp4,Sp5,Sp6]
        refine AnyG.done (by kernel_rfl) ?_ _
        clear hS
        go_simp
        have hX:=hidJ.out
        have kS : Bx ((World.setCell (World.setCell wc ⟨bS,0,none⟩ (.slice (some ⟨q,1,none⟩) (F.length - 1) (FC - 1))) ⟨bS,1,none⟩ (.slice (some ⟨q,0,none⟩) 1 FC)).drew) bS 50 #[(.slice (some ⟨q,1,none⟩) (F.length - 1) (FC - 1)),(.slice (some ⟨q,0,none⟩) 1 FC),.int .i64 fs,.int .i64 bs,.int .i64 d0,.int .i64 d1]:=by simpa using ((hX.kS.set_ 0 (.slice (some ⟨q,1,none⟩) (F.length - 1) (FC - 1))).set_ 1 (.slice (some ⟨q,0,none⟩) 1 FC)).drew
        have kR : Bx ((World.setCell (World.setCell wc ⟨bS,0,none⟩ (.slice (some ⟨q,1,none⟩) (F.length - 1) (FC - 1))) ⟨bS,1,none⟩ (.slice (some ⟨q,0,none⟩) 1 FC)).drew) (w.heap.size + 1) 50 #[.slice none 0 0,.slice none 0 0,.int .i64 0,.int .i64 0,.int .i64 0,.int .i64 0]:=((hX.kR.far (by simp; omega) _).far (by simp; omega) _).drew
        have oF:=(own_set (own_set hX.of (own_bx hX.of hX.kS (by decide)) (o:=0) (.slice (some ⟨q,1,none⟩) (F.length - 1) (FC - 1))) (own_bx hX.of hX.kS (by decide)) (o:=1) (.slice (some ⟨q,0,none⟩) 1 FC)).drew
        have oB:=(own_set (own_set hX.ob (own_bx hX.ob hX.kS (by decide)) (o:=0) (.slice (some ⟨q,1,none⟩) (F.length - 1) (FC - 1))) (own_bx hX.ob hX.kS (by decide)) (o:=1) (.slice (some ⟨q,0,none⟩) 1 FC)).drew
        have fdX : Fd g ((World.setCell (World.setCell wc ⟨bS,0,none⟩ (.slice (some ⟨q,1,none⟩) (F.length - 1) (FC - 1))) ⟨bS,1,none⟩ (.slice (some ⟨q,0,none⟩) 1 FC)).drew):=((hX.fd.far (by simp; omega) _).far (by simp; omega) _).drew
        have grX : w.grownBy ((World.setCell (World.setCell wc ⟨bS,0,none⟩ (.slice (some ⟨q,1,none⟩) (F.length - 1) (FC - 1))) ⟨bS,1,none⟩ (.slice (some ⟨q,0,none⟩) 1 FC)).drew) (some g):=grown_trans (grown_new (grown_new hX.gr (by omega) _) (by omega) _) (grown_drew _ _)
        obtain ⟨X,hXX⟩ : ∃ X,((World.setCell (World.setCell wc ⟨bS,0,none⟩ (.slice (some ⟨q,1,none⟩) (F.length - 1) (FC - 1))) ⟨bS,1,none⟩ (.slice (some ⟨q,0,none⟩) 1 FC)).drew) = X:=⟨_,rfl⟩
        rw [hXX] at kS kR oF oB fdX grX ⊢
        clear hXX hX
        have spX:=hidJ.out.sp.split2 ha1
        obtain ⟨N,hN⟩ : ∃ N,F.length - 1 = N:=⟨_,rfl⟩
        have hN1 : 0 < N:=by omega
        have HN:=Lib.hid hN
        rw [hN] at kS ⊢
        clear hN
        have hNb : ((N : Int) == 0) = false:=by rw [beq_eq_false_iff_ne]; omega
        clear hF1
        have hF1:=hN1
        obtain ⟨s0,s1,s2,s3,s4,s5,sf,sz⟩:=kS.six
        go_wp2_with fail
        try clear s0 s1 s2 s3 s4 s5 sf sz
        refine AnyG.start (fun w' : World => Bx w' bS 50 #[(.slice (some ⟨q,1,none⟩) N (FC - 1)),(.slice (some ⟨q,0,none⟩) 1 FC),.int .i64 fs,.int .i64 bs,.int .i64 d0,.int .i64 d1]) (fun i => true) (by kernel_rfl) ?_
        have hS : (fun w' : World => Bx w' bS 50 #[(.slice (some ⟨q,1,none⟩) N (FC - 1)),(.slice (some ⟨q,0,none⟩) 1 FC),.int .i64 fs,.int .i64 bs,.int .i64 d0,.int .i64 d1]) (World.drew _):=kS.drew
        refine AnyG.take (i:=0) (v:=?_) rfl (by kernel_rfl) (fun _ _ _ h => h) rfl ?_ hS ?_
        rotate_left
        ·(intro w' hSw; (try dsimp only at hSw); obtain ⟨s0,s1,s2,s3,s4,s5,sf,sz⟩:=hSw.six; go_simp; try with_reducible rfl)
        try simp only [Act.put,Sp1,Sp2,Sp3,Sp4,Sp5,Sp6]
        refine AnyG.take (i:=1) (v:=?_) rfl (by kernel_rfl) (fun _ _ _ h => h) rfl ?_ hS ?_
        rotate_left
        ·(intro w' hSw; (try dsimp only at hSw); go_simp; try with_reducible rfl)
        try simp only [Act.put,Sp1,Sp2,Sp3,Sp4,Sp5,Sp6]
        refine AnyG.take (i:=2) (v:=?_) rfl (by kernel_rfl) (fun _ _ _ h => h) rfl ?_ hS ?_
        rotate_left
        ·(intro w' hSw; (try dsimp only at hSw); obtain ⟨s0,s1,s2,s3,s4,s5,sf,sz⟩:=hSw.six; go_simp; try with_reducible rfl)
        try simp only [Act.put,Sp1,Sp2,Sp3,Sp4,Sp5,Sp6]
        refine AnyG.take (i:=3) (v:=?_) rfl (by kernel_rfl) (fun _ _ _ h => h) rfl ?_ hS ?_
        rotate_left
        ·(intro w' hSw; (try dsimp only at hSw); go_simp; try with_reducible rfl)
        try simp only [Act.put,Sp1,Sp2,Sp3,Sp4,Sp5,Sp6]
        refine AnyG.take (i:=4) (v:=?_) rfl (by kernel_rfl) (fun _ _ _ h => h) rfl ?_ hS ?_
        rotate_left
        ·(intro w' hSw; (try dsimp only at hSw); go_simp; try with_reducible rfl)
        try simp only [Act.put,Sp1,Sp2,Sp3,Sp4,Sp5,Sp6]
        refine AnyG.take (i:=5) (v:=?_) rfl (by kernel_rfl) (fun _ _ _ h => h) rfl ?_ hS ?_
        rotate_left
        ·(intro w' hSw; (try dsimp only at hSw); go_simp; try with_reducible rfl)
        try simp only [Act.put,Sp1,Sp2,Sp3,Sp4,Sp5,Sp6]
        refine AnyG.takeG (i:=6) (v:=?_) rfl (by kernel_rfl) (fun _ _ _ h => h) (by simp [Region.wanted,yielded,hF1]) ?_ hS ?_
        rotate_left
        ·(intro w' hSw; (try dsimp only at hSw); go_simp; try with_reducible rfl)
        try simp only [Act.put,Sp1,Sp2,Sp3,Sp4,Sp5,Sp6]
        refine AnyG.takeG (i:=7) (v:=?_) rfl (by kernel_rfl) (fun _ _ _ h => h) (by simp [Region.wanted,yielded,hF1]) ?_ hS ?_
        rotate_left
        ·(intro w' hSw; (try dsimp only at hSw); obtain ⟨s0,s1,s2,s3,s4,s5,sf,sz⟩:=hSw.six; go_simp; try with_reducible rfl)
        try simp only [Act.put,Sp1,Sp2,Sp3,Sp4,Sp5,Sp6]
        refine AnyG.takeG (i:=8) (v:=?_) rfl (by kernel_rfl) (fun _ _ _ h => h) (by simp [Region.wanted,yielded,hF1]) ?_ hS ?_
        rotate_left
        ·(intro w' hSw; (try dsimp only at hSw); go_simp; try with_reducible rfl)
        try simp only [Act.put,Sp1,Sp2,Sp3,Sp4,Sp5,Sp6]
        refine AnyG.takeG (i:=9) (v:=?_) rfl (by kernel_rfl) (fun _ _ _ h => h) (by simp [Region.wanted,yielded,hF1]) ?_ hS ?_
        rotate_left
        ·(intro w' hSw; (try dsimp only at hSw); go_simp; try with_reducible rfl)
        try simp only [Act.put,Sp1,Sp2,Sp3,Sp4,Sp5,Sp6]
        refine AnyG.take (i:=10) (v:=?_) rfl (by kernel_rfl) (fun _ _ _ h => h) rfl ?_ hS ?_
        rotate_left
        ·(intro w' hSw; (try dsimp only at hSw); go_simp; try with_reducible rfl)
        try simp only [Act.put,Sp1,Sp2,Sp3,Sp4,Sp5,Sp6]
        refine AnyG.one (i:=11) (by kernel_rfl) rfl rfl ?_
        obtain ⟨r0,r1,r2,r3,r4,r5,rf,rz⟩:=kR.six
        have hS8:=Lib.hid hS
        clear hS
        go_simp
        clear r0 r1 r2 r3 r4 r5 rf rz
        have hS:=hS8.out
        refine Onward.on ((((((kS.far (by simp; omega) _).far (by simp; omega) _).far (by simp; omega) _).far (by simp; omega) _).far (by simp; omega) _).far (by simp; omega) _).drew (fun hS2 => ?_)
        clear hS
        have hS:=hS2
        clear hS2
        try simp only [Act.put,Sp1,Sp2,Sp3,Sp4,Sp5,Sp6]
        refine AnyG.take (i:=12) (v:=?_) rfl (by kernel_rfl) (fun _ _ _ h => h) rfl ?_ hS ?_
        rotate_left
        ·(intro w' hSw; (try dsimp only at hSw); go_simp; try with_reducible rfl)
        try simp only [Act.put,Sp1,Sp2,Sp3,Sp4,Sp5,Sp6]
        refine AnyG.done (by kernel_rfl) ?_ _
        go_simp
        go_wp2_with fail
        have nFR:=own_bx oF kR (by decide)
        have nBR:=own_bx oB kR (by decide)
        have kE : Bx (((((((X.setCell ⟨w.heap.size + 1,0,none⟩ (.slice (some ⟨q,1,none⟩) N (FC - 1))).setCell ⟨w.heap.size + 1,1,none⟩ (.slice (some ⟨q,0,none⟩) 1 FC)).setCell ⟨w.heap.size + 1,2,none⟩ (.int .i64 fs)).setCell ⟨w.heap.size + 1,3,none⟩ (.int .i64 bs)).setCell ⟨w.heap.size + 1,4,none⟩ (.int .i64 d0)).setCell ⟨w.heap.size + 1,5,none⟩ (.int .i64 d1)).drew) (w.heap.size + 1) 50 #[(.slice (some ⟨q,1,none⟩) N (FC - 1)),(.slice (some ⟨q,0,none⟩) 1 FC),.int .i64 fs,.int .i64 bs,.int .i64 d0,.int .i64 d1]:=by simpa using ((((((kR.set_ 0 (.slice (some ⟨q,1,none⟩) N (FC - 1))).set_ 1 (.slice (some ⟨q,0,none⟩) 1 FC)).set_ 2 (.int .i64 fs)).set_ 3 (.int .i64 bs)).set_ 4 (.int .i64 d0)).set_ 5 (.int .i64 d1)).drew
        refine bodyPost_ret (v:=.tuple #[.agg #[(.slice (some ⟨q,1,none⟩) N (FC - 1)),(.slice (some ⟨q,0,none⟩) 1 FC),.int .i64 fs,.int .i64 bs,.int .i64 d0,.int .i64 d1],.bool true]) (by rw [results_row_tmp (t:=50) rfl rfl kE Try.underlying50 rfl (by kernel_rfl)]; rfl) rfl ⟨(some ⟨q,1,none⟩),N,(FC - 1),(some ⟨q,0,none⟩),1,FC,fs,bs,d0,d1,(F.drop 1),(F.take 1),l,_,by simp [hN1],by simp; exact HN.out,by simp; omega,sl_drop1 (own_sl2 (own_set (own_set (own_set (own_set (own_set (own_set oF nFR _) nFR _) nFR _) nFR _) nFR _) nFR _).drew rfl),sl_take1 (own_sl2 (own_set (own_set (own_set (own_set (own_set (own_set oF nFR _) nFR _) nFR _) nFR _) nFR _) nFR _).drew rfl) 1,⟨by have:=HN.out; omega,by omega⟩,by rw [HL.out]; exact HAT.out,spX,⟨f1,hfs⟩,⟨b1,hbs⟩,dr1,dr2,dr3,((((((fdX.far (by simp; omega) _).far (by simp; omega) _).far (by simp; omega) _).far (by simp; omega) _).far (by simp; omega) _).far (by simp; omega) _).drew,grown_trans (grown_new (grown_new (grown_new (grown_new (grown_new (grown_new grX (by omega) _) (by omega) _) (by omega) _) (by omega) _) (by omega) _) (by omega) _) (grown_drew _ _)⟩
       ·refine ⟨_,rfl,rfl,?_⟩
        go_simp
        refine Onward.on trivial (fun hS => ?_)
        try simp only [Act.put,Sp1,Sp2,Sp3,Sp4,Sp5,Sp6]
        refine AnyG.take (i:=5) (v:=?_) rfl (by kernel_rfl) (fun _ _ _ h => h) rfl ?_ hS ?_
        rotate_left
        ·(intro w' hSw; (try dsimp only at hSw); go_simp; try with_reducible rfl)
        try simp only [Act.put,Sp1,Sp2,Sp3,Sp4,Sp5,Sp6]
        refine AnyG.one (i:=1) (by kernel_rfl) rfl rfl ?_
        go_simp
        refine Onward.on trivial (fun hS => ?_)
        try simp only [Act.put,Sp1,Sp2,Sp3,Sp4,Sp5,Sp6]
        refine AnyG.take (i:=2) (v:=?_) rfl (by kernel_rfl) (fun _ _ _ h => h) rfl ?_ hS ?_
        rotate_left
        ·(intro w' hSw; (try dsimp only at hSw); go_simp; try with_reducible rfl)
        try simp only [Act.put,Sp1,Sp2,Sp3,Sp4,Sp5,Sp6]
        refine AnyG.take (i:=6) (v:=?_) rfl (by kernel_rfl) (fun _ _ _ h => h) rfl ?_ hS ?_
        rotate_left
        ·(intro w' hSw; (try dsimp only at hSw); go_simp; try with_reducible rfl)
        try simp only [Act.put,Sp1,Sp2,Sp3,Sp4,Sp5,Sp6]
        refine AnyG.one (i:=7) (by kernel_rfl) rfl rfl ?_
        go_simp
        refine Onward.on trivial (fun hS => ?_)
        try simp only [Act.put,Sp1,Sp2,Sp3,Sp4,Sp5,Sp6]
        refine AnyG.take (i:=8) (v:=?_) rfl (by kernel_rfl) (fun _ _ _ h => h) rfl ?_ hS ?_
        rotate_left
        ·(intro w' hSw; (try dsimp only at hSw); go_simp; try with_reducible rfl)
        try simp only [Act.put,Sp1,Sp2,Sp3,Sp4,Sp5,Sp6]
        refine AnyG.one (i:=9) (by kernel_rfl) rfl rfl ?_
        go_simp
        refine Onward.on trivial (fun hS => ?_)
        try simp only [Act.put,Sp1,Sp2,Sp3,Sp4,Sp5,Sp6]
        refine AnyG.done (by kernel_rfl) ?_ _
        clear hS
        go_simp
        have hX:=hidJ.out
        have kS : Bx ((World.setCell (World.setCell wc ⟨bS,0,none⟩ (.slice (some ⟨q,1,none⟩) (F.length - 1) (FC - 1))) ⟨bS,1,none⟩ (.slice (some ⟨q,0,none⟩) 1 FC)).drew) bS 50 #[(.slice (some ⟨q,1,none⟩) (F.length - 1) (FC - 1)),(.slice (some ⟨q,0,none⟩) 1 FC),.int .i64 fs,.int .i64 bs,.int .i64 d0,.int .i64 d1]:=by simpa using ((hX.kS.set_ 0 (.slice (some ⟨q,1,none⟩) (F.length - 1) (FC - 1))).set_ 1 (.slice (some ⟨q,0,none⟩) 1 FC)).drew
        have kR : Bx ((World.setCell (World.setCell wc ⟨bS,0,none⟩ (.slice (some ⟨q,1,none⟩) (F.length - 1) (FC - 1))) ⟨bS,1,none⟩ (.slice (some ⟨q,0,none⟩) 1 FC)).drew) (w.heap.size + 1) 50 #[.slice none 0 0,.slice none 0 0,.int .i64 0,.int .i64 0,.int .i64 0,.int .i64 0]:=((hX.kR.far (by simp; omega) _).far (by simp; omega) _).drew
        have oF:=(own_set (own_set hX.of (own_bx hX.of hX.kS (by decide)) (o:=0) (.slice (some ⟨q,1,none⟩) (F.length - 1) (FC - 1))) (own_bx hX.of hX.kS (by decide)) (o:=1) (.slice (some ⟨q,0,none⟩) 1 FC)).drew
        have oB:=(own_set (own_set hX.ob (own_bx hX.ob hX.kS (by decide)) (o:=0) (.slice (some ⟨q,1,none⟩) (F.length - 1) (FC - 1))) (own_bx hX.ob hX.kS (by decide)) (o:=1) (.slice (some ⟨q,0,none⟩) 1 FC)).drew
        have fdX : Fd g ((World.setCell (World.setCell wc ⟨bS,0,none⟩ (.slice (some ⟨q,1,none⟩) (F.length - 1) (FC - 1))) ⟨bS,1,none⟩ (.slice (some ⟨q,0,none⟩) 1 FC)).drew):=((hX.fd.far (by simp; omega) _).far (by simp; omega) _).drew
        have grX : w.grownBy ((World.setCell (World.setCell wc ⟨bS,0,none⟩ (.slice (some ⟨q,1,none⟩) (F.length - 1) (FC - 1))) ⟨bS,1,none⟩ (.slice (some ⟨q,0,none⟩) 1 FC)).drew) (some g):=grown_trans (grown_new (grown_new hX.gr (by omega) _) (by omega) _) (grown_drew _ _)
        obtain ⟨X,hXX⟩ : ∃ X,((World.setCell (World.setCell wc ⟨bS,0,none⟩ (.slice (some ⟨q,1,none⟩) (F.length - 1) (FC - 1))) ⟨bS,1,none⟩ (.slice (some ⟨q,0,none⟩) 1 FC)).drew) = X:=⟨_,rfl⟩
        rw [hXX] at kS kR oF oB fdX grX ⊢
        clear hXX hX
        have spX:=hidJ.out.sp.split2 ha1
        obtain ⟨N,hN⟩ : ∃ N,F.length - 1 = N:=⟨_,rfl⟩
        have hN1 : 0 < N:=by omega
        have HN:=Lib.hid hN
        rw [hN] at kS ⊢
        clear hN
        have hNb : ((N : Int) == 0) = false:=by rw [beq_eq_false_iff_ne]; omega
        clear hF1
        have hF1:=hN1
        obtain ⟨s0,s1,s2,s3,s4,s5,sf,sz⟩:=kS.six
        go_wp2_with fail
        try clear s0 s1 s2 s3 s4 s5 sf sz
        refine AnyG.start (fun w' : World => Bx w' bS 50 #[(.slice (some ⟨q,1,none⟩) N (FC - 1)),(.slice (some ⟨q,0,none⟩) 1 FC),.int .i64 fs,.int .i64 bs,.int .i64 d0,.int .i64 d1]) (fun i => true) (by kernel_rfl) ?_
        have hS : (fun w' : World => Bx w' bS 50 #[(.slice (some ⟨q,1,none⟩) N (FC - 1)),(.slice (some ⟨q,0,none⟩) 1 FC),.int .i64 fs,.int .i64 bs,.int .i64 d0,.int .i64 d1]) (World.drew _):=kS.drew
        refine AnyG.take (i:=0) (v:=?_) rfl (by kernel_rfl) (fun _ _ _ h => h) rfl ?_ hS ?_
        rotate_left
        ·(intro w' hSw; (try dsimp only at hSw); obtain ⟨s0,s1,s2,s3,s4,s5,sf,sz⟩:=hSw.six; go_simp; try with_reducible rfl)
        try simp only [Act.put,Sp1,Sp2,Sp3,Sp4,Sp5,Sp6]
        refine AnyG.take (i:=1) (v:=?_) rfl (by kernel_rfl) (fun _ _ _ h => h) rfl ?_ hS ?_
        rotate_left
        ·(intro w' hSw; (try dsimp only at hSw); go_simp; try with_reducible rfl)
        try simp only [Act.put,Sp1,Sp2,Sp3,Sp4,Sp5,Sp6]
        refine AnyG.take (i:=2) (v:=?_) rfl (by kernel_rfl) (fun _ _ _ h => h) rfl ?_ hS ?_
        rotate_left
        ·(intro w' hSw; (try dsimp only at hSw); obtain ⟨s0,s1,s2,s3,s4,s5,sf,sz⟩:=hSw.six; go_simp; try with_reducible rfl)
        try simp only [Act.put,Sp1,Sp2,Sp3,Sp4,Sp5,Sp6]
        refine AnyG.take (i:=3) (v:=?_) rfl (by kernel_rfl) (fun _ _ _ h => h) rfl ?_ hS ?_
        rotate_left
        ·(intro w' hSw; (try dsimp only at hSw); go_simp; try with_reducible rfl)
        try simp only [Act.put,Sp1,Sp2,Sp3,Sp4,Sp5,Sp6]
        refine AnyG.take (i:=4) (v:=?_) rfl (by kernel_rfl) (fun _ _ _ h => h) rfl ?_ hS ?_
        rotate_left
        ·(intro w' hSw; (try dsimp only at hSw); go_simp; try with_reducible rfl)
        try simp only [Act.put,Sp1,Sp2,Sp3,Sp4,Sp5,Sp6]
        refine AnyG.take (i:=5) (v:=?_) rfl (by kernel_rfl) (fun _ _ _ h => h) rfl ?_ hS ?_
        rotate_left
        ·(intro w' hSw; (try dsimp only at hSw); go_simp; try with_reducible rfl)
        try simp only [Act.put,Sp1,Sp2,Sp3,Sp4,Sp5,Sp6]
        refine AnyG.takeG (i:=6) (v:=?_) rfl (by kernel_rfl) (fun _ _ _ h => h) (by simp [Region.wanted,yielded,hF1]) ?_ hS ?_
        rotate_left
        ·(intro w' hSw; (try dsimp only at hSw); go_simp; try with_reducible rfl)
        try simp only [Act.put,Sp1,Sp2,Sp3,Sp4,Sp5,Sp6]
        refine AnyG.takeG (i:=7) (v:=?_) rfl (by kernel_rfl) (fun _ _ _ h => h) (by simp [Region.wanted,yielded,hF1]) ?_ hS ?_
        rotate_left
        ·(intro w' hSw; (try dsimp only at hSw); obtain ⟨s0,s1,s2,s3,s4,s5,sf,sz⟩:=hSw.six; go_simp; try with_reducible rfl)
        try simp only [Act.put,Sp1,Sp2,Sp3,Sp4,Sp5,Sp6]
        refine AnyG.takeG (i:=8) (v:=?_) rfl (by kernel_rfl) (fun _ _ _ h => h) (by simp [Region.wanted,yielded,hF1]) ?_ hS ?_
        rotate_left
        ·(intro w' hSw; (try dsimp only at hSw); go_simp; try with_reducible rfl)
        try simp only [Act.put,Sp1,Sp2,Sp3,Sp4,Sp5,Sp6]
        refine AnyG.takeG (i:=9) (v:=?_) rfl (by kernel_rfl) (fun _ _ _ h => h) (by simp [Region.wanted,yielded,hF1]) ?_ hS ?_
        rotate_left
        ·(intro w' hSw; (try dsimp only at hSw); go_simp; try with_reducible rfl)
        try simp only [Act.put,Sp1,Sp2,Sp3,Sp4,Sp5,Sp6]
        refine AnyG.take (i:=10) (v:=?_) rfl (by kernel_rfl) (fun _ _ _ h => h) rfl ?_ hS ?_
        rotate_left
        ·(intro w' hSw; (try dsimp only at hSw); go_simp; try with_reducible rfl)
        try simp only [Act.put,Sp1,Sp2,Sp3,Sp4,Sp5,Sp6]
        refine AnyG.one (i:=11) (by kernel_rfl) rfl rfl ?_
        obtain ⟨r0,r1,r2,r3,r4,r5,rf,rz⟩:=kR.six
        have hS8:=Lib.hid hS
        clear hS
        go_simp
        clear r0 r1 r2 r3 r4 r5 rf rz
        have hS:=hS8.out
        refine Onward.on ((((((kS.far (by simp; omega) _).far (by simp; omega) _).far (by simp; omega) _).far (by simp; omega) _).far (by simp; omega) _).far (by simp; omega) _).drew (fun hS2 => ?_)
        clear hS
        have hS:=hS2
        clear hS2
        try simp only [Act.put,Sp1,Sp2,Sp3,Sp4,Sp5,Sp6]
        refine AnyG.take (i:=12) (v:=?_) rfl (by kernel_rfl) (fun _ _ _ h => h) rfl ?_ hS ?_
        rotate_left
        ·(intro w' hSw; (try dsimp only at hSw); go_simp; try with_reducible rfl)
        try simp only [Act.put,Sp1,Sp2,Sp3,Sp4,Sp5,Sp6]
        refine AnyG.done (by kernel_rfl) ?_ _
        go_simp
        go_wp2_with fail
        have nFR:=own_bx oF kR (by decide)
        have nBR:=own_bx oB kR (by decide)
        have kE : Bx (((((((X.setCell ⟨w.heap.size + 1,0,none⟩ (.slice (some ⟨q,1,none⟩) N (FC - 1))).setCell ⟨w.heap.size + 1,1,none⟩ (.slice (some ⟨q,0,none⟩) 1 FC)).setCell ⟨w.heap.size + 1,2,none⟩ (.int .i64 fs)).setCell ⟨w.heap.size + 1,3,none⟩ (.int .i64 bs)).setCell ⟨w.heap.size + 1,4,none⟩ (.int .i64 d0)).setCell ⟨w.heap.size + 1,5,none⟩ (.int .i64 d1)).drew) (w.heap.size + 1) 50 #[(.slice (some ⟨q,1,none⟩) N (FC - 1)),(.slice (some ⟨q,0,none⟩) 1 FC),.int .i64 fs,.int .i64 bs,.int .i64 d0,.int .i64 d1]:=by simpa using ((((((kR.set_ 0 (.slice (some ⟨q,1,none⟩) N (FC - 1))).set_ 1 (.slice (some ⟨q,0,none⟩) 1 FC)).set_ 2 (.int .i64 fs)).set_ 3 (.int .i64 bs)).set_ 4 (.int .i64 d0)).set_ 5 (.int .i64 d1)).drew
        refine bodyPost_ret (v:=.tuple #[.agg #[(.slice (some ⟨q,1,none⟩) N (FC - 1)),(.slice (some ⟨q,0,none⟩) 1 FC),.int .i64 fs,.int .i64 bs,.int .i64 d0,.int .i64 d1],.bool true]) (by rw [results_row_tmp (t:=50) rfl rfl kE Try.underlying50 rfl (by kernel_rfl)]; rfl) rfl ⟨(some ⟨q,1,none⟩),N,(FC - 1),(some ⟨q,0,none⟩),1,FC,fs,bs,d0,d1,(F.drop 1),(F.take 1),l,_,by simp [hN1],by simp; exact HN.out,by simp; omega,sl_drop1 (own_sl2 (own_set (own_set (own_set (own_set (own_set (own_set oF nFR _) nFR _) nFR _) nFR _) nFR _) nFR _).drew rfl),sl_take1 (own_sl2 (own_set (own_set (own_set (own_set (own_set (own_set oF nFR _) nFR _) nFR _) nFR _) nFR _) nFR _).drew rfl) 1,⟨by have:=HN.out; omega,by omega⟩,by rw [HL.out]; exact HAT.out,spX,⟨f1,hfs⟩,⟨b1,hbs⟩,dr1,dr2,dr3,((((((fdX.far (by simp; omega) _).far (by simp; omega) _).far (by simp; omega) _).far (by simp; omega) _).far (by simp; omega) _).far (by simp; omega) _).drew,grown_trans (grown_new (grown_new (grown_new (grown_new (grown_new (grown_new grX (by omega) _) (by omega) _) (by omega) _) (by omega) _) (by omega) _) (by omega) _) (grown_drew _ _)⟩
      ·have hB1 : 0 < B.length:=by omega
       have hBb : ((B.length : Int) == 0) = false:=by rw [beq_eq_false_iff_ne]; omega
       go_wp2_with fail
       have hX:=hidJ.out
       have kS:=hX.kS
       have kR:=hX.kR
       have oF:=hX.of
       have oB:=hX.ob
       have fdX:=hX.fd
       have grX:=hX.gr
       have spX:=hX.sp
       try clear s0 s1 s2 s3 s4 s5 sf sz
       refine AnyG.start (fun w' : World => Bx w' bS 50 #[(.slice FA F.length FC),(.slice BA B.length BC),.int .i64 fs,.int .i64 bs,.int .i64 d0,.int .i64 d1]) (fun i => true) (by kernel_rfl) ?_
       have hS : (fun w' : World => Bx w' bS 50 #[(.slice FA F.length FC),(.slice BA B.length BC),.int .i64 fs,.int .i64 bs,.int .i64 d0,.int .i64 d1]) (World.drew _):=kS.drew
       refine AnyG.take (i:=0) (v:=?_) rfl (by kernel_rfl) (fun _ _ _ h => h) rfl ?_ hS ?_
       rotate_left
       ·(intro w' hSw; (try dsimp only at hSw); obtain ⟨s0,s1,s2,s3,s4,s5,sf,sz⟩:=hSw.six; go_simp; try with_reducible rfl)
       try simp only [Act.put,Sp1,Sp2,Sp3,Sp4,Sp5,Sp6]
       refine AnyG.take (i:=1) (v:=?_) rfl (by kernel_rfl) (fun _ _ _ h => h) rfl ?_ hS ?_
       rotate_left
       ·(intro w' hSw; (try dsimp only at hSw); go_simp; try with_reducible rfl)
       try simp only [Act.put,Sp1,Sp2,Sp3,Sp4,Sp5,Sp6]
       refine AnyG.take (i:=2) (v:=?_) rfl (by kernel_rfl) (fun _ _ _ h => h) rfl ?_ hS ?_
       rotate_left
       ·(intro w' hSw; (try dsimp only at hSw); obtain ⟨s0,s1,s2,s3,s4,s5,sf,sz⟩:=hSw.six; go_simp; try with_reducible rfl)
       try simp only [Act.put,Sp1,Sp2,Sp3,Sp4,Sp5,Sp6]
       refine AnyG.take (i:=3) (v:=?_) rfl (by kernel_rfl) (fun _ _ _ h => h) rfl ?_ hS ?_
       rotate_left
       ·(intro w' hSw; (try dsimp only at hSw); go_simp; try with_reducible rfl)
       try simp only [Act.put,Sp1,Sp2,Sp3,Sp4,Sp5,Sp6]
       refine AnyG.take (i:=4) (v:=?_) rfl (by kernel_rfl) (fun _ _ _ h => h) rfl ?_ hS ?_
       rotate_left
       ·(intro w' hSw; (try dsimp only at hSw); go_simp; try with_reducible rfl)
       try simp only [Act.put,Sp1,Sp2,Sp3,Sp4,Sp5,Sp6]
       refine AnyG.take (i:=5) (v:=?_) rfl (by kernel_rfl) (fun _ _ _ h => h) rfl ?_ hS ?_
       rotate_left
       ·(intro w' hSw; (try dsimp only at hSw); go_simp; try with_reducible rfl)
       try simp only [Act.put,Sp1,Sp2,Sp3,Sp4,Sp5,Sp6]
       refine AnyG.takeG (i:=6) (v:=?_) rfl (by kernel_rfl) (fun _ _ _ h => h) (by simp [Region.wanted,yielded,hF1]) ?_ hS ?_
       rotate_left
       ·(intro w' hSw; (try dsimp only at hSw); go_simp; try with_reducible rfl)
       try simp only [Act.put,Sp1,Sp2,Sp3,Sp4,Sp5,Sp6]
       refine AnyG.takeG (i:=7) (v:=?_) rfl (by kernel_rfl) (fun _ _ _ h => h) (by simp [Region.wanted,yielded,hF1]) ?_ hS ?_
       rotate_left
       ·(intro w' hSw; (try dsimp only at hSw); obtain ⟨s0,s1,s2,s3,s4,s5,sf,sz⟩:=hSw.six; go_simp; try with_reducible rfl)
       try simp only [Act.put,Sp1,Sp2,Sp3,Sp4,Sp5,Sp6]
       refine AnyG.takeG (i:=8) (v:=?_) rfl (by kernel_rfl) (fun _ _ _ h => h) (by simp [Region.wanted,yielded,hF1]) ?_ hS ?_
       rotate_left
       ·(intro w' hSw; (try dsimp only at hSw); go_simp; try with_reducible rfl)
       try simp only [Act.put,Sp1,Sp2,Sp3,Sp4,Sp5,Sp6]
       refine AnyG.takeG (i:=9) (v:=?_) rfl (by kernel_rfl) (fun _ _ _ h => h) (by simp [Region.wanted,yielded,hF1]) ?_ hS ?_
       rotate_left
       ·(intro w' hSw; (try dsimp only at hSw); go_simp; try with_reducible rfl)
       try simp only [Act.put,Sp1,Sp2,Sp3,Sp4,Sp5,Sp6]
       refine AnyG.take (i:=10) (v:=?_) rfl (by kernel_rfl) (fun _ _ _ h => h) rfl ?_ hS ?_
       rotate_left
       ·(intro w' hSw; (try dsimp only at hSw); go_simp; try with_reducible rfl)
       try simp only [Act.put,Sp1,Sp2,Sp3,Sp4,Sp5,Sp6]
       refine AnyG.one (i:=11) (by kernel_rfl) rfl rfl ?_
       obtain ⟨r0,r1,r2,r3,r4,r5,rf,rz⟩:=kR.six
       have hS8:=Lib.hid hS
       clear hS
       go_simp
       clear r0 r1 r2 r3 r4 r5 rf rz
       have hS:=hS8.out
       refine Onward.on ((((((kS.far (by simp; omega) _).far (by simp; omega) _).far (by simp; omega) _).far (by simp; omega) _).far (by simp; omega) _).far (by simp; omega) _).drew (fun hS2 => ?_)
       clear hS
       have hS:=hS2
       clear hS2
       try simp only [Act.put,Sp1,Sp2,Sp3,Sp4,Sp5,Sp6]
       refine AnyG.take (i:=12) (v:=?_) rfl (by kernel_rfl) (fun _ _ _ h => h) rfl ?_ hS ?_
       rotate_left
       ·(intro w' hSw; (try dsimp only at hSw); go_simp; try with_reducible rfl)
       try simp only [Act.put,Sp1,Sp2,Sp3,Sp4,Sp5,Sp6]
       refine AnyG.done (by kernel_rfl) ?_ _
       go_simp
       go_wp2_with fail
       have nFR:=own_bx oF kR (by decide)
       have nBR:=own_bx oB kR (by decide)
       have kE : Bx (((((((wc.setCell ⟨w.heap.size + 1,0,none⟩ (.slice FA F.length FC)).setCell ⟨w.heap.size + 1,1,none⟩ (.slice BA B.length BC)).setCell ⟨w.heap.size + 1,2,none⟩ (.int .i64 fs)).setCell ⟨w.heap.size + 1,3,none⟩ (.int .i64 bs)).setCell ⟨w.heap.size + 1,4,none⟩ (.int .i64 d0)).setCell ⟨w.heap.size + 1,5,none⟩ (.int .i64 d1)).drew) (w.heap.size + 1) 50 #[(.slice FA F.length FC),(.slice BA B.length BC),.int .i64 fs,.int .i64 bs,.int .i64 d0,.int .i64 d1]:=by simpa using ((((((kR.set_ 0 (.slice FA F.length FC)).set_ 1 (.slice BA B.length BC)).set_ 2 (.int .i64 fs)).set_ 3 (.int .i64 bs)).set_ 4 (.int .i64 d0)).set_ 5 (.int .i64 d1)).drew
       refine bodyPost_ret (v:=.tuple #[.agg #[(.slice FA F.length FC),(.slice BA B.length BC),.int .i64 fs,.int .i64 bs,.int .i64 d0,.int .i64 d1],.bool true]) (by rw [results_row_tmp (t:=50) rfl rfl kE Try.underlying50 rfl (by kernel_rfl)]; rfl) rfl ⟨FA,F.length,FC,BA,B.length,BC,fs,bs,d0,d1,F,B,l,_,by simp [hF1,hB1],rfl,rfl,own_sl2 (own_set (own_set (own_set (own_set (own_set (own_set oF nFR _) nFR _) nFR _) nFR _) nFR _) nFR _).drew rfl,own_sl2 (own_set (own_set (own_set (own_set (own_set (own_set oB nBR _) nBR _) nBR _) nBR _) nBR _) nBR _).drew rfl,⟨hFC,hBC⟩,by rw [HL.out]; exact HAT.out,spX,⟨f1,hfs⟩,⟨b1,hbs⟩,dr1,dr2,dr3,((((((fdX.far (by simp; omega) _).far (by simp; omega) _).far (by simp; omega) _).far (by simp; omega) _).far (by simp; omega) _).far (by simp; omega) _).drew,grown_trans (grown_new (grown_new (grown_new (grown_new (grown_new (grown_new grX (by omega) _) (by omega) _) (by omega) _) (by omega) _) (by omega) _) (by omega) _) (grown_drew _ _)⟩
    ·have hl2 : l.length ≤ 1:=by omega
     have hX:=hidJ.out
     have kS:=hX.kS
     have kR:=hX.kR
     have oF:=hX.of
     have oB:=hX.ob
     have fdX:=hX.fd
     have grX:=hX.gr
     have spX:=hX.sp
     by_cases hF1 : 0 < F.length
     ·have hB0 : ¬ 0 < B.length:=by omega
      go_wp2_with fail
      try clear s0 s1 s2 s3 s4 s5 sf sz
      refine AnyG.start (fun w' : World => Bx w' bS 50 #[(.slice FA F.length FC),(.slice BA B.length BC),.int .i64 fs,.int .i64 bs,.int .i64 d0,.int .i64 d1]) (fun i => true) (by kernel_rfl) ?_
      have hS : (fun w' : World => Bx w' bS 50 #[(.slice FA F.length FC),(.slice BA B.length BC),.int .i64 fs,.int .i64 bs,.int .i64 d0,.int .i64 d1]) (World.drew _):=kS.drew
      refine AnyG.take (i:=0) (v:=?_) rfl (by kernel_rfl) (fun _ _ _ h => h) rfl ?_ hS ?_
      rotate_left
      ·(intro w' hSw; (try dsimp only at hSw); obtain ⟨s0,s1,s2,s3,s4,s5,sf,sz⟩:=hSw.six; go_simp; try with_reducible rfl)
      try simp only [Act.put,Sp1,Sp2,Sp3,Sp4,Sp5,Sp6]
      refine AnyG.take (i:=1) (v:=?_) rfl (by kernel_rfl) (fun _ _ _ h => h) rfl ?_ hS ?_
      rotate_left
      ·(intro w' hSw; (try dsimp only at hSw); go_simp; try with_reducible rfl)
      try simp only [Act.put,Sp1,Sp2,Sp3,Sp4,Sp5,Sp6]
      refine AnyG.take (i:=2) (v:=?_) rfl (by kernel_rfl) (fun _ _ _ h => h) rfl ?_ hS ?_
      rotate_left
      ·(intro w' hSw; (try dsimp only at hSw); obtain ⟨s0,s1,s2,s3,s4,s5,sf,sz⟩:=hSw.six; go_simp; try with_reducible rfl)
      try simp only [Act.put,Sp1,Sp2,Sp3,Sp4,Sp5,Sp6]
      refine AnyG.take (i:=3) (v:=?_) rfl (by kernel_rfl) (fun _ _ _ h => h) rfl ?_ hS ?_
      rotate_left
      ·(intro w' hSw; (try dsimp only at hSw); go_simp; try with_reducible rfl)
      try simp only [Act.put,Sp1,Sp2,Sp3,Sp4,Sp5,Sp6]
      refine AnyG.take (i:=4) (v:=?_) rfl (by kernel_rfl) (fun _ _ _ h => h) rfl ?_ hS ?_
      rotate_left
      ·(intro w' hSw; (try dsimp only at hSw); go_simp; try with_reducible rfl)
      try simp only [Act.put,Sp1,Sp2,Sp3,Sp4,Sp5,Sp6]
      refine AnyG.take (i:=5) (v:=?_) rfl (by kernel_rfl) (fun _ _ _ h => h) rfl ?_ hS ?_
      rotate_left
      ·(intro w' hSw; (try dsimp only at hSw); go_simp; try with_reducible rfl)
      try simp only [Act.put,Sp1,Sp2,Sp3,Sp4,Sp5,Sp6]
      refine AnyG.takeG (i:=6) (v:=?_) rfl (by kernel_rfl) (fun _ _ _ h => h) (by simp [Region.wanted,yielded,hF1]) ?_ hS ?_
      rotate_left
      ·(intro w' hSw; (try dsimp only at hSw); go_simp; try with_reducible rfl)
      try simp only [Act.put,Sp1,Sp2,Sp3,Sp4,Sp5,Sp6]
      refine AnyG.takeG (i:=7) (v:=?_) rfl (by kernel_rfl) (fun _ _ _ h => h) (by simp [Region.wanted,yielded,hF1]) ?_ hS ?_
      rotate_left
      ·(intro w' hSw; (try dsimp only at hSw); obtain ⟨s0,s1,s2,s3,s4,s5,sf,sz⟩:=hSw.six; go_simp; try with_reducible rfl)
      try simp only [Act.put,Sp1,Sp2,Sp3,Sp4,Sp5,Sp6]
      refine AnyG.takeG (i:=8) (v:=?_) rfl (by kernel_rfl) (fun _ _ _ h => h) (by simp [Region.wanted,yielded,hF1]) ?_ hS ?_
      rotate_left
      ·(intro w' hSw; (try dsimp only at hSw); go_simp; try with_reducible rfl)
      try simp only [Act.put,Sp1,Sp2,Sp3,Sp4,Sp5,Sp6]
      refine AnyG.takeG (i:=9) (v:=?_) rfl (by kernel_rfl) (fun _ _ _ h => h) (by simp [Region.wanted,yielded,hF1]) ?_ hS ?_
      rotate_left
      ·(intro w' hSw; (try dsimp only at hSw); go_simp; try with_reducible rfl)
      try simp only [Act.put,Sp1,Sp2,Sp3,Sp4,Sp5,Sp6]
      refine AnyG.take (i:=10) (v:=?_) rfl (by kernel_rfl) (fun _ _ _ h => h) rfl ?_ hS ?_
      rotate_left
      ·(intro w' hSw; (try dsimp only at hSw); go_simp; try with_reducible rfl)
      try simp only [Act.put,Sp1,Sp2,Sp3,Sp4,Sp5,Sp6]
      refine AnyG.one (i:=11) (by kernel_rfl) rfl rfl ?_
      obtain ⟨r0,r1,r2,r3,r4,r5,rf,rz⟩:=kR.six
      have hS8:=Lib.hid hS
      clear hS
      go_simp
      clear r0 r1 r2 r3 r4 r5 rf rz
      have hS:=hS8.out
      refine Onward.on ((((((kS.far (by simp; omega) _).far (by simp; omega) _).far (by simp; omega) _).far (by simp; omega) _).far (by simp; omega) _).far (by simp; omega) _).drew (fun hS2 => ?_)
      clear hS
      have hS:=hS2
      clear hS2
      try simp only [Act.put,Sp1,Sp2,Sp3,Sp4,Sp5,Sp6]
      refine AnyG.take (i:=12) (v:=?_) rfl (by kernel_rfl) (fun _ _ _ h => h) rfl ?_ hS ?_
      rotate_left
      ·(intro w' hSw; (try dsimp only at hSw); go_simp; try with_reducible rfl)
      try simp only [Act.put,Sp1,Sp2,Sp3,Sp4,Sp5,Sp6]
      refine AnyG.done (by kernel_rfl) ?_ _
      go_simp
      go_wp2_with fail
      have nFR:=own_bx oF kR (by decide)
      have nBR:=own_bx oB kR (by decide)
      have kE : Bx (((((((wc.setCell ⟨w.heap.size + 1,0,none⟩ (.slice FA F.length FC)).setCell ⟨w.heap.size + 1,1,none⟩ (.slice BA B.length BC)).setCell ⟨w.heap.size + 1,2,none⟩ (.int .i64 fs)).setCell ⟨w.heap.size + 1,3,none⟩ (.int .i64 bs)).setCell ⟨w.heap.size + 1,4,none⟩ (.int .i64 d0)).setCell ⟨w.heap.size + 1,5,none⟩ (.int .i64 d1)).drew) (w.heap.size + 1) 50 #[(.slice FA F.length FC),(.slice BA B.length BC),.int .i64 fs,.int .i64 bs,.int .i64 d0,.int .i64 d1]:=by simpa using ((((((kR.set_ 0 (.slice FA F.length FC)).set_ 1 (.slice BA B.length BC)).set_ 2 (.int .i64 fs)).set_ 3 (.int .i64 bs)).set_ 4 (.int .i64 d0)).set_ 5 (.int .i64 d1)).drew
      refine bodyPost_ret (v:=.tuple #[.agg #[(.slice FA F.length FC),(.slice BA B.length BC),.int .i64 fs,.int .i64 bs,.int .i64 d0,.int .i64 d1],.bool false]) (by rw [results_row_tmp (t:=50) rfl rfl kE Try.underlying50 rfl (by kernel_rfl)]; rfl) rfl ⟨FA,F.length,FC,BA,B.length,BC,fs,bs,d0,d1,F,B,l,_,by simp [hF1,hB0],rfl,rfl,own_sl2 (own_set (own_set (own_set (own_set (own_set (own_set oF nFR _) nFR _) nFR _) nFR _) nFR _) nFR _).drew rfl,own_sl2 (own_set (own_set (own_set (own_set (own_set (own_set oB nBR _) nBR _) nBR _) nBR _) nBR _) nBR _).drew rfl,⟨hFC,hBC⟩,by rw [HL.out]; exact HAT.out,spX,⟨f1,hfs⟩,⟨b1,hbs⟩,dr1,dr2,dr3,((((((fdX.far (by simp; omega) _).far (by simp; omega) _).far (by simp; omega) _).far (by simp; omega) _).far (by simp; omega) _).far (by simp; omega) _).drew,grown_trans (grown_new (grown_new (grown_new (grown_new (grown_new (grown_new grX (by omega) _) (by omega) _) (by omega) _) (by omega) _) (by omega) _) (by omega) _) (grown_drew _ _)⟩
     ·obtain rfl : F = []:=List.eq_nil_of_length_eq_zero (by omega)
      simp only [List.length_nil] at s0 kS oF
      go_wp2_with fail
      try clear s0 s1 s2 s3 s4 s5 sf sz
      refine AnyG.start (fun w' : World => Bx w' bS 50 #[(.slice FA 0 FC),(.slice BA B.length BC),.int .i64 fs,.int .i64 bs,.int .i64 d0,.int .i64 d1]) (fun i => true) (by kernel_rfl) ?_
      have hS : (fun w' : World => Bx w' bS 50 #[(.slice FA 0 FC),(.slice BA B.length BC),.int .i64 fs,.int .i64 bs,.int .i64 d0,.int .i64 d1]) (World.drew _):=kS.drew
      refine AnyG.take (i:=0) (v:=?_) rfl (by kernel_rfl) (fun _ _ _ h => h) rfl ?_ hS ?_
      rotate_left
      ·(intro w' hSw; (try dsimp only at hSw); obtain ⟨s0,s1,s2,s3,s4,s5,sf,sz⟩:=hSw.six; go_simp; try with_reducible rfl)
      try simp only [Act.put,Sp1,Sp2,Sp3,Sp4,Sp5,Sp6]
      refine AnyG.take (i:=1) (v:=?_) rfl (by kernel_rfl) (fun _ _ _ h => h) rfl ?_ hS ?_
      rotate_left
      ·(intro w' hSw; (try dsimp only at hSw); go_simp; try with_reducible rfl)
      try simp only [Act.put,Sp1,Sp2,Sp3,Sp4,Sp5,Sp6]
      refine AnyG.take (i:=2) (v:=?_) rfl (by kernel_rfl) (fun _ _ _ h => h) rfl ?_ hS ?_
      rotate_left
      ·(intro w' hSw; (try dsimp only at hSw); obtain ⟨s0,s1,s2,s3,s4,s5,sf,sz⟩:=hSw.six; go_simp; try with_reducible rfl)
      try simp only [Act.put,Sp1,Sp2,Sp3,Sp4,Sp5,Sp6]
      refine AnyG.take (i:=3) (v:=?_) rfl (by kernel_rfl) (fun _ _ _ h => h) rfl ?_ hS ?_
      rotate_left
      ·(intro w' hSw; (try dsimp only at hSw); go_simp; try with_reducible rfl)
      try simp only [Act.put,Sp1,Sp2,Sp3,Sp4,Sp5,Sp6]
      refine AnyG.take (i:=4) (v:=?_) rfl (by kernel_rfl) (fun _ _ _ h => h) rfl ?_ hS ?_
      rotate_left
      ·(intro w' hSw; (try dsimp only at hSw); go_simp; try with_reducible rfl)
      try simp only [Act.put,Sp1,Sp2,Sp3,Sp4,Sp5,Sp6]
      refine AnyG.take (i:=5) (v:=?_) rfl (by kernel_rfl) (fun _ _ _ h => h) rfl ?_ hS ?_
      rotate_left
      ·(intro w' hSw; (try dsimp only at hSw); go_simp; try with_reducible rfl)
      try simp only [Act.put,Sp1,Sp2,Sp3,Sp4,Sp5,Sp6]
      refine AnyG.takeN (i:=6) rfl (by kernel_rfl) (fun _ _ _ h => h) (by simp [Region.wanted,yielded,hF1]) hS ?_
      try simp only [Act.put,Sp1,Sp2,Sp3,Sp4,Sp5,Sp6]
      refine AnyG.takeN (i:=7) rfl (by kernel_rfl) (fun _ _ _ h => h) (by simp [Region.wanted,yielded,hF1]) hS ?_
      try simp only [Act.put,Sp1,Sp2,Sp3,Sp4,Sp5,Sp6]
      refine AnyG.takeN (i:=8) rfl (by kernel_rfl) (fun _ _ _ h => h) (by simp [Region.wanted,yielded,hF1]) hS ?_
      try simp only [Act.put,Sp1,Sp2,Sp3,Sp4,Sp5,Sp6]
      refine AnyG.takeN (i:=9) rfl (by kernel_rfl) (fun _ _ _ h => h) (by simp [Region.wanted,yielded,hF1]) hS ?_
      try simp only [Act.put,Sp1,Sp2,Sp3,Sp4,Sp5,Sp6]
      refine AnyG.take (i:=10) (v:=?_) rfl (by kernel_rfl) (fun _ _ _ h => h) rfl ?_ hS ?_
      rotate_left
      ·(intro w' hSw; (try dsimp only at hSw); go_simp; try with_reducible rfl)
      try simp only [Act.put,Sp1,Sp2,Sp3,Sp4,Sp5,Sp6]
      refine AnyG.one (i:=11) (by kernel_rfl) rfl rfl ?_
      obtain ⟨r0,r1,r2,r3,r4,r5,rf,rz⟩:=kR.six
      have hS8:=Lib.hid hS
      clear hS
      go_simp
      clear r0 r1 r2 r3 r4 r5 rf rz
      have hS:=hS8.out
      refine Onward.on ((((((kS.far (by simp; omega) _).far (by simp; omega) _).far (by simp; omega) _).far (by simp; omega) _).far (by simp; omega) _).far (by simp; omega) _).drew (fun hS2 => ?_)
      clear hS
      have hS:=hS2
      clear hS2
      try simp only [Act.put,Sp1,Sp2,Sp3,Sp4,Sp5,Sp6]
      refine AnyG.take (i:=12) (v:=?_) rfl (by kernel_rfl) (fun _ _ _ h => h) rfl ?_ hS ?_
      rotate_left
      ·(intro w' hSw; (try dsimp only at hSw); go_simp; try with_reducible rfl)
      try simp only [Act.put,Sp1,Sp2,Sp3,Sp4,Sp5,Sp6]
      refine AnyG.done (by kernel_rfl) ?_ _
      go_simp
      go_wp2_with fail
      have nFR:=own_bx oF kR (by decide)
      have nBR:=own_bx oB kR (by decide)
      have kE : Bx (((((((wc.setCell ⟨w.heap.size + 1,0,none⟩ (.slice FA 0 FC)).setCell ⟨w.heap.size + 1,1,none⟩ (.slice BA B.length BC)).setCell ⟨w.heap.size + 1,2,none⟩ (.int .i64 fs)).setCell ⟨w.heap.size + 1,3,none⟩ (.int .i64 bs)).setCell ⟨w.heap.size + 1,4,none⟩ (.int .i64 d0)).setCell ⟨w.heap.size + 1,5,none⟩ (.int .i64 d1)).drew) (w.heap.size + 1) 50 #[(.slice FA 0 FC),(.slice BA B.length BC),.int .i64 fs,.int .i64 bs,.int .i64 d0,.int .i64 d1]:=by simpa using ((((((kR.set_ 0 (.slice FA 0 FC)).set_ 1 (.slice BA B.length BC)).set_ 2 (.int .i64 fs)).set_ 3 (.int .i64 bs)).set_ 4 (.int .i64 d0)).set_ 5 (.int .i64 d1)).drew
      refine bodyPost_ret (v:=.tuple #[.agg #[(.slice FA 0 FC),(.slice BA B.length BC),.int .i64 fs,.int .i64 bs,.int .i64 d0,.int .i64 d1],.bool false]) (by rw [results_row_tmp (t:=50) rfl rfl kE Try.underlying50 rfl (by kernel_rfl)]; rfl) rfl ⟨FA,0,FC,BA,B.length,BC,fs,bs,d0,d1,[],B,l,_,by simp,rfl,rfl,own_sl2 (own_set (own_set (own_set (own_set (own_set (own_set oF nFR _) nFR _) nFR _) nFR _) nFR _) nFR _).drew rfl,own_sl2 (own_set (own_set (own_set (own_set (own_set (own_set oB nBR _) nBR _) nBR _) nBR _) nBR _) nBR _).drew rfl,⟨hFC,hBC⟩,by rw [HL.out]; exact HAT.out,spX,⟨f1,hfs⟩,⟨b1,hbs⟩,dr1,dr2,dr3,((((((fdX.far (by simp; omega) _).far (by simp; omega) _).far (by simp; omega) _).far (by simp; omega) _).far (by simp; omega) _).far (by simp; omega) _).drew,grown_trans (grown_new (grown_new (grown_new (grown_new (grown_new (grown_new grX (by omega) _) (by omega) _) (by omega) _) (by omega) _) (by omega) _) (by omega) _) (grown_drew _ _)⟩
end Go.Proofs.Ytgbogdckmfencaa
