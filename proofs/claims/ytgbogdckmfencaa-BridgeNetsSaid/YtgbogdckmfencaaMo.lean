/- Regions that draw their order (what is held need not be shown behind what waits for all that is read); rows of one's own; the copy of a log; what is known better; Feed.Tighter; Ints. -/
import Derived.Test.YtgbogdckmfencaaKp
import Derived.Test.YtgbogdckmfencaaLo
import Derived.Test.YtgbogdckmfencaaAkM
import Derived.Test.YtgbogdckmfencaaMa
import Derived.Test.YtgbogdckmfencaaFiM
import Derived.Deep.CutBlock
set_option linter.unusedSimpArgs false
set_option linter.unusedVariables false
namespace Go.Proofs.Ytgbogdckmfencaa
open Go Go.RowKit
section
section
variable {P : Program} {ops : Array Oper} {Q : Exit → Act → World → Prop} {md : Region.Mode} {S : World → Prop} {G : Nat → Bool}
/-- j waits for i, perhaps by others. -/
inductive Desc (md : Region.Mode) (ops : Array Oper) (i : Nat) : Nat → Prop
 | base {j : Nat} {o : Oper} (ho : ops[j]? = some o) (h : ∃ e ∈ o.after,Region.binds md e = true ∧ e.on = i) : Desc md ops i j
 | step {j k : Nat} {o : Oper} (ho : ops[j]? = some o) (h : ∃ e ∈ o.after,Region.binds md e = true ∧ e.on = k) (hk : Desc md ops i k) : Desc md ops i j
def descs (md : Region.Mode) (ops : Array Oper) (i : Nat) : List Nat :=
 (List.range ops.size).foldl (fun D j => if ((ops[j]?).map (·.after.any fun e => Region.binds md e && D.contains e.on)).getD false then j :: D else D) [i]
theorem descs_ok {i : Nat} : ∀ k ∈ descs md ops i,k = i ∨ Desc md ops i k:=by
 unfold descs
 have key : ∀ (l D : List Nat),(∀ k ∈ D,k = i ∨ Desc md ops i k) → ∀ k ∈ l.foldl (fun D j => if ((ops[j]?).map (·.after.any fun e => Region.binds md e && D.contains e.on)).getD false then j :: D else D) D,k = i ∨ Desc md ops i k:=by
  intro l
  induction l with
  | nil => intro D h k hk; exact h k hk
  | cons j l ih =>
   intro D h
   rw [List.foldl_cons]
   refine ih _ fun k hk => ?_
   split at hk
   ·rename_i hc
    rcases List.mem_cons.1 hk with rfl | hk
    ·cases ho : ops[k]? with
     | none => rw [ho] at hc; simp at hc
     | some o =>
      rw [ho] at hc
      simp only [Option.map_some,Option.getD_some] at hc
      obtain ⟨e,he,hb⟩:=Array.any_eq_true'.1 hc
      simp only [Bool.and_eq_true,List.contains_eq_mem,decide_eq_true_eq] at hb
      rcases h _ hb.2 with h0 | h0
      ·exact .inr (.base ho ⟨e,he,hb.1,h0⟩)
      ·exact .inr (.step ho ⟨e,he,hb.1,rfl⟩ h0)
    ·exact h k hk
   ·exact h k hk
 exact key _ _ (by simp)
/-- Whatever has come up, what it waits for has. -/
def Closed (md : Region.Mode) (ops : Array Oper) (listed : Array Bool) : Prop :=
 ∀ k,listed.getD k false = true → ∀ o,ops[k]? = some o → ∀ e ∈ o.after,Region.binds md e = true → listed.getD e.on false = true
def closedB (md : Region.Mode) (ops : Array Oper) (listed : Array Bool) : Bool :=
 (List.range ops.size).all fun k => !listed.getD k false || ((ops[k]?).map (·.after.all fun e => !Region.binds md e || listed.getD e.on false)).getD true
theorem closedB_ok {listed : Array Bool} (h : closedB md ops listed = true) : Closed md ops listed:=by
 intro k hk o ho e he hb
 have hlt : k < ops.size:=(Array.getElem?_eq_some_iff.1 ho).1
 have h1:=List.all_eq_true.1 h k (List.mem_range.2 hlt)
 rw [hk,ho] at h1
 simp only [Bool.not_true,Bool.false_or,Option.map_some,Option.getD_some] at h1
 have h2:=Array.all_eq_true'.1 h1 e he
 rw [hb] at h2
 simpa using h2
theorem Desc.no {listed : Array Bool} {i j : Nat} (hc : Closed md ops listed) (hi : listed.getD i false = false) (h : Desc md ops i j) : ∀ o,ops[j]? = some o → ¬ ∀ e ∈ o.after,Region.binds md e = true → listed.getD e.on false = true:=by
 induction h with
 | base ho h =>
  intro o ho' hall
  rw [ho] at ho'
  cases ho'
  obtain ⟨e,he,hb,rfl⟩:=h
  rw [hall e he hb] at hi
  cases hi
 | step ho h hk ih =>
  intro o ho' hall
  rw [ho] at ho'
  cases ho'
  obtain ⟨e,he,hb,rfl⟩:=h
  have hl:=hall e he hb
  cases hk with
  | base ho2 _ => exact ih _ ho2 fun e' he' hb' => hc _ hl _ ho2 e' he' hb'
  | step ho2 _ _ => exact ih _ ho2 fun e' he' hb' => hc _ hl _ ho2 e' he' hb'
theorem getD_set_mono {listed : Array Bool} {j k : Nat} (h : listed.getD k false = true) : (listed.setIfInBounds j true).getD k false = true:=by
 by_cases hjk : j = k
 ·subst hjk
  rcases Nat.lt_or_ge j listed.size with h' | h'
  ·simp [Array.getD_eq_getD_getElem?,h']
  ·simp [Array.getD_eq_getD_getElem?,Array.getElem?_eq_none h'] at h
 ·rw [getD_set_ne false hjk]; exact h
theorem Closed.step {listed : Array Bool} (hc : Closed md ops listed) {j : Nat} (hj : j ∈ Region.ready md ops listed) : Closed md ops (listed.setIfInBounds j true):=by
 obtain ⟨_,oj,hoj,hall⟩:=mem_ready.1 hj
 intro k hk o ho e he hb
 by_cases hjk : j = k
 ·subst hjk
  rw [hoj] at ho
  cases ho
  exact getD_set_mono (hall e he hb)
 ·rw [getD_set_ne false hjk] at hk
  exact getD_set_mono (hc k hk o ho e he hb)
/-- Every operation that is still to come and that G doesn't name waits for number i. -/
def waitsC (md : Region.Mode) (ops : Array Oper) (G : Nat → Bool) (listed : Array Bool) (i : Nat) : Bool :=
 (List.range ops.size).all fun j => listed.getD j true || G j || j == i || (descs md ops i).contains j
theorem waitsC_ok {i : Nat} {listed : Array Bool} (h : waitsC md ops G listed i = true) : ∀ j,j < ops.size → listed.getD j true = false → j ≠ i → G j = true ∨ Desc md ops i j:=by
 intro j hlt hun hne
 have h1:=List.all_eq_true.1 h j (List.mem_range.2 hlt)
 rw [hun] at h1
 simp only [Bool.false_or,Bool.or_eq_true,beq_iff_eq,hne,or_false,List.contains_eq_mem,decide_eq_true_eq] at h1
 rcases h1 with h1 | h1
 ·exact .inl h1
 ·rcases descs_ok _ h1 with h2 | h2
  ·exact absurd h2 hne
  ·exact .inr h2
theorem AnyG.firstC {i : Nat} {oi : Oper} {v : Value} (hi : ops[i]? = some oi) (hsel : Region.noSelect ops = true) 
  (hQ : ∀ c a w,Q (.panic c) (a.put oi.dst v) w → Q (.panic c) a w) :
  ∀ (fuel : Nat) (listed : Array Bool) (a : Act) (w : World),Closed md ops listed → (∀ j,j < ops.size → listed.getD j true = false → j ≠ i → G j = true ∨ Desc md ops i j) →
   (∀ j oj,ops[j]? = some oj → j ≠ i → listed.getD j true = false → (∀ e ∈ oj.after,Region.binds md e = true → e.on ≠ i) → oi.apart ops oj = true) →
   i ∈ Region.ready md ops listed → YieldsIf P ops S oi v a → S w →
   AnyG P md ops Q S G fuel (listed.setIfInBounds i true) (a.put oi.dst v) w → AnyG P md ops Q S G (fuel + 1) listed a w:=by
 intro fuel
 induction fuel with
 | zero =>
  intro listed a w _ _ _ hr hy hS H
  refine ⟨fun h => (by rw [h] at hr; cases hr),fun j hj => ?_⟩
  rcases Nat.decEq j i with hji | hji
  ·have hl:=ready_mono hj hji
   rw [H.1] at hl
   cases hl
  ·subst hji
   exact hy.wpOp hi hS ⟨fun _ => hS,H⟩
 | succ fuel ih =>
  intro listed a w hc hw hfree hr hy hS H
  refine ⟨fun h => (by rw [h] at hr; cases hr),fun j hj => ?_⟩
  rcases Nat.decEq j i with hji | hji
  ·obtain ⟨hjun,oj,hoj,hall⟩:=mem_ready.1 hj
   have hiun : listed.getD i false = false:=by
    have h0:=(mem_ready.1 hr).1
    rcases Nat.lt_or_ge i listed.size with h' | h'
    ·simp [h'] at h0 ⊢; exact h0
    ·simp [Array.getElem?_eq_none h']
   have hjun' : listed.getD j true = false:=hjun
   have hG : G j = true:=(hw j (Array.getElem?_eq_some_iff.1 hoj).1 hjun' hji).resolve_right fun hd => hd.no hc hiun _ hoj hall
   have hnot : ∀ e ∈ oj.after,Region.binds md e = true → e.on ≠ i:=fun e he hb heq => by
    have h2:=hall e he hb
    rw [heq,hiun] at h2
    cases h2
   have h2:=wpOp_putIf hoj (hfree j oj hoj hji hjun hnot) (fun cs b => Region.noSelect_spec hsel i oi cs b hi) (fun cs b => Region.noSelect_spec hsel j oj cs b hoj) hQ hy (H.2 j (ready_mono hj hji))
   refine wpOp_mono (fun a' w' h3 => ⟨h3.2.1,ih (listed.setIfInBounds j true) a' w' (hc.step hj) ?_ ?_ (ready_mono hr (Ne.symm hji)) h3.1 (h3.2.1 hG) ?_⟩) h2
   ·intro k hk hun hki
    refine hw k hk ?_ hki
    rcases Nat.decEq j k with hjk | hjk
    ·rw [getD_set_ne true hjk] at hun; exact hun
    ·subst hjk; exact hjun
   ·intro k ok hk hki hun hno
    refine hfree k ok hk hki ?_ hno
    rcases Nat.decEq j k with hjk | hjk
    ·rw [getD_set_ne true hjk] at hun; exact hun
    ·subst hjk; exact hjun
   ·rw [Array.setIfInBounds_comm _ _ hji]
    exact h3.2.2
  ·subst hji
   exact hy.wpOp hi hS ⟨fun _ => hS,H⟩
/-- Number i is taken first. -/
theorem AnyG.takeC {i : Nat} {oi : Oper} {v : Value} {fuel : Nat} {listed : Array Bool} {a : Act} {w : World} (hi : ops[i]? = some oi)
  (hs : (Region.noSelect ops && waitsC md ops G listed i && closedB md ops listed && Region.free md ops listed i && (Region.ready md ops listed).contains i) = true)
  (hQ : ∀ c a w,Q (.panic c) (a.put oi.dst v) w → Q (.panic c) a w) (hg : oi.guard = none) (hy : ∀ w,S w → (execOp a.eval oi).run P w = .ok (.value v) w) (hS : S w)
  (h : AnyG P md ops Q S G fuel (listed.setIfInBounds i true) (a.put oi.dst v) w) : AnyG P md ops Q S G (fuel + 1) listed a w:=by
 simp only [Bool.and_eq_true] at hs
 obtain ⟨⟨⟨⟨h1,h2⟩,h5⟩,h3⟩,h4⟩:=hs
 exact AnyG.firstC hi h1 hQ fuel listed a w (closedB_ok h5) (waitsC_ok h2) (Region.free_spec hi h3) (by simpa using h4) (.inl ⟨by simp [Region.wanted,hg],hy⟩) hS h
theorem AnyG.takeGC {i : Nat} {oi : Oper} {v : Value} {fuel : Nat} {listed : Array Bool} {a : Act} {w : World} (hi : ops[i]? = some oi)
  (hs : (Region.noSelect ops && waitsC md ops G listed i && closedB md ops listed && Region.free md ops listed i && (Region.ready md ops listed).contains i) = true)
  (hQ : ∀ c a w,Q (.panic c) (a.put oi.dst v) w → Q (.panic c) a w) (hg : Region.wanted oi (yielded ops a.tmps) = true) (hy : ∀ w,S w → (execOp a.eval oi).run P w = .ok (.value v) w) (hS : S w)
  (h : AnyG P md ops Q S G fuel (listed.setIfInBounds i true) (a.put oi.dst v) w) : AnyG P md ops Q S G (fuel + 1) listed a w:=by
 simp only [Bool.and_eq_true] at hs
 obtain ⟨⟨⟨⟨h1,h2⟩,h5⟩,h3⟩,h4⟩:=hs
 exact AnyG.firstC hi h1 hQ fuel listed a w (closedB_ok h5) (waitsC_ok h2) (Region.free_spec hi h3) (by simpa using h4) (.inl ⟨hg,hy⟩) hS h
theorem AnyG.takeNC {i : Nat} {oi : Oper} {fuel : Nat} {listed : Array Bool} {a : Act} {w : World} (hi : ops[i]? = some oi)
  (hs : (Region.noSelect ops && waitsC md ops G listed i && closedB md ops listed && Region.free md ops listed i && (Region.ready md ops listed).contains i) = true)
  (hQ : ∀ c a w,Q (.panic c) (a.put oi.dst undef) w → Q (.panic c) a w) (hg : Region.wanted oi (yielded ops a.tmps) = false) (hS : S w)
  (h : AnyG P md ops Q S G fuel (listed.setIfInBounds i true) (a.put oi.dst undef) w) : AnyG P md ops Q S G (fuel + 1) listed a w:=by
 simp only [Bool.and_eq_true] at hs
 obtain ⟨⟨⟨⟨h1,h2⟩,h5⟩,h3⟩,h4⟩:=hs
 exact AnyG.firstC hi h1 hQ fuel listed a w (closedB_ok h5) (waitsC_ok h2) (Region.free_spec hi h3) (by simpa using h4) (.inr ⟨hg,rfl⟩) hS h
/-- The beginning: what needs no world may be taken before. -/
theorem AnyG.startC {id : Nat} {a : Act} {w : World} (hm : P.follows .mixedOrders = true) (h : wpAny P .any ops Q ops.size (Array.replicate ops.size false) a w.drew) : (Code.region id ops true).wp P Q a w:=wp_region_any hm h
theorem AnyG.takeP {i : Nat} {oi : Oper} {v : Value} {fuel : Nat} {listed : Array Bool} {a : Act} {w : World} (hi : ops[i]? = some oi)
  (hs : (Region.noSelect ops && Region.free md ops listed i && (Region.ready md ops listed).contains i) = true)
  (hQ : ∀ c a w,Q (.panic c) (a.put oi.dst v) w → Q (.panic c) a w) (hg : oi.guard = none) (hy : ∀ w,(execOp a.eval oi).run P w = .ok (.value v) w)
  (h : wpAny P md ops Q fuel (listed.setIfInBounds i true) (a.put oi.dst v) w) : wpAny P md ops Q (fuel + 1) listed a w:=by
 simp only [Bool.and_eq_true] at hs
 obtain ⟨⟨h1,h3⟩,h4⟩:=hs
 exact wpAny_first hi (Region.noSelect_spec h1) hQ fuel listed a w (Region.free_spec hi h3) (by simpa using h4) (.inl ⟨by simp [Region.wanted,hg],hy⟩) h
theorem AnyG.enter {fuel : Nat} {listed : Array Bool} {a : Act} {w : World} (S : World → Prop) (G : Nat → Bool) (h : AnyG P md ops Q S G fuel listed a w) : wpAny P md ops Q fuel listed a w:=AnyG.any _ _ _ _ h
/-- The one operation that may come up is carried out (its guard lets it). -/
theorem AnyG.oneC {i : Nat} {o : Oper} {fuel : Nat} {listed : Array Bool} {a : Act} {w : World} (hr : Region.ready md ops listed = [i]) (ho : ops[i]? = some o) (hg : Region.wanted o (yielded ops a.tmps) = true)
  (h : o.wp P a w (Onward P md ops Q S G fuel i listed) Q) : AnyG P md ops Q S G (fuel + 1) listed a w:=by
 refine ⟨fun h0 => absurd (hr.symm.trans h0) (by simp),fun j hj => ?_⟩
 rw [hr] at hj
 obtain rfl : j = i:=by simpa using hj
 unfold wpOp
 rw [ho]
 show if Region.wanted o (yielded ops a.tmps) = true then _ else _
 rw [if_pos hg]
 exact .inl h
end
end
theorem own_bel {w x : World} {b n : Nat} {t : TypeId} {s : Nat} {v : Value} {xs : List Value} (h : w.ownsRow b t s v n xs) (hb : Below w.heap.size w x) : x.ownsRow b t s v n xs :=
 h.kept (grown_below (row:=none) hb) (by cases h : v.ownBlock <;> simp)
/-- A log of one's own in a box, beside a feed. -/
structure RI (g : Nat) (w : World) (st z0 z1 : Int) (bL : Nat) (A : Option Addr) (C k : Nat) (es : List Ev) (wr : World) : Prop where
 len : es.length = k
 kL : Bx wr bL 26 #[.int .i64 st,.int .i64 z0,.int .i64 z1,.slice A k C]
 own : wr.ownsRow w.heap.size 28 5 (.slice A k C) k (es.map Ev.cells).flatten
 fd : Fd g wr
 hb : Below w.heap.size w wr
section
variable {g : Nat} {w : World} {st z0 z1 : Int} {bL : Nat} {A : Option Addr} {C k : Nat} {es : List Ev} {wr x : World}
theorem RI.bel (I : RI g w st z0 z1 bL A C k es wr) (h : Below wr.heap.size wr x) : RI g w st z0 z1 bL A C k es x :=
 ⟨I.len,I.kL.call h,own_bel I.own h,by obtain ⟨y,h1,h2,h3⟩:=I.fd; exact ⟨y,h1,h2,h3.call h⟩,I.hb.trans (h.mono I.hb.size)⟩
/-- What is shown at an event is stored anew. -/
theorem RI.put {q : Nat} (I : RI g w st z0 z1 bL (some ⟨q,0,none⟩) C k es wr) {r : Nat} {e : Ev} (he : es[r]? = some e) (s : Int) : RI g w st z0 z1 bL (some ⟨q,0,none⟩) C k (es.set r { e with sh:=s }) (wr.setCell ⟨q,r * 5 + 1,none⟩ (.int .i64 s)):=by
 have hr : r < es.length:=(List.getElem?_eq_some_iff.1 he).1
 have hr' : r < k:=by rw [← I.len]; exact hr
 refine ⟨by rw [List.length_set]; exact I.len,I.kL.far (by simp; exact fun h => own_bx I.own I.kL (by decide) (by rw [h]; rfl)) _,?_,?_,I.hb.setCell (I.own.lt q rfl).1 _⟩
 ·rw [← evs_set_sh _ _ _ he]
  exact own_store I.own (r * 5 + 1) _ (by omega)
 ·obtain ⟨y,y1,y2,y3⟩:=I.fd
  exact ⟨y,y1,y2,y3.far (by simp; exact fun h => own_bx I.own y3 (by decide) (by rw [h]; rfl)) _⟩
theorem RI.drew (I : RI g w st z0 z1 bL A C k es wr) : RI g w st z0 z1 bL A C k es wr.drew:=I.bel (Below.refl _ _).drew
end
theorem flat_ev {s : Nat} : ∀ (xs : List (List Value)),(∀ r ∈ xs,r.length = s) → ∀ (j : Nat) (u : Value),xs.flatten[j]? = some u → ∃ (k r : Nat) (row : List Value),xs[k]? = some row ∧ row[r]? = some u ∧ j = k * s + r:=by
 intro xs
 induction xs with
 | nil => intro _ j u h; simp at h
 | cons x xs ih =>
  intro hs j u h
  have hx:=hs x (by simp)
  rw [List.flatten_cons] at h
  by_cases hj : j < x.length
  ·rw [List.getElem?_append_left hj] at h
   exact ⟨0,j,x,rfl,h,by omega⟩
  ·rw [List.getElem?_append_right (by omega)] at h
   obtain ⟨k,r,row,h1,h2,h3⟩:=ih (fun r hr => hs r (by simp [hr])) _ _ h
   refine ⟨k + 1,r,row,by simpa using h1,h2,?_⟩
   rw [Nat.succ_mul]
   omega
theorem evs_cells {w : World} {B : Nat} {ad : Addr} {es : List Ev} (h : EvsAt w B (some ad) es) : ∀ j u,((es.map Ev.cells).flatten)[j]? = some u → w.cell? (ad.add j) = some u:=by
 intro j u hu
 obtain ⟨k,r,row,h1,h2,rfl⟩:=flat_ev _ (evs_len es) _ _ hu
 obtain ⟨ad',e1,_,h3⟩:=h k row h1
 simp only [Option.some.injEq] at e1
 subst e1
 have:=h3 r u h2
 rwa [add_add] at this
theorem Fd.below {g : Nat} {w w' : World} (h : Fd g w) (hb : Below w.heap.size w w') : Fd g w':=by obtain ⟨y,h1,h2,h3⟩:=h; exact ⟨y,h1,h2,h3.call hb⟩
/-- The same events, with narrower changes. -/
structure Thin (es es' : List Ev) : Prop where
 len : es'.length = es.length
 ev : ∀ (i : Nat) (e : Ev),es[i]? = some e → ∃ e' : Ev,es'[i]? = some e' ∧ e'.kd = e.kd ∧ e'.sh = e.sh ∧ e'.ld = e.ld ∧ e.c0 ≤ e'.c0 ∧ e'.c0 ≤ e'.c1 ∧ e'.c1 ≤ e.c1
theorem Thin.refl {es : List Ev} (h : ∀ e ∈ es,e.c0 ≤ e.c1) : Thin es es:=⟨rfl,fun i e he => ⟨e,he,rfl,rfl,rfl,Int.le_refl _,h e (List.mem_of_getElem? he),Int.le_refl _⟩⟩
theorem Thin.set {es es' : List Ev} (h : Thin es es') {i : Nat} {e e' : Ev} (he : es[i]? = some e) (he' : es'[i]? = some e') {a b : Int} (h1 : e.c0 ≤ a) (h2 : a ≤ b) (h3 : b ≤ e.c1) : Thin es (es'.set i { e' with c0:=a,c1:=b }):=by
 refine ⟨by rw [List.length_set]; exact h.len,fun j f hf => ?_⟩
 have hlt : i < es'.length:=(List.getElem?_eq_some_iff.1 he').1
 by_cases hij : i = j
 ·subst hij
  rw [he] at hf
  cases hf
  obtain ⟨x,hx,k1,k2,k3,_,_,_⟩:=h.ev i e he
  rw [he'] at hx
  cases hx
  exact ⟨{ e' with c0:=a,c1:=b },by rw [List.getElem?_set_self hlt],k1,k2,k3,h1,h2,h3⟩
 ·obtain ⟨x,hx,k⟩:=h.ev j f hf
  exact ⟨x,by rw [List.getElem?_set_ne hij]; exact hx,k⟩
theorem ckE_thin {st : Int} {e e' : Ev} (h : ckE st e = 0) (h1 : e'.kd = e.kd) (h2 : e'.sh = e.sh) (h3 : e'.ld = e.ld) (h4 : e.c0 ≤ e'.c0) (h5 : e'.c0 ≤ e'.c1) (h6 : e'.c1 ≤ e.c1) : ckE st e' = 0:=by
 have ho:=ckE_zero h
 have g1:=ho.c1
 have g2:=ho.c3
 unfold ckE at h ⊢
 rw [h1,h2,h3]
 split at h
 ·cases h
 ·rename_i q1
  rw [if_neg q1]
  split at h
  ·cases h
  ·rename_i q2
   rw [if_neg q2]
   split at h
   ·cases h
   ·rename_i q3
    rw [if_neg q3]
    split at h
    ·cases h
    ·rename_i q4
     rw [if_neg q4]
     split at h
     ·cases h
     ·rename_i q5
      rw [if_neg q5]
      exact ckR_ok (by omega) h5 (by omega)
theorem Thin.ck {st z0 z1 y0 y1 : Int} {es es' : List Ev} (h : Thin es es') (hck : ckL st z0 z1 es = 0) (h0 : z0 ≤ y0) (h01 : y0 ≤ y1) (h1 : y1 ≤ z1) : ckL st y0 y1 es' = 0:=by
 rw [ckL_iff] at hck ⊢
 obtain ⟨a,b,c,d,e⟩:=hck
 obtain ⟨c1,c2,c3⟩:=ckR_zero c
 refine ⟨a,b,ckR_ok (by omega) h01 (by omega),by rw [h.len]; exact d,fun x hx => ?_⟩
 obtain ⟨i,hi⟩:=List.mem_iff_getElem?.1 hx
 have hlt : i < es.length:=by rw [← h.len]; exact (List.getElem?_eq_some_iff.1 hi).1
 obtain ⟨y,hy,k1,k2,k3,k4,k5,k6⟩:=h.ev i _ (List.getElem?_eq_getElem hlt)
 rw [hi] at hy
 cases hy
 exact ckE_thin (e _ (List.getElem_mem hlt)) k1 k2 k3 k4 k5 k6
theorem FT.bel {g : Nat} {V x y : World} (h : FT g V x) (hb : Below x.heap.size x y) : FT g V y:=⟨grown_trans h.1 (grown_below hb),Fd.below h.2 hb⟩
theorem FT.sl {g s : Nat} {V x : World} {A : Option Addr} {xs : List (List Value)} (h : FT g V x) (hf : Fd g V) (hs : Sl V V.heap.size s A xs) (hx : ∀ r ∈ xs,∀ u ∈ r,∀ x,u ≠ .int .u64 x) : Sl x x.heap.size s A xs:=(Sl.ft hs hf h.1 hx).more h.1.size
theorem FT.be {g : Nat} {w V x : World} (h : FT g V x) (hB : Below w.heap.size w V) (hg : w.heap.size ≤ g) : Below w.heap.size w x:=hB.grown h.1 hB.size (fun k e => by cases e; exact hg)
theorem FT.own {g : Nat} {V x y : World} (h : FT g V x) {b n : Nat} {t : TypeId} {s : Nat} {v : Value} {xs : List Value} (ho : x.ownsRow b t s v n xs) (hg : x.grownBy y v.ownBlock) (hb : V.heap.size ≤ b) (ht : (88 : Nat) ≠ t) : FT g V y:=by
 refine ⟨gr_own h.1 hg (fun k hk => Nat.le_trans hb (ho.lt k hk).1),?_⟩
 obtain ⟨z,h1,h2,h3⟩:=h.2
 exact ⟨z,h1,h2,h3.grown hg (own_bx ho h3 ht)⟩
theorem ints_any (A : Option Addr) (n c : Nat) (L : List Int) (w : World) (hn : n ≤ 1000) (hl : L.length = n) (hA : Sl w w.heap.size 1 A (ints L)) :
  Calls Try.prog 67 #[.slice A n c] w fun e w' => (∃ A' c',e = .returned (.slice A' n c') ∧ w'.ownsRow w.heap.size 3 1 (.slice A' n c') n (ints L).flatten) ∧ Below w.heap.size w w':=by
 have HL:=Lib.hid hl
 clear hl
 obtain ⟨i3,hi3,hz3,hs3,iy3⟩:=info_parts info3'
 have hb0 : Below w.heap.size w (w.alloc (.cells #[] 3)):=(Below.refl _ _).alloc (Nat.le_refl _) _
 have how:=World.ownsRow_made (w:=w) (base:=w.heap.size) (e:=3) (size:=1) #[] 0 (Nat.le_refl _) (by unfold maxLen; omega) (by simp)
 have hE:=Sl.below hA hb0
 cases A with
 | none =>
  have hn0 : n = 0:=by
   rcases Nat.eq_zero_or_pos n with h | h
   ·exact h
   ·obtain ⟨ad,h1,_⟩:=hA.at_ (k:=0) (by simp [ints]; rw [HL.out]; exact h)
    cases h1
  subst hn0
  go_enter Try.func67,Try.ntmps67
  go_wp2_with fail
  obtain rfl : L = []:=List.eq_nil_of_length_eq_zero HL.out
  go_ret
  exact ⟨⟨_,_,rfl,by simpa [ints] using how⟩,hb0⟩
 | some a =>
  have hcs : ∀ j u,(ints L).flatten[j]? = some u → (w.alloc (.cells #[] 3)).cell? (a.add j) = some u:=by
   intro j u hu
   rw [ints_flat,List.getElem?_map] at hu
   cases hj : L[j]? with
   | none => rw [hj] at hu; cases hu
   | some x =>
    rw [hj] at hu
    simp only [Option.map_some,Option.some.injEq] at hu
    have hlt:=(List.getElem?_eq_some_iff.1 hj).1
    obtain ⟨ad,h1,_,h2⟩:=ints_at hE hlt
    simp only [Option.some.injEq] at h1
    subst h1
    rw [h2,← hu,(List.getElem?_eq_some_iff.1 hj).2]
  have h1c : ∀ u ∈ (ints L).flatten,u.oneCell' = true:=by
   intro u hu
   rw [ints_flat] at hu
   obtain ⟨x,_,rfl⟩:=List.mem_map.1 hu
   rfl
  have hlen : (ints L).flatten.length = n * 1:=by rw [ints_flat,List.length_map,HL.out,Nat.mul_one]
  obtain ⟨xs,hxs⟩ : ∃ xs,(ints L).flatten = xs:=⟨_,rfl⟩
  rw [hxs] at hcs h1c hlen ⊢
  go_enter Try.func67,Try.ntmps67
  go_wp2_with (first
   | (at_builtin; refine wpList_append_own _ rfl (.tmp 3) (.tmp 4) 29 rfl w.heap.size 3 i3 _ 1 8 Try.underlying29 hi3 hz3 hs3 iy3 rfl (by decide) (.slice (some ⟨w.heap.size,0,none⟩) 0 0) 0 [] rfl how a n c xs rfl hlen hcs h1c (by unfold maxLen; omega) (by omega) (by simp <;> omega) ?_; intro v' w' o1 o2 o3; obtain ⟨A',C',rfl⟩:=own_shape o1)
   | fail)
  have o1' : w'.ownsRow w.heap.size 3 1 (.slice A' n C') n xs:=by simpa using o1
  go_ret
  exact ⟨⟨_,_,by simp,o1'⟩,hb0.grown o2 hb0.size (fun k e => by simp [Value.ownBlock] at e <;> omega)⟩
end Go.Proofs.Ytgbogdckmfencaa
