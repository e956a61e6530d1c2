/- Learn: which zeros the first events may have. -/
import Derived.Test.YtgbogdckmfencaaEeM
set_option linter.unusedSimpArgs false
set_option linter.unusedVariables false
namespace Go.Proofs.Ytgbogdckmfencaa
open Go Go.RowKit
theorem fitF_bd {st z0 z1 : Int} {es : List Ev} {gv zr : Int} {i : Nat} {z : Int} (h : fitF st z0 z1 es gv zr i z = true) : -200 ≤ z ∧ z ≤ 200:=by
 cases i with
 | zero =>
  rw [fitF] at h
  split at h
  ·unfold fitOne at h
   simp only [Bool.and_eq_true,decide_eq_true_eq] at h
   exact ⟨h.1.1.1,h.1.1.2⟩
  ·cases h
 | succ i =>
  rw [fitF] at h
  split at h
  ·unfold fitOne at h
   simp only [Bool.and_eq_true,decide_eq_true_eq] at h
   exact ⟨h.1.1.1,h.1.1.2⟩
  ·cases h
/-- What a zero of event i may come from. -/
def okF (st z0 z1 : Int) (es : List Ev) (gv zr : Int) (i : Nat) (y : Int) : Bool:=match i with
 | 0 => decide (z0 ≤ y) && decide (y ≤ z1)
 | j + 1 => fitF st z0 z1 es gv zr j y
theorem fitF_ok {st z0 z1 : Int} {es : List Ev} {gv zr : Int} {i : Nat} {e : Ev} (he : es[i]? = some e) (z : Int) : fitF st z0 z1 es gv zr i z = fitOne st e gv zr i z (okF st z0 z1 es gv zr i):=by
 cases i with
 | zero => rw [fitF,he]; rfl
 | succ i => rw [fitF,he]; rfl
/-- What is known when all events before i are done, and the first p zeros of i. -/
def gF (st z0 z1 : Int) (es : List Ev) (gv zr : Int) (i p : Nat) (k j : Nat) : Bool:=(decide (k < i) || (decide (k = i) && decide (j < p))) && fitF st z0 z1 es gv zr k ((j : Int) - 200)
def smF (st z0 z1 : Int) (es : List Ev) (gv zr : Int) (i : Nat) : Bool:=match i with
 | 0 => decide (z0 ≤ z1)
 | i + 1 => (rngL (-200) 200).any (fitF st z0 z1 es gv zr i)
theorem may_F {st z0 z1 : Int} {es : List Ev} {gv zr : Int} {i p : Nat} {y : Int} : mayB (gF st z0 z1 es gv zr (i + 1) p) i y = okF st z0 z1 es gv zr (i + 1) y:=by
 show mayB (gF st z0 z1 es gv zr (i + 1) p) i y = fitF st z0 z1 es gv zr i y
 unfold mayB gF
 rw [decide_eq_true (Nat.lt_succ_self i),Bool.true_or,Bool.true_and]
 by_cases h : -200 ≤ y ∧ y ≤ 200
 ·rw [btw_t h,Bool.true_and,show (((y + 200).toNat : Nat) : Int) - 200 = y by omega]
 ·rw [btw_f h,Bool.false_and]
  cases hf : fitF st z0 z1 es gv zr i y with
  | false => rfl
  | true => exact absurd (fitF_bd hf) h
/-- What there is in memory. -/
structure KI (w : World) (b10 : Nat) (st z0 z1 : Int) (EA : Option Addr) (k EC m : Nat) (FA : Option Addr) (FC : Nat) (q : Nat → Nat) (f : Nat → Nat → Bool) (wr : World) : Prop where
 kL : Bx wr w.heap.size 26 #[.int .i64 st,.int .i64 z0,.int .i64 z1,.slice EA k EC]
 k8 : Bx wr (w.heap.size + 1) 96 #[.slice none 0 0]
 kG : Bx wr b10 96 #[.slice FA m FC]
 gr : Grid wr w.heap.size FA m q f
 hb : Below w.heap.size w wr
 b10 : w.heap.size + 1 < b10
section
variable {w wr x : World} {b10 : Nat} {st z0 z1 : Int} {EA : Option Addr} {k EC m : Nat} {FA : Option Addr} {FC : Nat} {q : Nat → Nat} {f : Nat → Nat → Bool}
theorem KI.bel (I : KI w b10 st z0 z1 EA k EC m FA FC q f wr) (h : Below wr.heap.size wr x) : KI w b10 st z0 z1 EA k EC m FA FC q f x :=
 ⟨I.kL.call h,I.k8.call h,I.kG.call h,I.gr.bel h,I.hb.trans (h.mono I.hb.size),I.b10⟩
theorem KI.put {i p : Nat} (I : KI w b10 st z0 z1 EA k EC m FA FC q f wr) (hi : i < m) (a : Bool) : KI w b10 st z0 z1 EA k EC m FA FC q (fun r j => if r = i ∧ j = p then a else f r j) (wr.setCell ⟨q i,p,none⟩ (.bool a)) :=
 ⟨I.kL.far (fun e => I.kL.ne (I.gr.rows i hi).2 (by decide) e) _,I.k8.far (fun e => I.k8.ne (I.gr.rows i hi).2 (by decide) e) _,I.kG.far (fun e => I.kG.ne (I.gr.rows i hi).2 (by decide) e) _,I.gr.put hi a,I.hb.setCell (I.gr.rows i hi).1 _,I.b10⟩
theorem KI.eq (I : KI w b10 st z0 z1 EA k EC m FA FC q f wr) {g : Nat → Nat → Bool} (h : ∀ r j,r < m → j < 401 → f r j = g r j) : KI w b10 st z0 z1 EA k EC m FA FC q g wr:=by
 refine ⟨I.kL,I.k8,I.kG,⟨I.gr.out,fun i hi => ⟨(I.gr.rows i hi).1,?_⟩,I.gr.inj⟩,I.hb,I.b10⟩
 have e : barr (f i) = barr (g i):=by
  unfold barr
  congr 1
  funext j
  rw [h i j.val hi j.isLt]
 rw [← e]
 exact (I.gr.rows i hi).2
end
theorem gF_next (st z0 z1 : Int) (es : List Ev) (gv zr : Int) (i : Nat) (r j : Nat) (hj : j < 401) : gF st z0 z1 es gv zr i 401 r j = gF st z0 z1 es gv zr (i + 1) 0 r j:=by
 unfold gF
 congr 1
 by_cases h1 : r < i
 ·simp [h1,Nat.lt_succ_of_lt h1]
 ·by_cases h2 : r = i
  ·subst h2; simp [hj]
  ·have h3 : ¬ r < i + 1:=by omega
   simp [h1,h2,h3]
theorem gF_put (st z0 z1 : Int) (es : List Ev) (gv zr : Int) (i p : Nat) (r j : Nat) : (if r = i ∧ j = p then fitF st z0 z1 es gv zr i ((p : Int) - 200) else gF st z0 z1 es gv zr i p r j) = gF st z0 z1 es gv zr i (p + 1) r j:=by
 by_cases h : r = i ∧ j = p
 ·obtain ⟨rfl,rfl⟩:=h
  rw [if_pos ⟨rfl,rfl⟩]
  unfold gF
  simp
 ·rw [if_neg h]
  unfold gF
  congr 1
  by_cases h1 : r < i
  ·simp [h1]
  ·by_cases h2 : r = i
   ·subst h2
    have h3 : j ≠ p:=fun e => h ⟨rfl,e⟩
    have : (j < p) = (j < p + 1):=by apply propext; omega
    simp [this]
   ·simp [h1,h2]
theorem gF_skip {st z0 z1 : Int} {es : List Ev} {gv zr : Int} {i p : Nat} (h : fitF st z0 z1 es gv zr i ((p : Int) - 200) = false) (r j : Nat) : gF st z0 z1 es gv zr i p r j = gF st z0 z1 es gv zr i (p + 1) r j:=by
 rw [← gF_put,h]
 split
 ·rename_i h2
  obtain ⟨rfl,rfl⟩:=h2
  unfold gF
  simp
 ·rfl
theorem any_upTo (f : Int → Bool) (lo : Int) (k : Nat) : (upTo lo (k + 1)).any f = ((upTo lo k).any f || f (lo + k)):=by
 rw [upTo_succ,List.any_append]
 simp
theorem fitB_bd {st z0 z1 : Int} {es : List Ev} {gv zr : Int} {m d : Nat} {z : Int} (h : fitB st z0 z1 es gv zr m d z = true) : -200 ≤ z ∧ z ≤ 200:=by
 cases d with
 | zero => rw [fitB] at h; exact fitF_bd h
 | succ d =>
  rw [fitB] at h
  split at h
  ·rw [Bool.and_eq_true] at h; exact fitF_bd h.1
  ·cases h
/-- What is known when the events from t on are done. -/
def gT (st z0 z1 : Int) (es : List Ev) (gv zr : Int) (m t : Nat) (k j : Nat) : Bool:=if t ≤ k then fitB st z0 z1 es gv zr m (m - 1 - k) ((j : Int) - 200) else fitF st z0 z1 es gv zr k ((j : Int) - 200)
/-- And the first p zeros of event i. -/
def gM (st z0 z1 : Int) (es : List Ev) (gv zr : Int) (m i p : Nat) (k j : Nat) : Bool:=if i < k ∨ (k = i ∧ j < p) then fitB st z0 z1 es gv zr m (m - 1 - k) ((j : Int) - 200) else fitF st z0 z1 es gv zr k ((j : Int) - 200)
section
variable (st z0 z1 : Int) (es : List Ev) (gv zr : Int)
theorem gT_start (m r j : Nat) (hr : r < m) : gF st z0 z1 es gv zr m 0 r j = gT st z0 z1 es gv zr m (m - 1) r j:=by
 unfold gF gT
 rw [decide_eq_true hr,Bool.true_or,Bool.true_and]
 split
 ·rw [show m - 1 - r = 0 by omega,fitB,show m - 1 = r by omega]
 ·rfl
theorem gT_in (m i r j : Nat) : gT st z0 z1 es gv zr m (i + 1) r j = gM st z0 z1 es gv zr m i 0 r j:=by
 unfold gT gM
 by_cases h : i + 1 ≤ r
 ·rw [if_pos h,if_pos (.inl (by omega))]
 ·rw [if_neg h,if_neg (by omega)]
theorem gM_out (m i r j : Nat) (hj : j < 401) : gM st z0 z1 es gv zr m i 401 r j = gT st z0 z1 es gv zr m i r j:=by
 unfold gT gM
 by_cases h : i ≤ r
 ·rw [if_pos h,if_pos (by omega)]
 ·rw [if_neg h,if_neg (by omega)]
theorem gM_put (m i p r j : Nat) : (if r = i ∧ j = p then fitB st z0 z1 es gv zr m (m - 1 - i) ((p : Int) - 200) else gM st z0 z1 es gv zr m i p r j) = gM st z0 z1 es gv zr m i (p + 1) r j:=by
 by_cases h : r = i ∧ j = p
 ·obtain ⟨rfl,rfl⟩:=h
  rw [if_pos ⟨rfl,rfl⟩]
  unfold gM
  rw [if_pos (.inr ⟨rfl,by omega⟩)]
 ·rw [if_neg h]
  unfold gM
  by_cases h1 : i < r ∨ (r = i ∧ j < p)
  ·rw [if_pos h1,if_pos (by omega)]
  ·rw [if_neg h1,if_neg (by omega)]
theorem may_B (m i p : Nat) (y : Int) : mayB (gM st z0 z1 es gv zr m i p) (i + 1) y = fitB st z0 z1 es gv zr m (m - 1 - (i + 1)) y:=by
 unfold mayB gM
 rw [if_pos (.inl (Nat.lt_succ_self i))]
 by_cases h : -200 ≤ y ∧ y ≤ 200
 ·rw [btw_t h,Bool.true_and,show (((y + 200).toNat : Nat) : Int) - 200 = y by omega]
 ·rw [btw_f h,Bool.false_and]
  cases hf : fitB st z0 z1 es gv zr m (m - 1 - (i + 1)) y with
  | false => rfl
  | true => exact absurd (fitB_bd hf) h
theorem gM_row (m i p : Nat) : gM st z0 z1 es gv zr m i p i p = fitF st z0 z1 es gv zr i ((p : Int) - 200):=by
 unfold gM
 rw [if_neg (by omega)]
theorem fitB_next {m i : Nat} {e : Ev} (hi : i + 1 < m) (he : es[i + 1]? = some e) (z : Int) : fitB st z0 z1 es gv zr m (m - 1 - i) z = (fitF st z0 z1 es gv zr i z && (rngL (z + e.c0) (z + e.c1)).any (fitB st z0 z1 es gv zr m (m - 1 - (i + 1)))):=by
 obtain ⟨d,hd⟩ : ∃ d,m - 1 - (i + 1) = d:=⟨_,rfl⟩
 rw [hd,show m - 1 - i = d + 1 by omega,fitB,show m - 1 - d = i + 1 by omega,he]
 dsimp only
 rw [show m - 1 - (d + 1) = i by omega]
end
/-- What is known by all. -/
def gB (st z0 z1 : Int) (es : List Ev) (gv zr : Int) (m : Nat) (k j : Nat) : Bool:=fitB st z0 z1 es gv zr m (m - 1 - k) ((j : Int) - 200)
def LearnPost (st z0 z1 : Int) (es : List Ev) (gv zr : Int) (m : Nat) (w : World) (e : Ending) (w' : World) : Prop :=
 (∃ (FA : Option Addr) (FC : Nat) (q : Nat → Nat),e = .returned (.tuple #[.agg #[.slice FA m FC],.bool (smF st z0 z1 es gv zr m)]) ∧ Grid w' w.heap.size FA m q (gB st z0 z1 es gv zr m)) ∧ Below w.heap.size w w'
set_option maxRecDepth 100000 in
set_option maxHeartbeats 8000000 in
theorem learn_fwd (st z0 z1 : Int) (EA : Option Addr) (k EC : Nat) (es : List Ev) (gv zr : Int) (m : Nat) (w : World) (hel : es.length = k) (hlog : LogOk st z0 z1 es) (hm : m ≤ k) (hgv : -1 ≤ gv) (hgv2 : gv ≤ 100) (hzr1 : -1000 ≤ zr) (hzr2 : zr ≤ 1000) (hA : EvsAt w w.heap.size EA es) :
  Calls Try.prog 59 #[.agg #[.int .i64 st,.int .i64 z0,.int .i64 z1,.slice EA k EC],.int .i64 (m : Int),.int .i64 gv,.int .i64 zr] w (LearnPost st z0 z1 es gv zr m w):=by
 have hk14 : k ≤ 14:=by have:=hlog.n; omega
 obtain ⟨hs1,hs2,hr1,hr2,hr3,-,hev⟩:=hlog
 have HEL:=Lib.hid hel
 have HEV:=Lib.hid hev
 clear hel hev
 have kL0:=(Bx.new w 26 #[.int .i64 st,.int .i64 z0,.int .i64 z1,.slice EA k EC]).alloc (.cells #[.slice none 0 0] 96)
 have k80:=Bx.at (w.alloc (.cells #[.int .i64 st,.int .i64 z0,.int .i64 z1,.slice EA k EC] 26)) 96 #[.slice none 0 0] (n:=w.heap.size + 1) (by simp)
 have hB0 : Below w.heap.size w ((w.alloc (.cells #[.int .i64 st,.int .i64 z0,.int .i64 z1,.slice EA k EC] 26)).alloc (.cells #[.slice none 0 0] 96)):=((Below.refl _ _).alloc (Nat.le_refl _) _).alloc (by simp) _
 have HK:=Lib.hid (And.intro kL0 (And.intro k80 hB0))
 clear kL0 k80 hB0
 go_enter Try.func59,Try.ntmps59
 go_upto_region 2 with (first | (go_at_call 89; refine (none_any m _ (by omega)).mono ?_; rintro e x1 ⟨⟨FA,FC,q,rfl,hG⟩,hq1⟩) | fail)
 have kL1:=(HK.out.1.call hq1).alloc (.cells #[.slice FA m FC] 96)
 have k81:=(HK.out.2.1.call hq1).alloc (.cells #[.slice FA m FC] 96)
 have kG1:=Bx.new x1 96 #[.slice FA m FC]
 have hB1:=(HK.out.2.2.trans (hq1.mono HK.out.2.2.size)).alloc (by have:=HK.out.2.2.size; have:=hq1.size; omega) (.cells #[.slice FA m FC] 96)
 have hx1 : w.heap.size + 1 < x1.heap.size:=by have:=(HK.out.2.1.call hq1).lt; omega
 have hG1 : Grid (x1.alloc (.cells #[.slice FA m FC] 96)) w.heap.size FA m q (fun _ _ => false):=by
  have h:=hG.alloc (.cells #[.slice FA m FC] 96)
  refine ⟨fun h0 => ?_,fun i hi => ⟨?_,(h.rows i hi).2⟩,h.inj⟩
  ·obtain ⟨o,cur,a,b,c,d⟩:=h.out h0
   exact ⟨o,cur,a,Nat.le_trans HK.out.2.2.size b,c,d⟩
  ·exact Nat.le_trans HK.out.2.2.size (h.rows i hi).1
 obtain ⟨b10,hb10⟩ : ∃ b,x1.heap.size = b:=⟨_,rfl⟩
 obtain ⟨x2,hx2⟩ : ∃ x,x1.alloc (.cells #[.slice FA m FC] 96) = x:=⟨_,rfl⟩
 rw [hx2] at kL1 k81 kG1 hB1 hG1 ⊢
 rw [hb10] at kG1 hx1 ⊢
 have I0 : KI w b10 st z0 z1 EA k EC m FA FC q (gF st z0 z1 es gv zr 0 0) x2:=KI.eq ⟨kL1,k81,kG1,hG1,hB1,hx1⟩ (fun r j _ _ => by unfold gF; simp)
 clear hb10 hx2 hG hq1 HK kL1 k81 kG1 hB1 hG1 hx1
 obtain ⟨l0,l1,l2,l3,lf,lz⟩:=I0.kL.four
 go_wp2_with fail
 clear l0 l1 l2 l3 lf lz
 go_loopw [12,11] (fun v12 v11 wr => ∃ i : Nat,i ≤ m ∧ v12 = .int .i64 i ∧ v11 = .bool (smF st z0 z1 es gv zr i) ∧ KI w b10 st z0 z1 EA k EC m FA FC q (gF st z0 z1 es gv zr i 0) wr) (fun v12 _ _ => m - (intOf v12).toNat)
 case atStart => exact ⟨0,by omega,rfl,by show Value.bool true = .bool (decide (z0 ≤ z1)); rw [decide_eq_true hr2],I0⟩
 case round =>
  clear I0
  obtain ⟨i,hi,rfl,rfl,I⟩:=hrel
  by_cases him : i < m
  ·have hie : i < es.length:=by rw [HEL.out]; omega
   obtain ⟨e,he⟩ : ∃ e,es[i]? = some e:=⟨_,List.getElem?_eq_getElem hie⟩
   have hok:=HEV.out e (List.mem_of_getElem? he)
   have HE:=Lib.hid he
   have HOK:=Lib.hid hok
   clear he hok
   go_wp2_with fail
   go_loopw [13,11] (fun v13 v11 wr => ∃ (p : Nat) (z : Int),p ≤ 401 ∧ v13 = .int .i64 z ∧ Hid (z = (p : Int) - 200) ∧ v11 = .bool ((upTo (-200) p).any (fitF st z0 z1 es gv zr i)) ∧ KI w b10 st z0 z1 EA k EC m FA FC q (gF st z0 z1 es gv zr i p) wr) (fun v13 _ _ => (401 - (intOf v13 + 200)).toNat)
   case atStart => exact ⟨0,-200,by omega,rfl,Lib.hid (by omega),by simp [upTo],I⟩
   case round =>
    clear I
    obtain ⟨w3,rfl⟩ : ∃ x,x = wr:=⟨_,rfl⟩
    obtain ⟨p,z,hp,rfl,hz,rfl,I⟩:=hrel
    have hzb : z + 200 ≤ p ∧ p ≤ z + 200:=by have:=hz.out; omega
    by_cases hp4 : z ≤ 200
    ·obtain ⟨sm,hsm⟩ : ∃ b,(upTo (-200) p).any (fitF st z0 z1 es gv zr i) = b:=⟨_,rfl⟩
     rw [hsm]
     have HSM:=Lib.hid hsm
     clear hsm
     have hpn : Hid ((upTo (-200) (p + 1)).any (fitF st z0 z1 es gv zr i) = (sm || fitF st z0 z1 es gv zr i z)):=by unfold Hid; rw [any_upTo,HSM.out,show (-200 : Int) + p = z by have:=hz.out; omega]
     have hpz : Hid ((p : Int) - 200 = z):=hz.out.symm
     obtain ⟨l0,l1,l2,l3,lf,lz⟩:=I.kL.four
     have hE3:=(Sl.below hA I.hb).more I.hb.size
     go_upto_region 11 with (first | (go_at_call 90; refine (refLoads_any st z0 z1 EA k EC es i e z _ HEL.out hk14 hE3 HE.out HOK.out hs1 hs2 (by omega) (by omega)).mono ?_; rintro r x3 ⟨rfl,hq3⟩) | fail)
     clear l0 l1 l2 l3 lf lz
     have hq3b:=hq3
     obtain ⟨lo,hlo⟩ : ∃ x,(ldRng st e z).1 = x:=⟨_,rfl⟩
     obtain ⟨hi2,hhi⟩ : ∃ x,(ldRng st e z).2 = x:=⟨_,rfl⟩
     rw [hlo,hhi]
     have HLO:=Lib.hid (And.intro hlo hhi)
     clear hlo hhi
     have I3:=(I.bel hq3).bel ((Below.refl _ _).alloc (Nat.le_refl _) (.cells #[.int .i64 lo,.int .i64 hi2] 23))
     have k14:=Bx.new x3 23 #[.int .i64 lo,.int .i64 hi2]
     obtain ⟨x4,hx4⟩ : ∃ x,x3.alloc (.cells #[.int .i64 lo,.int .i64 hi2] 23) = x:=⟨_,rfl⟩
     rw [hx4] at I3 k14 ⊢
     obtain ⟨b14,hb14⟩ : ∃ b,x3.heap.size = b:=⟨_,rfl⟩
     rw [hb14] at k14 ⊢
     clear hx4 hb14 hq3 hq3b I
     obtain ⟨g0,g1,gf,gz⟩:=k14.two
     have hfo : fitF st z0 z1 es gv zr i z = fitOne st e gv zr i z (okF st z0 z1 es gv zr i):=fitF_ok HE.out z
     have HFO:=Lib.hid hfo
     clear hfo
     by_cases hA1 : hi2 < lo
     ·have c1 : decide (hi2 < lo) = true:=decide_eq_true hA1
      have hff : Hid (fitF st z0 z1 es gv zr i z = false):=by unfold Hid; rw [HFO.out]; unfold fitOne; rw [HLO.out.1,HLO.out.2,decide_eq_true hA1]; simp
      have hsm2 : Hid ((upTo (-200) (p + 1)).any (fitF st z0 z1 es gv zr i) = sm):=by unfold Hid; rw [hpn.out,hff.out,Bool.or_false]
      clear hpn
      go_wp2_with fail
      go_roundw
      case rel => exact ⟨p + 1,z + 1,by omega,rfl,Lib.hid (by have:=hz.out; omega),by rw [hsm2.out],I3.eq (fun r j _ _ => gF_skip (by rw [hpz.out]; exact hff.out) r j)⟩
      case measure => simp [intOf]; omega
     ·have c1 : decide (hi2 < lo) = false:=decide_eq_false hA1
      by_cases hB1 : (i : Int) = gv
      ·have c2 : ((i : Int) == gv) = true:=by rw [beq_iff_eq]; exact hB1
       have HB1:=Lib.hid hB1
       clear hB1
       by_cases hC1 : z = zr
       ·have c3 : (z != zr) = false:=by rw [bne_eq_false_iff_eq]; exact hC1
        have hcond : Hid ((decide ((ldRng st e z).2 < (ldRng st e z).1) || (decide ((i : Int) = gv) && decide (z ≠ zr))) = false):=by unfold Hid; rw [HLO.out.1,HLO.out.2,decide_eq_false hA1,decide_eq_false (show ¬ (z ≠ zr) from fun h => h hC1)]; simp
        have HC1:=Lib.hid hC1
        clear hC1
        have hcb : -200 ≤ e.c0 ∧ e.c0 ≤ e.c1 ∧ e.c1 ≤ 200:=⟨HOK.out.c1,HOK.out.c2,HOK.out.c3⟩
        have hE4:=(Sl.below hA I3.hb).more I3.hb.size
        obtain ⟨ad,rfl,hab,-,-,-,v3,v4⟩:=EvsAt.at_ hE4 (show i < es.length by rw [HEL.out]; omega)
        have hge : es[i]'(by rw [HEL.out]; omega) = e:=(List.getElem?_eq_some_iff.1 HE.out).2
        rw [hge] at v3 v4
        clear hge hE4
        obtain ⟨ec0,hec0⟩ : ∃ x,e.c0 = x:=⟨_,rfl⟩
        obtain ⟨ec1,hec1⟩ : ∃ x,e.c1 = x:=⟨_,rfl⟩
        rw [hec0] at v3 hcb
        rw [hec1] at v4 hcb
        have HEC:=Lib.hid (And.intro hec0 hec1)
        clear hec0 hec1
        obtain ⟨l0,l1,l2,l3,lf,lz⟩:=I3.kL.four
        go_upto_region 13 with fail
        clear l0 l1 l2 l3 lf lz v3 v4 g0 g1 gf gz c1 c2
        try clear c3
        have I5:=I3.bel ((Below.refl _ _).alloc (Nat.le_refl _) (.cells #[.int .i64 ec0,.int .i64 ec1] 23))
        have k15:=Bx.new x4 23 #[.int .i64 ec0,.int .i64 ec1]
        obtain ⟨x5,hx5⟩ : ∃ x,x4.alloc (.cells #[.int .i64 ec0,.int .i64 ec1] 23) = x:=⟨_,rfl⟩
        rw [hx5] at I5 k15 ⊢
        obtain ⟨b15,hb15⟩ : ∃ b,x4.heap.size = b:=⟨_,rfl⟩
        rw [hb15] at k15 ⊢
        clear hx5 hb15 I3 k14
        obtain ⟨r0,r1,rf,rz⟩:=k15.two
        go_wp2_with fail
        clear r0 r1 rf rz
        go_loopw [17,16] (fun v17 v16 wr => ∃ (j : Nat) (y : Int),v17 = .int .i64 y ∧ Hid (y = z - ec1 + j) ∧ y ≤ z - ec0 + 1 ∧ v16 = .bool ((upTo (z - ec1) j).any (okF st z0 z1 es gv zr i)) ∧ Below x5.heap.size x5 wr) (fun v17 _ _ => (z - ec0 + 1 - intOf v17).toNat)
        case atStart => exact ⟨0,z - ec1,rfl,Lib.hid (by omega),by omega,by simp [upTo],Below.refl _ _⟩
        case round =>
         obtain ⟨w6,rfl⟩ : ∃ x,x = wr:=⟨_,rfl⟩
         obtain ⟨j,y,rfl,hy,hyc,rfl,hB6⟩:=hrel
         have I6:=I5.bel hB6
         have k156:=k15.call hB6
         obtain ⟨r0,r1,rf,rz⟩:=k156.two
         have hyl : z - ec1 ≤ y:=by have:=hy.out; omega
         obtain ⟨ok,hok1⟩ : ∃ x,(upTo (z - ec1) j).any (okF st z0 z1 es gv zr i) = x:=⟨_,rfl⟩
         rw [hok1]
         have HOK1:=Lib.hid hok1
         clear hok1
         by_cases hyz : y ≤ z - ec0
         ·have hnx : Hid ((upTo (z - ec1) (j + 1)).any (okF st z0 z1 es gv zr i) = (ok || okF st z0 z1 es gv zr i y)):=by unfold Hid; rw [any_upTo,HOK1.out,show z - ec1 + (j : Int) = y by have:=hy.out; omega]
          cases ok
          ·obtain ⟨rr,hrr⟩ : ∃ x,okF st z0 z1 es gv zr i y = x:=⟨_,rfl⟩
           rw [hrr] at hnx
           have HRR:=Lib.hid hrr
           clear hrr
           by_cases hi0 : i = 0
           ·have e1 : btwB y z0 z1 = rr:=by rw [← HRR.out,hi0]; unfold btwB okF; exact Bool.decide_and _ _
            have hj1 : ((i : Int) == 0) = true:=by rw [beq_iff_eq]; omega
            have hj3 : decide (0 < i) = false:=by rw [decide_eq_false_iff_not]; omega
            have hj4 : decide ((0 : Int) < (i : Int)) = false:=by rw [decide_eq_false_iff_not]; omega
            have HI0:=Lib.hid hi0
            clear hi0
            obtain ⟨l0,l1,l2,l3,lf,lz⟩:=I6.kL.four
            cases rr
            ·go_wp2_with (first | (go_at_call 64; refine (between_b _ _ _ _).mono ?_; rintro er y1 ⟨rfl,rfl⟩) | fail)
             go_roundw
             case rel => exact ⟨j + 1,y + 1,rfl,Lib.hid (by have:=hy.out; omega),by omega,by rw [hnx.out]; simp,hB6⟩
             case measure => simp [intOf]; omega
            ·go_wp2_with (first | (go_at_call 64; refine (between_b _ _ _ _).mono ?_; rintro er y1 ⟨rfl,rfl⟩) | fail)
             go_roundw
             case rel => exact ⟨j + 1,y + 1,rfl,Lib.hid (by have:=hy.out; omega),by omega,by rw [hnx.out]; simp,hB6⟩
             case measure => simp [intOf]; omega
           ·obtain ⟨i1,hi1⟩ : ∃ r,i = r + 1:=⟨i - 1,by omega⟩
            have e1 : mayB (gF st z0 z1 es gv zr i p) i1 y = rr:=by rw [← HRR.out,hi1]; exact may_F
            have him1 : i1 < m:=by omega
            have hj1 : ((i : Int) == 0) = false:=by rw [beq_eq_false_iff_ne]; omega
            have hj2 : (0 : Int) < (i : Int):=by omega
            have hj3 : 0 < i:=by omega
            obtain ⟨a0,af,az⟩:=I6.kG.one
            have hwi2 : (i : Int) - 1 = (i1 : Int):=by omega
            have hwi : IntKind.i64.wrap ((i : Int) - 1) = (i1 : Int):=by rw [hwi2]; exact IntWalk.i64_in _ (by omega)
            have HI1:=Lib.hid hi1
            clear hi1
            go_wp2_with (first | (go_at_call 85; refine (may_any w.heap.size FA m FC q _ i1 y _ I6.gr (by omega) him1 (by omega) (by omega)).mono ?_; rintro er y1 ⟨rfl,hq7⟩; rw [e1]) | fail)
            go_roundw
            case rel => exact ⟨j + 1,y + 1,rfl,Lib.hid (by have:=hy.out; omega),by omega,by rw [hnx.out]; simp,hB6.trans (hq7.mono hB6.size)⟩
            case measure => simp [intOf]; omega
          ·go_wp2_with fail
           go_roundw
           case rel => exact ⟨j + 1,y + 1,rfl,Lib.hid (by have:=hy.out; omega),by omega,by rw [hnx.out]; simp,hB6⟩
           case measure => simp [intOf]; omega
         ·have hjj : j = (ec1 - ec0 + 1).toNat:=by have:=hy.out; omega
          have hfk : Hid (fitF st z0 z1 es gv zr i z = ok):=by unfold Hid; rw [HFO.out]; unfold fitOne; rw [hcond.out,HEC.out.1,HEC.out.2,decide_eq_true (show -200 ≤ z by omega),decide_eq_true hp4,← HOK1.out,hjj]; unfold rngL upTo; rw [show (z - ec0 - (z - ec1) + 1).toNat = (ec1 - ec0 + 1).toNat by congr 1; omega]; simp
          have hsm2 : Hid ((upTo (-200) (p + 1)).any (fitF st z0 z1 es gv zr i) = (sm || ok)):=by unfold Hid; rw [hpn.out,hfk.out]
          clear hpn hjj
          have hp41 : p < 401:=by omega
          have hw2 : z + 200 = (p : Int):=by omega
          have hw : IntKind.i64.wrap (z + 200) = (p : Int):=by rw [hw2]; exact IntWalk.i64_in _ (by omega)
          have IP:=I6.put (p:=p) him ok
          obtain ⟨o,rfl,ho,u0,u1,uf,uq⟩:=I6.gr.at_ him
          have u2:=u1 p hp41
          obtain ⟨vv,hvv⟩ : ∃ x,gF st z0 z1 es gv zr i p i p = x:=⟨_,rfl⟩
          rw [hvv] at u2
          clear u1 hvv
          obtain ⟨a0,af,az⟩:=I6.kG.one
          cases sm
          ·go_wp2_with fail
           go_roundw
           case rel => exact ⟨p + 1,z + 1,by omega,rfl,Lib.hid (by have:=hz.out; omega),by rw [hsm2.out]; simp,IP.eq (fun r j _ _ => by rw [← gF_put,hpz.out,hfk.out])⟩
           case measure => simp [intOf]; omega
          ·go_wp2_with fail
           go_roundw
           case rel => exact ⟨p + 1,z + 1,by omega,rfl,Lib.hid (by have:=hz.out; omega),by rw [hsm2.out]; simp,IP.eq (fun r j _ _ => by rw [← gF_put,hpz.out,hfk.out])⟩
           case measure => simp [intOf]; omega
       ·have c3 : (z != zr) = true:=by rw [bne_iff_ne]; exact hC1
        have hff : Hid (fitF st z0 z1 es gv zr i z = false):=by unfold Hid; rw [HFO.out]; unfold fitOne; rw [decide_eq_true HB1.out,decide_eq_true hC1]; simp
        have hsm2 : Hid ((upTo (-200) (p + 1)).any (fitF st z0 z1 es gv zr i) = sm):=by unfold Hid; rw [hpn.out,hff.out,Bool.or_false]
        clear hpn
        go_wp2_with fail
        go_roundw
        case rel => exact ⟨p + 1,z + 1,by omega,rfl,Lib.hid (by have:=hz.out; omega),by rw [hsm2.out],I3.eq (fun r j _ _ => gF_skip (by rw [hpz.out]; exact hff.out) r j)⟩
        case measure => simp [intOf]; omega
      ·have c2 : ((i : Int) == gv) = false:=by rw [beq_eq_false_iff_ne]; exact hB1
       have hcond : Hid ((decide ((ldRng st e z).2 < (ldRng st e z).1) || (decide ((i : Int) = gv) && decide (z ≠ zr))) = false):=by unfold Hid; rw [HLO.out.1,HLO.out.2,decide_eq_false hA1,decide_eq_false hB1]; simp
       have hcb : -200 ≤ e.c0 ∧ e.c0 ≤ e.c1 ∧ e.c1 ≤ 200:=⟨HOK.out.c1,HOK.out.c2,HOK.out.c3⟩
       have hE4:=(Sl.below hA I3.hb).more I3.hb.size
       obtain ⟨ad,rfl,hab,-,-,-,v3,v4⟩:=EvsAt.at_ hE4 (show i < es.length by rw [HEL.out]; omega)
       have hge : es[i]'(by rw [HEL.out]; omega) = e:=(List.getElem?_eq_some_iff.1 HE.out).2
       rw [hge] at v3 v4
       clear hge hE4
       obtain ⟨ec0,hec0⟩ : ∃ x,e.c0 = x:=⟨_,rfl⟩
       obtain ⟨ec1,hec1⟩ : ∃ x,e.c1 = x:=⟨_,rfl⟩
       rw [hec0] at v3 hcb
       rw [hec1] at v4 hcb
       have HEC:=Lib.hid (And.intro hec0 hec1)
       clear hec0 hec1
       obtain ⟨l0,l1,l2,l3,lf,lz⟩:=I3.kL.four
       go_upto_region 13 with fail
       clear l0 l1 l2 l3 lf lz v3 v4 g0 g1 gf gz c1 c2
       try clear c3
       have I5:=I3.bel ((Below.refl _ _).alloc (Nat.le_refl _) (.cells #[.int .i64 ec0,.int .i64 ec1] 23))
       have k15:=Bx.new x4 23 #[.int .i64 ec0,.int .i64 ec1]
       obtain ⟨x5,hx5⟩ : ∃ x,x4.alloc (.cells #[.int .i64 ec0,.int .i64 ec1] 23) = x:=⟨_,rfl⟩
       rw [hx5] at I5 k15 ⊢
       obtain ⟨b15,hb15⟩ : ∃ b,x4.heap.size = b:=⟨_,rfl⟩
       rw [hb15] at k15 ⊢
       clear hx5 hb15 I3 k14
       obtain ⟨r0,r1,rf,rz⟩:=k15.two
       go_wp2_with fail
       clear r0 r1 rf rz
       go_loopw [17,16] (fun v17 v16 wr => ∃ (j : Nat) (y : Int),v17 = .int .i64 y ∧ Hid (y = z - ec1 + j) ∧ y ≤ z - ec0 + 1 ∧ v16 = .bool ((upTo (z - ec1) j).any (okF st z0 z1 es gv zr i)) ∧ Below x5.heap.size x5 wr) (fun v17 _ _ => (z - ec0 + 1 - intOf v17).toNat)
       case atStart => exact ⟨0,z - ec1,rfl,Lib.hid (by omega),by omega,by simp [upTo],Below.refl _ _⟩
       case round =>
        obtain ⟨w6,rfl⟩ : ∃ x,x = wr:=⟨_,rfl⟩
        obtain ⟨j,y,rfl,hy,hyc,rfl,hB6⟩:=hrel
        have I6:=I5.bel hB6
        have k156:=k15.call hB6
        obtain ⟨r0,r1,rf,rz⟩:=k156.two
        have hyl : z - ec1 ≤ y:=by have:=hy.out; omega
        obtain ⟨ok,hok1⟩ : ∃ x,(upTo (z - ec1) j).any (okF st z0 z1 es gv zr i) = x:=⟨_,rfl⟩
        rw [hok1]
        have HOK1:=Lib.hid hok1
        clear hok1
        by_cases hyz : y ≤ z - ec0
        ·have hnx : Hid ((upTo (z - ec1) (j + 1)).any (okF st z0 z1 es gv zr i) = (ok || okF st z0 z1 es gv zr i y)):=by unfold Hid; rw [any_upTo,HOK1.out,show z - ec1 + (j : Int) = y by have:=hy.out; omega]
         cases ok
         ·obtain ⟨rr,hrr⟩ : ∃ x,okF st z0 z1 es gv zr i y = x:=⟨_,rfl⟩
          rw [hrr] at hnx
          have HRR:=Lib.hid hrr
          clear hrr
          by_cases hi0 : i = 0
          ·have e1 : btwB y z0 z1 = rr:=by rw [← HRR.out,hi0]; unfold btwB okF; exact Bool.decide_and _ _
           have hj1 : ((i : Int) == 0) = true:=by rw [beq_iff_eq]; omega
           have hj3 : decide (0 < i) = false:=by rw [decide_eq_false_iff_not]; omega
           have hj4 : decide ((0 : Int) < (i : Int)) = false:=by rw [decide_eq_false_iff_not]; omega
           have HI0:=Lib.hid hi0
           clear hi0
           obtain ⟨l0,l1,l2,l3,lf,lz⟩:=I6.kL.four
           cases rr
           ·go_wp2_with (first | (go_at_call 64; refine (between_b _ _ _ _).mono ?_; rintro er y1 ⟨rfl,rfl⟩) | fail)
            go_roundw
            case rel => exact ⟨j + 1,y + 1,rfl,Lib.hid (by have:=hy.out; omega),by omega,by rw [hnx.out]; simp,hB6⟩
            case measure => simp [intOf]; omega
           ·go_wp2_with (first | (go_at_call 64; refine (between_b _ _ _ _).mono ?_; rintro er y1 ⟨rfl,rfl⟩) | fail)
            go_roundw
            case rel => exact ⟨j + 1,y + 1,rfl,Lib.hid (by have:=hy.out; omega),by omega,by rw [hnx.out]; simp,hB6⟩
            case measure => simp [intOf]; omega
          ·obtain ⟨i1,hi1⟩ : ∃ r,i = r + 1:=⟨i - 1,by omega⟩
           have e1 : mayB (gF st z0 z1 es gv zr i p) i1 y = rr:=by rw [← HRR.out,hi1]; exact may_F
           have him1 : i1 < m:=by omega
           have hj1 : ((i : Int) == 0) = false:=by rw [beq_eq_false_iff_ne]; omega
           have hj2 : (0 : Int) < (i : Int):=by omega
           have hj3 : 0 < i:=by omega
           obtain ⟨a0,af,az⟩:=I6.kG.one
           have hwi2 : (i : Int) - 1 = (i1 : Int):=by omega
           have hwi : IntKind.i64.wrap ((i : Int) - 1) = (i1 : Int):=by rw [hwi2]; exact IntWalk.i64_in _ (by omega)
           have HI1:=Lib.hid hi1
           clear hi1
           go_wp2_with (first | (go_at_call 85; refine (may_any w.heap.size FA m FC q _ i1 y _ I6.gr (by omega) him1 (by omega) (by omega)).mono ?_; rintro er y1 ⟨rfl,hq7⟩; rw [e1]) | fail)
           go_roundw
           case rel => exact ⟨j + 1,y + 1,rfl,Lib.hid (by have:=hy.out; omega),by omega,by rw [hnx.out]; simp,hB6.trans (hq7.mono hB6.size)⟩
           case measure => simp [intOf]; omega
         ·go_wp2_with fail
          go_roundw
          case rel => exact ⟨j + 1,y + 1,rfl,Lib.hid (by have:=hy.out; omega),by omega,by rw [hnx.out]; simp,hB6⟩
          case measure => simp [intOf]; omega
        ·have hjj : j = (ec1 - ec0 + 1).toNat:=by have:=hy.out; omega
         have hfk : Hid (fitF st z0 z1 es gv zr i z = ok):=by unfold Hid; rw [HFO.out]; unfold fitOne; rw [hcond.out,HEC.out.1,HEC.out.2,decide_eq_true (show -200 ≤ z by omega),decide_eq_true hp4,← HOK1.out,hjj]; unfold rngL upTo; rw [show (z - ec0 - (z - ec1) + 1).toNat = (ec1 - ec0 + 1).toNat by congr 1; omega]; simp
         have hsm2 : Hid ((upTo (-200) (p + 1)).any (fitF st z0 z1 es gv zr i) = (sm || ok)):=by unfold Hid; rw [hpn.out,hfk.out]
         clear hpn hjj
         have hp41 : p < 401:=by omega
         have hw2 : z + 200 = (p : Int):=by omega
         have hw : IntKind.i64.wrap (z + 200) = (p : Int):=by rw [hw2]; exact IntWalk.i64_in _ (by omega)
         have IP:=I6.put (p:=p) him ok
         obtain ⟨o,rfl,ho,u0,u1,uf,uq⟩:=I6.gr.at_ him
         have u2:=u1 p hp41
         obtain ⟨vv,hvv⟩ : ∃ x,gF st z0 z1 es gv zr i p i p = x:=⟨_,rfl⟩
         rw [hvv] at u2
         clear u1 hvv
         obtain ⟨a0,af,az⟩:=I6.kG.one
         cases sm
         ·go_wp2_with fail
          go_roundw
          case rel => exact ⟨p + 1,z + 1,by omega,rfl,Lib.hid (by have:=hz.out; omega),by rw [hsm2.out]; simp,IP.eq (fun r j _ _ => by rw [← gF_put,hpz.out,hfk.out])⟩
          case measure => simp [intOf]; omega
         ·go_wp2_with fail
          go_roundw
          case rel => exact ⟨p + 1,z + 1,by omega,rfl,Lib.hid (by have:=hz.out; omega),by rw [hsm2.out]; simp,IP.eq (fun r j _ _ => by rw [← gF_put,hpz.out,hfk.out])⟩
          case measure => simp [intOf]; omega
    ·obtain rfl : p = 401:=by omega
     go_wp2_with fail
     go_roundw
     case rel => exact ⟨i + 1,by omega,by go_num,rfl,I.eq (fun r j _ hj => gF_next st z0 z1 es gv zr i r j hj)⟩
     case measure => simp [intOf]; omega
  ·obtain rfl : i = m:=by omega
   obtain ⟨w4,rfl⟩ : ∃ x,x = wr:=⟨_,rfl⟩
   have IT:=I.eq (fun r j hr _ => gT_start st z0 z1 es gv zr i r j hr)
   clear I
   obtain ⟨sm,hsm⟩ : ∃ b,smF st z0 z1 es gv zr i = b:=⟨_,rfl⟩
   rw [hsm]
   have HSM:=Lib.hid hsm
   clear hsm
   go_wp2_with fail
   go_loopw [18] (fun v18 wr => ∃ (t : Nat) (y : Int),v18 = .int .i64 y ∧ Hid (y = (t : Int) - 1 ∨ (t = 0 ∧ y = -2)) ∧ t ≤ i - 1 ∧ -2 ≤ y ∧ KI w b10 st z0 z1 EA k EC i FA FC q (gT st z0 z1 es gv zr i t) wr) (fun v18 _ => (intOf v18 + 2).toNat)
   case atStart => exact ⟨i - 1,(i : Int) - 2,rfl,Lib.hid (by omega),by omega,by omega,IT⟩
   case round =>
    clear IT
    obtain ⟨w5,rfl⟩ : ∃ x,x = wr:=⟨_,rfl⟩
    obtain ⟨t,y,rfl,hyt,ht,hy2,I⟩:=hrel
    by_cases hy0 : 0 ≤ y
    ·obtain ⟨n1,hn1⟩ : ∃ r : Nat,y = r:=⟨y.toNat,by omega⟩
     subst hn1
     have htn : t = n1 + 1:=by have:=hyt.out; omega
     subst htn
     have hn1i : n1 + 1 < i:=by omega
     have hie : n1 + 1 < es.length:=by rw [HEL.out]; omega
     obtain ⟨e,he⟩ : ∃ e,es[n1 + 1]? = some e:=⟨_,List.getElem?_eq_getElem hie⟩
     have hok:=HEV.out e (List.mem_of_getElem? he)
     have hcb : -200 ≤ e.c0 ∧ e.c0 ≤ e.c1 ∧ e.c1 ≤ 200:=⟨hok.c1,hok.c2,hok.c3⟩
     have hE4:=(Sl.below hA I.hb).more I.hb.size
     obtain ⟨ad,rfl,hab,-,-,-,v3,v4⟩:=EvsAt.at_ hE4 hie
     have hge : es[n1 + 1] = e:=(List.getElem?_eq_some_iff.1 he).2
     rw [hge] at v3 v4
     have HE:=Lib.hid he
     clear hge hE4 hok he hie
     obtain ⟨ec0,hec0⟩ : ∃ x,e.c0 = x:=⟨_,rfl⟩
     obtain ⟨ec1,hec1⟩ : ∃ x,e.c1 = x:=⟨_,rfl⟩
     rw [hec0] at v3 hcb
     rw [hec1] at v4 hcb
     have HEC:=Lib.hid (And.intro hec0 hec1)
     clear hec0 hec1
     have IM:=I.eq (fun r j _ _ => gT_in st z0 z1 es gv zr i n1 r j)
     clear I
     obtain ⟨l0,l1,l2,l3,lf,lz⟩:=IM.kL.four
     have hki : n1 + 1 < k:=by omega
     have hw1 : IntKind.i64.wrap ((n1 : Int) + 1) = (n1 : Int) + 1:=IntWalk.i64_in _ (by omega)
     have ht1 : ((n1 : Int) + 1).toNat = n1 + 1:=by omega
     have hbk : (n1 : Int) + 1 < (k : Int):=by omega
     have hb0 : (0 : Int) ≤ (n1 : Int) + 1:=by omega
     go_upto_region 23 with fail
     clear l0 l1 l2 l3 lf lz v3 v4
     have I5:=IM.bel ((Below.refl _ _).alloc (Nat.le_refl _) (.cells #[.int .i64 ec0,.int .i64 ec1] 23))
     have k19:=Bx.new w5 23 #[.int .i64 ec0,.int .i64 ec1]
     obtain ⟨x5,hx5⟩ : ∃ x,w5.alloc (.cells #[.int .i64 ec0,.int .i64 ec1] 23) = x:=⟨_,rfl⟩
     rw [hx5] at I5 k19 ⊢
     obtain ⟨b19,hb19⟩ : ∃ b,w5.heap.size = b:=⟨_,rfl⟩
     rw [hb19] at k19 ⊢
     clear hx5 hb19 IM
     go_wp2_with fail
     go_loopw [20] (fun v20 wr => ∃ (p : Nat) (z : Int),p ≤ 401 ∧ v20 = .int .i64 z ∧ Hid (z = (p : Int) - 200) ∧ Bx wr b19 23 #[.int .i64 ec0,.int .i64 ec1] ∧ KI w b10 st z0 z1 (some ad) k EC i FA FC q (gM st z0 z1 es gv zr i n1 p) wr) (fun v20 _ => (401 - (intOf v20 + 200)).toNat)
     case atStart => exact ⟨0,-200,by omega,rfl,Lib.hid (by omega),k19,I5⟩
     case round =>
      clear I5 k19
      obtain ⟨w6,rfl⟩ : ∃ x,x = wr:=⟨_,rfl⟩
      obtain ⟨p,z,hp,rfl,hz,k19,I⟩:=hrel
      have hzb : z + 200 ≤ p ∧ p ≤ z + 200:=by have:=hz.out; omega
      by_cases hp4 : z ≤ 200
      ·obtain ⟨r0,r1,rf,rz⟩:=k19.two
       go_wp2_with fail
       clear r0 r1 rf rz
       go_loopw [22,21] (fun v22 v21 wr => ∃ (j : Nat) (y : Int),v22 = .int .i64 y ∧ Hid (y = z + ec0 + j) ∧ y ≤ z + ec1 + 1 ∧ v21 = .bool ((upTo (z + ec0) j).any (fitB st z0 z1 es gv zr i (i - 1 - (n1 + 1)))) ∧ Below w6.heap.size w6 wr) (fun v22 _ _ => (z + ec1 + 1 - intOf v22).toNat)
       case atStart => exact ⟨0,z + ec0,rfl,Lib.hid (by omega),by omega,by simp [upTo],Below.refl _ _⟩
       case round =>
        obtain ⟨w7,rfl⟩ : ∃ x,x = wr:=⟨_,rfl⟩
        obtain ⟨j,y,rfl,hy,hyc,rfl,hB7⟩:=hrel
        have I7:=I.bel hB7
        have k197:=k19.call hB7
        obtain ⟨r0,r1,rf,rz⟩:=k197.two
        have hyl : z + ec0 ≤ y:=by have:=hy.out; omega
        obtain ⟨ok,hok1⟩ : ∃ x,(upTo (z + ec0) j).any (fitB st z0 z1 es gv zr i (i - 1 - (n1 + 1))) = x:=⟨_,rfl⟩
        rw [hok1]
        have HOK1:=Lib.hid hok1
        clear hok1
        by_cases hyz : y ≤ z + ec1
        ·obtain ⟨rr,hrr⟩ : ∃ x,fitB st z0 z1 es gv zr i (i - 1 - (n1 + 1)) y = x:=⟨_,rfl⟩
         have hnx : Hid ((upTo (z + ec0) (j + 1)).any (fitB st z0 z1 es gv zr i (i - 1 - (n1 + 1))) = (ok || rr)):=by unfold Hid; rw [any_upTo,HOK1.out,show z + ec0 + (j : Int) = y by have:=hy.out; omega,hrr]
         have e1 : mayB (gM st z0 z1 es gv zr i n1 p) (n1 + 1) y = rr:=by rw [may_B]; exact hrr
         have HRR:=Lib.hid hrr
         clear hrr
         have hmay:=may_any w.heap.size FA i FC q _ (n1 + 1) y w7 I7.gr (by omega) hn1i (by omega) (by omega)
         rw [show (((n1 + 1 : Nat)) : Int) = (n1 : Int) + 1 by omega] at hmay
         have HMAY:=Lib.hid hmay
         clear hmay
         obtain ⟨a0,af,az⟩:=I7.kG.one
         cases ok
         ·go_wp2_with (first | (go_at_call 85; refine HMAY.out.mono ?_; rintro er y1 ⟨rfl,hq7⟩; rw [e1]) | fail)
          go_roundw
          case rel => exact ⟨j + 1,y + 1,rfl,Lib.hid (by have:=hy.out; omega),by omega,by rw [hnx.out]; simp,hB7.trans (hq7.mono hB7.size)⟩
          case measure => simp [intOf]; omega
         ·go_wp2_with fail
          go_roundw
          case rel => exact ⟨j + 1,y + 1,rfl,Lib.hid (by have:=hy.out; omega),by omega,by rw [hnx.out]; simp,hB7⟩
          case measure => simp [intOf]; omega
        ·have hjj : j = (ec1 - ec0 + 1).toNat:=by have:=hy.out; omega
         have hn1i2 : n1 < i:=by omega
         have hp41 : p < 401:=by omega
         have hwz2 : z + 200 = (p : Int):=by omega
         have hwz : IntKind.i64.wrap (z + 200) = (p : Int):=by rw [hwz2]; exact IntWalk.i64_in _ (by omega)
         have hwp : IntKind.i64.wrap (p : Int) = (p : Int):=IntWalk.i64_in _ (by omega)
         have hp42 : (p : Int) < 401:=by omega
         obtain ⟨ff,hff⟩ : ∃ x,fitF st z0 z1 es gv zr n1 z = x:=⟨_,rfl⟩
         have hpz : Hid ((p : Int) - 200 = z):=hz.out.symm
         have hfk : Hid (fitB st z0 z1 es gv zr i (i - 1 - n1) z = (ff && ok)):=by unfold Hid; rw [fitB_next st z0 z1 es gv zr hn1i HE.out,hff,HEC.out.1,HEC.out.2,← HOK1.out,hjj]; unfold rngL upTo; rw [show (z + ec1 - (z + ec0) + 1).toNat = (ec1 - ec0 + 1).toNat by congr 1; omega]
         have hrow : gM st z0 z1 es gv zr i n1 p n1 p = ff:=by rw [gM_row,hpz.out]; exact hff
         have IP:=I7.put (p:=p) hn1i2 (ff && ok)
         have k19P:=k197.far (p:=⟨q n1,p,none⟩) (fun e => k197.ne (I7.gr.rows n1 hn1i2).2 (by decide) e) (.bool (ff && ok))
         obtain ⟨o,rfl,ho,u0,u1,uf,uq⟩:=I7.gr.at_ hn1i2
         have u2:=u1 p hp41
         rw [hrow] at u2
         have HU:=Lib.hid (And.intro u0 u2)
         have HFF:=Lib.hid hff
         clear u1 hrow hff hjj u0 u2
         go_upto_region 31 with fail
         clear r0 r1 rf rz
         cases ff
         ·refine AnyG.startC (by kernel_rfl) ?_
          refine AnyG.takeP (i:=0) (v:=?_) rfl (by kernel_rfl) (fun _ _ _ h => h) rfl ?_ ?_
          rotate_left
          ·(intro w'; go_simp; try with_reducible rfl)
          try simp only [Act.put,Sp1,Sp2,Sp3,Sp4,Sp5,Sp6]
          refine AnyG.takeP (i:=2) (v:=?_) rfl (by kernel_rfl) (fun _ _ _ h => h) rfl ?_ ?_
          rotate_left
          ·(intro w'; go_simp; try with_reducible rfl)
          try simp only [Act.put,Sp1,Sp2,Sp3,Sp4,Sp5,Sp6]
          refine AnyG.takeP (i:=5) (v:=?_) rfl (by kernel_rfl) (fun _ _ _ h => h) rfl ?_ ?_
          rotate_left
          ·(intro w'; go_simp; try with_reducible rfl)
          try simp only [Act.put,Sp1,Sp2,Sp3,Sp4,Sp5,Sp6]
          refine AnyG.takeP (i:=6) (v:=?_) rfl (by kernel_rfl) (fun _ _ _ h => h) rfl ?_ ?_
          rotate_left
          ·(intro w'; go_simp; try with_reducible rfl)
          try simp only [Act.put,Sp1,Sp2,Sp3,Sp4,Sp5,Sp6]
          refine AnyG.takeP (i:=7) (v:=?_) rfl (by kernel_rfl) (fun _ _ _ h => h) rfl ?_ ?_
          rotate_left
          ·(intro w'; go_simp; try with_reducible rfl)
          try simp only [Act.put,Sp1,Sp2,Sp3,Sp4,Sp5,Sp6]
          refine AnyG.takeP (i:=9) (v:=?_) rfl (by kernel_rfl) (fun _ _ _ h => h) rfl ?_ ?_
          rotate_left
          ·(intro w'; go_simp; try with_reducible rfl)
          try simp only [Act.put,Sp1,Sp2,Sp3,Sp4,Sp5,Sp6]
          refine AnyG.takeP (i:=12) (v:=?_) rfl (by kernel_rfl) (fun _ _ _ h => h) rfl ?_ ?_
          rotate_left
          ·(intro w'; go_simp; try with_reducible rfl)
          try simp only [Act.put,Sp1,Sp2,Sp3,Sp4,Sp5,Sp6]
          refine AnyG.takeP (i:=13) (v:=?_) rfl (by kernel_rfl) (fun _ _ _ h => h) rfl ?_ ?_
          rotate_left
          ·(intro w'; go_simp; try with_reducible rfl)
          try simp only [Act.put,Sp1,Sp2,Sp3,Sp4,Sp5,Sp6]
          refine AnyG.enter (fun w' : World => Below w7.heap.size w7 w') (fun i => i != 20) ?_
          have hS : (fun w' : World => Below w7.heap.size w7 w') (World.drew _):=(Below.refl _ _).drew
          refine AnyG.takeC (i:=1) (v:=?_) rfl (by kernel_rfl) (fun _ _ _ h => h) rfl ?_ hS ?_
          rotate_left
          ·(intro w' hSw; (try dsimp only at hSw); obtain ⟨a0,af,az⟩:=(I7.kG.call hSw).one; go_simp; try with_reducible rfl)
          try simp only [Act.put,Sp1,Sp2,Sp3,Sp4,Sp5,Sp6]
          refine AnyG.takeC (i:=3) (v:=?_) rfl (by kernel_rfl) (fun _ _ _ h => h) rfl ?_ hS ?_
          rotate_left
          ·(intro w' hSw; (try dsimp only at hSw); go_simp; try with_reducible rfl)
          try simp only [Act.put,Sp1,Sp2,Sp3,Sp4,Sp5,Sp6]
          refine AnyG.takeC (i:=4) (v:=?_) rfl (by kernel_rfl) (fun _ _ _ h => h) rfl ?_ hS ?_
          rotate_left
          ·(intro w' hSw; (try dsimp only at hSw); have u0:=(hSw.cell (p:=⟨o,n1,none⟩) ho).trans HU.out.1; go_simp; try with_reducible rfl)
          try simp only [Act.put,Sp1,Sp2,Sp3,Sp4,Sp5,Sp6]
          refine AnyG.takeC (i:=8) (v:=?_) rfl (by kernel_rfl) (fun _ _ _ h => h) rfl ?_ hS ?_
          rotate_left
          ·(intro w' hSw; (try dsimp only at hSw); obtain ⟨a0,af,az⟩:=(I7.kG.call hSw).one; go_simp; try with_reducible rfl)
          try simp only [Act.put,Sp1,Sp2,Sp3,Sp4,Sp5,Sp6]
          refine AnyG.takeC (i:=10) (v:=?_) rfl (by kernel_rfl) (fun _ _ _ h => h) rfl ?_ hS ?_
          rotate_left
          ·(intro w' hSw; (try dsimp only at hSw); go_simp; try with_reducible rfl)
          try simp only [Act.put,Sp1,Sp2,Sp3,Sp4,Sp5,Sp6]
          refine AnyG.takeC (i:=11) (v:=?_) rfl (by kernel_rfl) (fun _ _ _ h => h) rfl ?_ hS ?_
          rotate_left
          ·(intro w' hSw; (try dsimp only at hSw); have u0:=(hSw.cell (p:=⟨o,n1,none⟩) ho).trans HU.out.1; go_simp; try with_reducible rfl)
          try simp only [Act.put,Sp1,Sp2,Sp3,Sp4,Sp5,Sp6]
          refine AnyG.takeC (i:=14) (v:=?_) rfl (by kernel_rfl) (fun _ _ _ h => h) rfl ?_ hS ?_
          rotate_left
          ·(intro w' hSw; (try dsimp only at hSw); go_simp; try with_reducible rfl)
          try simp only [Act.put,Sp1,Sp2,Sp3,Sp4,Sp5,Sp6]
          refine AnyG.takeC (i:=15) (v:=?_) rfl (by kernel_rfl) (fun _ _ _ h => h) rfl ?_ hS ?_
          rotate_left
          ·(intro w' hSw; (try dsimp only at hSw); have u2:=(hSw.cell (p:=⟨q n1,p,none⟩) uq).trans HU.out.2; go_simp; try with_reducible rfl)
          try simp only [Act.put,Sp1,Sp2,Sp3,Sp4,Sp5,Sp6]
          refine AnyG.takeC (i:=16) (v:=?_) rfl (by kernel_rfl) (fun _ _ _ h => h) rfl ?_ hS ?_
          rotate_left
          ·(intro w' hSw; (try dsimp only at hSw); go_simp; try with_reducible rfl)
          try simp only [Act.put,Sp1,Sp2,Sp3,Sp4,Sp5,Sp6]
          refine AnyG.takeNC (i:=17) rfl (by kernel_rfl) (fun _ _ _ h => h) (by first | (simp [Region.wanted,yielded]; done) | simp [Region.wanted,yielded,undef]) hS ?_
          try simp only [Act.put,Sp1,Sp2,Sp3,Sp4,Sp5,Sp6]
          refine AnyG.takeC (i:=18) (v:=?_) rfl (by kernel_rfl) (fun _ _ _ h => h) rfl ?_ hS ?_
          rotate_left
          ·(intro w' hSw; (try dsimp only at hSw); go_simp; try with_reducible rfl)
          try simp only [Act.put,Sp1,Sp2,Sp3,Sp4,Sp5,Sp6]
          refine AnyG.takeC (i:=19) (v:=?_) rfl (by kernel_rfl) (fun _ _ _ h => h) rfl ?_ hS ?_
          rotate_left
          ·(intro w' hSw; (try dsimp only at hSw); go_simp; try with_reducible rfl)
          try simp only [Act.put,Sp1,Sp2,Sp3,Sp4,Sp5,Sp6]
          refine AnyG.one (i:=20) (by kernel_rfl) rfl rfl ?_
          have uf2 : ∀ p,(World.drew w7).frozen? ⟨q n1,p,none⟩ = false:=uf
          have u22 : (World.drew w7).cell? ⟨q n1,p,none⟩ = some (.bool false):=HU.out.2
          go_simp
          refine Onward.last rfl ?_
          try simp only [Act.put,Sp1,Sp2,Sp3,Sp4,Sp5,Sp6]
          refine AnyG.done (by kernel_rfl) ?_ _
          go_simp
          go_wp2_with fail
          go_roundw
          case rel => exact ⟨p + 1,z + 1,by omega,rfl,Lib.hid (by have:=hz.out; omega),by simpa using k19P.drew,(by simpa using (IP.eq (g:=gM st z0 z1 es gv zr i n1 (p + 1)) (fun r j _ _ => by rw [← gM_put,hpz.out,hfk.out])).bel (Below.refl _ _).drew)⟩
          case measure => simp [intOf]; omega
         ·refine AnyG.startC (by kernel_rfl) ?_
          refine AnyG.takeP (i:=0) (v:=?_) rfl (by kernel_rfl) (fun _ _ _ h => h) rfl ?_ ?_
          rotate_left
          ·(intro w'; go_simp; try with_reducible rfl)
          try simp only [Act.put,Sp1,Sp2,Sp3,Sp4,Sp5,Sp6]
          refine AnyG.takeP (i:=2) (v:=?_) rfl (by kernel_rfl) (fun _ _ _ h => h) rfl ?_ ?_
          rotate_left
          ·(intro w'; go_simp; try with_reducible rfl)
          try simp only [Act.put,Sp1,Sp2,Sp3,Sp4,Sp5,Sp6]
          refine AnyG.takeP (i:=5) (v:=?_) rfl (by kernel_rfl) (fun _ _ _ h => h) rfl ?_ ?_
          rotate_left
          ·(intro w'; go_simp; try with_reducible rfl)
          try simp only [Act.put,Sp1,Sp2,Sp3,Sp4,Sp5,Sp6]
          refine AnyG.takeP (i:=6) (v:=?_) rfl (by kernel_rfl) (fun _ _ _ h => h) rfl ?_ ?_
          rotate_left
          ·(intro w'; go_simp; try with_reducible rfl)
          try simp only [Act.put,Sp1,Sp2,Sp3,Sp4,Sp5,Sp6]
          refine AnyG.takeP (i:=7) (v:=?_) rfl (by kernel_rfl) (fun _ _ _ h => h) rfl ?_ ?_
          rotate_left
          ·(intro w'; go_simp; try with_reducible rfl)
          try simp only [Act.put,Sp1,Sp2,Sp3,Sp4,Sp5,Sp6]
          refine AnyG.takeP (i:=9) (v:=?_) rfl (by kernel_rfl) (fun _ _ _ h => h) rfl ?_ ?_
          rotate_left
          ·(intro w'; go_simp; try with_reducible rfl)
          try simp only [Act.put,Sp1,Sp2,Sp3,Sp4,Sp5,Sp6]
          refine AnyG.takeP (i:=12) (v:=?_) rfl (by kernel_rfl) (fun _ _ _ h => h) rfl ?_ ?_
          rotate_left
          ·(intro w'; go_simp; try with_reducible rfl)
          try simp only [Act.put,Sp1,Sp2,Sp3,Sp4,Sp5,Sp6]
          refine AnyG.takeP (i:=13) (v:=?_) rfl (by kernel_rfl) (fun _ _ _ h => h) rfl ?_ ?_
          rotate_left
          ·(intro w'; go_simp; try with_reducible rfl)
          try simp only [Act.put,Sp1,Sp2,Sp3,Sp4,Sp5,Sp6]
          refine AnyG.enter (fun w' : World => Below w7.heap.size w7 w') (fun i => i != 20) ?_
          have hS : (fun w' : World => Below w7.heap.size w7 w') (World.drew _):=(Below.refl _ _).drew
          refine AnyG.takeC (i:=1) (v:=?_) rfl (by kernel_rfl) (fun _ _ _ h => h) rfl ?_ hS ?_
          rotate_left
          ·(intro w' hSw; (try dsimp only at hSw); obtain ⟨a0,af,az⟩:=(I7.kG.call hSw).one; go_simp; try with_reducible rfl)
          try simp only [Act.put,Sp1,Sp2,Sp3,Sp4,Sp5,Sp6]
          refine AnyG.takeC (i:=3) (v:=?_) rfl (by kernel_rfl) (fun _ _ _ h => h) rfl ?_ hS ?_
          rotate_left
          ·(intro w' hSw; (try dsimp only at hSw); go_simp; try with_reducible rfl)
          try simp only [Act.put,Sp1,Sp2,Sp3,Sp4,Sp5,Sp6]
          refine AnyG.takeC (i:=4) (v:=?_) rfl (by kernel_rfl) (fun _ _ _ h => h) rfl ?_ hS ?_
          rotate_left
          ·(intro w' hSw; (try dsimp only at hSw); have u0:=(hSw.cell (p:=⟨o,n1,none⟩) ho).trans HU.out.1; go_simp; try with_reducible rfl)
          try simp only [Act.put,Sp1,Sp2,Sp3,Sp4,Sp5,Sp6]
          refine AnyG.takeC (i:=8) (v:=?_) rfl (by kernel_rfl) (fun _ _ _ h => h) rfl ?_ hS ?_
          rotate_left
          ·(intro w' hSw; (try dsimp only at hSw); obtain ⟨a0,af,az⟩:=(I7.kG.call hSw).one; go_simp; try with_reducible rfl)
          try simp only [Act.put,Sp1,Sp2,Sp3,Sp4,Sp5,Sp6]
          refine AnyG.takeC (i:=10) (v:=?_) rfl (by kernel_rfl) (fun _ _ _ h => h) rfl ?_ hS ?_
          rotate_left
          ·(intro w' hSw; (try dsimp only at hSw); go_simp; try with_reducible rfl)
          try simp only [Act.put,Sp1,Sp2,Sp3,Sp4,Sp5,Sp6]
          refine AnyG.takeC (i:=11) (v:=?_) rfl (by kernel_rfl) (fun _ _ _ h => h) rfl ?_ hS ?_
          rotate_left
          ·(intro w' hSw; (try dsimp only at hSw); have u0:=(hSw.cell (p:=⟨o,n1,none⟩) ho).trans HU.out.1; go_simp; try with_reducible rfl)
          try simp only [Act.put,Sp1,Sp2,Sp3,Sp4,Sp5,Sp6]
          refine AnyG.takeC (i:=14) (v:=?_) rfl (by kernel_rfl) (fun _ _ _ h => h) rfl ?_ hS ?_
          rotate_left
          ·(intro w' hSw; (try dsimp only at hSw); go_simp; try with_reducible rfl)
          try simp only [Act.put,Sp1,Sp2,Sp3,Sp4,Sp5,Sp6]
          refine AnyG.takeC (i:=15) (v:=?_) rfl (by kernel_rfl) (fun _ _ _ h => h) rfl ?_ hS ?_
          rotate_left
          ·(intro w' hSw; (try dsimp only at hSw); have u2:=(hSw.cell (p:=⟨q n1,p,none⟩) uq).trans HU.out.2; go_simp; try with_reducible rfl)
          try simp only [Act.put,Sp1,Sp2,Sp3,Sp4,Sp5,Sp6]
          refine AnyG.takeC (i:=16) (v:=?_) rfl (by kernel_rfl) (fun _ _ _ h => h) rfl ?_ hS ?_
          rotate_left
          ·(intro w' hSw; (try dsimp only at hSw); go_simp; try with_reducible rfl)
          try simp only [Act.put,Sp1,Sp2,Sp3,Sp4,Sp5,Sp6]
          refine AnyG.takeGC (i:=17) (v:=?_) rfl (by kernel_rfl) (fun _ _ _ h => h) (by first | (simp [Region.wanted,yielded]; done) | simp [Region.wanted,yielded,undef]) ?_ hS ?_
          rotate_left
          ·(intro w' hSw; (try dsimp only at hSw); go_simp; try with_reducible rfl)
          try simp only [Act.put,Sp1,Sp2,Sp3,Sp4,Sp5,Sp6]
          refine AnyG.takeC (i:=18) (v:=?_) rfl (by kernel_rfl) (fun _ _ _ h => h) rfl ?_ hS ?_
          rotate_left
          ·(intro w' hSw; (try dsimp only at hSw); go_simp; try with_reducible rfl)
          try simp only [Act.put,Sp1,Sp2,Sp3,Sp4,Sp5,Sp6]
          refine AnyG.takeC (i:=19) (v:=?_) rfl (by kernel_rfl) (fun _ _ _ h => h) rfl ?_ hS ?_
          rotate_left
          ·(intro w' hSw; (try dsimp only at hSw); go_simp; try with_reducible rfl)
          try simp only [Act.put,Sp1,Sp2,Sp3,Sp4,Sp5,Sp6]
          refine AnyG.one (i:=20) (by kernel_rfl) rfl rfl ?_
          have uf2 : ∀ p,(World.drew w7).frozen? ⟨q n1,p,none⟩ = false:=uf
          have u22 : (World.drew w7).cell? ⟨q n1,p,none⟩ = some (.bool true):=HU.out.2
          go_simp
          refine Onward.last rfl ?_
          try simp only [Act.put,Sp1,Sp2,Sp3,Sp4,Sp5,Sp6]
          refine AnyG.done (by kernel_rfl) ?_ _
          go_simp
          go_wp2_with fail
          go_roundw
          case rel => exact ⟨p + 1,z + 1,by omega,rfl,Lib.hid (by have:=hz.out; omega),by simpa using k19P.drew,(by simpa using (IP.eq (g:=gM st z0 z1 es gv zr i n1 (p + 1)) (fun r j _ _ => by rw [← gM_put,hpz.out,hfk.out])).bel (Below.refl _ _).drew)⟩
          case measure => simp [intOf]; omega
      ·obtain rfl : p = 401:=by omega
       go_wp2_with fail
       go_roundw
       case rel => exact ⟨n1,(n1 : Int) - 1,rfl,Lib.hid (by omega),by omega,by omega,I.eq (fun r j _ hj => gM_out st z0 z1 es gv zr i n1 r j hj)⟩
       case measure => simp [intOf]; omega
    ·have ht0 : t = 0:=by have:=hyt.out; omega
     subst ht0
     obtain ⟨a0,af,az⟩:=I.kG.one
     obtain ⟨d0,df,dz⟩:=I.k8.one
     have IG : Grid w5 w.heap.size FA i q (gB st z0 z1 es gv zr i):=(I.eq (g:=gB st z0 z1 es gv zr i) (fun r j _ _ => by unfold gT gB; rw [if_pos (Nat.zero_le _)])).gr
     have kz : Bx (w5.setCell ⟨w.heap.size + 1,0,none⟩ (.slice FA i FC)) (w.heap.size + 1) 96 #[.slice FA i FC]:=by have:=I.k8.set_ 0 (.slice FA i FC); simpa using this
     obtain ⟨e0,ef,ez⟩:=kz.one
     have hBz:=I.hb.setCell (p:=⟨w.heap.size + 1,0,none⟩) (by simp) (.slice FA i FC)
     have hGz:=IG.far I.k8 (by decide) (by decide) 0 (.slice FA i FC)
     go_wp2_with fail
     refine bodyPost_ret (v:=.tuple #[.agg #[.slice FA i FC],.bool sm]) (by simp [results,Try.results59,go_sem,e0]) rfl ⟨⟨FA,FC,q,by rw [HSM.out],hGz⟩,hBz⟩
end Go.Proofs.Ytgbogdckmfencaa
