/- The tables of the net weight as a plain recursion over the events. Nothing of the program. -/
import Derived.Test.YtgbogdckmfencaaSqM
import Derived.Test.YtgbogdckmfencaaOwM
import Derived.Test.YtgbogdckmfencaaWi
import Derived.Test.YtgbogdckmfencaaOpM
set_option linter.unusedSimpArgs false
set_option linter.unusedVariables false
/-! The tables of the net weight as a plain recursion over the events. Nothing of the program. -/
namespace Go.Proofs.Ytgbogdckmfencaa
/-- What truths weigh from an event on, if its zero is z: d events follow. -/
def Vd (wt fol : Nat → Int → Int × Int) : Nat → Nat → Int → Int × Int
 | 0,e,z => wt e z
 | d + 1,e,z => ((wt e z).1 + (covers (Vd wt fol d (e + 1)) (rngL (fol e z).1 (fol e z).2)).1,(wt e z).2 + (covers (Vd wt fol d (e + 1)) (rngL (fol e z).1 (fol e z).2)).2)
theorem mem_rngL {lo hi z : Int} (h1 : lo ≤ z) (h2 : z ≤ hi) : z ∈ rngL lo hi:=by
 unfold rngL
 rw [List.mem_map]
 exact ⟨(z - lo).toNat,by rw [List.mem_range]; omega,by omega⟩
theorem covers_on {f g : Int → Int × Int} {zs : List Int} (h : ∀ z ∈ zs,f z = g z) : covers f zs = covers g zs:=by
 have : ∀ (zs : List Int) (r : Int × Int),(∀ z ∈ zs,f z = g z) → zs.foldl (fun r z => cov r (f z)) r = zs.foldl (fun r z => cov r (g z)) r:=by
  intro zs
  induction zs with
  | nil => intro r _; rfl
  | cons a l ih =>
   intro r hh
   rw [List.foldl_cons,List.foldl_cons,hh a (by simp)]
   exact ih _ fun z hz => hh z (by simp [hz])
 exact this zs _ h
theorem fill_in (wt fol : Nat → Int → Int × Int) (last : Bool) (e : Nat) (T : Nat → Int × Int) (z : Int) : ∀ (zs : List Int),(∀ z ∈ zs,-200 ≤ z ∧ z ≤ 200) → z ∈ zs → fill wt fol last e T zs (ix e z) = valOf wt fol last e T z:=by
 refine snoc_ind ?_ ?_
 ·intro _ h; cases h
 ·intro zs y ih h hz
  rw [fill_snoc]
  unfold upd
  have hy:=h y (by simp)
  have hz':=h z hz
  by_cases hzy : z = y
  ·subst hzy; rw [if_pos rfl]
  ·rw [if_neg (by unfold ix; omega)]
   refine ih (fun x hx => h x (by simp [hx])) ?_
   rcases List.mem_append.1 hz with h1 | h1
   ·exact h1
   ·exact absurd (by simpa using h1) hzy
theorem Tab_Vd (wt fol : Nat → Int → Int × Int) (f : Nat → Int × Int) (n : Nat) (hf : ∀ i,i < n → -200 ≤ (f i).1 ∧ (f i).2 ≤ 200) (hfol : ∀ e z x,e + 1 < n → (fol e z).1 ≤ x → x ≤ (fol e z).2 → (f (e + 1)).1 ≤ x ∧ x ≤ (f (e + 1)).2) :
  ∀ j,j < n → ∀ z,(f (n - 1 - j)).1 ≤ z → z ≤ (f (n - 1 - j)).2 → Tab wt fol f n (j + 1) (ix (n - 1 - j) z) = Vd wt fol j (n - 1 - j) z:=by
 intro j
 induction j with
 | zero =>
  intro hj z h1 h2
  have hb:=hf (n - 1 - 0) (by omega)
  rw [Tab,fill_in _ _ _ _ _ z _ (fun y hy => by have:=rngL_mem hy; omega) (mem_rngL h1 h2)]
  unfold valOf restOf Vd
  simp
 | succ j ih =>
  intro hj z h1 h2
  have hb:=hf (n - 1 - (j + 1)) (by omega)
  rw [Tab,fill_in _ _ _ _ _ z _ (fun y hy => by have:=rngL_mem hy; omega) (mem_rngL h1 h2)]
  unfold valOf restOf
  rw [if_neg (by simp)]
  have he : n - 1 - (j + 1) + 1 = n - 1 - j:=by omega
  have hc : covers (fun nx => Tab wt fol f n (j + 1) (ix (n - 1 - (j + 1) + 1) nx)) (rngL (fol (n - 1 - (j + 1)) z).1 (fol (n - 1 - (j + 1)) z).2) = covers (Vd wt fol j (n - 1 - (j + 1) + 1)) (rngL (fol (n - 1 - (j + 1)) z).1 (fol (n - 1 - (j + 1)) z).2):=by
   refine covers_on fun x hx => ?_
   have hm:=rngL_mem hx
   have hr:=hfol (n - 1 - (j + 1)) z x (by omega) hm.1 hm.2
   rw [he] at hr ⊢
   exact ih (by omega) x hr.1 hr.2
  rw [hc]
  rw [Vd]
/-- The net loads, by the recursion. -/
theorem netOf_Vd {st z0 z1 : Int} {es : List Ev} (h : LogOk st z0 z1 es) (hf : Fits st z0 z1 es es.length) (F B : List Int) (hn : 1 ≤ es.length) :
  netOf st es F B (zst st z0 z1 es 0) es.length = covers (Vd (wtc st es F B) (folc es (zst st z0 z1 es 0)) (es.length - 1) 0) (rngL (zst st z0 z1 es 0 0).1 (zst st z0 z1 es 0 0).2):=by
 unfold netOf
 refine covers_on fun z hz => ?_
 have hm:=rngL_mem hz
 have:=Tab_Vd (wtc st es F B) (folc es (zst st z0 z1 es 0)) (zst st z0 z1 es 0) es.length (fun i hi => by have:=zst_good h hf i hi; omega) (fun e z x he h1 h2 => by
  unfold folc at h1 h2
  rw [List.getElem?_eq_getElem he] at h1 h2
  dsimp only at h1 h2
  split at h1
  ·rename_i hz2
   rw [if_pos hz2] at h2
   dsimp only at h1 h2
   omega
  ·rename_i hz2
   rw [if_neg hz2] at h2
   dsimp only at h1 h2
   omega) (es.length - 1) (by omega) z (by rw [show es.length - 1 - (es.length - 1) = 0 by omega]; exact hm.1) (by rw [show es.length - 1 - (es.length - 1) = 0 by omega]; exact hm.2)
 rw [show es.length - 1 - (es.length - 1) = 0 by omega,show es.length - 1 + 1 = es.length by omega] at this
 unfold ix at this
 simpa using this
end Go.Proofs.Ytgbogdckmfencaa

/-! Chains of zeros and what they weigh: sums, shifts, parts and single truths of the plain recursion. Nothing of the program. -/
namespace Go.Proofs.Ytgbogdckmfencaa
/-- From each zero of an event there is a zero of the next one. -/
structure Chain (f : Nat → Int × Int) (fol : Nat → Int → Int × Int) (n : Nat) : Prop where
 ne : ∀ e z,e + 1 < n → (f e).1 ≤ z → z ≤ (f e).2 → (fol e z).1 ≤ (fol e z).2
 mem : ∀ e z x,e + 1 < n → (f e).1 ≤ z → z ≤ (f e).2 → (fol e z).1 ≤ x → x ≤ (fol e z).2 → (f (e + 1)).1 ≤ x ∧ x ≤ (f (e + 1)).2
theorem chain_ok {st z0 z1 : Int} {es : List Ev} (h : LogOk st z0 z1 es) (hf : Fits st z0 z1 es es.length) : Chain (zst st z0 z1 es 0) (folc es (zst st z0 z1 es 0)) es.length:=by
 refine ⟨fun e z he h1 h2 => ?_,fun e z x he h1 h2 h3 h4 => ?_⟩
 ·have hg:=zst_good h hf e (by omega)
  have hg2:=zst_good h hf (e + 1) (by omega)
  have hev:=h.ev _ (List.getElem_mem (show e + 1 < es.length by omega))
  have hz : zst st z0 z1 es 0 e = finR st z0 z1 es (es.length - 1 - e):=by unfold zst; rw [if_pos (by omega),if_pos (Nat.zero_le _)]
  have hz2 : zst st z0 z1 es 0 (e + 1) = finR st z0 z1 es (es.length - 1 - (e + 1)):=by unfold zst; rw [if_pos (by omega),if_pos (Nat.zero_le _)]
  have hs:=finR_succ (st:=st) (z0:=z0) (z1:=z1) (es:=es) (i:=e) (by omega)
  rw [← hz,← hz2] at hs
  unfold folc
  rw [List.getElem?_eq_getElem (show e + 1 < es.length by omega)]
  dsimp only
  rw [if_pos (by omega)]
  dsimp only
  have hc:=hev.c2
  have e1 : (zst st z0 z1 es 0 e).1 = max (bef st z0 z1 es (e + 1)).1 ((zst st z0 z1 es 0 (e + 1)).1 - es[e + 1].c1):=by rw [hs]
  have e2 : (zst st z0 z1 es 0 e).2 = min (bef st z0 z1 es (e + 1)).2 ((zst st z0 z1 es 0 (e + 1)).2 - es[e + 1].c0):=by rw [hs]
  omega
 ·unfold folc at h3 h4
  rw [List.getElem?_eq_getElem (show e + 1 < es.length by omega)] at h3 h4
  dsimp only at h3 h4
  have hg:=zst_good h hf e (by omega)
  rw [if_pos (by omega)] at h3 h4
  dsimp only at h3 h4
  omega
theorem covers_le (f : Int → Int × Int) : ∀ (zs : List Int),∀ z ∈ zs,(covers f zs).1 ≤ (f z).1 ∧ (f z).2 ≤ (covers f zs).2:=by
 refine snoc_ind ?_ ?_
 ·intro z hz; cases hz
 ·intro zs y ih z hz
  rw [covers_snoc]
  unfold cov
  dsimp only
  rcases List.mem_append.1 hz with h | h
  ·have:=ih z h; omega
  ·obtain rfl : z = y:=by simpa using h
   omega
theorem covers_at (f : Int → Int × Int) : ∀ (zs : List Int),zs ≠ [] → (∀ z ∈ zs,(f z).1 ≤ 1073741824 ∧ -1073741824 ≤ (f z).2) → (∃ z ∈ zs,(covers f zs).1 = (f z).1) ∧ ∃ z ∈ zs,(covers f zs).2 = (f z).2:=by
 refine snoc_ind ?_ ?_
 ·intro h; exact absurd rfl h
 ·intro zs y ih _ hb
  have hy:=hb y (by simp)
  rw [covers_snoc]
  unfold cov
  dsimp only
  by_cases hz : zs = []
  ·subst hz
   refine ⟨⟨y,by simp,?_⟩,⟨y,by simp,?_⟩⟩
   ·show min (1073741824 : Int) (f y).1 = _; omega
   ·show max (-1073741824 : Int) (f y).2 = _; omega
  ·obtain ⟨⟨a,ha,ha2⟩,⟨b,hb1,hb2⟩⟩:=ih hz fun z h => hb z (by simp [h])
   constructor
   ·by_cases hc : (covers f zs).1 ≤ (f y).1
    ·exact ⟨a,by simp [ha],by omega⟩
    ·exact ⟨y,by simp,by omega⟩
   ·by_cases hc : (f y).2 ≤ (covers f zs).2
    ·exact ⟨b,by simp [hb1],by omega⟩
    ·exact ⟨y,by simp,by omega⟩
theorem rngL_ne {lo hi : Int} (h : lo ≤ hi) : rngL lo hi ≠ []:=fun e => by have:=mem_rngL (Int.le_refl lo) h; rw [e] at this; cases this
section
variable {f : Nat → Int × Int} {fol : Nat → Int → Int × Int} {n : Nat} (hc : Chain f fol n)
include hc
theorem Vd_bd {wt : Nat → Int → Int × Int} (hw : ∀ e z,Bd 100000 (wt e z)) : ∀ d,d ≤ 1000 → ∀ e z,e + d < n → (f e).1 ≤ z → z ≤ (f e).2 → Bd (((d : Int) + 1) * 100000) (Vd wt fol d e z):=by
 intro d
 induction d with
 | zero => intro _ e z _ _ _; have:=hw e z; rw [Vd]; exact this.mono (by omega)
 | succ d ih =>
  intro hd e z he h1 h2
  have hne:=hc.ne e z (by omega) h1 h2
  have hm:=fun x => hc.mem e z x (by omega) h1 h2
  have hb:=hw e z
  have hv : ∀ x ∈ rngL (fol e z).1 (fol e z).2,Bd (((d : Int) + 1) * 100000) (Vd wt fol d (e + 1) x):=fun x hx => by
   have hx':=rngL_mem hx
   have:=hm x hx'.1 hx'.2
   exact ih (by omega) (e + 1) x (by omega) this.1 this.2
  obtain ⟨⟨a,ha,ha2⟩,⟨b,hb1,hb2⟩⟩:=covers_at (Vd wt fol d (e + 1)) _ (rngL_ne hne) fun x hx => by
   have:=hv x hx; unfold Bd at this; omega
  have va:=hv a ha
  have vb:=hv b hb1
  have la:=covers_le (Vd wt fol d (e + 1)) _ a ha
  have lb:=covers_le (Vd wt fol d (e + 1)) _ b hb1
  rw [Vd]
  unfold Bd at *
  dsimp only
  push_cast
  omega
omit hc in
end
end Go.Proofs.Ytgbogdckmfencaa

/-! A truth that a log was made with: its zeros are among those that are told, and what it weighs is within the net loads. Nothing of the program. -/
namespace Go.Proofs.Ytgbogdckmfencaa
/-- The zeros of what was made. -/
theorem Made.steps {st z0 z1 ld : Int} {ts : List (Ev × Int × Int)} {z : Int} (h : Made st z0 z1 ld ts z) (hs1 : 1 ≤ st) (h0 : -9 ≤ z0) (h1 : z1 ≤ 9) (hn : ts.length ≤ 14) (hl : ld ≤ 60000) :
  (∀ i p,ts[i]? = some p → (bef st z0 z1 (evsOf ts) (i + 1)).1 ≤ p.2.1 ∧ p.2.1 ≤ (bef st z0 z1 (evsOf ts) (i + 1)).2) ∧ (∀ i p q,ts[i]? = some p → ts[i + 1]? = some q → p.2.1 + q.1.c0 ≤ q.2.1 ∧ q.2.1 ≤ p.2.1 + q.1.c1) ∧ ∀ p,ts[ts.length - 1]? = some p → p.2.1 = z:=by
 induction h with
 | nil z a b => exact ⟨fun i p hp => by simp at hp,fun i p q hp => by simp at hp,fun p hp => by simp at hp⟩
 | snoc ts z e z' n h he a b ih =>
  have hfit:=((Made.snoc ts z e z' n h he a b).fits hs1 h0 h1 hn hl).1
  rw [List.length_append,List.length_singleton] at hn hfit
  obtain ⟨i1,i2,i3⟩:=ih (by omega)
  have hes : evsOf (ts ++ [(e,z',n)]) = evsOf ts ++ [e]:=by simp [evsOf]
  have hel : (evsOf ts).length = ts.length:=by simp [evsOf]
  refine ⟨fun i p hp => ?_,fun i p q hp hq => ?_,fun p hp => ?_⟩
  ·by_cases hi : i < ts.length
   ·rw [List.getElem?_append_left hi] at hp
    rw [hes,bef_pre _ _ _ _ _ _ (by omega)]
    exact i1 i p hp
   ·have hlt:=(List.getElem?_eq_some_iff.1 hp).1
    rw [List.length_append,List.length_singleton] at hlt
    obtain rfl : i = ts.length:=by omega
    rw [List.getElem?_append_right (Nat.le_refl _),Nat.sub_self] at hp
    obtain rfl : (e,z',n) = p:=by simpa using hp
    exact hfit
  ·have hlt:=(List.getElem?_eq_some_iff.1 hq).1
   rw [List.length_append,List.length_singleton] at hlt
   rw [List.getElem?_append_left (by omega)] at hp
   by_cases hi : i + 1 < ts.length
   ·rw [List.getElem?_append_left hi] at hq
    exact i2 i p q hp hq
   ·have hie : i + 1 = ts.length:=by omega
    rw [List.getElem?_append_right (by omega),hie,Nat.sub_self] at hq
    obtain rfl : (e,z',n) = q:=by simpa using hq
    have:=i3 p (by rw [show ts.length - 1 = i by omega]; exact hp)
    dsimp only
    omega
  ·rw [List.length_append,List.length_singleton,Nat.add_sub_cancel,List.getElem?_append_right (Nat.le_refl _),Nat.sub_self] at hp
   obtain rfl : (e,z',n) = p:=by simpa using hp
   rfl
theorem evsOf_get {ts : List (Ev × Int × Int)} {i : Nat} {p : Ev × Int × Int} (h : ts[i]? = some p) : (evsOf ts)[i]? = some p.1:=by unfold evsOf; rw [List.getElem?_map,h]; rfl
theorem evsOf_len (ts : List (Ev × Int × Int)) : (evsOf ts).length = ts.length:=by simp [evsOf]
theorem Made.fin {st z0 z1 ld : Int} {ts : List (Ev × Int × Int)} {z : Int} (h : Made st z0 z1 ld ts z) (hs1 : 1 ≤ st) (h0 : -9 ≤ z0) (h1 : z1 ≤ 9) (hn : ts.length ≤ 14) (hl : ld ≤ 60000) : ∀ d,d < ts.length → ∀ p,ts[ts.length - 1 - d]? = some p →
  (finR st z0 z1 (evsOf ts) d).1 ≤ p.2.1 ∧ p.2.1 ≤ (finR st z0 z1 (evsOf ts) d).2:=by
 obtain ⟨k1,k2,_⟩:=h.steps hs1 h0 h1 hn hl
 intro d
 induction d with
 | zero =>
  intro hd p hp
  have:=k1 _ p hp
  rw [show ts.length - 1 - 0 + 1 = ts.length by omega] at this
  rw [finR,evsOf_len]
  exact this
 | succ d ih =>
  intro hd p hp
  have hq:=List.getElem?_eq_getElem (show ts.length - 1 - d < ts.length by omega)
  have hi:=ih (by omega) _ hq
  have hs:=k2 (ts.length - 1 - (d + 1)) p _ hp (by rw [show ts.length - 1 - (d + 1) + 1 = ts.length - 1 - d by omega]; exact hq)
  have hb:=k1 _ p hp
  rw [show ts.length - 1 - (d + 1) + 1 = ts.length - 1 - d by omega] at hb
  rw [finR,evsOf_len,evsOf_get hq]
  dsimp only
  omega
/-- The zero of an event in the truth, and the load. -/
def zOf (ts : List (Ev × Int × Int)) (i : Nat) : Int:=match ts[i]? with
 | some p => p.2.1
 | none => 0
theorem Made.zst {st z0 z1 ld : Int} {ts : List (Ev × Int × Int)} {z : Int} (h : Made st z0 z1 ld ts z) (hs1 : 1 ≤ st) (h0 : -9 ≤ z0) (h1 : z1 ≤ 9) (hn : ts.length ≤ 14) (hl : ld ≤ 60000) (i : Nat) (hi : i < ts.length) : (Go.Proofs.Ytgbogdckmfencaa.zst st z0 z1 (evsOf ts) 0 i).1 ≤ zOf ts i ∧ zOf ts i ≤ (Go.Proofs.Ytgbogdckmfencaa.zst st z0 z1 (evsOf ts) 0 i).2:=by
 have hq:=List.getElem?_eq_getElem hi
 have:=h.fin hs1 h0 h1 hn hl (ts.length - 1 - i) (by omega) _ (by rw [show ts.length - 1 - (ts.length - 1 - i) = i by omega]; exact hq)
 unfold Go.Proofs.Ytgbogdckmfencaa.zst zOf
 rw [hq,evsOf_len,if_pos hi,if_pos (Nat.zero_le _)]
 exact this
end Go.Proofs.Ytgbogdckmfencaa

/-! What is known better: with narrower zeros and changes, or one event more, nothing gets wider. Nothing of the program. -/
namespace Go.Proofs.Ytgbogdckmfencaa
theorem zst_at {st z0 z1 : Int} {es : List Ev} {i : Nat} (h : i < es.length) : zst st z0 z1 es 0 i = finR st z0 z1 es (es.length - 1 - i):=by unfold zst; rw [if_pos h,if_pos (Nat.zero_le _)]
theorem zst_top {st z0 z1 : Int} {es : List Ev} {i : Nat} (h : i + 1 = es.length) : zst st z0 z1 es 0 i = bef st z0 z1 es (i + 1):=by
 rw [zst_at (by omega),show es.length - 1 - i = 0 by omega,finR,h]
theorem zst_rec {st z0 z1 : Int} {es : List Ev} {i : Nat} (h : i + 1 < es.length) : zst st z0 z1 es 0 i = (max (bef st z0 z1 es (i + 1)).1 ((zst st z0 z1 es 0 (i + 1)).1 - es[i + 1].c1),min (bef st z0 z1 es (i + 1)).2 ((zst st z0 z1 es 0 (i + 1)).2 - es[i + 1].c0)):=by
 rw [zst_at (by omega),zst_at h,finR_succ h]
theorem zst_bef {st z0 z1 : Int} {es : List Ev} (h : LogOk st z0 z1 es) (hf : Fits st z0 z1 es es.length) {i : Nat} (hi : i < es.length) : (bef st z0 z1 es (i + 1)).1 ≤ (zst st z0 z1 es 0 i).1 ∧ (zst st z0 z1 es 0 i).2 ≤ (bef st z0 z1 es (i + 1)).2:=by
 obtain ⟨a,b,_⟩:=finR_good h hf (es.length - 1 - i) (by omega)
 rw [show es.length - 1 - (es.length - 1 - i) + 1 = i + 1 by omega] at a b
 rw [zst_at hi]
 exact ⟨a,b⟩
/-- The events of the first are among those of the second one, with wider changes. -/
structure Narrow (es es' : List Ev) : Prop where
 len : es.length ≤ es'.length
 ev : ∀ (i : Nat) (e : Ev),es[i]? = some e → ∃ e' : Ev,es'[i]? = some e' ∧ e'.kd = e.kd ∧ e'.sh = e.sh ∧ e'.ld = e.ld ∧ e.c0 ≤ e'.c0 ∧ e'.c1 ≤ e.c1
theorem Narrow.bef {st z0 z1 y0 y1 : Int} {es es' : List Ev} (h : Narrow es es') (h0 : z0 ≤ y0) (h1 : y1 ≤ z1) : ∀ k,k ≤ es.length → (Go.Proofs.Ytgbogdckmfencaa.bef st z0 z1 es k).1 ≤ (Go.Proofs.Ytgbogdckmfencaa.bef st y0 y1 es' k).1 ∧ (Go.Proofs.Ytgbogdckmfencaa.bef st y0 y1 es' k).2 ≤ (Go.Proofs.Ytgbogdckmfencaa.bef st z0 z1 es k).2:=by
 intro k
 induction k with
 | zero => intro _; exact ⟨h0,h1⟩
 | succ k ih =>
  intro hk
  have hi:=ih (by omega)
  have hv:=List.getElem?_eq_getElem (show k < es.length by omega)
  obtain ⟨e',he,k1,k2,k3,k4,k5⟩:=h.ev k _ hv
  rw [Go.Proofs.Ytgbogdckmfencaa.bef,Go.Proofs.Ytgbogdckmfencaa.bef,hv,he]
  unfold stepR sLo sHi
  dsimp only
  rw [k1,k2,k3]
  omega
section
variable {st z0 z1 y0 y1 : Int} {es es' : List Ev} (h : LogOk st z0 z1 es) (h' : LogOk st y0 y1 es') (hf : Fits st z0 z1 es es.length) (hf' : Fits st y0 y1 es' es'.length) (hn : Narrow es es') (h0 : z0 ≤ y0) (h1 : y1 ≤ z1)
include h h' hf hf' hn h0 h1
omit h hf in
omit h hf in
omit h h' hf hf' h0 h1 in
omit h hf in
end
end Go.Proofs.Ytgbogdckmfencaa

/-! Truths of a log as paths of zeros: the zeros that are told are those of paths, and what is weighed is what paths weigh. Nothing of the program. -/
namespace Go.Proofs.Ytgbogdckmfencaa
/-- The zeros of a truth. -/
structure FPath (st z0 z1 : Int) (es : List Ev) (z : Nat → Int) : Prop where
 first : ∀ e : Ev,es[0]? = some e → z0 + e.c0 ≤ z 0 ∧ z 0 ≤ z1 + e.c1
 next : ∀ (i : Nat) (e : Ev),es[i + 1]? = some e → z i + e.c0 ≤ z (i + 1) ∧ z (i + 1) ≤ z i + e.c1
 at_ : ∀ (i : Nat) (e : Ev),es[i]? = some e → sLo st e ≤ z i ∧ z i ≤ sHi st e
section
variable {st z0 z1 : Int} {es : List Ev} {z : Nat → Int}
theorem FPath.bef (h : FPath st z0 z1 es z) : ∀ i,i < es.length → (Go.Proofs.Ytgbogdckmfencaa.bef st z0 z1 es (i + 1)).1 ≤ z i ∧ z i ≤ (Go.Proofs.Ytgbogdckmfencaa.bef st z0 z1 es (i + 1)).2:=by
 intro i
 induction i with
 | zero =>
  intro hi
  have hv:=List.getElem?_eq_getElem hi
  have a:=h.first _ hv
  have b:=h.at_ _ _ hv
  rw [bef_succ hi]
  unfold stepR
  rw [Go.Proofs.Ytgbogdckmfencaa.bef]
  dsimp only
  omega
 | succ i ih =>
  intro hi
  have hv:=List.getElem?_eq_getElem hi
  have a:=h.next _ _ hv
  have b:=h.at_ _ _ hv
  have c:=ih (by omega)
  rw [bef_succ hi]
  unfold stepR
  dsimp only
  omega
theorem FPath.fits (h : FPath st z0 z1 es z) : Fits st z0 z1 es es.length:=⟨Nat.le_refl _,fun j hj => by have:=h.bef j hj; omega,fun hlt => by omega⟩
theorem FPath.zst (h : FPath st z0 z1 es z) : ∀ i,i < es.length → (Go.Proofs.Ytgbogdckmfencaa.zst st z0 z1 es 0 i).1 ≤ z i ∧ z i ≤ (Go.Proofs.Ytgbogdckmfencaa.zst st z0 z1 es 0 i).2:=by
 have key : ∀ d,d < es.length → (Go.Proofs.Ytgbogdckmfencaa.zst st z0 z1 es 0 (es.length - 1 - d)).1 ≤ z (es.length - 1 - d) ∧ z (es.length - 1 - d) ≤ (Go.Proofs.Ytgbogdckmfencaa.zst st z0 z1 es 0 (es.length - 1 - d)).2:=by
  intro d
  induction d with
  | zero =>
   intro hd
   rw [zst_top (i:=es.length - 1 - 0) (by omega)]
   exact h.bef _ (by omega)
  | succ d ih =>
   intro hd
   have hi:=ih (by omega)
   have e1 : es.length - 1 - (d + 1) + 1 = es.length - 1 - d:=by omega
   have hlt : es.length - 1 - (d + 1) + 1 < es.length:=by omega
   have a:=h.next _ _ (List.getElem?_eq_getElem hlt)
   have b:=h.bef (es.length - 1 - (d + 1)) (by omega)
   rw [zst_rec hlt]
   rw [← e1] at hi
   dsimp only
   omega
 intro i hi
 have:=key (es.length - 1 - i) (by omega)
 rwa [show es.length - 1 - (es.length - 1 - i) = i by omega] at this
theorem FPath.fol (hlog : LogOk st z0 z1 es) (h : FPath st z0 z1 es z) (i : Nat) (hi : i + 1 < es.length) : (folc es (Go.Proofs.Ytgbogdckmfencaa.zst st z0 z1 es 0) i (z i)).1 ≤ z (i + 1) ∧ z (i + 1) ≤ (folc es (Go.Proofs.Ytgbogdckmfencaa.zst st z0 z1 es 0) i (z i)).2:=by
 have a:=h.next _ _ (List.getElem?_eq_getElem hi)
 have b:=h.zst i (by omega)
 have c:=h.zst (i + 1) hi
 have g:=zst_good hlog h.fits i (by omega)
 unfold folc
 rw [List.getElem?_eq_getElem hi]
 dsimp only
 rw [if_pos (by omega)]
 dsimp only
 omega
theorem bef_shown {i : Nat} (hi : i < es.length) : sLo st es[i] ≤ (Go.Proofs.Ytgbogdckmfencaa.bef st z0 z1 es (i + 1)).1 ∧ (Go.Proofs.Ytgbogdckmfencaa.bef st z0 z1 es (i + 1)).2 ≤ sHi st es[i]:=by
 rw [bef_succ hi]
 unfold stepR
 dsimp only
 omega
theorem FPath.of_chain (hlog : LogOk st z0 z1 es) (hf : Fits st z0 z1 es es.length) (h0 : 0 < es.length → (Go.Proofs.Ytgbogdckmfencaa.zst st z0 z1 es 0 0).1 ≤ z 0 ∧ z 0 ≤ (Go.Proofs.Ytgbogdckmfencaa.zst st z0 z1 es 0 0).2) (hn : ∀ i,i + 1 < es.length → (folc es (Go.Proofs.Ytgbogdckmfencaa.zst st z0 z1 es 0) i (z i)).1 ≤ z (i + 1) ∧ z (i + 1) ≤ (folc es (Go.Proofs.Ytgbogdckmfencaa.zst st z0 z1 es 0) i (z i)).2) : FPath st z0 z1 es z:=by
 have hc:=chain_ok hlog hf
 have hz : ∀ i,i < es.length → (Go.Proofs.Ytgbogdckmfencaa.zst st z0 z1 es 0 i).1 ≤ z i ∧ z i ≤ (Go.Proofs.Ytgbogdckmfencaa.zst st z0 z1 es 0 i).2:=by
  intro i
  induction i with
  | zero => exact h0
  | succ i ih =>
   intro hi
   have a:=ih (by omega)
   have b:=hn i hi
   exact hc.mem i (z i) _ hi a.1 a.2 b.1 b.2
 refine ⟨fun e he => ?_,fun i e he => ?_,fun i e he => ?_⟩
 ·obtain ⟨hlt,rfl⟩:=List.getElem?_eq_some_iff.1 he
  have a:=hz 0 hlt
  have b:=zst_bef hlog hf hlt
  have c:=bef_succ (st:=st) (z0:=z0) (z1:=z1) hlt
  rw [c] at b
  unfold stepR at b
  rw [Go.Proofs.Ytgbogdckmfencaa.bef] at b
  dsimp only at b
  omega
 ·obtain ⟨hlt,rfl⟩:=List.getElem?_eq_some_iff.1 he
  have a:=hn i hlt
  have g:=zst_good hlog hf i (by omega)
  have b:=hz i (by omega)
  unfold folc at a
  rw [List.getElem?_eq_getElem hlt] at a
  dsimp only at a
  rw [if_pos (by omega)] at a
  dsimp only at a
  omega
 ·obtain ⟨hlt,rfl⟩:=List.getElem?_eq_some_iff.1 he
  have a:=hz i hlt
  have b:=zst_bef hlog hf hlt
  have c:=bef_shown (st:=st) (z0:=z0) (z1:=z1) hlt
  omega
end
/-- A range that is just what is between the least and the greatest of some paths. -/
structure NetIs (Q : (Nat → Int) → Prop) (L U : (Nat → Int) → Int) (r : Int × Int) : Prop where
 lo : ∀ z,Q z → r.1 ≤ L z
 hi : ∀ z,Q z → U z ≤ r.2
 loAt : ∃ z,Q z ∧ L z = r.1
 hiAt : ∃ z,Q z ∧ U z = r.2
theorem NetIs.uniq {Q Q' : (Nat → Int) → Prop} {L U L' U' : (Nat → Int) → Int} {r r' : Int × Int} (h : NetIs Q L U r) (h' : NetIs Q' L' U' r') (t : ∀ z,Q z → ∃ y,Q' y ∧ L' y = L z ∧ U' y = U z) (t' : ∀ y,Q' y → ∃ z,Q z ∧ L z = L' y ∧ U z = U' y) : r = r':=by
 obtain ⟨a,qa,ea⟩:=h.loAt
 obtain ⟨b,qb,eb⟩:=h.hiAt
 obtain ⟨c,qc,ec⟩:=h'.loAt
 obtain ⟨d,qd,ed⟩:=h'.hiAt
 obtain ⟨a',qa',la,ua⟩:=t a qa
 obtain ⟨b',qb',lb,ub⟩:=t b qb
 obtain ⟨c',qc',lc,uc⟩:=t' c qc
 obtain ⟨d',qd',ld,ud⟩:=t' d qd
 have h1:=h.lo c' qc'
 have h2:=h.hi d' qd'
 have h3:=h'.lo a' qa'
 have h4:=h'.hi b' qb'
 apply Prod.ext <;> omega
def sumLo (wt : Nat → Int → Int × Int) (e n : Nat) (z : Nat → Int) : Int:=((List.range n).map fun i => (wt (e + i) (z (e + i))).1).sum
def sumHi (wt : Nat → Int → Int × Int) (e n : Nat) (z : Nat → Int) : Int:=((List.range n).map fun i => (wt (e + i) (z (e + i))).2).sum
theorem range_sum_front (g : Nat → Int) (n : Nat) : ((List.range (n + 1)).map g).sum = g 0 + ((List.range n).map fun i => g (i + 1)).sum:=by
 rw [List.range_succ_eq_map,List.map_cons,List.sum_cons,List.map_map]; rfl
theorem range_sum_back (g : Nat → Int) (n : Nat) : ((List.range (n + 1)).map g).sum = ((List.range n).map g).sum + g n:=by
 rw [List.range_succ,List.map_append,List.sum_append]; simp
theorem sumLo_front (wt : Nat → Int → Int × Int) (e n : Nat) (z : Nat → Int) : sumLo wt e (n + 1) z = (wt e (z e)).1 + sumLo wt (e + 1) n z:=by
 unfold sumLo
 rw [range_sum_front,Nat.add_zero]
 congr 2
 exact List.map_congr_left fun i _ => by rw [show e + (i + 1) = e + 1 + i by omega]
theorem sumHi_front (wt : Nat → Int → Int × Int) (e n : Nat) (z : Nat → Int) : sumHi wt e (n + 1) z = (wt e (z e)).2 + sumHi wt (e + 1) n z:=by
 unfold sumHi
 rw [range_sum_front,Nat.add_zero]
 congr 2
 exact List.map_congr_left fun i _ => by rw [show e + (i + 1) = e + 1 + i by omega]
theorem sumLo_back (wt : Nat → Int → Int × Int) (e n : Nat) (z : Nat → Int) : sumLo wt e (n + 1) z = sumLo wt e n z + (wt (e + n) (z (e + n))).1:=by unfold sumLo; rw [range_sum_back]
theorem sumHi_back (wt : Nat → Int → Int × Int) (e n : Nat) (z : Nat → Int) : sumHi wt e (n + 1) z = sumHi wt e n z + (wt (e + n) (z (e + n))).2:=by unfold sumHi; rw [range_sum_back]
theorem sumLo_congr {wt wt' : Nat → Int → Int × Int} {e n : Nat} {z z' : Nat → Int} (h : ∀ i,i < n → wt (e + i) (z (e + i)) = wt' (e + i) (z' (e + i))) : sumLo wt e n z = sumLo wt' e n z':=by
 unfold sumLo
 congr 1
 exact List.map_congr_left fun i hi => by rw [h i (List.mem_range.1 hi)]
theorem sumHi_congr {wt wt' : Nat → Int → Int × Int} {e n : Nat} {z z' : Nat → Int} (h : ∀ i,i < n → wt (e + i) (z (e + i)) = wt' (e + i) (z' (e + i))) : sumHi wt e n z = sumHi wt' e n z':=by
 unfold sumHi
 congr 1
 exact List.map_congr_left fun i hi => by rw [h i (List.mem_range.1 hi)]
/-- A path of the zeros that may follow, from an event with a zero on. -/
def SufQ (fol : Nat → Int → Int × Int) (e d : Nat) (y : Int) (z : Nat → Int) : Prop:=z e = y ∧ ∀ i,e ≤ i → i < e + d → (fol i (z i)).1 ≤ z (i + 1) ∧ z (i + 1) ≤ (fol i (z i)).2
theorem Vd_net {f : Nat → Int × Int} {fol : Nat → Int → Int × Int} {n : Nat} (hc : Chain f fol n) {wt : Nat → Int → Int × Int} (hw : ∀ e z,Bd 100000 (wt e z)) : ∀ d,d ≤ 1000 → ∀ e y,e + d < n → (f e).1 ≤ y → y ≤ (f e).2 → NetIs (SufQ fol e d y) (sumLo wt e (d + 1)) (sumHi wt e (d + 1)) (Vd wt fol d e y):=by
 intro d
 induction d with
 | zero =>
  intro _ e y he h1 h2
  have e1 : ∀ z,SufQ fol e 0 y z → sumLo wt e 1 z = (wt e y).1 ∧ sumHi wt e 1 z = (wt e y).2:=fun z hz => by
   unfold sumLo sumHi; simp [hz.1]
  have q : SufQ fol e 0 y fun _ => y:=⟨rfl,fun i h1 h2 => by omega⟩
  rw [Vd]
  exact ⟨fun z hz => by rw [(e1 z hz).1]; omega,fun z hz => by rw [(e1 z hz).2]; omega,⟨_,q,(e1 _ q).1⟩,⟨_,q,(e1 _ q).2⟩⟩
 | succ d ih =>
  intro hd e y he h1 h2
  have hne:=hc.ne e y (by omega) h1 h2
  have hm:=fun x => hc.mem e y x (by omega) h1 h2
  have hI:=fun x (a : (fol e y).1 ≤ x) (b : x ≤ (fol e y).2) => ih (by omega) (e + 1) x (by omega) (hm x a b).1 (hm x a b).2
  obtain ⟨⟨a,ha,ha2⟩,⟨b,hb1,hb2⟩⟩:=covers_at (Vd wt fol d (e + 1)) _ (rngL_ne hne) fun x hx => by
   have hx':=rngL_mem hx
   have:=hm x hx'.1 hx'.2
   have:=Vd_bd hc hw d (by omega) (e + 1) x (by omega) this.1 this.2
   unfold Bd at this; omega
  have cut : ∀ z,SufQ fol e (d + 1) y z → SufQ fol (e + 1) d (z (e + 1)) z ∧ (fol e y).1 ≤ z (e + 1) ∧ z (e + 1) ≤ (fol e y).2:=fun z hz => by
   have:=hz.2 e (by omega) (by omega)
   rw [hz.1] at this
   exact ⟨⟨rfl,fun i h1 h2 => hz.2 i (by omega) (by omega)⟩,this⟩
  have ext : ∀ x z,(fol e y).1 ≤ x → x ≤ (fol e y).2 → SufQ fol (e + 1) d x z → ∃ z',SufQ fol e (d + 1) y z' ∧ sumLo wt e (d + 1 + 1) z' = (wt e y).1 + sumLo wt (e + 1) (d + 1) z ∧ sumHi wt e (d + 1 + 1) z' = (wt e y).2 + sumHi wt (e + 1) (d + 1) z:=fun x z h1 h2 hz => by
   refine ⟨fun i => if i ≤ e then y else z i,⟨if_pos (Nat.le_refl _),fun i hi1 hi2 => ?_⟩,?_,?_⟩
   ·by_cases hie : i = e
    ·subst hie
     dsimp only
     rw [if_pos (Nat.le_refl _),if_neg (by omega),hz.1]
     exact ⟨h1,h2⟩
    ·dsimp only
     rw [if_neg (by omega),if_neg (by omega)]
     exact hz.2 i (by omega) (by omega)
   ·rw [sumLo_front,if_pos (Nat.le_refl _)]
    congr 1
    exact sumLo_congr fun i _ => by rw [if_neg (by omega)]
   ·rw [sumHi_front,if_pos (Nat.le_refl _)]
    congr 1
    exact sumHi_congr fun i _ => by rw [if_neg (by omega)]
  have ia:=rngL_mem ha
  have ib:=rngL_mem hb1
  rw [Vd]
  refine ⟨fun z hz => ?_,fun z hz => ?_,?_,?_⟩
  ·obtain ⟨q,q1,q2⟩:=cut z hz
   have:=(hI _ q1 q2).lo z q
   have l:=(covers_le (Vd wt fol d (e + 1)) _ _ (mem_rngL q1 q2)).1
   rw [sumLo_front,hz.1]
   omega
  ·obtain ⟨q,q1,q2⟩:=cut z hz
   have:=(hI _ q1 q2).hi z q
   have l:=(covers_le (Vd wt fol d (e + 1)) _ _ (mem_rngL q1 q2)).2
   rw [sumHi_front,hz.1]
   omega
  ·obtain ⟨z,q,hz⟩:=(hI a ia.1 ia.2).loAt
   obtain ⟨z',q',l1,l2⟩:=ext a z ia.1 ia.2 q
   exact ⟨z',q',by rw [l1,hz,ha2]⟩
  ·obtain ⟨z,q,hz⟩:=(hI b ib.1 ib.2).hiAt
   obtain ⟨z',q',l1,l2⟩:=ext b z ib.1 ib.2 q
   exact ⟨z',q',by rw [l2,hz,hb2]⟩
/-- The net loads are what truths weigh. -/
theorem net_paths {st z0 z1 : Int} {es : List Ev} (h : LogOk st z0 z1 es) (hf : Fits st z0 z1 es es.length) (hn1 : 1 ≤ es.length) (F B : List Int) :
  NetIs (FPath st z0 z1 es) (sumLo (wtc st es F B) 0 es.length) (sumHi (wtc st es F B) 0 es.length) (netOf st es F B (zst st z0 z1 es 0) es.length):=by
 have h14:=h.n
 have hc:=chain_ok h hf
 have hg:=zst_good h hf 0 (by omega)
 rw [netOf_Vd h hf F B hn1]
 have hI:=fun y (a : (zst st z0 z1 es 0 0).1 ≤ y) (b : y ≤ (zst st z0 z1 es 0 0).2) => Vd_net hc (wtc_bd h F B) (es.length - 1) (by omega) 0 y (by omega) a b
 rw [show es.length - 1 + 1 = es.length by omega] at hI
 obtain ⟨⟨a,ha,ha2⟩,⟨b,hb1,hb2⟩⟩:=covers_at (Vd (wtc st es F B) (folc es (zst st z0 z1 es 0)) (es.length - 1) 0) _ (rngL_ne hg.2.1) fun x hx => by
  have hx':=rngL_mem hx
  have:=Vd_bd hc (wtc_bd h F B) (es.length - 1) (by omega) 0 x (by omega) hx'.1 hx'.2
  unfold Bd at this; omega
 have ia:=rngL_mem ha
 have ib:=rngL_mem hb1
 have toQ : ∀ z,FPath st z0 z1 es z → SufQ (folc es (zst st z0 z1 es 0)) 0 (es.length - 1) (z 0) z:=fun z hz => ⟨rfl,fun i _ h2 => hz.fol h i (by omega)⟩
 have ofQ : ∀ y z,(zst st z0 z1 es 0 0).1 ≤ y → y ≤ (zst st z0 z1 es 0 0).2 → SufQ (folc es (zst st z0 z1 es 0)) 0 (es.length - 1) y z → FPath st z0 z1 es z:=fun y z h1 h2 hz => FPath.of_chain h hf (fun _ => by rw [hz.1]; exact ⟨h1,h2⟩) fun i hi => hz.2 i (by omega) (by omega)
 refine ⟨fun z hz => ?_,fun z hz => ?_,?_,?_⟩
 ·have hz0:=hz.zst 0 (by omega)
  have:=(hI _ hz0.1 hz0.2).lo z (toQ z hz)
  have l:=(covers_le (Vd (wtc st es F B) (folc es (zst st z0 z1 es 0)) (es.length - 1) 0) _ _ (mem_rngL hz0.1 hz0.2)).1
  omega
 ·have hz0:=hz.zst 0 (by omega)
  have:=(hI _ hz0.1 hz0.2).hi z (toQ z hz)
  have l:=(covers_le (Vd (wtc st es F B) (folc es (zst st z0 z1 es 0)) (es.length - 1) 0) _ _ (mem_rngL hz0.1 hz0.2)).2
  omega
 ·obtain ⟨z,q,hz⟩:=(hI a ia.1 ia.2).loAt
  exact ⟨z,ofQ a z ia.1 ia.2 q,by rw [hz,ha2]⟩
 ·obtain ⟨z,q,hz⟩:=(hI b ib.1 ib.2).hiAt
  exact ⟨z,ofQ b z ib.1 ib.2 q,by rw [hz,hb2]⟩
end Go.Proofs.Ytgbogdckmfencaa

/-! What truths weigh that go through one zero of an event: the tables of weightsBefore and weightsFrom together. Nothing of the program. -/
namespace Go.Proofs.Ytgbogdckmfencaa
theorem ix_inj {e : Nat} {y z : Int} (hy : -200 ≤ y) (hz : -200 ≤ z) (h : ix e y = ix e z) : y = z:=by unfold ix at h; omega
theorem ix_far {e i : Nat} {y z : Int} (hy : -200 ≤ y) (hy2 : y ≤ 200) (hz : -200 ≤ z) (hz2 : z ≤ 200) (h : e ≠ i) : ix e y ≠ ix i z:=by unfold ix; omega
theorem onto_at (e : Nat) (so : Int × Int) (T : Nat → Int × Int) (y : Int) (hy : -200 ≤ y) : ∀ ys : List Int,(∀ z ∈ ys,-200 ≤ z) → onto e so T ys (ix e y) = if y ∈ ys then cov (T (ix e y)) so else T (ix e y):=by
 refine snoc_ind ?_ ?_
 ·intro _; rw [if_neg (by simp)]; rfl
 ·intro ys z ih h
  have hi:=ih fun x hx => h x (by simp [hx])
  rw [onto_snoc]
  unfold upd
  by_cases hzy : z = y
  ·subst hzy
   rw [if_pos rfl,if_pos (by simp),hi]
   split
   ·unfold cov; apply Prod.ext <;> (dsimp only; omega)
   ·rfl
  ·rw [if_neg (fun h2 => hzy (ix_inj hy (h z (by simp)) h2).symm),hi]
   have : y ∈ ys ++ [z] ↔ y ∈ ys:=by simp; intro h2; exact absurd h2.symm hzy
   simp only [this]
theorem onto_row (e i : Nat) (so : Int × Int) (T : Nat → Int × Int) (y : Int) (hy : -200 ≤ y) (hy2 : y ≤ 200) (hne : e ≠ i) : ∀ ys : List Int,(∀ z ∈ ys,-200 ≤ z ∧ z ≤ 200) → onto e so T ys (ix i y) = T (ix i y):=by
 refine snoc_ind ?_ ?_
 ·intro _; rfl
 ·intro ys z ih h
  have hz:=h z (by simp)
  rw [onto_snoc]
  unfold upd
  rw [if_neg (fun h2 => ix_far hz.1 hz.2 hy hy2 hne h2.symm)]
  exact ih fun x hx => h x (by simp [hx])
theorem passOn_row (wt fol : Nat → Int → Int × Int) (e i : Nat) (T : Nat → Int × Int) (y : Int) (hy : -200 ≤ y) (hy2 : y ≤ 200) (hne : e + 1 ≠ i) (hf : ∀ z x,(fol e z).1 ≤ x → x ≤ (fol e z).2 → -200 ≤ x ∧ x ≤ 200) : ∀ zs : List Int,passOn wt fol e T zs (ix i y) = T (ix i y):=by
 refine snoc_ind rfl fun zs z ih => ?_
 rw [passOn_snoc,onto_row _ _ _ _ _ hy hy2 hne _ (fun x hx => by have:=rngL_mem hx; exact hf z x this.1 this.2),ih]
theorem passOn_at (wt fol : Nat → Int → Int × Int) (e : Nat) (T : Nat → Int × Int) (y : Int) (hy : -200 ≤ y) (hy2 : y ≤ 200) (h0 : T (ix (e + 1) y) = noth) (hf : ∀ z x,(fol e z).1 ≤ x → x ≤ (fol e z).2 → -200 ≤ x ∧ x ≤ 200) : ∀ zs : List Int,(∀ z ∈ zs,-200 ≤ z ∧ z ≤ 200) →
  passOn wt fol e T zs (ix (e + 1) y) = covers (soFar wt e T) (zs.filter fun z => decide ((fol e z).1 ≤ y ∧ y ≤ (fol e z).2)):=by
 refine snoc_ind ?_ ?_
 ·intro _; exact h0
 ·intro zs z ih h
  have hz:=h z (by simp)
  rw [passOn_snoc,onto_at _ _ _ _ hy _ (fun x hx => by have:=rngL_mem hx; exact (hf z x this.1 this.2).1),ih fun x hx => h x (by simp [hx]),List.filter_append]
  have hso : soFar wt e (passOn wt fol e T zs) z = soFar wt e T z:=by
   unfold soFar
   rw [passOn_row wt fol e e T z hz.1 hz.2 (by omega) hf]
  rw [hso]
  by_cases hy3 : (fol e z).1 ≤ y ∧ y ≤ (fol e z).2
  ·rw [if_pos (mem_rngL hy3.1 hy3.2)]
   have : List.filter (fun z => decide ((fol e z).1 ≤ y ∧ y ≤ (fol e z).2)) [z] = [z]:=by simp [hy3]
   rw [this,covers_snoc]
  ·rw [if_neg (fun hm => hy3 (rngL_mem hm))]
   have : List.filter (fun z => decide ((fol e z).1 ≤ y ∧ y ≤ (fol e z).2)) [z] = []:=by simpa using hy3
   rw [this,List.append_nil]
theorem clearR_row (e i : Nat) (T : Nat → Int × Int) (y : Int) (hy : -200 ≤ y) (hy2 : y ≤ 200) (hne : e ≠ i) : ∀ zs : List Int,(∀ z ∈ zs,-200 ≤ z ∧ z ≤ 200) → clearR e T zs (ix i y) = T (ix i y):=by
 refine snoc_ind ?_ ?_
 ·intro _; rfl
 ·intro ys z ih h
  have hz:=h z (by simp)
  rw [clearR_snoc]
  unfold upd
  rw [if_neg (fun h2 => ix_far hz.1 hz.2 hy hy2 hne h2.symm)]
  exact ih fun x hx => h x (by simp [hx])
theorem clearR_at (e : Nat) (T : Nat → Int × Int) (y : Int) (hy : -200 ≤ y) : ∀ zs : List Int,(∀ z ∈ zs,-200 ≤ z) → y ∈ zs → clearR e T zs (ix e y) = noth:=by
 refine snoc_ind ?_ ?_
 ·intro _ h; cases h
 ·intro ys z ih h hm
  rw [clearR_snoc]
  unfold upd
  by_cases hzy : z = y
  ·subst hzy; rw [if_pos rfl]
  ·rw [if_neg (fun h2 => hzy (ix_inj hy (h z (by simp)) h2).symm)]
   refine ih (fun x hx => h x (by simp [hx])) ?_
   rcases List.mem_append.1 hm with h1 | h1
   ·exact h1
   ·exact absurd (by simpa using h1) (Ne.symm hzy)
/-- To each zero of an event there is one of the event before. -/
def Back (f : Nat → Int × Int) (fol : Nat → Int → Int × Int) (n : Nat) : Prop:=∀ e x,e + 1 < n → (f (e + 1)).1 ≤ x → x ≤ (f (e + 1)).2 → ∃ z,(f e).1 ≤ z ∧ z ≤ (f e).2 ∧ (fol e z).1 ≤ x ∧ x ≤ (fol e z).2
theorem back_ok {st z0 z1 : Int} {es : List Ev} (h : LogOk st z0 z1 es) (hf : Fits st z0 z1 es es.length) : Back (zst st z0 z1 es 0) (folc es (zst st z0 z1 es 0)) es.length:=by
 intro e x he h1 h2
 have hv:=List.getElem?_eq_getElem he
 have hev:=h.ev _ (List.getElem_mem he)
 have hr:=zst_rec (st:=st) (z0:=z0) (z1:=z1) he
 have hb:=zst_bef h hf he
 have hs:=bef_succ (st:=st) (z0:=z0) (z1:=z1) he
 have hy:=hf.yes e (by omega)
 have g:=zst_good h hf e (by omega)
 rw [hs] at hb
 unfold stepR at hb
 dsimp only at hb
 have c2:=hev.c2
 refine ⟨max (zst st z0 z1 es 0 e).1 (x - es[e + 1].c1),by omega,?_,?_⟩
 ·have e1 : (zst st z0 z1 es 0 e).2 = min (bef st z0 z1 es (e + 1)).2 ((zst st z0 z1 es 0 (e + 1)).2 - es[e + 1].c0):=by rw [hr]
  have e2 : (zst st z0 z1 es 0 e).1 = max (bef st z0 z1 es (e + 1)).1 ((zst st z0 z1 es 0 (e + 1)).1 - es[e + 1].c1):=by rw [hr]
  omega
 ·have e1 : (zst st z0 z1 es 0 e).2 = min (bef st z0 z1 es (e + 1)).2 ((zst st z0 z1 es 0 (e + 1)).2 - es[e + 1].c0):=by rw [hr]
  have e2 : (zst st z0 z1 es 0 e).1 = max (bef st z0 z1 es (e + 1)).1 ((zst st z0 z1 es 0 (e + 1)).1 - es[e + 1].c1):=by rw [hr]
  unfold folc
  rw [hv]
  dsimp only
  rw [if_pos (by omega)]
  dsimp only
  omega
/-- A path up to an event with a zero. -/
def PreQ (f : Nat → Int × Int) (fol : Nat → Int → Int × Int) (i : Nat) (y : Int) (z : Nat → Int) : Prop:=((f 0).1 ≤ z 0 ∧ z 0 ≤ (f 0).2) ∧ (∀ j,j < i → (fol j (z j)).1 ≤ z (j + 1) ∧ z (j + 1) ≤ (fol j (z j)).2) ∧ z i = y
theorem sum_bd {wt : Nat → Int → Int × Int} (hw : ∀ e z,Bd 100000 (wt e z)) (e : Nat) (z : Nat → Int) : ∀ n : Nat,-((n : Int) * 100000) ≤ sumLo wt e n z ∧ sumLo wt e n z ≤ (n : Int) * 100000 ∧ -((n : Int) * 100000) ≤ sumHi wt e n z ∧ sumHi wt e n z ≤ (n : Int) * 100000:=by
 intro n
 induction n with
 | zero => unfold sumLo sumHi; simp
 | succ n ih =>
  have:=hw (e + n) (z (e + n))
  unfold Bd at this
  rw [sumLo_back,sumHi_back]
  push_cast
  omega
theorem Tbe_net {f : Nat → Int × Int} {fol : Nat → Int → Int × Int} {n : Nat} (hc : Chain f fol n) (hb : Back f fol n) (hfb : ∀ i,i < n → -200 ≤ (f i).1 ∧ (f i).2 ≤ 200) (hfo : ∀ e z x,(fol e z).1 ≤ x → x ≤ (fol e z).2 → -200 ≤ x ∧ x ≤ 200) {wt : Nat → Int → Int × Int} (hw : ∀ e z,Bd 100000 (wt e z)) : ∀ i,i < n → i ≤ 1000 → ∀ y,(f i).1 ≤ y → y ≤ (f i).2 →
  NetIs (PreQ f fol i y) (sumLo wt 0 i) (sumHi wt 0 i) (Tbe wt fol f i (ix i y)):=by
 intro i
 induction i with
 | zero =>
  intro _ _ y h1 h2
  have q : PreQ f fol 0 y fun _ => y:=⟨⟨h1,h2⟩,fun j hj => by omega,rfl⟩
  exact ⟨fun z _ => Int.le_refl _,fun z _ => Int.le_refl _,⟨_,q,rfl⟩,⟨_,q,rfl⟩⟩
 | succ i ih =>
  intro hi hi2 y h1 h2
  have hI:=fun x a b => ih (by omega) (by omega) x a b
  have hy:=hfb (i + 1) hi
  have hyb : -200 ≤ y ∧ y ≤ 200:=by omega
  have hfi:=hfb i (by omega)
  have hcl:=clearR_at (i + 1) (Tbe wt fol f i) y hyb.1 (rngL (f (i + 1)).1 (f (i + 1)).2) (fun z hz => by have:=rngL_mem hz; omega) (mem_rngL h1 h2)
  rw [Tbe,passOn_at wt fol i _ y hyb.1 hyb.2 hcl (hfo i) _ (fun z hz => by have:=rngL_mem hz; omega)]
  have hso : ∀ z ∈ (rngL (f i).1 (f i).2).filter fun z => decide ((fol i z).1 ≤ y ∧ y ≤ (fol i z).2),((f i).1 ≤ z ∧ z ≤ (f i).2) ∧ ((fol i z).1 ≤ y ∧ y ≤ (fol i z).2) ∧ soFar wt i (clearR (i + 1) (Tbe wt fol f i) (rngL (f (i + 1)).1 (f (i + 1)).2)) z = ((Tbe wt fol f i (ix i z)).1 + (wt i z).1,(Tbe wt fol f i (ix i z)).2 + (wt i z).2):=fun z hz => by
   obtain ⟨hm,hp⟩:=List.mem_filter.1 hz
   have hm':=rngL_mem hm
   refine ⟨hm',of_decide_eq_true hp,?_⟩
   unfold soFar
   rw [clearR_row (i + 1) i _ z (by omega) (by omega) (by omega) _ (fun x hx => by have:=rngL_mem hx; omega)]
  have hin : ∀ z,(f i).1 ≤ z → z ≤ (f i).2 → (fol i z).1 ≤ y → y ≤ (fol i z).2 → z ∈ (rngL (f i).1 (f i).2).filter fun z => decide ((fol i z).1 ≤ y ∧ y ≤ (fol i z).2):=fun z a b c d => List.mem_filter.2 ⟨mem_rngL a b,decide_eq_true ⟨c,d⟩⟩
  obtain ⟨p,p1,p2,p3,p4⟩:=hb i y hi h1 h2
  obtain ⟨⟨a,ha,ha2⟩,⟨b,hb1,hb2⟩⟩:=covers_at (soFar wt i (clearR (i + 1) (Tbe wt fol f i) (rngL (f (i + 1)).1 (f (i + 1)).2))) _ (List.ne_nil_of_mem (hin p p1 p2 p3 p4)) fun z hz => by
   obtain ⟨s1,s2,s3⟩:=hso z hz
   rw [s3]
   have hN:=hI z s1.1 s1.2
   obtain ⟨u,_,hu⟩:=hN.loAt
   obtain ⟨v,_,hv⟩:=hN.hiAt
   have b1:=sum_bd hw 0 u i
   have b2:=sum_bd hw 0 v i
   have b3:=hw i z
   unfold Bd at b3
   dsimp only
   omega
  have hle:=covers_le (soFar wt i (clearR (i + 1) (Tbe wt fol f i) (rngL (f (i + 1)).1 (f (i + 1)).2))) ((rngL (f i).1 (f i).2).filter fun z => decide ((fol i z).1 ≤ y ∧ y ≤ (fol i z).2))
  have zat : ∀ z,PreQ f fol (i + 1) y z → PreQ f fol i (z i) z ∧ ((f i).1 ≤ z i ∧ z i ≤ (f i).2) ∧ (fol i (z i)).1 ≤ y ∧ y ≤ (fol i (z i)).2:=fun z hz => by
   have hall : ∀ j,j ≤ i → (f j).1 ≤ z j ∧ z j ≤ (f j).2:=by
    intro j
    induction j with
    | zero => intro _; exact hz.1
    | succ j ihj =>
     intro hj
     have a:=ihj (by omega)
     have b:=hz.2.1 j (by omega)
     exact hc.mem j (z j) _ (by omega) a.1 a.2 b.1 b.2
   have:=hz.2.1 i (by omega)
   rw [hz.2.2] at this
   exact ⟨⟨hz.1,fun j hj => hz.2.1 j (by omega),rfl⟩,hall i (Nat.le_refl _),this⟩
  have ext : ∀ x z,(fol i x).1 ≤ y → y ≤ (fol i x).2 → PreQ f fol i x z → ∃ z',PreQ f fol (i + 1) y z' ∧ sumLo wt 0 (i + 1) z' = sumLo wt 0 i z + (wt i x).1 ∧ sumHi wt 0 (i + 1) z' = sumHi wt 0 i z + (wt i x).2:=fun x z c1 c2 hz => by
   refine ⟨fun j => if j ≤ i then z j else y,⟨by simpa using hz.1,fun j hj => ?_,if_neg (by omega)⟩,?_,?_⟩
   ·dsimp only
    rw [if_pos (by omega)]
    by_cases hji : j = i
    ·subst hji
     rw [if_neg (by omega),hz.2.2]
     exact ⟨c1,c2⟩
    ·rw [if_pos (by omega)]
     exact hz.2.1 j (by omega)
   ·rw [sumLo_back,Nat.zero_add,if_pos (Nat.le_refl _),hz.2.2]
    congr 1
    exact sumLo_congr fun j hj => by rw [if_pos (by omega)]
   ·rw [sumHi_back,Nat.zero_add,if_pos (Nat.le_refl _),hz.2.2]
    congr 1
    exact sumHi_congr fun j hj => by rw [if_pos (by omega)]
  obtain ⟨sa1,sa2,sa3⟩:=hso a ha
  obtain ⟨sb1,sb2,sb3⟩:=hso b hb1
  refine ⟨fun z hz => ?_,fun z hz => ?_,?_,?_⟩
  ·obtain ⟨q,q1,q2⟩:=zat z hz
   have hm:=hin _ q1.1 q1.2 q2.1 q2.2
   have l:=(hle _ hm).1
   rw [(hso _ hm).2.2] at l
   have:=(hI _ q1.1 q1.2).lo z q
   rw [sumLo_back,Nat.zero_add]
   dsimp only at l
   omega
  ·obtain ⟨q,q1,q2⟩:=zat z hz
   have hm:=hin _ q1.1 q1.2 q2.1 q2.2
   have l:=(hle _ hm).2
   rw [(hso _ hm).2.2] at l
   have:=(hI _ q1.1 q1.2).hi z q
   rw [sumHi_back,Nat.zero_add]
   dsimp only at l
   omega
  ·obtain ⟨z,q,hz⟩:=(hI a sa1.1 sa1.2).loAt
   obtain ⟨z',q',l1,l2⟩:=ext a z sa2.1 sa2.2 q
   refine ⟨z',q',?_⟩
   rw [ha2,sa3,l1,hz]
  ·obtain ⟨z,q,hz⟩:=(hI b sb1.1 sb1.2).hiAt
   obtain ⟨z',q',l1,l2⟩:=ext b z sb2.1 sb2.2 q
   refine ⟨z',q',?_⟩
   rw [hb2,sb3,l2,hz]
theorem Tbe_row (wt fol : Nat → Int → Int × Int) (f : Nat → Int × Int) (n : Nat) (hfb : ∀ i,i < n → -200 ≤ (f i).1 ∧ (f i).2 ≤ 200) (hfo : ∀ e z x,(fol e z).1 ≤ x → x ≤ (fol e z).2 → -200 ≤ x ∧ x ≤ 200) (i : Nat) (y : Int) (hy : -200 ≤ y) (hy2 : y ≤ 200) : ∀ m,i ≤ m → m < n → Tbe wt fol f m (ix i y) = Tbe wt fol f i (ix i y):=by
 intro m hm
 obtain ⟨k,rfl⟩:=Nat.exists_eq_add_of_le hm
 clear hm
 induction k with
 | zero => intro _; rfl
 | succ k ih =>
  intro hn
  have:=hfb (i + k + 1) hn
  rw [← Nat.add_assoc,Tbe,passOn_row wt fol (i + k) i _ y hy hy2 (by omega) (hfo (i + k)),clearR_row (i + k + 1) i _ y hy hy2 (by omega) _ (fun z hz => by have:=rngL_mem hz; omega)]
  exact ih (by omega)
theorem Tab_row (wt fol : Nat → Int → Int × Int) (f : Nat → Int × Int) (n : Nat) (hfb : ∀ i,i < n → -200 ≤ (f i).1 ∧ (f i).2 ≤ 200) (i : Nat) (y : Int) (hi : i < n) : ∀ m,n - i ≤ m → m ≤ n → Tab wt fol f n m (ix i y) = Tab wt fol f n (n - i) (ix i y):=by
 intro m hm
 obtain ⟨k,rfl⟩:=Nat.exists_eq_add_of_le hm
 clear hm
 induction k with
 | zero => intro _; rfl
 | succ k ih =>
  intro hn
  have:=hfb (n - 1 - (n - i + k)) (by omega)
  rw [← Nat.add_assoc,Tab,fill_far wt fol _ _ _ _ (fun z hz => by have:=rngL_mem hz; omega) _ (by unfold ix; omega)]
  exact ih (by omega)
theorem sumLo_split (wt : Nat → Int → Int × Int) (z : Nat → Int) (a : Nat) : ∀ b,sumLo wt 0 (a + b) z = sumLo wt 0 a z + sumLo wt a b z:=by
 intro b
 induction b with
 | zero => unfold sumLo; simp
 | succ b ih => rw [← Nat.add_assoc,sumLo_back,ih,sumLo_back,Nat.zero_add]; omega
theorem sumHi_split (wt : Nat → Int → Int × Int) (z : Nat → Int) (a : Nat) : ∀ b,sumHi wt 0 (a + b) z = sumHi wt 0 a z + sumHi wt a b z:=by
 intro b
 induction b with
 | zero => unfold sumHi; simp
 | succ b ih => rw [← Nat.add_assoc,sumHi_back,ih,sumHi_back,Nat.zero_add]; omega
/-- The two tables together, at an event with a zero: what truths weigh that have this zero there. -/
theorem through {st z0 z1 : Int} {es : List Ev} (h : LogOk st z0 z1 es) (hf : Fits st z0 z1 es es.length) (F B : List Int) (i : Nat) (hi : i < es.length) (y : Int) (h1 : (zst st z0 z1 es 0 i).1 ≤ y) (h2 : y ≤ (zst st z0 z1 es 0 i).2) :
  NetIs (fun z => FPath st z0 z1 es z ∧ z i = y) (sumLo (wtc st es F B) 0 es.length) (sumHi (wtc st es F B) 0 es.length)
   ((Tbe (wtc st es F B) (folc es (zst st z0 z1 es 0)) (zst st z0 z1 es 0) (es.length - 1) (ix i y)).1 + (Tab (wtc st es F B) (folc es (zst st z0 z1 es 0)) (zst st z0 z1 es 0) es.length es.length (ix i y)).1,(Tbe (wtc st es F B) (folc es (zst st z0 z1 es 0)) (zst st z0 z1 es 0) (es.length - 1) (ix i y)).2 + (Tab (wtc st es F B) (folc es (zst st z0 z1 es 0)) (zst st z0 z1 es 0) es.length es.length (ix i y)).2):=by
 have h14:=h.n
 have hc:=chain_ok h hf
 have hb:=back_ok h hf
 have hg:=fun i hi => zst_good h hf i hi
 have hfb : ∀ i,i < es.length → -200 ≤ (zst st z0 z1 es 0 i).1 ∧ (zst st z0 z1 es 0 i).2 ≤ 200:=fun i hi => by have:=hg i hi; omega
 have hfo : ∀ e z x,(folc es (zst st z0 z1 es 0) e z).1 ≤ x → x ≤ (folc es (zst st z0 z1 es 0) e z).2 → -200 ≤ x ∧ x ≤ 200:=fun e z => (folc_ok h (zst st z0 z1 es 0) (fun i hi => by have:=hg i hi; omega) e z).2.2.2.2
 have hyb:=hfb i hi
 rw [Tbe_row _ _ _ es.length hfb hfo i y (by omega) (by omega) (es.length - 1) (by omega) (by omega),Tab_row _ _ _ _ hfb i y hi es.length (by omega) (Nat.le_refl _)]
 have hT:=Tab_Vd (wtc st es F B) (folc es (zst st z0 z1 es 0)) (zst st z0 z1 es 0) es.length hfb (fun e z x he a b => by
  unfold folc at a b
  rw [List.getElem?_eq_getElem he] at a b
  dsimp only at a b
  split at a
  ·rename_i hz2
   rw [if_pos hz2] at b
   dsimp only at a b
   omega
  ·rename_i hz2
   rw [if_neg hz2] at b
   dsimp only at a b
   omega) (es.length - 1 - i) (by omega) y (by rw [show es.length - 1 - (es.length - 1 - i) = i by omega]; exact h1) (by rw [show es.length - 1 - (es.length - 1 - i) = i by omega]; exact h2)
 rw [show es.length - 1 - (es.length - 1 - i) = i by omega,show es.length - 1 - i + 1 = es.length - i by omega] at hT
 rw [hT]
 have hA:=Tbe_net hc hb hfb hfo (wtc_bd h F B) i hi (by omega) y h1 h2
 have hV:=Vd_net hc (wtc_bd h F B) (es.length - 1 - i) (by omega) i y (by omega) h1 h2
 rw [show es.length - 1 - i + 1 = es.length - i by omega] at hV
 have sl:=fun z => sumLo_split (wtc st es F B) z i (es.length - i)
 have sh:=fun z => sumHi_split (wtc st es F B) z i (es.length - i)
 rw [show i + (es.length - i) = es.length by omega] at sl sh
 have pre : ∀ z,FPath st z0 z1 es z → z i = y → PreQ (zst st z0 z1 es 0) (folc es (zst st z0 z1 es 0)) i y z:=fun z hz e => ⟨hz.zst 0 (by omega),fun j hj => hz.fol h j (by omega),e⟩
 have suf : ∀ z,FPath st z0 z1 es z → z i = y → SufQ (folc es (zst st z0 z1 es 0)) i (es.length - 1 - i) y z:=fun z hz e => ⟨e,fun j _ hj => hz.fol h j (by omega)⟩
 have join : ∀ u v,PreQ (zst st z0 z1 es 0) (folc es (zst st z0 z1 es 0)) i y u → SufQ (folc es (zst st z0 z1 es 0)) i (es.length - 1 - i) y v → ∃ z,(FPath st z0 z1 es z ∧ z i = y) ∧ sumLo (wtc st es F B) 0 es.length z = sumLo (wtc st es F B) 0 i u + sumLo (wtc st es F B) i (es.length - i) v ∧ sumHi (wtc st es F B) 0 es.length z = sumHi (wtc st es F B) 0 i u + sumHi (wtc st es F B) i (es.length - i) v:=fun u v hu hv => by
  refine ⟨fun j => if j ≤ i then u j else v j,⟨FPath.of_chain h hf (fun _ => by simpa using hu.1) (fun j hj => ?_),by simpa using hu.2.2⟩,?_,?_⟩
  ·try dsimp only
   by_cases hji : j < i
   ·rw [if_pos (by omega),if_pos (by omega)]
    exact hu.2.1 j hji
   ·by_cases hje : j = i
    ·subst hje
     rw [if_pos (Nat.le_refl _),if_neg (by omega),hu.2.2,← hv.1]
     exact hv.2 j (Nat.le_refl _) (by omega)
    ·rw [if_neg (by omega),if_neg (by omega)]
     exact hv.2 j (by omega) (by omega)
  ·rw [sl]
   congr 1
   ·exact sumLo_congr fun j hj => by rw [if_pos (by omega)]
   ·refine sumLo_congr fun j hj => ?_
    by_cases hj0 : j = 0
    ·subst hj0
     rw [if_pos (by omega),Nat.add_zero,hu.2.2,hv.1]
    ·rw [if_neg (by omega)]
  ·rw [sh]
   congr 1
   ·exact sumHi_congr fun j hj => by rw [if_pos (by omega)]
   ·refine sumHi_congr fun j hj => ?_
    by_cases hj0 : j = 0
    ·subst hj0
     rw [if_pos (by omega),Nat.add_zero,hu.2.2,hv.1]
    ·rw [if_neg (by omega)]
 refine ⟨fun z hz => ?_,fun z hz => ?_,?_,?_⟩
 ·have a:=hA.lo z (pre z hz.1 hz.2)
  have b:=hV.lo z (suf z hz.1 hz.2)
  rw [sl]
  dsimp only
  omega
 ·have a:=hA.hi z (pre z hz.1 hz.2)
  have b:=hV.hi z (suf z hz.1 hz.2)
  rw [sh]
  dsimp only
  omega
 ·obtain ⟨u,qu,eu⟩:=hA.loAt
  obtain ⟨v,qv,ev⟩:=hV.loAt
  obtain ⟨z,qz,l1,l2⟩:=join u v qu qv
  exact ⟨z,qz,by rw [l1,eu,ev]⟩
 ·obtain ⟨u,qu,eu⟩:=hA.hiAt
  obtain ⟨v,qv,ev⟩:=hV.hiAt
  obtain ⟨z,qz,l1,l2⟩:=join u v qu qv
  exact ⟨z,qz,by rw [l2,eu,ev]⟩
end Go.Proofs.Ytgbogdckmfencaa

/-! What a driver adds in a truth, and what is paid. Nothing of the program. -/
namespace Go.Proofs.Ytgbogdckmfencaa
/-- What is paid for so many kilograms net, of which so many thousandths are dirt. -/
def cleanOf (n d : Int) : Int:=max 0 n * (1000 - d) / 1000
end Go.Proofs.Ytgbogdckmfencaa

/-! bridge.Paid, Inside, bounds of net loads. -/
namespace Go.Proofs.Ytgbogdckmfencaa
open Go Go.RowKit
/-- Net loads are small. -/
theorem net_small {st z0 z1 : Int} {es : List Ev} (h : LogOk st z0 z1 es) (hf : Fits st z0 z1 es es.length) (hn1 : 1 ≤ es.length) (F B : List Int) : Bd 1400000 (netOf st es F B (zst st z0 z1 es 0) es.length):=by
 have hN:=net_paths h hf hn1 F B
 obtain ⟨a,_,ea⟩:=hN.loAt
 obtain ⟨b,_,eb⟩:=hN.hiAt
 have b1:=sum_bd (wtc_bd h F B) 0 a es.length
 have b2:=sum_bd (wtc_bd h F B) 0 b es.length
 have:=h.n
 unfold Bd
 omega
theorem ds_small {fs bs d0 d1 : Int} (h1 : 0 ≤ d0) (h2 : d0 ≤ 200) (h3 : 0 ≤ d1) (h4 : d1 ≤ 200) : Bd 400 (dsLo fs bs d0 d1,dsHi fs bs d0 d1):=by
 have b1 : ∀ s,0 ≤ drLo s ∧ drLo s ≤ 1:=fun s => by unfold drLo; split <;> omega
 have b2 : ∀ s,0 ≤ drHi s ∧ drHi s ≤ 1:=fun s => by unfold drHi; split <;> omega
 have key : ∀ a d : Int,-1 ≤ a → a ≤ 1 → 0 ≤ d → d ≤ 200 → -200 ≤ a * d ∧ a * d ≤ 200:=by
  intro a d ha hb hc hd
  have : a = -1 ∨ a = 0 ∨ a = 1:=by omega
  rcases this with rfl | rfl | rfl <;> omega
 have p1:=b1 bs; have p2:=b2 fs; have p3:=b2 bs; have p4:=b1 fs
 have q1:=key (drLo bs - drHi fs) d0 (by omega) (by omega) h1 h2
 have q2:=key (drLo bs - drHi fs) d1 (by omega) (by omega) h3 h4
 have q3:=key (drHi bs - drLo fs) d0 (by omega) (by omega) h1 h2
 have q4:=key (drHi bs - drLo fs) d1 (by omega) (by omega) h3 h4
 unfold Bd dsLo dsHi
 dsimp only
 omega
end Go.Proofs.Ytgbogdckmfencaa
