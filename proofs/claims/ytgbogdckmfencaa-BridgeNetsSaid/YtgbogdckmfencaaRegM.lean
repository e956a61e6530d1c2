/- Small functions of package bridge: each returns what is stated, and what lay in memory stays. -/
import Derived.Test.YtgbogdckmfencaaBase
import Derived.Test.YtgbogdckmfencaaWmM
import Derived.OrdersHeld
set_option linter.unusedSimpArgs false
set_option linter.unusedVariables false
namespace Go.Proofs.Ytgbogdckmfencaa
open Go.RowKit
theorem origins_any (a b c d : Int) (w : World) (h1 : -1000000000000 ≤ a) (h2 : a ≤ 1000000000000) (h3 : -1000000000000 ≤ b) (h4 : b ≤ 1000000000000) (h5 : -1000000000000 ≤ c) (h6 : c ≤ 1000000000000) (h7 : -1000000000000 ≤ d) (h8 : d ≤ 1000000000000) :
  Calls Try.prog 88 #[.agg #[.int .i64 a,.int .i64 b],.agg #[.int .i64 c,.int .i64 d]] w fun e w' => e = .returned (.agg #[.int .i64 (a - d),.int .i64 (b - c)]) ∧ Below w.heap.size w w':=by
 go_enter Try.func88,Try.ntmps88
 go_wp2
 refine bodyPost_ret (v:=.agg #[.int .i64 (a - d),.int .i64 (b - c)]) (by simp [results,Try.results88,go_sem]) rfl ⟨rfl,?_⟩
 repeat (first | exact Below.refl _ _ | refine Below.alloc ?_ (by simp; try omega) _ | refine Below.setCell ?_ (by simp) _ )
theorem plus_any (a b c d : Int) (w : World) (h1 : -1000000000000 ≤ a) (h2 : a ≤ 1000000000000) (h3 : -1000000000000 ≤ b) (h4 : b ≤ 1000000000000) (h5 : -1000000000000 ≤ c) (h6 : c ≤ 1000000000000) (h7 : -1000000000000 ≤ d) (h8 : d ≤ 1000000000000) :
  Calls Try.prog 68 #[.agg #[.int .i64 a,.int .i64 b],.agg #[.int .i64 c,.int .i64 d]] w fun e w' => e = .returned (.agg #[.int .i64 (a + c),.int .i64 (b + d)]) ∧ Below w.heap.size w w':=by
 go_enter Try.func68,Try.ntmps68
 go_wp2
 refine bodyPost_ret (v:=.agg #[.int .i64 (a + c),.int .i64 (b + d)]) (by simp [results,Try.results68,go_sem]) rfl ⟨rfl,?_⟩
 repeat (first | exact Below.refl _ _ | refine Below.alloc ?_ (by simp; try omega) _ | refine Below.setCell ?_ (by simp) _ )
theorem meet_any (a b c d : Int) (w : World) :
  Calls Try.prog 87 #[.agg #[.int .i64 a,.int .i64 b],.agg #[.int .i64 c,.int .i64 d]] w fun e w' => e = .returned (.agg #[.int .i64 (max a c),.int .i64 (min b d)]) ∧ Below w.heap.size w w':=by
 go_enter Try.func87,Try.ntmps87
 go_wp2
 all_goals
  refine bodyPost_ret (v:=.agg #[.int .i64 (max a c),.int .i64 (min b d)]) (by simp [results,Try.results87,go_sem]; omega) rfl ⟨rfl,?_⟩
  repeat (first | exact Below.refl _ _ | refine Below.alloc ?_ (by simp; try omega) _ | refine Below.setCell ?_ (by simp) _ )
theorem cover_any (a b c d : Int) (w : World) :
  Calls Try.prog 95 #[.agg #[.int .i64 a,.int .i64 b],.agg #[.int .i64 c,.int .i64 d]] w fun e w' => e = .returned (.agg #[.int .i64 (min a c),.int .i64 (max b d)]) ∧ Below w.heap.size w w':=by
 go_enter Try.func95,Try.ntmps95
 go_wp2
 all_goals
  refine bodyPost_ret (v:=.agg #[.int .i64 (min a c),.int .i64 (max b d)]) (by simp [results,Try.results95,go_sem]; omega) rfl ⟨rfl,?_⟩
  repeat (first | exact Below.refl _ _ | refine Below.alloc ?_ (by simp; try omega) _ | refine Below.setCell ?_ (by simp) _ )
theorem spread_any (a b : Int) (w : World) (h1 : -1000000000000 ≤ a) (h2 : a ≤ 1000000000000) (h3 : -1000000000000 ≤ b) (h4 : b ≤ 1000000000000) :
  Calls Try.prog 83 #[.agg #[.int .i64 a,.int .i64 b]] w fun e w' => e = .returned (.int .i64 (b - a)) ∧ Below w.heap.size w w':=by
 go_enter Try.func83,Try.ntmps83
 go_wp2
 go_ret
 exact ⟨rfl,(Below.refl _ _).alloc (Nat.le_refl _) _⟩
theorem place_any (z : Int) (w : World) (h1 : -1000000000000 ≤ z) (h2 : z ≤ 1000000000000) :
  Calls Try.prog 96 #[.int .i64 z] w fun e w' => e = .returned (.int .i64 (z + 200)) ∧ w = w':=by
 go_enter Try.func96,Try.ntmps96
 go_wp2
 go_ret
 exact ⟨rfl,rfl⟩
theorem nothing_any (w : World) :
  Calls Try.prog 93 #[] w fun e w' => e = .returned (.agg #[.int .i64 1073741824,.int .i64 (-1073741824)]) ∧ Below w.heap.size w w':=by
 go_enter Try.func93,Try.ntmps93
 go_wp2
 refine bodyPost_ret (v:=.agg #[.int .i64 1073741824,.int .i64 (-1073741824)]) (by simp [results,Try.results93,go_sem]) rfl ⟨rfl,?_⟩
 repeat (first | exact Below.refl _ _ | refine Below.alloc ?_ (by simp; try omega) _ | refine Below.setCell ?_ (by simp) _ )
/-- The loads that an event may have, whatever is shown. -/
def ldLo (kd ld : Int) : Int:=if kd = 2 then ld else 0
def ldHi (kd ld : Int) : Int:=if kd = 2 then ld else if kd = 3 then 60000 else 0
theorem loads_any (kd sh ld c0 c1 : Int) (w : World) :
  Calls Try.prog 99 #[.agg #[.int .i64 kd,.int .i64 sh,.int .i64 ld,.int .i64 c0,.int .i64 c1]] w fun e w' => e = .returned (.agg #[.int .i64 (ldLo kd ld),.int .i64 (ldHi kd ld)]) ∧ Below w.heap.size w w':=by
 by_cases h2 : kd = 2
 ·subst h2
  go_enter Try.func99,Try.ntmps99
  go_wp2
  refine bodyPost_ret (v:=.agg #[.int .i64 (ldLo 2 ld),.int .i64 (ldHi 2 ld)]) (by simp [results,Try.results99,go_sem,ldLo,ldHi]) rfl ⟨rfl,?_⟩
  repeat (first | exact Below.refl _ _ | refine Below.alloc ?_ (by simp; try omega) _ | refine Below.setCell ?_ (by simp) _ )
 ·by_cases h3 : kd = 3
  ·subst h3
   go_enter Try.func99,Try.ntmps99
   go_wp2
   refine bodyPost_ret (v:=.agg #[.int .i64 (ldLo 3 ld),.int .i64 (ldHi 3 ld)]) (by simp [results,Try.results99,go_sem,ldLo,ldHi]) rfl ⟨rfl,?_⟩
   repeat (first | exact Below.refl _ _ | refine Below.alloc ?_ (by simp; try omega) _ | refine Below.setCell ?_ (by simp) _ )
  ·go_enter Try.func99,Try.ntmps99
   go_wp2
   refine bodyPost_ret (v:=.agg #[.int .i64 (ldLo kd ld),.int .i64 (ldHi kd ld)]) (by simp [results,Try.results99,go_sem,ldLo,ldHi,h2,h3]) rfl ⟨rfl,?_⟩
   repeat (first | exact Below.refl _ _ | refine Below.alloc ?_ (by simp; try omega) _ | refine Below.setCell ?_ (by simp) _ )
end Go.Proofs.Ytgbogdckmfencaa

/-! Plain mathematics of layer 1: what zeros events may have by themselves and those before them. Nothing of the program. -/
namespace Go.Proofs.Ytgbogdckmfencaa
def sLo (st : Int) (e : Ev) : Int:=max (e.sh - st / 2 - ldHi e.kd e.ld) (-200)
def sHi (st : Int) (e : Ev) : Int:=min (e.sh - st / 2 + st - 1 - ldLo e.kd e.ld) 200
def stepR (st : Int) (b : Int × Int) (e : Ev) : Int × Int:=(max (b.1 + e.c0) (sLo st e),min (b.2 + e.c1) (sHi st e))
/-- What the zero may be after the first k events, by them alone. -/
def bef (st z0 z1 : Int) (es : List Ev) : Nat → Int × Int
 | 0 => (z0,z1)
 | k + 1 => match es[k]? with
  | some e => stepR st (bef st z0 z1 es k) e
  | none => bef st z0 z1 es k
theorem bef_succ {st z0 z1 : Int} {es : List Ev} {k : Nat} (hk : k < es.length) : bef st z0 z1 es (k + 1) = stepR st (bef st z0 z1 es k) es[k]:=by
 rw [bef,List.getElem?_eq_getElem hk]
structure EvOk (e : Ev) : Prop where
 kd : e.kd = 1 ∨ e.kd = 2 ∨ e.kd = 3
 s1 : -60000 ≤ e.sh
 s2 : e.sh ≤ 60000
 l1 : 0 ≤ e.ld
 l2 : e.ld ≤ 60000
 l3 : e.ld ≠ 0 → e.kd = 2
 c1 : -200 ≤ e.c0
 c2 : e.c0 ≤ e.c1
 c3 : e.c1 ≤ 200
structure LogOk (st z0 z1 : Int) (es : List Ev) : Prop where
 s1 : 1 ≤ st
 s2 : st ≤ 100
 r1 : -200 ≤ z0
 r2 : z0 ≤ z1
 r3 : z1 ≤ 200
 n : es.length ≤ 14
 ev : ∀ e ∈ es,EvOk e
theorem ckR_zero {a b lo hi : Int} (h : ckR a b lo hi = 0) : lo ≤ a ∧ a ≤ b ∧ b ≤ hi:=by
 unfold ckR at h
 split at h
 ·omega
 ·split at h <;> omega
theorem ckE_zero {st : Int} {e : Ev} (h : ckE st e = 0) : EvOk e:=by
 unfold ckE at h
 split at h
 ·omega
 ·split at h
  ·omega
  ·split at h
   ·omega
   ·split at h
    ·omega
    ·split at h
     ·omega
     ·obtain ⟨h1,h2,h3⟩:=ckR_zero h
      constructor <;> omega
theorem ckEs_zero {st : Int} {es : List Ev} (h : ckEs st es = 0) : ∀ e ∈ es,ckE st e = 0:=by
 induction es with
 | nil => intro e he; cases he
 | cons a r ih =>
  intro e he
  rw [ckEs] at h
  split at h
  ·omega
  ·rename_i h0
   rcases List.mem_cons.1 he with rfl | he
   ·omega
   ·exact ih h e he
theorem ckL_zero {st z0 z1 : Int} {es : List Ev} (h : ckL st z0 z1 es = 0) : LogOk st z0 z1 es:=by
 unfold ckL at h
 split at h
 ·omega
 ·split at h
  ·omega
  ·rename_i h0
   obtain ⟨h1,h2,h3⟩:=ckR_zero (show ckR z0 z1 (-200) 200 = 0 by omega)
   split at h
   ·omega
   ·exact ⟨by omega,by omega,h1,h2,h3,by omega,fun e he => ckE_zero (ckEs_zero h e he)⟩
theorem bef_lo {st z0 z1 : Int} {es : List Ev} (h : LogOk st z0 z1 es) (k : Nat) : -200 ≤ (bef st z0 z1 es k).1 ∧ (bef st z0 z1 es k).2 ≤ 200:=by
 induction k with
 | zero => exact ⟨h.r1,h.r3⟩
 | succ k ih =>
  rw [bef]
  split
  ·simp only [stepR,sLo,sHi]; omega
  ·exact ih
/-- The zeros of the first m events, by them and those before them; the rest of the array is zero. -/
def kn (st z0 z1 : Int) (es : List Ev) (m : Nat) : Nat → Int × Int:=fun i => if i < m then bef st z0 z1 es (i + 1) else (0,0)
theorem kn_upd (st z0 z1 : Int) (es : List Ev) (k : Nat) : upd (kn st z0 z1 es k) k (bef st z0 z1 es (k + 1)) = kn st z0 z1 es (k + 1):=by
 funext i
 unfold upd kn
 by_cases h : i = k
 ·subst h; simp
 ·rw [if_neg h]
  by_cases h2 : i < k
  ·rw [if_pos h2,if_pos (by omega)]
  ·rw [if_neg h2,if_neg (by omega)]
/-- m events fit, and the next one, if there is one, does not. -/
structure Fits (st z0 z1 : Int) (es : List Ev) (m : Nat) : Prop where
 le : m ≤ es.length
 yes : ∀ j,j < m → (bef st z0 z1 es (j + 1)).1 ≤ (bef st z0 z1 es (j + 1)).2
 no : m < es.length → (bef st z0 z1 es (m + 1)).2 < (bef st z0 z1 es (m + 1)).1
theorem Fits.uniq {st z0 z1 : Int} {es : List Ev} {m k : Nat} (h : Fits st z0 z1 es m) (h' : Fits st z0 z1 es k) : m = k:=by
 rcases Nat.lt_trichotomy m k with hlt | he | hgt
 ·have h1:=h'.yes m hlt; have h2:=h.no (by have:=h'.le; omega); omega
 ·exact he
 ·have h1:=h.yes k hgt; have h2:=h'.no (by have:=h.le; omega); omega
/-- What the zero of event n - 1 - d may be, by all events (n of them). -/
def finR (st z0 z1 : Int) (es : List Ev) : Nat → Int × Int
 | 0 => bef st z0 z1 es es.length
 | d + 1 => match es[es.length - 1 - d]? with
  | some e => (max (bef st z0 z1 es (es.length - 1 - d)).1 ((finR st z0 z1 es d).1 - e.c1),min (bef st z0 z1 es (es.length - 1 - d)).2 ((finR st z0 z1 es d).2 - e.c0))
  | none => (0,0)
/-- The array of zeros, of which those from j on are known by all events. -/
def zst (st z0 z1 : Int) (es : List Ev) (j : Nat) : Nat → Int × Int:=fun i => if i < es.length then (if j ≤ i then finR st z0 z1 es (es.length - 1 - i) else bef st z0 z1 es (i + 1)) else (0,0)
theorem zst_start (st z0 z1 : Int) (es : List Ev) : kn st z0 z1 es es.length = zst st z0 z1 es (es.length - 1):=by
 funext i
 unfold kn zst
 by_cases h : i < es.length
 ·rw [if_pos h,if_pos h]
  by_cases h2 : es.length - 1 ≤ i
  ·rw [if_pos h2,show es.length - 1 - i = 0 by omega,finR,show i + 1 = es.length by omega]
  ·rw [if_neg h2]
 ·rw [if_neg h,if_neg h]
theorem finR_succ {st z0 z1 : Int} {es : List Ev} {i : Nat} (h : i + 1 < es.length) : finR st z0 z1 es (es.length - 1 - i) =
  (max (bef st z0 z1 es (i + 1)).1 ((finR st z0 z1 es (es.length - 1 - (i + 1))).1 - es[i + 1].c1),min (bef st z0 z1 es (i + 1)).2 ((finR st z0 z1 es (es.length - 1 - (i + 1))).2 - es[i + 1].c0)):=by
 rw [show es.length - 1 - i = (es.length - 1 - (i + 1)) + 1 by omega,finR,show es.length - 1 - (es.length - 1 - (i + 1)) = i + 1 by omega,List.getElem?_eq_getElem h]
theorem zst_lo {st z0 z1 : Int} {es : List Ev} {i : Nat} (h : i + 1 < es.length) : zst st z0 z1 es (i + 1) i = bef st z0 z1 es (i + 1):=by
 unfold zst; rw [if_pos (by omega),if_neg (by omega)]
theorem zst_hi {st z0 z1 : Int} {es : List Ev} {i : Nat} (h : i + 1 < es.length) : zst st z0 z1 es (i + 1) (i + 1) = finR st z0 z1 es (es.length - 1 - (i + 1)):=by
 unfold zst; rw [if_pos h,if_pos (Nat.le_refl _)]
theorem zst_upd {st z0 z1 : Int} {es : List Ev} {i : Nat} (h : i + 1 < es.length) : upd (zst st z0 z1 es (i + 1)) i (finR st z0 z1 es (es.length - 1 - i)) = zst st z0 z1 es i:=by
 funext k
 unfold upd zst
 by_cases e : k = i
 ·subst e; rw [if_pos rfl,if_pos (by omega),if_pos (Nat.le_refl _)]
 ·rw [if_neg e]
  by_cases h1 : k < es.length
  ·rw [if_pos h1,if_pos h1]
   by_cases h2 : i + 1 ≤ k
   ·rw [if_pos h2,if_pos (by omega)]
   ·rw [if_neg h2,if_neg (by omega)]
  ·rw [if_neg h1,if_neg h1]
theorem finR_bd {st z0 z1 : Int} {es : List Ev} (h : LogOk st z0 z1 es) (hf : ∀ j,j < es.length → (bef st z0 z1 es (j + 1)).1 ≤ (bef st z0 z1 es (j + 1)).2) (d : Nat) (hd : d < es.length) :
  -200 ≤ (finR st z0 z1 es d).1 ∧ (finR st z0 z1 es d).1 ≤ 200 + 200 * d ∧ -200 - 200 * d ≤ (finR st z0 z1 es d).2 ∧ (finR st z0 z1 es d).2 ≤ 200:=by
 induction d with
 | zero =>
  have h1:=bef_lo h es.length
  have h2:=hf (es.length - 1) (by omega)
  rw [show es.length - 1 + 1 = es.length by omega] at h2
  rw [finR]
  omega
 | succ d ih =>
  have h3:=ih (by omega)
  have h1:=bef_lo h (es.length - 1 - d)
  have h2:=hf (es.length - 1 - d - 1) (by omega)
  rw [show es.length - 1 - d - 1 + 1 = es.length - 1 - d by omega] at h2
  rw [finR,List.getElem?_eq_getElem (by omega)]
  have he:=h.ev _ (List.getElem_mem (show es.length - 1 - d < es.length by omega))
  obtain ⟨_,_,_,_,_,_,c1,c2,c3⟩:=he
  simp only
  omega
end Go.Proofs.Ytgbogdckmfencaa

/-! Regions that draw their order: what is held (S) has to be shown anew only behind the operations that G names; the others (a last store into a cell that the region reads) come behind all that needs it. -/
namespace Go.Proofs.Ytgbogdckmfencaa
open Go Go.RowKit
section
variable {P : Program} {ops : Array Oper} {Q : Exit → Act → World → Prop} {md : Region.Mode} {S : World → Prop} {G : Nat → Bool}

/-- Whatever order is picked; S holds behind each operation that G names. -/
def AnyG (P : Program) (md : Region.Mode) (ops : Array Oper) (Q : Exit → Act → World → Prop) (S : World → Prop) (G : Nat → Bool) : Nat → Array Bool → Act → World → Prop
 | 0,listed,a,w => Region.ready md ops listed = [] ∧ Q .normal a w
 | fuel + 1,listed,a,w =>
  (Region.ready md ops listed = [] → Q .normal a w) ∧
  ∀ i ∈ Region.ready md ops listed,wpOp P ops Q i (fun a' w' => (G i = true → S w') ∧ AnyG P md ops Q S G fuel (listed.setIfInBounds i true) a' w') a w

theorem AnyG.any : ∀ (fuel : Nat) (listed : Array Bool) (a : Act) (w : World),AnyG P md ops Q S G fuel listed a w → wpAny P md ops Q fuel listed a w
 | 0,_,_,_,h => h
 | fuel + 1,_,_,_,h => ⟨h.1,fun i hi => wpOp_mono (fun _ _ h' => AnyG.any fuel _ _ _ h'.2) (h.2 i hi)⟩

/-- Every operation that G doesn't name waits for number i, by an edge of its own. -/
def waits (md : Region.Mode) (ops : Array Oper) (G : Nat → Bool) (i : Nat) : Bool :=
 (List.range ops.size).all fun j => G j || j == i || ((ops[j]?).map (·.after.any fun e => Region.binds md e && e.on == i)).getD false

theorem waits_spec {i j : Nat} {listed : Array Bool} (h : waits md ops G i = true) (hun : listed.getD i false = false) (hj : j ∈ Region.ready md ops listed) (hne : j ≠ i) : G j = true:=by
 obtain ⟨_,o,ho,hall⟩:=mem_ready.1 hj
 have hlt : j < ops.size:=(Array.getElem?_eq_some_iff.1 ho).1
 have h1:=List.all_eq_true.1 h j (List.mem_range.2 hlt)
 simp only [ho,Option.map_some,Option.getD_some,Bool.or_eq_true,beq_iff_eq,hne,or_false] at h1
 rcases h1 with h1 | h1
 ·exact h1
 ·obtain ⟨e,he,hb⟩:=Array.any_eq_true'.1 h1
  simp only [Bool.and_eq_true,beq_iff_eq] at hb
  have h2:=hall e he hb.1
  rw [hb.2,hun] at h2
  cases h2

theorem AnyG.first {i : Nat} {oi : Oper} {v : Value} (hi : ops[i]? = some oi) (hsel : Region.noSelect ops = true) (hw : waits md ops G i = true)
  (hQ : ∀ c a w,Q (.panic c) (a.put oi.dst v) w → Q (.panic c) a w) :
  ∀ (fuel : Nat) (listed : Array Bool) (a : Act) (w : World),
   (∀ j oj,ops[j]? = some oj → j ≠ i → listed.getD j true = false → (∀ e ∈ oj.after,Region.binds md e = true → e.on ≠ i) → oi.apart ops oj = true) →
   i ∈ Region.ready md ops listed → YieldsIf P ops S oi v a → S w →
   AnyG P md ops Q S G fuel (listed.setIfInBounds i true) (a.put oi.dst v) w → AnyG P md ops Q S G (fuel + 1) listed a w:=by
 intro fuel
 induction fuel with
 | zero =>
  intro listed a w _ hr hy hS H
  refine ⟨fun h => (by rw [h] at hr; cases hr),fun j hj => ?_⟩
  rcases Nat.decEq j i with hji | hji
  ·have hl:=ready_mono hj hji
   rw [H.1] at hl
   cases hl
  ·subst hji
   exact hy.wpOp hi hS ⟨fun _ => hS,H⟩
 | succ fuel ih =>
  intro listed a w hfree hr hy hS H
  refine ⟨fun h => (by rw [h] at hr; cases hr),fun j hj => ?_⟩
  rcases Nat.decEq j i with hji | hji
  ·obtain ⟨hjun,oj,hoj,hall⟩:=mem_ready.1 hj
   have hiun : listed.getD i false = false:=by
    have h0:=(mem_ready.1 hr).1
    rcases Nat.lt_or_ge i listed.size with h' | h'
    ·simp [h'] at h0 ⊢; exact h0
    ·simp [Array.getElem?_eq_none h']
   have hG:=waits_spec hw hiun hj hji
   have hnot : ∀ e ∈ oj.after,Region.binds md e = true → e.on ≠ i:=fun e he hb heq => by
    have h2:=hall e he hb
    rw [heq,hiun] at h2
    cases h2
   have h2:=wpOp_putIf hoj (hfree j oj hoj hji hjun hnot) (fun cs b => Region.noSelect_spec hsel i oi cs b hi) (fun cs b => Region.noSelect_spec hsel j oj cs b hoj) hQ hy (H.2 j (ready_mono hj hji))
   refine wpOp_mono (fun a' w' h3 => ⟨h3.2.1,ih (listed.setIfInBounds j true) a' w' ?_ (ready_mono hr (Ne.symm hji)) h3.1 (h3.2.1 hG) ?_⟩) h2
   ·intro k ok hk hki hun hno
    refine hfree k ok hk hki ?_ hno
    rcases Nat.decEq j k with hjk | hjk
    ·rw [getD_set_ne true hjk] at hun; exact hun
    ·subst hjk; exact hjun
   ·rw [Array.setIfInBounds_comm _ _ hji]
    exact h3.2.2
  ·subst hji
   exact hy.wpOp hi hS ⟨fun _ => hS,H⟩

/-- Number i is taken first. -/
theorem AnyG.take {i : Nat} {oi : Oper} {v : Value} {fuel : Nat} {listed : Array Bool} {a : Act} {w : World} (hi : ops[i]? = some oi)
  (hs : (Region.noSelect ops && waits md ops G i && Region.free md ops listed i && (Region.ready md ops listed).contains i) = true)
  (hQ : ∀ c a w,Q (.panic c) (a.put oi.dst v) w → Q (.panic c) a w) (hg : oi.guard = none) (hy : ∀ w,S w → (execOp a.eval oi).run P w = .ok (.value v) w) (hS : S w)
  (h : AnyG P md ops Q S G fuel (listed.setIfInBounds i true) (a.put oi.dst v) w) : AnyG P md ops Q S G (fuel + 1) listed a w:=by
 simp only [Bool.and_eq_true] at hs
 obtain ⟨⟨⟨h1,h2⟩,h3⟩,h4⟩:=hs
 exact AnyG.first hi h1 h2 hQ fuel listed a w (Region.free_spec hi h3) (by simpa using h4) (.inl ⟨by simp [Region.wanted,hg],hy⟩) hS h

/-- What is owed behind number i. -/
def Onward (P : Program) (md : Region.Mode) (ops : Array Oper) (Q : Exit → Act → World → Prop) (S : World → Prop) (G : Nat → Bool) (fuel i : Nat) (listed : Array Bool) (a : Act) (w : World) : Prop :=
 (G i = true → S w) ∧ AnyG P md ops Q S G fuel (listed.setIfInBounds i true) a w
theorem Onward.on {fuel i : Nat} {listed : Array Bool} {a : Act} {w : World} (hS : S w) (h : S w → AnyG P md ops Q S G fuel (listed.setIfInBounds i true) a w) : Onward P md ops Q S G fuel i listed a w:=⟨fun _ => hS,h hS⟩
theorem Onward.last {fuel i : Nat} {listed : Array Bool} {a : Act} {w : World} (hG : G i = false) (h : AnyG P md ops Q S G fuel (listed.setIfInBounds i true) a w) : Onward P md ops Q S G fuel i listed a w:=⟨fun h0 => absurd (hG.symm.trans h0) (by simp),h⟩

/-- The operations that may come up are carried out, each in turn. -/
theorem AnyG.all {rs : List Nat} {fuel : Nat} {listed : Array Bool} {a : Act} {w : World} (hr : Region.ready md ops listed = rs) (hne : rs ≠ [])
  (h : ∀ i ∈ rs,∃ o,ops[i]? = some o ∧ o.guard = none ∧ o.wp P a w (Onward P md ops Q S G fuel i listed) Q) : AnyG P md ops Q S G (fuel + 1) listed a w:=by
 refine ⟨fun h0 => absurd (hr.symm.trans h0) hne,fun j hj => ?_⟩
 rw [hr] at hj
 obtain ⟨o,ho,hg,hw⟩:=h j hj
 unfold wpOp
 rw [ho]
 show if Region.wanted o (yielded ops a.tmps) = true then _ else _
 rw [if_pos (by simp [Region.wanted,hg])]
 exact .inl hw
/-- The one operation that may come up is carried out. -/
theorem AnyG.one {i : Nat} {o : Oper} {fuel : Nat} {listed : Array Bool} {a : Act} {w : World} (hr : Region.ready md ops listed = [i]) (ho : ops[i]? = some o) (hg : o.guard = none)
  (h : o.wp P a w (Onward P md ops Q S G fuel i listed) Q) : AnyG P md ops Q S G (fuel + 1) listed a w :=
 AnyG.all hr (by simp) fun j hj => by
  obtain rfl : j = i:=by simpa using hj
  exact ⟨o,ho,hg,h⟩

/-- All have come up. -/
theorem AnyG.done {listed : Array Bool} {a : Act} {w : World} (hr : Region.ready md ops listed = []) (h : Q .normal a w) : ∀ fuel,AnyG P md ops Q S G fuel listed a w
 | 0 => ⟨hr,h⟩
 | _ + 1 => ⟨fun _ => h,by rw [hr]; simp⟩

/-- The beginning. -/
theorem AnyG.start {id : Nat} {a : Act} {w : World} (S : World → Prop) (G : Nat → Bool) (hm : P.follows .mixedOrders = true)
  (h : AnyG P .any ops Q S G ops.size (Array.replicate ops.size false) a w.drew) : (Code.region id ops true).wp P Q a w :=
 wp_region_any hm (AnyG.any _ _ _ _ h)

/-- A load of a whole array or struct out of a box yields its cells. -/
theorem run_load_bx {o : Oper} {a : Act} {w : World} (ty : TypeId) (x : Operand) (ho : o.op = .load ty x) (g : Nat) (hx : a.eval x = .pointer (some ⟨g,0,none⟩)) (t : TypeId) (cs : Array Value) (d : TypeDesc) (hg : Bx w g t cs)
  (hu : P.underlying ty = some d) (hd : (match d with | .struct _ | .array _ _ => true | _ => false) = true) (hi : (P.info? ty).map (·.size) = some cs.size) :
  (execOp a.eval o).run P w = .ok (.value (.agg cs)) w:=by
 unfold execOp
 simp only [ho,hx,Instr.loadAt,Instr.sureAddr,Sem.run_bind,Sem.run_pure,Result.andThen_ok,run_loadVar_row w g t ty cs (0,0) d hg hu hd hi]
end
end Go.Proofs.Ytgbogdckmfencaa
