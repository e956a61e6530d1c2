/- What the checks of a log and a slip give. -/
import Derived.Test.YtgbogdckmfencaaNe
set_option linter.unusedSimpArgs false
set_option linter.unusedVariables false
namespace Go.Proofs.Ytgbogdckmfencaa
open Go.RowKit Go.Shelf
theorem ckAx_zero {es : List Ev} : ∀ (axs : List Int) (b : Int),ckAx es b axs = 0 → ∀ x ∈ axs,0 ≤ x ∧ x < (es.length : Int) ∧ kdAt es x = 3
 | [],_,_,x,hx => by cases hx
 | a :: r,b,h,x,hx => by
  rw [ckAx] at h
  split at h
  ·cases h
  ·rename_i h1
   split at h
   ·cases h
   ·rename_i h2
    split at h
    ·cases h
    ·rcases List.mem_cons.1 hx with rfl | hx
     ·exact ⟨by omega,by omega,by simpa using h2⟩
     ·exact ckAx_zero r a h x hx
theorem ckA_rows {es : List Ev} {axs : List Int} (h : ckA es axs = 0) : 1 ≤ axs.length ∧ axs.length ≤ 4 ∧ ∀ x ∈ axs,0 ≤ x ∧ x < (es.length : Int) ∧ kdAt es x = 3:=by
 unfold ckA at h
 split at h
 ·cases h
 ·split at h
  ·cases h
  ·exact ⟨by omega,by omega,ckAx_zero axs (-1) h⟩
theorem ckS_zero {st z0 z1 : Int} {es : List Ev} {F B : List Int} {fs bs d0 d1 : Int} (h : ckS st z0 z1 es F B fs bs d0 d1 = 0) :
  ckL st z0 z1 es = 0 ∧ ckA es F = 0 ∧ ckA es B = 0 ∧ overlap F B = false ∧ (0 ≤ fs ∧ fs ≤ 2) ∧ (0 ≤ bs ∧ bs ≤ 2) ∧ 0 ≤ d0 ∧ d0 ≤ d1 ∧ d1 ≤ 200:=by
 unfold ckS at h
 split at h
 ·rename_i h0; exact absurd h h0
 ·rename_i h0
  split at h
  ·rename_i h1; exact absurd h h1
  ·rename_i h1
   split at h
   ·rename_i h2; exact absurd h h2
   ·rename_i h2
    split at h
    ·cases h
    ·rename_i h3
     split at h
     ·cases h
     ·rename_i h4
      have hr:=ckR_zero h
      refine ⟨Classical.not_not.1 h0,Classical.not_not.1 h1,Classical.not_not.1 h2,by simpa using h3,?_,?_,hr.1,hr.2.1,hr.2.2⟩
      ·have : seatB fs = true:=by
        cases hs : seatB fs with
        | true => rfl
        | false => exact absurd (.inl hs) h4
       unfold seatB at this
       exact of_decide_eq_true this
      ·have : seatB bs = true:=by
        cases hs : seatB bs with
        | true => rfl
        | false => exact absurd (.inr hs) h4
       unfold seatB at this
       exact of_decide_eq_true this
theorem ds_bd {fs bs d0 d1 : Int} (h1 : 0 ≤ d0) (h2 : d0 ≤ 200) (h3 : 0 ≤ d1) (h4 : d1 ≤ 200) : Bd 100000000000 (dsLo fs bs d0 d1,dsHi fs bs d0 d1):=by
 have b1 : ∀ s,0 ≤ drLo s ∧ drLo s ≤ 1:=fun s => by unfold drLo; split <;> omega
 have b2 : ∀ s,0 ≤ drHi s ∧ drHi s ≤ 1:=fun s => by unfold drHi; split <;> omega
 have key : ∀ a d : Int,-1 ≤ a → a ≤ 1 → 0 ≤ d → d ≤ 200 → -200 ≤ a * d ∧ a * d ≤ 200:=by
  intro a d ha hb hc hd
  have : a = -1 ∨ a = 0 ∨ a = 1:=by omega
  rcases this with rfl | rfl | rfl <;> omega
 have p1:=b1 bs; have p2:=b2 fs; have p3:=b2 bs; have p4:=b1 fs
 have q1:=key (drLo bs - drHi fs) d0 (by omega) (by omega) h1 h2
 have q2:=key (drLo bs - drHi fs) d1 (by omega) (by omega) h3 h4
 have q3:=key (drHi bs - drLo fs) d0 (by omega) (by omega) h1 h2
 have q4:=key (drHi bs - drLo fs) d1 (by omega) (by omega) h3 h4
 unfold Bd dsLo dsHi
 dsimp only
 omega
theorem net_bd {st z0 z1 : Int} {es : List Ev} (h : LogOk st z0 z1 es) (F B : List Int) (f : Nat → Int × Int) (n : Nat) (hn : n ≤ 14) : Bd 100000000000 (netOf st es F B f n):=by
 unfold netOf
 refine covers_bd (by omega) _ (fun z => ?_) _
 exact (Tab_bd (wtc st es F B) (folc es f) f n (wtc_bd h F B) n _).mono (by omega)
theorem finR_good {st z0 z1 : Int} {es : List Ev} (h : LogOk st z0 z1 es) (hf : Fits st z0 z1 es es.length) : ∀ d,d < es.length →
  (bef st z0 z1 es (es.length - 1 - d + 1)).1 ≤ (finR st z0 z1 es d).1 ∧ (finR st z0 z1 es d).2 ≤ (bef st z0 z1 es (es.length - 1 - d + 1)).2 ∧ (finR st z0 z1 es d).1 ≤ (finR st z0 z1 es d).2:=by
 intro d
 induction d with
 | zero =>
  intro h0
  have hy:=hf.yes (es.length - 1) (by omega)
  rw [show es.length - 1 + 1 = es.length by omega] at hy
  rw [show es.length - 1 - 0 + 1 = es.length by omega,finR]
  exact ⟨Int.le_refl _,Int.le_refl _,hy⟩
 | succ d ih =>
  intro hd
  obtain ⟨i1,i2,i3⟩:=ih (by omega)
  have hi : es.length - 1 - (d + 1) + 1 < es.length:=by omega
  have hs:=finR_succ (st:=st) (z0:=z0) (z1:=z1) hi
  rw [show es.length - 1 - (es.length - 1 - (d + 1)) = d + 1 by omega,show es.length - 1 - (es.length - 1 - (d + 1) + 1) = d by omega] at hs
  have hb:=bef_succ (st:=st) (z0:=z0) (z1:=z1) hi
  rw [show es.length - 1 - d + 1 = es.length - 1 - (d + 1) + 1 + 1 by omega,hb] at i1 i2
  have hy:=hf.yes (es.length - 1 - (d + 1)) (by omega)
  obtain ⟨_,_,_,_,_,_,_,hc,_⟩:=h.ev _ (List.getElem_mem hi)
  rw [hs]
  unfold stepR at i1 i2
  simp only [sLo,sHi] at i1 i2
  dsimp only at *
  omega
theorem zst_good {st z0 z1 : Int} {es : List Ev} (h : LogOk st z0 z1 es) (hf : Fits st z0 z1 es es.length) (i : Nat) (hi : i < es.length) :
  -200 ≤ (zst st z0 z1 es 0 i).1 ∧ (zst st z0 z1 es 0 i).1 ≤ (zst st z0 z1 es 0 i).2 ∧ (zst st z0 z1 es 0 i).2 ≤ 200:=by
 unfold zst
 rw [if_pos hi,if_pos (Nat.zero_le i)]
 obtain ⟨a,b,c⟩:=finR_good h hf (es.length - 1 - i) (by omega)
 have:=bef_lo h (es.length - 1 - (es.length - 1 - i) + 1)
 omega
/-- Net, for a good slip of a log with zeros. -/
theorem net_ok (st z0 z1 : Int) (A : Option Addr) (n c : Nat) (es : List Ev) (FA : Option Addr) (fn fc : Nat) (BA : Option Addr) (bn bc : Nat) (fs bs d0 d1 : Int) (F B : List Int) (w : World) (hn : n ≤ 9223372036854775807) (hl : es.length = n) (hA : EvsAt w w.heap.size A es) (hfn : fn ≤ 9223372036854775807) (hbn : bn ≤ 9223372036854775807) (hf : F.length = fn) (hb : B.length = bn) (hF : Sl w w.heap.size 1 FA (ints F)) (hBs : Sl w w.heap.size 1 BA (ints B)) (hck : ckS st z0 z1 es F B fs bs d0 d1 = 0) (hfit : Fits st z0 z1 es n) :
  Calls Try.prog 29 #[.agg #[.int .i64 st,.int .i64 z0,.int .i64 z1,.slice A n c],.agg #[.slice FA fn fc,.slice BA bn bc,.int .i64 fs,.int .i64 bs,.int .i64 d0,.int .i64 d1]] w fun e w' => e = .returned (.tuple #[.agg #[.int .i64 ((netOf st es F B (zst st z0 z1 es 0) n).1 + dsLo fs bs d0 d1),.int .i64 ((netOf st es F B (zst st z0 z1 es 0) n).2 + dsHi fs bs d0 d1)],.int .i64 0]) ∧ Below w.heap.size w w':=by
 obtain ⟨hckl,hcf,hcb,_,hs1,hs2,e1,e2,e3⟩:=ckS_zero hck
 have hlog:=ckL_zero hckl
 obtain ⟨p1,p2,p3⟩:=ckA_rows hcf
 obtain ⟨q1,q2,q3⟩:=ckA_rows hcb
 have hn14 : n ≤ 14:=by rw [← hl]; exact hlog.n
 have hn1 : 1 ≤ n:=by
  have:=p3 (F[0]'(by omega)) (List.getElem_mem _)
  omega
 have hfit' : Fits st z0 z1 es es.length:=by rw [hl]; exact hfit
 refine net_good st z0 z1 A n c es FA fn fc BA bn bc fs bs d0 d1 F B w hn hl hA hfn hbn hf hb hF hBs (zst st z0 z1 es 0) hck hlog hckl hfit hn1 rfl (fun i hi => ?_) (by omega) (by omega) (fun x hx => ?_) (fun x hx => ?_) hs1.1 hs1.2 hs2.1 hs2.2 e1 (by omega) (by omega) e3 (net_bd hlog F B _ n hn14) (ds_bd e1 (by omega) (by omega) e3)
 ·have:=zst_good hlog hfit' i (by omega)
  omega
 ·have:=p3 x hx
  omega
 ·have:=q3 x hx
  omega
end Go.Proofs.Ytgbogdckmfencaa

/-! Slips that are made: the axles of a log, some of them full, the others bare. Nothing of the program. -/
namespace Go.Proofs.Ytgbogdckmfencaa
/-- An event of a load. -/
def ldAt (es : List Ev) (x : Int) : Prop:=0 ≤ x ∧ x < (es.length : Int) ∧ kdAt es x = 3
/-- Loads up to an event, ascending. -/
structure AtOk (es : List Ev) (i : Nat) (l : List Int) : Prop where
 asc : l.Pairwise (· < ·)
 mem : ∀ x ∈ l,ldAt es x ∧ x < (i : Int)
theorem AtOk.nil (es : List Ev) : AtOk es 0 []:=⟨List.Pairwise.nil,fun x hx => by cases hx⟩
theorem AtOk.skip {es : List Ev} {i : Nat} {l : List Int} (h : AtOk es i l) : AtOk es (i + 1) l:=⟨h.asc,fun x hx => ⟨(h.mem x hx).1,by have:=(h.mem x hx).2; omega⟩⟩
theorem AtOk.take {es : List Ev} {i : Nat} {l : List Int} (h : AtOk es i l) (hi : i < es.length) (hk : es[i].kd = 3) : AtOk es (i + 1) (l ++ [(i : Int)]):=by
 refine ⟨?_,fun x hx => ?_⟩
 ·rw [List.pairwise_append]
  exact ⟨h.asc,List.pairwise_singleton _ _,fun a ha b hb => by
   obtain rfl : b = (i : Int):=by simpa using hb
   exact (h.mem a ha).2⟩
 ·rcases List.mem_append.1 hx with hx | hx
  ·exact ⟨(h.mem x hx).1,by have:=(h.mem x hx).2; omega⟩
  ·obtain rfl : x = (i : Int):=by simpa using hx
   refine ⟨⟨by omega,by omega,?_⟩,by omega⟩
   unfold kdAt
   rw [Int.toNat_natCast,List.getElem?_eq_getElem hi]
   exact hk
/-- Some of the first j axles of a list are full, some bare. -/
structure SpOk (l : List Int) (a j : Nat) (F B : List Int) : Prop where
 fa : F.Pairwise (· < ·)
 ba : B.Pairwise (· < ·)
 fm : ∀ x ∈ F,x ∈ l.take j
 bm : ∀ x ∈ B,x ∈ l.take j
 fl : F.length ≤ a
 bl : B.length ≤ a
 ap : ∀ x ∈ F,x ∉ B
theorem SpOk.nil (l : List Int) (a : Nat) : SpOk l a 0 [] []:=⟨.nil,.nil,(fun x h => by cases h),(fun x h => by cases h),Nat.zero_le _,Nat.zero_le _,(fun x h => by cases h)⟩
theorem take_lt {l : List Int} (h : l.Pairwise (· < ·)) {j : Nat} (hj : j < l.length) : ∀ x ∈ l.take j,x < l[j]:=by
 intro x hx
 obtain ⟨i,hi,rfl⟩:=List.mem_iff_getElem.1 hx
 rw [List.length_take] at hi
 rw [List.getElem_take]
 exact List.pairwise_iff_getElem.1 h i j _ hj (by omega)
theorem mem_take_succ {l : List Int} {j : Nat} {x : Int} (h : x ∈ l.take j) : x ∈ l.take (j + 1):=by
 rcases Nat.lt_or_ge j l.length with hj | hj
 ·rw [List.take_succ_eq_append_getElem hj]; exact List.mem_append_left _ h
 ·rw [List.take_of_length_le (by omega)]; exact List.mem_of_mem_take h
theorem at_take_succ {l : List Int} {j : Nat} (hj : j < l.length) : l[j] ∈ l.take (j + 1):=by rw [List.take_succ_eq_append_getElem hj]; exact List.mem_append_right _ (by simp)
theorem snoc_asc {l X : List Int} (h : l.Pairwise (· < ·)) {j : Nat} (hj : j < l.length) (hx : X.Pairwise (· < ·)) (hm : ∀ x ∈ X,x ∈ l.take j) : (X ++ [l[j]]).Pairwise (· < ·):=by
 rw [List.pairwise_append]
 exact ⟨hx,List.pairwise_singleton _ _,fun a ha b hb => by
  obtain rfl : b = l[j]:=by simpa using hb
  exact take_lt h hj a (hm a ha)⟩
theorem SpOk.full {l : List Int} {a j : Nat} {F B : List Int} (h : SpOk l a j F B) (hl : l.Pairwise (· < ·)) (hj : j < l.length) (hf : F.length < a) : SpOk l a (j + 1) (F ++ [l[j]]) B:=by
 refine ⟨snoc_asc hl hj h.fa h.fm,h.ba,fun x hx => ?_,fun x hx => mem_take_succ (h.bm x hx),by rw [List.length_append,List.length_singleton]; omega,h.bl,fun x hx hb => ?_⟩
 ·rcases List.mem_append.1 hx with hx | hx
  ·exact mem_take_succ (h.fm x hx)
  ·obtain rfl : x = l[j]:=by simpa using hx
   exact at_take_succ hj
 ·rcases List.mem_append.1 hx with hx | hx
  ·exact h.ap x hx hb
  ·obtain rfl : x = l[j]:=by simpa using hx
   have:=take_lt hl hj _ (h.bm _ hb)
   omega
theorem SpOk.bare {l : List Int} {a j : Nat} {F B : List Int} (h : SpOk l a j F B) (hl : l.Pairwise (· < ·)) (hj : j < l.length) (hb : B.length < a) : SpOk l a (j + 1) F (B ++ [l[j]]):=by
 refine ⟨h.fa,snoc_asc hl hj h.ba h.bm,fun x hx => mem_take_succ (h.fm x hx),fun x hx => ?_,h.fl,by rw [List.length_append,List.length_singleton]; omega,fun x hx hb2 => ?_⟩
 ·rcases List.mem_append.1 hx with hx | hx
  ·exact mem_take_succ (h.bm x hx)
  ·obtain rfl : x = l[j]:=by simpa using hx
   exact at_take_succ hj
 ·rcases List.mem_append.1 hb2 with hb2 | hb2
  ·exact h.ap x hx hb2
  ·obtain rfl : x = l[j]:=by simpa using hb2
   have:=take_lt hl hj _ (h.fm _ hx)
   omega
theorem asc_split {B : List Int} (h : B.Pairwise (· < ·)) : ∀ x ∈ B.take 1,x ∉ B.drop 1:=by
 intro x hx hd
 cases B with
 | nil => simp at hx
 | cons b r =>
  obtain rfl : x = b:=by simpa using hx
  have hd' : x ∈ r:=by simpa using hd
  have:=(List.pairwise_cons.1 h).1 x hd'
  omega
theorem SpOk.split {l : List Int} {a j : Nat} {B : List Int} (h : SpOk l a j [] B) (ha : 1 ≤ a) : SpOk l a j (B.take 1) (B.drop 1) :=
 ⟨h.ba.sublist (List.take_sublist _ _),h.ba.sublist (List.drop_sublist _ _),fun x hx => h.bm x (List.mem_of_mem_take hx),fun x hx => h.bm x (List.mem_of_mem_drop hx),by rw [List.length_take]; omega,by rw [List.length_drop]; have:=h.bl; omega,asc_split h.ba⟩
theorem SpOk.split2 {l : List Int} {a j : Nat} {F : List Int} (h : SpOk l a j F []) (ha : 1 ≤ a) : SpOk l a j (F.drop 1) (F.take 1) :=
 ⟨h.fa.sublist (List.drop_sublist _ _),h.fa.sublist (List.take_sublist _ _),fun x hx => h.fm x (List.mem_of_mem_drop hx),fun x hx => h.fm x (List.mem_of_mem_take hx),by rw [List.length_drop]; have:=h.fl; omega,by rw [List.length_take]; omega,fun x hx hb => asc_split h.fa x hb hx⟩
end Go.Proofs.Ytgbogdckmfencaa
