/- Equal rows of numbers, of bounds; rows that are owned read as rows. -/
import Derived.Test.YtmemcopfeabcgaaPpM
import Derived.Test.YtmemcopfeabcgaaCzM
set_option linter.unusedSimpArgs false
set_option linter.unusedVariables false
namespace Go.Proofs.Ytmemcopfeabcgaa
open Go Go.RowKit
theorem Sl.of_bx {w : World} {g t s : Nat} {cs : Array Value} {xs : List (List Value)} (h : Bx w g t cs) (hx : ∀ k r,xs[k]? = some r → ∀ j u,r[j]? = some u → cs[k * s + j]? = some u) : Sl w w.heap.size s (some ⟨g,0,none⟩) xs:=by
 intro k r hr
 refine ⟨_,rfl,h.lt,fun j u hu => ?_⟩
 rw [add_add]
 have e : (⟨g,0,none⟩ : Addr).add (k * s + j) = ⟨g,k * s + j,none⟩:=by unfold Addr.add; split <;> simp_all
 rw [e,h.cell]
 exact hx k r hr j u hu
theorem flat_at {s : Nat} : ∀ (xs : List (List Value)) (_ : ∀ r ∈ xs,r.length = s) (k : Nat) (r : List Value),xs[k]? = some r → ∀ j u,r[j]? = some u → xs.flatten[k * s + j]? = some u
 | [],_,k,r,h,j,u,_ => by simp at h
 | x :: xs,hs,0,r,h,j,u,hj => by
  have hx : x = r:=by simpa using h
  subst hx
  rw [List.flatten_cons,Nat.zero_mul,Nat.zero_add,List.getElem?_append_left (List.getElem?_eq_some_iff.1 hj).1]
  exact hj
 | x :: xs,hs,k + 1,r,h,j,u,hj => by
  have hx:=hs x (by simp)
  have h' : xs[k]? = some r:=by simpa using h
  have:=flat_at xs (fun r hr => hs r (by simp [hr])) k r h' j u hj
  rw [List.flatten_cons,List.getElem?_append_right (by rw [hx,Nat.succ_mul]; omega),hx,show (k + 1) * s + j - s = k * s + j by rw [Nat.succ_mul]; omega]
  exact this
theorem Sl.of_flat {w : World} {g t s : Nat} {cs : Array Value} {xs : List (List Value)} (h : Bx w g t cs) (hs : ∀ r ∈ xs,r.length = s) (hc : cs = xs.flatten.toArray) : Sl w w.heap.size s (some ⟨g,0,none⟩) xs :=
 Sl.of_bx h fun k r hr j u hu => by
  rw [hc]
  simpa using flat_at xs hs k r hr j u hu
theorem own_sl {w : World} {b : Nat} {e : TypeId} {size : Nat} {v : Value} {n : Nat} {rs : List (List Value)} (h : w.ownsRow b e size v n rs.flatten) (hs : ∀ r ∈ rs,r.length = size) (hn : rs.length = n) : ∃ A c,v = .slice A n c ∧ Sl w w.heap.size size A rs:=by
 rcases h.2 with ⟨rfl,rfl⟩ | ⟨g,cap,cur,rfl,hb,hg,hc,hm,hcs,ht⟩
 ·have : rs = []:=List.eq_nil_of_length_eq_zero hn
  subst this
  exact ⟨none,0,rfl,Sl.nil _ _ _ _⟩
 ·refine ⟨some ⟨g,0,none⟩,cap,rfl,Sl.of_bx (show Bx w g e cur from hg) fun k r hr j u hu => ?_⟩
  have:=flat_at rs hs k r hr j u hu
  rw [← ht,List.getElem?_take] at this
  split at this
  ·simpa using this
  ·cases this


theorem bd_at {w : World} {B k : Nat} {A : Option Addr} {L : List Bd} (h : Sl w B 3 A (L.map bdr)) (hk : k < L.length) : ∃ ad,A = some ad ∧ ad.block < B ∧ w.cell? (ad.add (k * 3)) = some (.int .i64 L[k].rs) ∧ w.cell? ⟨(ad.add (k * 3)).block,(ad.add (k * 3)).off + 1,none⟩ = some (.int .i64 L[k].at_) ∧ w.cell? ⟨(ad.add (k * 3)).block,(ad.add (k * 3)).off + 2,none⟩ = some (.int .i64 L[k].ct):=by
 obtain ⟨ad,h1,h2,h3⟩:=h.at_ (k:=k) (by simpa using hk)
 simp only [List.getElem_map,bdr] at h3
 exact ⟨ad,h1,h2,h3.head rfl,h3.next 0 rfl,h3.next 1 rfl⟩
set_option maxRecDepth 100000 in
set_option maxHeartbeats 2000000 in
theorem equalInts_any (A : Option Addr) (n c : Nat) (B : Option Addr) (m d : Nat) (La Lb : List Int) (w : World) (hn : n ≤ 9000000000000000000) (hm : m ≤ 9000000000000000000) (hla : La.length = n) (hlb : Lb.length = m) (hA : Sl w w.heap.size 1 A (inr La)) (hB : Sl w w.heap.size 1 B (inr Lb)) :
  Calls Try.prog 23 #[.slice A n c,.slice B m d] w fun e w' => e = .returned (.bool (decide (La = Lb))) ∧ Below w.heap.size w w':=by
 have HLA:=Lib.hid hla
 have HLB:=Lib.hid hlb
 clear hla hlb
 go_enter Try.func23,Try.ntmps23
 go_wp2_with fail
 go_loopw [5,6] (fun b i wr => ∃ (k : Nat) (t : Bool),k ≤ n ∧ i = .int .i64 k ∧ b = .bool t ∧ Hid (t = decide (n = m ∧ La.take k = Lb.take k)) ∧ Below w.heap.size w wr) (fun _ i _ => n - (intOf i).toNat)
 case atStart => exact ⟨0,_,by omega,rfl,rfl,by unfold Hid; by_cases h : n = m <;> simp [h]; omega,Below.refl _ _⟩
 case round =>
  obtain ⟨k,t,hk,rfl,rfl,ht,hBe⟩:=hrel
  by_cases hgo : t = true ∧ k < n
  ·obtain ⟨rfl,hkn⟩:=hgo
   have htt:=ht.out
   have hnm : n = m ∧ La.take k = Lb.take k:=of_decide_eq_true htt.symm
   have HNM:=Lib.hid hnm
   clear hnm
   have hkm : k < m:=by have:=HNM.out.1; omega
   clear htt ht
   have hka : k < La.length:=by rw [HLA.out]; exact hkn
   have hkb : k < Lb.length:=by rw [HLB.out]; omega
   obtain ⟨ad,rfl,hab,p0⟩:=inr_at (hA.below hBe) hka
   obtain ⟨bd,rfl,hbb,q0⟩:=inr_at (hB.below hBe) hkb
   have HTA:=Lib.hid (List.take_succ_eq_append_getElem hka)
   have HTB:=Lib.hid (List.take_succ_eq_append_getElem hkb)
   generalize La[k]'hka = x at *
   generalize Lb[k]'hkb = y at *
   clear hka hkb
   go_wp2_with fail
   refine AnyG.start (fun w' : World => Below wr.heap.size wr w') (fun i => true) (by kernel_rfl) ?_
   have hS : (fun w' : World => Below wr.heap.size wr w') (World.drew _):=(Below.refl _ _).drew
   refine AnyG.take (i:=0) (v:=?_) rfl (by kernel_rfl) (fun _ _ _ h => h) rfl ?_ hS ?_
   rotate_left
   ·(intro w' _; go_simp; try with_reducible rfl)
   try simp only [Act.put,Sp4,Sp5,Sp6]
   refine AnyG.take (i:=1) (v:=?_) rfl (by kernel_rfl) (fun _ _ _ h => h) rfl ?_ hS ?_
   rotate_left
   ·(intro w' _; go_simp; try with_reducible rfl)
   try simp only [Act.put,Sp4,Sp5,Sp6]
   refine AnyG.take (i:=2) (v:=?_) rfl (by kernel_rfl) (fun _ _ _ h => h) rfl ?_ hS ?_
   rotate_left
   ·(intro w' _; go_simp; try with_reducible rfl)
   try simp only [Act.put,Sp4,Sp5,Sp6]
   refine AnyG.take (i:=3) (v:=?_) rfl (by kernel_rfl) (fun _ _ _ h => h) rfl ?_ hS ?_
   rotate_left
   ·(intro w' hSw; (try dsimp only at hSw); have p0:=cellC hSw p0; have q0:=cellC hSw q0; go_simp; try with_reducible rfl)
   try simp only [Act.put,Sp4,Sp5,Sp6]
   refine AnyG.take (i:=4) (v:=?_) rfl (by kernel_rfl) (fun _ _ _ h => h) rfl ?_ hS ?_
   rotate_left
   ·(intro w' _; go_simp; try with_reducible rfl)
   try simp only [Act.put,Sp4,Sp5,Sp6]
   refine AnyG.take (i:=5) (v:=?_) rfl (by kernel_rfl) (fun _ _ _ h => h) rfl ?_ hS ?_
   rotate_left
   ·(intro w' _; go_simp; try with_reducible rfl)
   try simp only [Act.put,Sp4,Sp5,Sp6]
   refine AnyG.take (i:=6) (v:=?_) rfl (by kernel_rfl) (fun _ _ _ h => h) rfl ?_ hS ?_
   rotate_left
   ·(intro w' _; go_simp; try with_reducible rfl)
   try simp only [Act.put,Sp4,Sp5,Sp6]
   refine AnyG.take (i:=7) (v:=?_) rfl (by kernel_rfl) (fun _ _ _ h => h) rfl ?_ hS ?_
   rotate_left
   ·(intro w' hSw; (try dsimp only at hSw); have p0:=cellC hSw p0; have q0:=cellC hSw q0; go_simp; try with_reducible rfl)
   try simp only [Act.put,Sp4,Sp5,Sp6]
   refine AnyG.take (i:=8) (v:=.bool (decide (x = y))) rfl (by kernel_rfl) (fun _ _ _ h => h) rfl ?_ hS ?_
   ·(intro w' _; go_simp; by_cases h1 : x = y <;> simp [h1])
   try simp only [Act.put,Sp4,Sp5,Sp6]
   refine AnyG.take (i:=9) (v:=?_) rfl (by kernel_rfl) (fun _ _ _ h => h) rfl ?_ hS ?_
   rotate_left
   ·(intro w' _; go_simp; try with_reducible rfl)
   try simp only [Act.put,Sp4,Sp5,Sp6]
   refine AnyG.done (by kernel_rfl) ?_ _
   clear hS
   go_simp
   go_wp2_with fail
   go_roundw
   case rel =>
    refine ⟨k + 1,_,by omega,by go_num,rfl,?_,hBe.drew⟩
    unfold Hid
    rw [HTA.out,HTB.out,HNM.out.2,decide_eq_decide]
    constructor
    ·rintro rfl
     exact ⟨HNM.out.1,rfl⟩
    ·rintro ⟨_,h⟩
     have:=(List.append_inj' h rfl).2
     simp only [List.cons.injEq,and_true] at this
     exact this
   case measure => simp [intOf]; omega
  ·have hend : t = decide (La = Lb):=by
    rw [ht.out,decide_eq_decide]
    by_cases hkn : k < n
    ·have htf : t = false:=by
      cases t with
      | false => rfl
      | true => exact absurd ⟨rfl,hkn⟩ hgo
     have h0 : ¬ (n = m ∧ La.take k = Lb.take k):=of_decide_eq_false (ht.out.symm.trans htf)
     constructor
     ·intro h; exact absurd h h0
     ·rintro rfl; exact absurd ⟨by rw [← HLA.out,← HLB.out],rfl⟩ h0
    ·obtain rfl : k = n:=by omega
     rw [List.take_of_length_le (Nat.le_of_eq HLA.out)]
     constructor
     ·rintro ⟨rfl,h⟩; rw [h,List.take_of_length_le (Nat.le_of_eq HLB.out)]
     ·rintro rfl
      have hkm : k = m:=by rw [← HLA.out,← HLB.out]
      exact ⟨hkm,(List.take_of_length_le (Nat.le_of_eq HLA.out)).symm⟩
   have HE:=Lib.hid hend
   clear hend ht
   by_cases hkn : k < n
   ·obtain rfl : t = false:=by
     cases t with
     | false => rfl
     | true => exact absurd ⟨rfl,hkn⟩ hgo
    go_wp2_with fail
    go_ret
    exact ⟨ret_bool HE.out,hBe⟩
   ·cases t
    all_goals
     go_wp2_with fail
     go_ret
     exact ⟨ret_bool HE.out,hBe⟩
set_option maxRecDepth 100000 in
set_option maxHeartbeats 2000000 in
theorem equalProofs_any (A : Option Addr) (n c : Nat) (B : Option Addr) (m d : Nat) (La Lb : List Bd) (w : World) (hn : n ≤ 9000000000000000000) (hm : m ≤ 9000000000000000000) (hla : La.length = n) (hlb : Lb.length = m) (hA : Sl w w.heap.size 3 A (La.map bdr)) (hB : Sl w w.heap.size 3 B (Lb.map bdr)) :
  Calls Try.prog 44 #[.slice A n c,.slice B m d] w fun e w' => e = .returned (.bool (decide (La = Lb))) ∧ Below w.heap.size w w':=by
 have HLA:=Lib.hid hla
 have HLB:=Lib.hid hlb
 clear hla hlb
 go_enter Try.func44,Try.ntmps44
 go_wp2_with fail
 go_loopw [5,6] (fun b i wr => ∃ (k : Nat) (t : Bool),k ≤ n ∧ i = .int .i64 k ∧ b = .bool t ∧ Hid (t = decide (n = m ∧ La.take k = Lb.take k)) ∧ Below w.heap.size w wr) (fun _ i _ => n - (intOf i).toNat)
 case atStart => exact ⟨0,_,by omega,rfl,rfl,by unfold Hid; by_cases h : n = m <;> simp [h]; omega,Below.refl _ _⟩
 case round =>
  obtain ⟨k,t,hk,rfl,rfl,ht,hBe⟩:=hrel
  by_cases hgo : t = true ∧ k < n
  ·obtain ⟨rfl,hkn⟩:=hgo
   have htt:=ht.out
   have hnm : n = m ∧ La.take k = Lb.take k:=of_decide_eq_true htt.symm
   have HNM:=Lib.hid hnm
   clear hnm
   have hkm : k < m:=by have:=HNM.out.1; omega
   clear htt ht
   have hka : k < La.length:=by rw [HLA.out]; exact hkn
   have hkb : k < Lb.length:=by rw [HLB.out]; omega
   obtain ⟨ad,rfl,hab,p0,p1,p2⟩:=bd_at (hA.below hBe) hka
   obtain ⟨bd,rfl,hbb,q0,q1,q2⟩:=bd_at (hB.below hBe) hkb
   have HTA:=Lib.hid (List.take_succ_eq_append_getElem hka)
   have HTB:=Lib.hid (List.take_succ_eq_append_getElem hkb)
   generalize La[k]'hka = x at *
   generalize Lb[k]'hkb = y at *
   clear hka hkb
   go_wp2_with fail
   refine AnyG.start (fun w' : World => Below wr.heap.size wr w') (fun i => true) (by kernel_rfl) ?_
   have hS : (fun w' : World => Below wr.heap.size wr w') (World.drew _):=(Below.refl _ _).drew
   refine AnyG.take (i:=0) (v:=?_) rfl (by kernel_rfl) (fun _ _ _ h => h) rfl ?_ hS ?_
   rotate_left
   ·(intro w' _; go_simp; try with_reducible rfl)
   try simp only [Act.put,Sp4,Sp5,Sp6]
   refine AnyG.take (i:=1) (v:=?_) rfl (by kernel_rfl) (fun _ _ _ h => h) rfl ?_ hS ?_
   rotate_left
   ·(intro w' _; go_simp; try with_reducible rfl)
   try simp only [Act.put,Sp4,Sp5,Sp6]
   refine AnyG.take (i:=2) (v:=?_) rfl (by kernel_rfl) (fun _ _ _ h => h) rfl ?_ hS ?_
   rotate_left
   ·(intro w' _; go_simp; try with_reducible rfl)
   try simp only [Act.put,Sp4,Sp5,Sp6]
   refine AnyG.take (i:=3) (v:=?_) rfl (by kernel_rfl) (fun _ _ _ h => h) rfl ?_ hS ?_
   rotate_left
   ·(intro w' hSw; (try dsimp only at hSw); have p0:=cellC hSw p0; have p1:=cellC hSw p1; have p2:=cellC hSw p2; have q0:=cellC hSw q0; have q1:=cellC hSw q1; have q2:=cellC hSw q2; go_simp; try with_reducible rfl)
   try simp only [Act.put,Sp4,Sp5,Sp6]
   refine AnyG.take (i:=4) (v:=?_) rfl (by kernel_rfl) (fun _ _ _ h => h) rfl ?_ hS ?_
   rotate_left
   ·(intro w' _; go_simp; try with_reducible rfl)
   try simp only [Act.put,Sp4,Sp5,Sp6]
   refine AnyG.take (i:=5) (v:=?_) rfl (by kernel_rfl) (fun _ _ _ h => h) rfl ?_ hS ?_
   rotate_left
   ·(intro w' _; go_simp; try with_reducible rfl)
   try simp only [Act.put,Sp4,Sp5,Sp6]
   refine AnyG.take (i:=6) (v:=?_) rfl (by kernel_rfl) (fun _ _ _ h => h) rfl ?_ hS ?_
   rotate_left
   ·(intro w' _; go_simp; try with_reducible rfl)
   try simp only [Act.put,Sp4,Sp5,Sp6]
   refine AnyG.take (i:=7) (v:=?_) rfl (by kernel_rfl) (fun _ _ _ h => h) rfl ?_ hS ?_
   rotate_left
   ·(intro w' hSw; (try dsimp only at hSw); have p0:=cellC hSw p0; have p1:=cellC hSw p1; have p2:=cellC hSw p2; have q0:=cellC hSw q0; have q1:=cellC hSw q1; have q2:=cellC hSw q2; go_simp; try with_reducible rfl)
   try simp only [Act.put,Sp4,Sp5,Sp6]
   refine AnyG.take (i:=8) (v:=.bool (decide (x = y))) rfl (by kernel_rfl) (fun _ _ _ h => h) rfl ?_ hS ?_
   ·(intro w' _; go_simp; obtain ⟨x1,x2,x3⟩:=x; obtain ⟨y1,y2,y3⟩:=y; simp only [Bd.mk.injEq]; by_cases h1 : x1 = y1 <;> by_cases h2 : x2 = y2 <;> by_cases h3 : x3 = y3 <;> simp [h1,h2,h3])
   try simp only [Act.put,Sp4,Sp5,Sp6]
   refine AnyG.take (i:=9) (v:=?_) rfl (by kernel_rfl) (fun _ _ _ h => h) rfl ?_ hS ?_
   rotate_left
   ·(intro w' _; go_simp; try with_reducible rfl)
   try simp only [Act.put,Sp4,Sp5,Sp6]
   refine AnyG.done (by kernel_rfl) ?_ _
   clear hS
   go_simp
   go_wp2_with fail
   go_roundw
   case rel =>
    refine ⟨k + 1,_,by omega,by go_num,rfl,?_,hBe.drew⟩
    unfold Hid
    rw [HTA.out,HTB.out,HNM.out.2,decide_eq_decide]
    constructor
    ·rintro rfl
     exact ⟨HNM.out.1,rfl⟩
    ·rintro ⟨_,h⟩
     have:=(List.append_inj' h rfl).2
     simp only [List.cons.injEq,and_true] at this
     exact this
   case measure => simp [intOf]; omega
  ·have hend : t = decide (La = Lb):=by
    rw [ht.out,decide_eq_decide]
    by_cases hkn : k < n
    ·have htf : t = false:=by
      cases t with
      | false => rfl
      | true => exact absurd ⟨rfl,hkn⟩ hgo
     have h0 : ¬ (n = m ∧ La.take k = Lb.take k):=of_decide_eq_false (ht.out.symm.trans htf)
     constructor
     ·intro h; exact absurd h h0
     ·rintro rfl; exact absurd ⟨by rw [← HLA.out,← HLB.out],rfl⟩ h0
    ·obtain rfl : k = n:=by omega
     rw [List.take_of_length_le (Nat.le_of_eq HLA.out)]
     constructor
     ·rintro ⟨rfl,h⟩; rw [h,List.take_of_length_le (Nat.le_of_eq HLB.out)]
     ·rintro rfl
      have hkm : k = m:=by rw [← HLA.out,← HLB.out]
      exact ⟨hkm,(List.take_of_length_le (Nat.le_of_eq HLA.out)).symm⟩
   have HE:=Lib.hid hend
   clear hend ht
   by_cases hkn : k < n
   ·obtain rfl : t = false:=by
     cases t with
     | false => rfl
     | true => exact absurd ⟨rfl,hkn⟩ hgo
    go_wp2_with fail
    go_ret
    exact ⟨ret_bool HE.out,hBe⟩
   ·cases t
    all_goals
     go_wp2_with fail
     go_ret
     exact ⟨ret_bool HE.out,hBe⟩
end Go.Proofs.Ytmemcopfeabcgaa

/-! The examples of the chapter in memory: orders, bounds. -/
namespace Go.Proofs.Ytmemcopfeabcgaa
open Go Go.RowKit
theorem to_any (a b : Int) (w : World) : Calls Try.prog 83 #[.int .i64 a,.int .i64 b] w fun e w' => e = .returned (.agg #[.int .i64 a,.int .i64 b]) ∧ Below w.heap.size w w':=by
 go_enter Try.func83,Try.ntmps83
 go_wp2
 refine bodyPost_ret (v:=.agg #[.int .i64 a,.int .i64 b]) (by simp [results,Try.results83,go_sem]) rfl ⟨rfl,?_⟩
 repeat (first | exact Below.refl _ _ | refine Below.alloc ?_ (by simp; try omega) _ | refine Below.setCell ?_ (by simp) _ )
theorem bcut_any (a b : Int) (w : World) : Calls Try.prog 54 #[.int .i64 a,.int .i64 b] w fun e w' => e = .returned (.agg #[.int .i64 1,.int .i64 a,.int .i64 b]) ∧ Below w.heap.size w w':=by
 go_enter Try.func54,Try.ntmps54
 go_wp2
 refine bodyPost_ret (v:=.agg #[.int .i64 1,.int .i64 a,.int .i64 b]) (by simp [results,Try.results54,go_sem]) rfl ⟨rfl,?_⟩
 repeat (first | exact Below.refl _ _ | refine Below.alloc ?_ (by simp; try omega) _ | refine Below.setCell ?_ (by simp) _ )
theorem blight_any (w : World) : Calls Try.prog 55 #[] w fun e w' => e = .returned (.agg #[.int .i64 2,.int .i64 0,.int .i64 0]) ∧ Below w.heap.size w w':=by
 go_enter Try.func55,Try.ntmps55
 go_wp2
 refine bodyPost_ret (v:=.agg #[.int .i64 2,.int .i64 0,.int .i64 0]) (by simp [results,Try.results55,go_sem]) rfl ⟨rfl,?_⟩
 repeat (first | exact Below.refl _ _ | refine Below.alloc ?_ (by simp; try omega) _ | refine Below.setCell ?_ (by simp) _ )
theorem bdear_any (w : World) : Calls Try.prog 56 #[] w fun e w' => e = .returned (.agg #[.int .i64 5,.int .i64 0,.int .i64 0]) ∧ Below w.heap.size w w':=by
 go_enter Try.func56,Try.ntmps56
 go_wp2
 refine bodyPost_ret (v:=.agg #[.int .i64 5,.int .i64 0,.int .i64 0]) (by simp [results,Try.results56,go_sem]) rfl ⟨rfl,?_⟩
 repeat (first | exact Below.refl _ _ | refine Below.alloc ?_ (by simp; try omega) _ | refine Below.setCell ?_ (by simp) _ )
set_option maxRecDepth 100000 in
set_option maxHeartbeats 4000000 in
theorem order_any (w : World) : Calls Try.prog 52 #[] w fun e w' => (∃ lb bb,e = .returned (.agg #[.slice (some ⟨lb,0,none⟩) 2 2,.int .i64 10000,.int .i64 12000,.slice (some ⟨bb,0,none⟩) 3 3]) ∧ OrdAt w' w'.heap.size (some ⟨lb,0,none⟩) (some ⟨bb,0,none⟩) ordO) ∧ Below w.heap.size w w':=by
 have KO:=(Bx.new w 27 #[.slice none 0 0,.int .i64 0,.int .i64 0,.slice none 0 0]).alloc (.cells #[.int .i64 400,.int .i64 100] 3)
 have KL:=Bx.at (w.alloc (.cells #[.slice none 0 0,.int .i64 0,.int .i64 0,.slice none 0 0] 27)) 3 #[.int .i64 400,.int .i64 100] (n:=w.heap.size + 1) (by simp)
 have B0:=((Below.refl w.heap.size w).alloc (Nat.le_refl _) (.cells #[.slice none 0 0,.int .i64 0,.int .i64 0,.slice none 0 0] 27)).alloc (by simp) (.cells #[.int .i64 400,.int .i64 100] 3)
 go_enter Try.func52,Try.ntmps52
 go_wp2_with (go_at_call 83; first | (have _t:=hb5; clear _t; refine (to_any _ _ _).mono ?_; rintro e w6 ⟨rfl,hb6⟩; have ko6:=ko5.call hb6; have kl6:=kl5.call hb6; have h1b:=h1.call hb6; have g2b:=g2.call hb6; have B6:=B5.trans (hb6.mono B5.size); obtain ⟨o0,o1,o2,o3,of,oz⟩:=ko6.four) | (have _t:=hb4; clear _t; refine (to_any _ _ _).mono ?_; rintro e w5 ⟨rfl,hb5⟩; have ko5:=(ko4.alloc (.cells #[.int .i64 500,.int .i64 600,.int .i64 0,.int .i64 20] 39)).call hb5; have kl5:=(kl4.alloc (.cells #[.int .i64 500,.int .i64 600,.int .i64 0,.int .i64 20] 39)).call hb5; have g2:=(Bx.new w4 39 #[.int .i64 500,.int .i64 600,.int .i64 0,.int .i64 20]).call hb5; have h1:=(g1b.alloc (.cells #[.int .i64 500,.int .i64 600,.int .i64 0,.int .i64 20] 39)).call hb5; have B5:=(B4.alloc B4.size (.cells #[.int .i64 500,.int .i64 600,.int .i64 0,.int .i64 20] 39)).trans (hb5.mono (B4.alloc B4.size (.cells #[.int .i64 500,.int .i64 600,.int .i64 0,.int .i64 20] 39)).size)) | (have _t:=hb3; clear _t; refine (to_any _ _ _).mono ?_; rintro e w4 ⟨rfl,hb4⟩; have ko4:=ko3.call hb4; have kl4:=kl3.call hb4; have g1b:=g1.call hb4; have B4:=B3.trans (hb4.mono B3.size)) | (have _t:=hb2; clear _t; refine (to_any _ _ _).mono ?_; rintro e w3 ⟨rfl,hb3⟩; have ko3:=(ko2.alloc (.cells #[.int .i64 300,.int .i64 350,.int .i64 50,.int .i64 60] 39)).call hb3; have kl3:=(kl2.alloc (.cells #[.int .i64 300,.int .i64 350,.int .i64 50,.int .i64 60] 39)).call hb3; have g1:=(Bx.new w2 39 #[.int .i64 300,.int .i64 350,.int .i64 50,.int .i64 60]).call hb3; have B3:=(B2.alloc B2.size (.cells #[.int .i64 300,.int .i64 350,.int .i64 50,.int .i64 60] 39)).trans (hb3.mono (B2.alloc B2.size (.cells #[.int .i64 300,.int .i64 350,.int .i64 50,.int .i64 60] 39)).size)) | (have _t:=hb1; clear _t; refine (to_any _ _ _).mono ?_; rintro e w2 ⟨rfl,hb2⟩; have ko2:=ko1.call hb2; have kl2:=kl1.call hb2; have B2:=B1.trans (hb2.mono B1.size)) | (refine (to_any _ _ _).mono ?_; rintro e w1 ⟨rfl,hb1⟩; have ko1:=KO.call hb1; have kl1:=KL.call hb1; have B1:=B0.trans (hb1.mono B0.size)))
 have z2:=ko2.lt
 have z4:=ko4.lt
 have z6:=ko6.lt
 have kl:=(((((kl6.far (p:=⟨w.heap.size,0,none⟩) (by first | (simp; done) | (simp; omega)) (.slice (some ⟨w.heap.size + 1,0,none⟩) 2 2)).far (p:=⟨w.heap.size,1,none⟩) (by first | (simp; done) | (simp; omega)) (.int .i64 10000)).far (p:=⟨w.heap.size,2,none⟩) (by first | (simp; done) | (simp; omega)) (.int .i64 12000)).far (p:=⟨w.heap.size,3,none⟩) (by first | (simp; done) | (simp; omega)) (.slice (some ⟨w6.heap.size + 1,0,none⟩) 3 3)).alloc (.cells #[.int .i64 100,.int .i64 100,.int .i64 200,.int .i64 300] 39)).alloc (.cells #[.slice (some ⟨w2.heap.size,0,none⟩) 2 2,.int .i64 2000,.int .i64 50,.int .i64 4,.slice (some ⟨w4.heap.size,0,none⟩) 2 2,.int .i64 2000,.int .i64 30,.int .i64 4,.slice (some ⟨w6.heap.size,0,none⟩) 2 2,.int .i64 1000,.int .i64 20,.int .i64 3] 42)
 have h1c:=(((((h1b.far (p:=⟨w.heap.size,0,none⟩) (by first | (simp; done) | (simp; omega)) (.slice (some ⟨w.heap.size + 1,0,none⟩) 2 2)).far (p:=⟨w.heap.size,1,none⟩) (by first | (simp; done) | (simp; omega)) (.int .i64 10000)).far (p:=⟨w.heap.size,2,none⟩) (by first | (simp; done) | (simp; omega)) (.int .i64 12000)).far (p:=⟨w.heap.size,3,none⟩) (by first | (simp; done) | (simp; omega)) (.slice (some ⟨w6.heap.size + 1,0,none⟩) 3 3)).alloc (.cells #[.int .i64 100,.int .i64 100,.int .i64 200,.int .i64 300] 39)).alloc (.cells #[.slice (some ⟨w2.heap.size,0,none⟩) 2 2,.int .i64 2000,.int .i64 50,.int .i64 4,.slice (some ⟨w4.heap.size,0,none⟩) 2 2,.int .i64 2000,.int .i64 30,.int .i64 4,.slice (some ⟨w6.heap.size,0,none⟩) 2 2,.int .i64 1000,.int .i64 20,.int .i64 3] 42)
 have g2c:=(((((g2b.far (p:=⟨w.heap.size,0,none⟩) (by first | (simp; done) | (simp; omega)) (.slice (some ⟨w.heap.size + 1,0,none⟩) 2 2)).far (p:=⟨w.heap.size,1,none⟩) (by first | (simp; done) | (simp; omega)) (.int .i64 10000)).far (p:=⟨w.heap.size,2,none⟩) (by first | (simp; done) | (simp; omega)) (.int .i64 12000)).far (p:=⟨w.heap.size,3,none⟩) (by first | (simp; done) | (simp; omega)) (.slice (some ⟨w6.heap.size + 1,0,none⟩) 3 3)).alloc (.cells #[.int .i64 100,.int .i64 100,.int .i64 200,.int .i64 300] 39)).alloc (.cells #[.slice (some ⟨w2.heap.size,0,none⟩) 2 2,.int .i64 2000,.int .i64 50,.int .i64 4,.slice (some ⟨w4.heap.size,0,none⟩) 2 2,.int .i64 2000,.int .i64 30,.int .i64 4,.slice (some ⟨w6.heap.size,0,none⟩) 2 2,.int .i64 1000,.int .i64 20,.int .i64 3] 42)
 have g3:=(Bx.at ((((w6.setCell ⟨w.heap.size,0,none⟩ (.slice (some ⟨w.heap.size + 1,0,none⟩) 2 2)).setCell ⟨w.heap.size,1,none⟩ (.int .i64 10000)).setCell ⟨w.heap.size,2,none⟩ (.int .i64 12000)).setCell ⟨w.heap.size,3,none⟩ (.slice (some ⟨w6.heap.size + 1,0,none⟩) 3 3)) 39 #[.int .i64 100,.int .i64 100,.int .i64 200,.int .i64 300] (n:=w6.heap.size) (by simp [World.setCell])).alloc (.cells #[.slice (some ⟨w2.heap.size,0,none⟩) 2 2,.int .i64 2000,.int .i64 50,.int .i64 4,.slice (some ⟨w4.heap.size,0,none⟩) 2 2,.int .i64 2000,.int .i64 30,.int .i64 4,.slice (some ⟨w6.heap.size,0,none⟩) 2 2,.int .i64 1000,.int .i64 20,.int .i64 3] 42)
 have kb:=Bx.at (((((w6.setCell ⟨w.heap.size,0,none⟩ (.slice (some ⟨w.heap.size + 1,0,none⟩) 2 2)).setCell ⟨w.heap.size,1,none⟩ (.int .i64 10000)).setCell ⟨w.heap.size,2,none⟩ (.int .i64 12000)).setCell ⟨w.heap.size,3,none⟩ (.slice (some ⟨w6.heap.size + 1,0,none⟩) 3 3)).alloc (.cells #[.int .i64 100,.int .i64 100,.int .i64 200,.int .i64 300] 39)) 42 #[.slice (some ⟨w2.heap.size,0,none⟩) 2 2,.int .i64 2000,.int .i64 50,.int .i64 4,.slice (some ⟨w4.heap.size,0,none⟩) 2 2,.int .i64 2000,.int .i64 30,.int .i64 4,.slice (some ⟨w6.heap.size,0,none⟩) 2 2,.int .i64 1000,.int .i64 20,.int .i64 3] (n:=w6.heap.size + 1) (by simp [World.setCell])
 have ko:=(((((ko6.set_ 0 (.slice (some ⟨w.heap.size + 1,0,none⟩) 2 2)).set_ 1 (.int .i64 10000)).set_ 2 (.int .i64 12000)).set_ 3 (.slice (some ⟨w6.heap.size + 1,0,none⟩) 3 3)).alloc (.cells #[.int .i64 100,.int .i64 100,.int .i64 200,.int .i64 300] 39)).alloc (.cells #[.slice (some ⟨w2.heap.size,0,none⟩) 2 2,.int .i64 2000,.int .i64 50,.int .i64 4,.slice (some ⟨w4.heap.size,0,none⟩) 2 2,.int .i64 2000,.int .i64 30,.int .i64 4,.slice (some ⟨w6.heap.size,0,none⟩) 2 2,.int .i64 1000,.int .i64 20,.int .i64 3] 42)
 have B7:=(((((B6.setCell (p:=⟨w.heap.size,0,none⟩) (by simp) (.slice (some ⟨w.heap.size + 1,0,none⟩) 2 2)).setCell (p:=⟨w.heap.size,1,none⟩) (by simp) (.int .i64 10000)).setCell (p:=⟨w.heap.size,2,none⟩) (by simp) (.int .i64 12000)).setCell (p:=⟨w.heap.size,3,none⟩) (by simp) (.slice (some ⟨w6.heap.size + 1,0,none⟩) 3 3)).alloc (by have:=B6.size; simpa [World.setCell] using this) (.cells #[.int .i64 100,.int .i64 100,.int .i64 200,.int .i64 300] 39)).alloc (by have:=B6.size; simp [World.setCell]; omega) (.cells #[.slice (some ⟨w2.heap.size,0,none⟩) 2 2,.int .i64 2000,.int .i64 50,.int .i64 4,.slice (some ⟨w4.heap.size,0,none⟩) 2 2,.int .i64 2000,.int .i64 30,.int .i64 4,.slice (some ⟨w6.heap.size,0,none⟩) 2 2,.int .i64 1000,.int .i64 20,.int .i64 3] 42)
 obtain ⟨W9,hW9⟩ : ∃ W9,(((((w6.setCell ⟨w.heap.size,0,none⟩ (.slice (some ⟨w.heap.size + 1,0,none⟩) 2 2)).setCell ⟨w.heap.size,1,none⟩ (.int .i64 10000)).setCell ⟨w.heap.size,2,none⟩ (.int .i64 12000)).setCell ⟨w.heap.size,3,none⟩ (.slice (some ⟨w6.heap.size + 1,0,none⟩) 3 3)).alloc (.cells #[.int .i64 100,.int .i64 100,.int .i64 200,.int .i64 300] 39)).alloc (.cells #[.slice (some ⟨w2.heap.size,0,none⟩) 2 2,.int .i64 2000,.int .i64 50,.int .i64 4,.slice (some ⟨w4.heap.size,0,none⟩) 2 2,.int .i64 2000,.int .i64 30,.int .i64 4,.slice (some ⟨w6.heap.size,0,none⟩) 2 2,.int .i64 1000,.int .i64 20,.int .i64 3] 42) = W9:=⟨_,rfl⟩
 rw [hW9] at kl h1c g2c g3 kb ko B7 ⊢
 refine bodyPost_ret (v:=.agg #[.slice (some ⟨w.heap.size + 1,0,none⟩) 2 2,.int .i64 10000,.int .i64 12000,.slice (some ⟨w6.heap.size + 1,0,none⟩) 3 3]) (results_row1 (g:=w.heap.size) (t:=27) rfl rfl (by simpa using ko) Try.underlying27 rfl (by kernel_rfl)) rfl ⟨⟨_,_,rfl,?_,?_⟩,B7⟩
 ·exact Sl.of_flat kl (by decide) rfl
 ·refine ⟨[[.slice (some ⟨w2.heap.size,0,none⟩) 2 2,.int .i64 2000,.int .i64 50,.int .i64 4],[.slice (some ⟨w4.heap.size,0,none⟩) 2 2,.int .i64 2000,.int .i64 30,.int .i64 4],[.slice (some ⟨w6.heap.size,0,none⟩) 2 2,.int .i64 1000,.int .i64 20,.int .i64 3]],Sl.of_flat kb (by intro r hr; simp at hr; rcases hr with rfl | rfl | rfl <;> rfl) rfl,rfl,fun j r b hr hb => ?_⟩
  have hj : j < 3:=(List.getElem?_eq_some_iff.1 hr).1
  rcases (show j = 0 ∨ j = 1 ∨ j = 2 by omega) with rfl | rfl | rfl
  ·simp [ordO] at hr hb
   subst hr hb
   exact ⟨_,_,rfl,Sl.of_flat h1c (by decide) rfl⟩
  ·simp [ordO] at hr hb
   subst hr hb
   exact ⟨_,_,rfl,Sl.of_flat g2c (by decide) rfl⟩
  ·simp [ordO] at hr hb
   subst hr hb
   exact ⟨_,_,rfl,Sl.of_flat g3 (by decide) rfl⟩
set_option maxRecDepth 100000 in
theorem plain_any (k : Int) (w : World) : Calls Try.prog 53 #[.int .i64 k] w fun e w' => (∃ bb,e = .returned (.agg #[.slice none 0 0,.int .i64 k,.int .i64 k,.slice (some ⟨bb,0,none⟩) 1 1]) ∧ OrdAt w' w'.heap.size none (some ⟨bb,0,none⟩) (ordP k)) ∧ Below w.heap.size w w':=by
 go_enter Try.func53,Try.ntmps53
 go_wp2_with fail
 have ko:=(Bx.new w 27 #[.slice none 0 0,.int .i64 k,.int .i64 k,.slice (some ⟨w.heap.size + 1,0,none⟩) 1 1]).alloc (.cells #[.slice none 0 0,.int .i64 1,.int .i64 5,.int .i64 4] 42)
 have kb:=Bx.at (w.alloc (.cells #[.slice none 0 0,.int .i64 k,.int .i64 k,.slice (some ⟨w.heap.size + 1,0,none⟩) 1 1] 27)) 42 #[.slice none 0 0,.int .i64 1,.int .i64 5,.int .i64 4] (n:=w.heap.size + 1) (by simp)
 have B7:=((Below.refl w.heap.size w).alloc (Nat.le_refl _) (.cells #[.slice none 0 0,.int .i64 k,.int .i64 k,.slice (some ⟨w.heap.size + 1,0,none⟩) 1 1] 27)).alloc (by simp) (.cells #[.slice none 0 0,.int .i64 1,.int .i64 5,.int .i64 4] 42)
 refine bodyPost_ret (v:=.agg #[.slice none 0 0,.int .i64 k,.int .i64 k,.slice (some ⟨w.heap.size + 1,0,none⟩) 1 1]) (results_row1 (g:=w.heap.size) (t:=27) rfl rfl ko Try.underlying27 rfl (by kernel_rfl)) rfl ⟨⟨_,rfl,?_,?_⟩,B7⟩
 ·exact Sl.nil _ _ _ _
 ·refine ⟨[[.slice none 0 0,.int .i64 1,.int .i64 5,.int .i64 4]],Sl.of_flat kb (by intro r hr; simp at hr; subst hr; rfl) rfl,rfl,fun j r b hr hb => ?_⟩
  have hj : j < 1:=(List.getElem?_eq_some_iff.1 hr).1
  obtain rfl : j = 0:=by omega
  simp [ordP] at hr hb
  subst hr hb
  exact ⟨none,0,rfl,Sl.nil _ _ _ _⟩
end Go.Proofs.Ytmemcopfeabcgaa

/-! alive: the examples of the chapter that every statement of layer 6 asks hold. -/
namespace Go.Proofs.Ytmemcopfeabcgaa
open Go Go.RowKit
theorem own_ints {w : World} {b q C : Nat} {d : Nat → Int} (h : w.ownsRow b 3 1 (.slice (some ⟨q,0,none⟩) 3 C) 3 (ivs 3 d)) (hd : ∀ i,i < 4 → d i = bl3 2 2 2 i) : Sl w w.heap.size 1 (some ⟨q,0,none⟩) (inr [2,2,2]):=by
 have e : ivs 3 d = (inr [2,2,2]).flatten:=by rw [ivs_congr (by omega) hd]; rfl
 rw [e] at h
 obtain ⟨A,c,e2,hs⟩:=own_sl h (by intro r hr; simp [inr] at hr; subst hr; rfl) rfl
 simp only [Value.slice.injEq] at e2
 rw [e2.1]
 exact hs
theorem own_bds {w : World} {b : Nat} {A : Option Addr} {C : Nat} {L : List Bd} (h : w.ownsRow b 69 3 (.slice A L.length C) L.length (bdrs L)) : Sl w w.heap.size 3 A (L.map bdr):=by
 obtain ⟨A',c,e2,hs⟩:=own_sl (rs:=L.map bdr) h (by intro r hr; obtain ⟨x,_,rfl⟩:=List.mem_map.1 hr; rfl) (by simp)
 simp only [Value.slice.injEq] at e2
 rw [e2.1]
 exact hs
def prfP : List Bd:=[⟨1,0,2⟩,⟨2,0,0⟩,⟨5,0,0⟩]
theorem prfP_is : prf (ordP 3) 15 5 zer (ordP 3).mx = some prfP:=ordP_prf
theorem blO : ckBl ordO [2,3,2] = 0:=by decide
theorem kvO : kv ordO (lf [2,3,2]) = 3:=by decide
set_option maxRecDepth 100000 in
set_option maxHeartbeats 4000000 in
theorem alive_any (w : World) : Calls Try.prog 19 #[] w fun e w' => e = .returned (.bool true) ∧ Below w.heap.size w w':=by
 go_enter Try.func19,Try.ntmps19
 go_wp2_with (first
  | (go_at_call 52; first
    | (have _t:=hb2; clear _t; refine (order_any _).mono ?_; rintro e w3 ⟨⟨lb2,bb2,rfl,ho2⟩,hb3⟩; have B3:=B2.trans (hb3.mono B2.size))
    | (refine (order_any _).mono ?_; rintro e w1 ⟨⟨lb,bb,rfl,ho1⟩,hb1⟩; have B1:=hb1))
  | (go_at_call 16; have ha1:=(Below.refl w1.heap.size w1).alloc (Nat.le_refl _) (.cells #[.int .i64 2,.int .i64 3,.int .i64 2] 3); refine (keeps_ok (some ⟨lb,0,none⟩) 2 2 (some ⟨bb,0,none⟩) 3 3 ordO (some ⟨w1.heap.size,0,none⟩) 3 3 [2,3,2] _ (by omega) (by omega) rfl rfl (ho1.call ha1) (by omega) rfl (Sl.of_flat (Bx.new w1 3 _) (by decide) rfl) blO).mono ?_; rintro e w2 ⟨rfl,hb2⟩; rw [kvO]; have B2:=(B1.trans (ha1.mono B1.size)).trans (hb2.mono (B1.trans (ha1.mono B1.size)).size))
  | (go_at_call 20; refine (cheapest_ok (some ⟨lb2,0,none⟩) 2 2 (some ⟨bb2,0,none⟩) 3 3 ordO _ (by omega) (by omega) rfl rfl ho2 ordO_ok).mono ?_; rintro e w4 ⟨⟨r4,x4,c4,hc4,rfl,hv4⟩,hb4⟩; obtain ⟨d4,rfl,hd4,hk4⟩:=ordO_cheap hc4; obtain ⟨rfl,q4,C4,rfl,how4⟩:=hv4; rw [hk4]; have hs4:=own_ints how4 hd4; have B4:=B3.trans (hb4.mono B3.size); clear how4 hk4 hd4 hc4)
  | (go_at_call 53; refine (plain_any 3 _).mono ?_; rintro e w5 ⟨⟨bb5,rfl,ho5⟩,hb5⟩; have hs5:=hs4.call hb5; have B5:=B4.trans (hb5.mono B4.size))
  | (go_at_call 26; refine (prove_ok none 0 0 (some ⟨bb5,0,none⟩) 1 1 (ordP 3) 15 5 prfP _ (by omega) (by omega) rfl rfl ho5 ordP_ok (by omega) prfP_is (by decide)).mono ?_; rintro e w6 ⟨⟨A6,C6,rfl,how6⟩,hb6⟩; have hs6:=hs5.call hb6; have hp6:=own_bds how6; have B6:=B5.trans (hb6.mono B5.size))
  | (go_at_call 23; have ha6:=(Below.refl w6.heap.size w6).alloc (Nat.le_refl _) (.cells #[.int .i64 2,.int .i64 2,.int .i64 2] 3); refine (equalInts_any (some ⟨q4,0,none⟩) 3 C4 (some ⟨w6.heap.size,0,none⟩) 3 3 [2,2,2] [2,2,2] _ (by omega) (by omega) rfl rfl (hs6.call ha6) (Sl.of_flat (Bx.new w6 3 _) (by decide) rfl)).mono ?_; rintro e w7 ⟨rfl,hb7⟩; rw [show decide (([2,2,2] : List Int) = [2,2,2]) = true by decide]; have hp7:=(hp6.call ha6).call hb7; have B7:=(B6.trans (ha6.mono B6.size)).trans (hb7.mono (B6.trans (ha6.mono B6.size)).size))
  | (go_at_call 54; refine (bcut_any _ _ _).mono ?_; rintro e w8 ⟨rfl,hb8⟩; have hp8:=hp7.call hb8; have B8:=B7.trans (hb8.mono B7.size))
  | (go_at_call 55; refine (blight_any _).mono ?_; rintro e w9 ⟨rfl,hb9⟩; have hp9:=hp8.call hb9; have B9:=B8.trans (hb9.mono B8.size))
  | (go_at_call 56; refine (bdear_any _).mono ?_; rintro e w10 ⟨rfl,hb10⟩; have hp10:=hp9.call hb10; have B10:=B9.trans (hb10.mono B9.size))
  | (go_at_call 44; have ha10:=(Below.refl w10.heap.size w10).alloc (Nat.le_refl _) (.cells #[.int .i64 1,.int .i64 0,.int .i64 2,.int .i64 2,.int .i64 0,.int .i64 0,.int .i64 5,.int .i64 0,.int .i64 0] 69); refine (equalProofs_any A6 prfP.length C6 (some ⟨w10.heap.size,0,none⟩) 3 3 prfP prfP _ (by decide) (by omega) rfl rfl (hp10.call ha10) (Sl.of_flat (Bx.new w10 69 _) (by decide) rfl)).mono ?_; rintro e w11 ⟨rfl,hb11⟩; rw [show decide (prfP = prfP) = true by decide]; have B11:=(B10.trans (ha10.mono B10.size)).trans (hb11.mono (B10.trans (ha10.mono B10.size)).size))
  | fail)
 go_ret
 exact ⟨rfl,B11⟩
end Go.Proofs.Ytmemcopfeabcgaa
