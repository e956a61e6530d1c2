/- The examples that every statement of layer 1 asks: the log and the slips in memory. -/
import Derived.Test.YtgbogdckmfencaaOpM
import Derived.Test.YtgbogdckmfencaaFolM
import Derived.Test.YtgbogdckmfencaaW1M
set_option linter.unusedSimpArgs false
set_option linter.unusedVariables false
namespace Go.Proofs.Ytgbogdckmfencaa
open Go.RowKit
theorem flat_at {s : Nat} : ∀ (xs : List (List Value)) (_ : ∀ r ∈ xs,r.length = s) (k : Nat) (r : List Value),xs[k]? = some r → ∀ j u,r[j]? = some u → xs.flatten[k * s + j]? = some u
 | [],_,k,r,h,j,u,_ => by simp at h
 | x :: xs,hs,0,r,h,j,u,hj => by
  have hx : x = r:=by simpa using h
  subst hx
  rw [List.flatten_cons,Nat.zero_mul,Nat.zero_add,List.getElem?_append_left (List.getElem?_eq_some_iff.1 hj).1]
  exact hj
 | x :: xs,hs,k + 1,r,h,j,u,hj => by
  have hx:=hs x (by simp)
  have h' : xs[k]? = some r:=by simpa using h
  have:=flat_at xs (fun r hr => hs r (by simp [hr])) k r h' j u hj
  rw [List.flatten_cons,List.getElem?_append_right (by rw [hx,Nat.succ_mul]; omega),hx,show (k + 1) * s + j - s = k * s + j by rw [Nat.succ_mul]; omega]
  exact this
theorem Sl.of_flat {w : World} {g t s : Nat} {cs : Array Value} {xs : List (List Value)} (h : Bx w g t cs) (hs : ∀ r ∈ xs,r.length = s) (hc : cs = xs.flatten.toArray) : Sl w w.heap.size s (some ⟨g,0,none⟩) xs :=
 Sl.of_bx h fun k r hr j u hu => by
  rw [hc]
  simpa using flat_at xs hs k r hr j u hu
def yardEs : List Ev:=[⟨1,0,0,0,0⟩,⟨3,6200,0,0,3⟩,⟨3,9800,0,0,0⟩,⟨2,1010,1000,0,3⟩,⟨3,2700,0,0,1⟩,⟨3,3900,0,0,0⟩]
def shortEs : List Ev:=[⟨3,100,0,0,0⟩,⟨1,2,0,0,4⟩,⟨3,40,0,0,0⟩]
theorem rng_any (a b : Int) (w : World) : Calls Try.prog 46 #[.int .i64 a,.int .i64 b] w fun e w' => e = .returned (.agg #[.int .i64 a,.int .i64 b]) ∧ Below w.heap.size w w':=by
 go_enter Try.func46,Try.ntmps46
 go_wp2
 refine bodyPost_ret (v:=.agg #[.int .i64 a,.int .i64 b]) (by simp [results,Try.results46,go_sem]) rfl ⟨rfl,?_⟩
 repeat (first | exact Below.refl _ _ | refine Below.alloc ?_ (by simp; try omega) _ | refine Below.setCell ?_ (by simp) _ )
theorem results_row1 {P : Program} {fn : Func} {p : Tmp} {ty t : TypeId} {tmps : Array Value} {w : World} {g : Nat} {cs : Array Value} {d : TypeDesc} (h : fn.results = #[.cell p ty]) (hp : tmps.getD p undef = .pointer (some ⟨g,0,none⟩)) (hb : Bx w g t cs)
  (hu : P.underlying ty = some d) (hd : (match d with | .struct _ | .array _ _ => true | _ => false) = true) (hi : (P.info? ty).map (·.size) = some cs.size) :
  (results fn tmps).run P w = .ok (.agg cs) w:=by
 have hp' : tmps[p]?.getD undef = .pointer (some ⟨g,0,none⟩):=by simpa using hp
 simp only [results,h]
 simp [Sem.run_bind,Result.andThen,hp',asAddr,run_loadVar_row w g t ty cs (0,0) d hb hu hd hi]
set_option maxRecDepth 100000 in
set_option maxHeartbeats 2000000 in
theorem yard_any (w : World) : Calls Try.prog 52 #[] w fun e w' => (∃ b,e = .returned (.agg #[.int .i64 10,.int .i64 (-5),.int .i64 5,.slice (some ⟨b,0,none⟩) 6 6]) ∧ w.heap.size ≤ b ∧ Bx w' b 28 (yardEs.map Ev.cells).flatten.toArray) ∧ Below w.heap.size w w':=by
 have K0:=Lib.hid (Bx.new w 26 #[.int .i64 0,.int .i64 0,.int .i64 0,.slice none 0 0])
 have B0:=Lib.hid ((Below.refl w.heap.size w).alloc (Nat.le_refl _) (.cells #[.int .i64 0,.int .i64 0,.int .i64 0,.slice none 0 0] 26))
 go_enter Try.func52,Try.ntmps52
 go_wp2_with (go_at_call 46; first | (have _t:=hb3; clear _t; refine (rng_any _ _ _).mono ?_; rintro e w4 ⟨rfl,hb4⟩; have k4:=k3.call hb4; have B4:=B3.trans (hb4.mono B3.size); obtain ⟨c0,c1,c2,c3,cf,cz⟩:=k4.four) | (have _t:=hb2; clear _t; refine (rng_any _ _ _).mono ?_; rintro e w3 ⟨rfl,hb3⟩; have k3:=k2.call hb3; have B3:=B2.trans (hb3.mono B2.size)) | (have _t:=hb1; clear _t; refine (rng_any _ _ _).mono ?_; rintro e w2 ⟨rfl,hb2⟩; have k2:=k1.call hb2; have B2:=B1.trans (hb2.mono B1.size)) | (refine (rng_any _ _ _).mono ?_; rintro e w1 ⟨rfl,hb1⟩; have k1:=K0.out.call hb1; have B1:=B0.out.trans (hb1.mono B0.out.size)))
 have hl:=B4.size
 refine bodyPost_ret (v:=.agg #[.int .i64 10,.int .i64 (-5),.int .i64 5,.slice (some ⟨w4.heap.size,0,none⟩) 6 6]) (results_row1 (g:=w.heap.size) (t:=26) rfl rfl ?_ Try.underlying26 rfl (by kernel_rfl)) rfl ⟨⟨_,rfl,hl,?_⟩,?_⟩
 ·simpa using ((((k4.set_ 0 (.int .i64 10)).set_ 1 (.int .i64 (-5))).set_ 2 (.int .i64 5)).set_ 3 (.slice (some ⟨w4.heap.size,0,none⟩) 6 6)).alloc _
 ·exact Bx.at _ 28 _ (by simp [World.setCell])
 ·exact (((((B4.setCell (by simp) _).setCell (by simp) _).setCell (by simp) _).setCell (by simp) _).alloc (by simpa [World.setCell] using hl) _)
set_option maxRecDepth 100000 in
set_option maxHeartbeats 2000000 in
theorem short_any (w : World) : Calls Try.prog 54 #[] w fun e w' => (∃ b,e = .returned (.agg #[.int .i64 1,.int .i64 0,.int .i64 4,.slice (some ⟨b,0,none⟩) 3 3]) ∧ w.heap.size ≤ b ∧ Bx w' b 28 (shortEs.map Ev.cells).flatten.toArray) ∧ Below w.heap.size w w':=by
 have K0:=Lib.hid (Bx.new w 26 #[.int .i64 0,.int .i64 0,.int .i64 0,.slice none 0 0])
 have B0:=Lib.hid ((Below.refl w.heap.size w).alloc (Nat.le_refl _) (.cells #[.int .i64 0,.int .i64 0,.int .i64 0,.slice none 0 0] 26))
 go_enter Try.func54,Try.ntmps54
 go_wp2_with (go_at_call 46; first | (have _t:=hb1; clear _t; refine (rng_any _ _ _).mono ?_; rintro e w2 ⟨rfl,hb2⟩; have k2:=k1.call hb2; have B2:=B1.trans (hb2.mono B1.size); obtain ⟨c0,c1,c2,c3,cf,cz⟩:=k2.four) | (refine (rng_any _ _ _).mono ?_; rintro e w1 ⟨rfl,hb1⟩; have k1:=K0.out.call hb1; have B1:=B0.out.trans (hb1.mono B0.out.size)))
 have hl:=B2.size
 refine bodyPost_ret (v:=.agg #[.int .i64 1,.int .i64 0,.int .i64 4,.slice (some ⟨w2.heap.size,0,none⟩) 3 3]) (results_row1 (g:=w.heap.size) (t:=26) rfl rfl ?_ Try.underlying26 rfl (by kernel_rfl)) rfl ⟨⟨_,rfl,hl,?_⟩,?_⟩
 ·simpa using ((((k2.set_ 0 (.int .i64 1)).set_ 1 (.int .i64 0)).set_ 2 (.int .i64 4)).set_ 3 (.slice (some ⟨w2.heap.size,0,none⟩) 3 3)).alloc _
 ·exact Bx.at _ 28 _ (by simp [World.setCell])
 ·exact (((((B2.setCell (by simp) _).setCell (by simp) _).setCell (by simp) _).setCell (by simp) _).alloc (by simpa [World.setCell] using hl) _)
set_option maxRecDepth 100000 in
set_option maxHeartbeats 2000000 in
theorem lorry_any (a b : Int) (w : World) : Calls Try.prog 53 #[.int .i64 a,.int .i64 b] w fun e w' => (∃ p q,e = .returned (.agg #[.slice (some ⟨p,0,none⟩) 2 2,.slice (some ⟨q,0,none⟩) 2 2,.int .i64 a,.int .i64 b,.int .i64 70,.int .i64 90]) ∧ w.heap.size ≤ p ∧ w.heap.size ≤ q ∧ Bx w' p 3 #[.int .i64 1,.int .i64 2] ∧ Bx w' q 3 #[.int .i64 4,.int .i64 5]) ∧ Below w.heap.size w w':=by
 have K0:=Lib.hid (((Bx.new w 50 #[.slice none 0 0,.slice none 0 0,.int .i64 0,.int .i64 0,.int .i64 0,.int .i64 0]).alloc (.cells #[.int .i64 1,.int .i64 2] 3)).alloc (.cells #[.int .i64 4,.int .i64 5] 3))
 have KP:=Lib.hid ((Bx.at (w.alloc (.cells #[.slice none 0 0,.slice none 0 0,.int .i64 0,.int .i64 0,.int .i64 0,.int .i64 0] 50)) 3 #[.int .i64 1,.int .i64 2] (n:=w.heap.size + 1) (by simp)).alloc (.cells #[.int .i64 4,.int .i64 5] 3))
 have KQ:=Lib.hid (Bx.at ((w.alloc (.cells #[.slice none 0 0,.slice none 0 0,.int .i64 0,.int .i64 0,.int .i64 0,.int .i64 0] 50)).alloc (.cells #[.int .i64 1,.int .i64 2] 3)) 3 #[.int .i64 4,.int .i64 5] (n:=w.heap.size + 1 + 1) (by simp))
 have B0:=Lib.hid ((((Below.refl w.heap.size w).alloc (Nat.le_refl _) (.cells #[.slice none 0 0,.slice none 0 0,.int .i64 0,.int .i64 0,.int .i64 0,.int .i64 0] 50)).alloc (by simp) (.cells #[.int .i64 1,.int .i64 2] 3)).alloc (by simp; omega) (.cells #[.int .i64 4,.int .i64 5] 3))
 go_enter Try.func53,Try.ntmps53
 go_wp2_with (go_at_call 46; refine (rng_any _ _ _).mono ?_; rintro e w1 ⟨rfl,hb1⟩; have k1:=K0.out.call hb1; have kp:=KP.out.call hb1; have kq:=KQ.out.call hb1; have B1:=B0.out.trans (hb1.mono B0.out.size); obtain ⟨c0,c1,c2,c3,c4,c5,cf,cz⟩:=k1.six)
 have hl:=B1.size
 refine bodyPost_ret (v:=.agg #[.slice (some ⟨w.heap.size + 1,0,none⟩) 2 2,.slice (some ⟨w.heap.size + 1 + 1,0,none⟩) 2 2,.int .i64 a,.int .i64 b,.int .i64 70,.int .i64 90]) (results_row1 (g:=w.heap.size) (t:=50) rfl rfl ?_ Try.underlying50 rfl (by kernel_rfl)) rfl ⟨⟨_,_,rfl,by omega,by omega,?_,?_⟩,?_⟩
 ·simpa using (((((k1.set_ 0 (.slice (some ⟨w.heap.size + 1,0,none⟩) 2 2)).set_ 1 (.slice (some ⟨w.heap.size + 1 + 1,0,none⟩) 2 2)).set_ 2 (.int .i64 a)).set_ 3 (.int .i64 b)).set_ 4 (.int .i64 70)).set_ 5 (.int .i64 90)
 ·exact (((((kp.far (by simp) _).far (by simp) _).far (by simp) _).far (by simp) _).far (by simp) _).far (by simp) _
 ·exact (((((kq.far (by simp; omega) _).far (by simp; omega) _).far (by simp; omega) _).far (by simp; omega) _).far (by simp; omega) _).far (by simp; omega) _
 ·exact (((((B1.setCell (by simp) _).setCell (by simp) _).setCell (by simp) _).setCell (by simp) _).setCell (by simp) _).setCell (by simp) _
def prs (L : List (Int × Int)) : List (List Value):=L.map fun p => [.int .i64 p.1,.int .i64 p.2]
theorem prs_len (L : List (Int × Int)) : (prs L).length = L.length:=by simp [prs]
theorem prs_at {w : World} {B k : Nat} {A : Option Addr} {L : List (Int × Int)} (h : Sl w B 2 A (prs L)) (hk : k < L.length) : ∃ ad,A = some ad ∧ ad.block < B ∧ w.cell? (ad.add (k * 2)) = some (.int .i64 L[k].1) ∧ w.cell? ⟨(ad.add (k * 2)).block,(ad.add (k * 2)).off + 1,none⟩ = some (.int .i64 L[k].2):=by
 obtain ⟨ad,rfl,hb,hc⟩:=h.at_ (k:=k) (by rw [prs_len]; exact hk)
 refine ⟨ad,rfl,hb,hc.head (by simp [prs]),hc.next 0 (by simp [prs])⟩
set_option maxRecDepth 100000 in
set_option maxHeartbeats 2000000 in
theorem equalRanges_any (A : Option Addr) (n c : Nat) (B : Option Addr) (m d : Nat) (La Lb : List (Int × Int)) (w : World) (hn : n ≤ 9000000000000000000) (hm : m ≤ 9000000000000000000) (hla : La.length = n) (hlb : Lb.length = m) (hA : Sl w w.heap.size 2 A (prs La)) (hB : Sl w w.heap.size 2 B (prs Lb)) :
  Calls Try.prog 24 #[.slice A n c,.slice B m d] w fun e w' => e = .returned (.bool (decide (La = Lb))) ∧ Below w.heap.size w w':=by
 have HLA:=Lib.hid hla
 have HLB:=Lib.hid hlb
 clear hla hlb
 go_enter Try.func24,Try.ntmps24
 go_wp2_with fail
 go_loopw [5,6] (fun b i wr => ∃ (k : Nat) (t : Bool),k ≤ n ∧ i = .int .i64 k ∧ b = .bool t ∧ Hid (t = decide (n = m ∧ La.take k = Lb.take k)) ∧ Below w.heap.size w wr) (fun _ i _ => n - (intOf i).toNat)
 case atStart => exact ⟨0,_,by omega,rfl,rfl,by unfold Hid; by_cases h : n = m <;> simp [h]; omega,Below.refl _ _⟩
 case round =>
  obtain ⟨k,t,hk,rfl,rfl,ht,hBe⟩:=hrel
  by_cases hgo : t = true ∧ k < n
  ·obtain ⟨rfl,hkn⟩:=hgo
   have htt:=ht.out
   have hnm : n = m ∧ La.take k = Lb.take k:=of_decide_eq_true htt.symm
   have HNM:=Lib.hid hnm
   clear hnm
   have hkm : k < m:=by have:=HNM.out.1; omega
   clear htt ht
   have hka : k < La.length:=by rw [HLA.out]; exact hkn
   have hkb : k < Lb.length:=by rw [HLB.out]; omega
   obtain ⟨ad,rfl,hab,p0,p1⟩:=prs_at (hA.below hBe) hka
   obtain ⟨bd,rfl,hbb,q0,q1⟩:=prs_at (hB.below hBe) hkb
   have HTA:=Lib.hid (List.take_succ_eq_append_getElem hka)
   have HTB:=Lib.hid (List.take_succ_eq_append_getElem hkb)
   generalize La[k]'hka = x at *
   generalize Lb[k]'hkb = y at *
   clear hka hkb
   go_wp2_with fail
   refine AnyG.start (fun w' : World => Below wr.heap.size wr w') (fun i => true) (by kernel_rfl) ?_
   have hS : (fun w' : World => Below wr.heap.size wr w') (World.drew _):=(Below.refl _ _).drew
   refine AnyG.take (i:=0) (v:=?_) rfl (by kernel_rfl) (fun _ _ _ h => h) rfl ?_ hS ?_
   rotate_left
   ·(intro w' _; go_simp; try with_reducible rfl)
   try simp only [Act.put,Sp4,Sp5,Sp6]
   refine AnyG.take (i:=1) (v:=?_) rfl (by kernel_rfl) (fun _ _ _ h => h) rfl ?_ hS ?_
   rotate_left
   ·(intro w' _; go_simp; try with_reducible rfl)
   try simp only [Act.put,Sp4,Sp5,Sp6]
   refine AnyG.take (i:=2) (v:=?_) rfl (by kernel_rfl) (fun _ _ _ h => h) rfl ?_ hS ?_
   rotate_left
   ·(intro w' _; go_simp; try with_reducible rfl)
   try simp only [Act.put,Sp4,Sp5,Sp6]
   refine AnyG.take (i:=3) (v:=?_) rfl (by kernel_rfl) (fun _ _ _ h => h) rfl ?_ hS ?_
   rotate_left
   ·(intro w' hSw; (try dsimp only at hSw); have p0:=cellC hSw p0; have p1:=cellC hSw p1; have q0:=cellC hSw q0; have q1:=cellC hSw q1; go_simp; try with_reducible rfl)
   try simp only [Act.put,Sp4,Sp5,Sp6]
   refine AnyG.take (i:=4) (v:=?_) rfl (by kernel_rfl) (fun _ _ _ h => h) rfl ?_ hS ?_
   rotate_left
   ·(intro w' _; go_simp; try with_reducible rfl)
   try simp only [Act.put,Sp4,Sp5,Sp6]
   refine AnyG.take (i:=5) (v:=?_) rfl (by kernel_rfl) (fun _ _ _ h => h) rfl ?_ hS ?_
   rotate_left
   ·(intro w' _; go_simp; try with_reducible rfl)
   try simp only [Act.put,Sp4,Sp5,Sp6]
   refine AnyG.take (i:=6) (v:=?_) rfl (by kernel_rfl) (fun _ _ _ h => h) rfl ?_ hS ?_
   rotate_left
   ·(intro w' _; go_simp; try with_reducible rfl)
   try simp only [Act.put,Sp4,Sp5,Sp6]
   refine AnyG.take (i:=7) (v:=?_) rfl (by kernel_rfl) (fun _ _ _ h => h) rfl ?_ hS ?_
   rotate_left
   ·(intro w' hSw; (try dsimp only at hSw); have p0:=cellC hSw p0; have p1:=cellC hSw p1; have q0:=cellC hSw q0; have q1:=cellC hSw q1; go_simp; try with_reducible rfl)
   try simp only [Act.put,Sp4,Sp5,Sp6]
   refine AnyG.take (i:=8) (v:=.bool (decide (x.1 = y.1 ∧ x.2 = y.2))) rfl (by kernel_rfl) (fun _ _ _ h => h) rfl ?_ hS ?_
   ·(intro w' _; go_simp; by_cases h1 : x.1 = y.1 <;> by_cases h2 : x.2 = y.2 <;> simp [h1,h2])
   try simp only [Act.put,Sp4,Sp5,Sp6]
   refine AnyG.take (i:=9) (v:=?_) rfl (by kernel_rfl) (fun _ _ _ h => h) rfl ?_ hS ?_
   rotate_left
   ·(intro w' _; go_simp; try with_reducible rfl)
   try simp only [Act.put,Sp4,Sp5,Sp6]
   refine AnyG.done (by kernel_rfl) ?_ _
   clear hS
   go_simp
   go_wp2_with fail
   go_roundw
   case rel =>
    refine ⟨k + 1,_,by omega,by go_num,rfl,?_,hBe.drew⟩
    unfold Hid
    rw [HTA.out,HTB.out,HNM.out.2,← Bool.decide_and,decide_eq_decide]
    constructor
    ·rintro ⟨h1,h2⟩
     exact ⟨HNM.out.1,by rw [Prod.ext h1 h2]⟩
    ·rintro ⟨_,h⟩
     have:=(List.append_inj' h rfl).2
     simp only [List.cons.injEq,and_true] at this
     rw [this]; exact ⟨rfl,rfl⟩
   case measure => simp [intOf]; omega
  ·have hend : t = decide (La = Lb):=by
    rw [ht.out,decide_eq_decide]
    by_cases hkn : k < n
    ·have htf : t = false:=by
      cases t with
      | false => rfl
      | true => exact absurd ⟨rfl,hkn⟩ hgo
     have h0 : ¬ (n = m ∧ La.take k = Lb.take k):=of_decide_eq_false (ht.out.symm.trans htf)
     constructor
     ·intro h; exact absurd h h0
     ·rintro rfl; exact absurd ⟨by rw [← HLA.out,← HLB.out],rfl⟩ h0
    ·obtain rfl : k = n:=by omega
     rw [List.take_of_length_le (Nat.le_of_eq HLA.out)]
     constructor
     ·rintro ⟨rfl,h⟩; rw [h,List.take_of_length_le (Nat.le_of_eq HLB.out)]
     ·rintro rfl
      have hkm : k = m:=by rw [← HLA.out,← HLB.out]
      exact ⟨hkm,(List.take_of_length_le (Nat.le_of_eq HLA.out)).symm⟩
   have HE:=Lib.hid hend
   clear hend ht
   by_cases hkn : k < n
   ·obtain rfl : t = false:=by
     cases t with
     | false => rfl
     | true => exact absurd ⟨rfl,hkn⟩ hgo
    go_wp2_with fail
    go_ret
    exact ⟨ret_bool HE.out,hBe⟩
   ·cases t
    all_goals
     go_wp2_with fail
     go_ret
     exact ⟨ret_bool HE.out,hBe⟩
end Go.Proofs.Ytgbogdckmfencaa
