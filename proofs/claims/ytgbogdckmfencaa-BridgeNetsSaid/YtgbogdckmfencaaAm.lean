/- The reference's among, checkAxles and CheckSlip. -/
import Derived.Test.YtgbogdckmfencaaRfM
import Derived.Test.YtgbogdckmfencaaFolM
set_option linter.unusedSimpArgs false
set_option linter.unusedVariables false
namespace Go.Proofs.Ytgbogdckmfencaa
open Go Go.RowKit
theorem among_any (X : Option Addr) (m d : Nat) (l : List Int) (a : Int) (w : World) (hm : m ≤ 1000) (hx : l.length = m) (hX : Sl w w.heap.size 1 X (ints l)) :
  Calls Try.prog 79 #[.slice X m d,.int .i64 a] w fun e w' => e = .returned (.bool (l.contains a)) ∧ w = w':=by
 have HX:=Lib.hid hx
 clear hx
 go_enter Try.func79,Try.ntmps79
 go_wp2_with fail
 go_loop [5] (fun v5 => ∃ k : Nat,k ≤ m ∧ v5 = .int .i64 k ∧ Hid (¬ a ∈ l.take k)) (fun v5 => m - (intOf v5).toNat)
 case atStart => exact ⟨0,by omega,rfl,Lib.hid (by simp)⟩
 case round =>
  obtain ⟨k,hk,rfl,hd⟩:=hrel
  by_cases hkm : k < m
  ·have hke : k < l.length:=by rw [HX.out]; exact hkm
   obtain ⟨ad,rfl,hab,q0⟩:=ints_at hX hke
   by_cases ha : l[k] = a
   ·have hin : Hid (l.contains a = true):=by unfold Hid; simp only [List.contains_eq_mem,decide_eq_true_eq]; rw [← ha]; exact List.getElem_mem hke
    have e1 : (l[k] == a) = true:=by rw [beq_iff_eq]; exact ha
    generalize l[k] = x at q0 e1
    clear ha hd
    go_wp2_with fail
    go_ret
    exact ⟨ret_bool (by have h:=hin.out; simp only [List.contains_eq_mem] at h ⊢; exact h.symm),rfl⟩
   ·have hnx : Hid (¬ a ∈ l.take (k + 1)):=by
     unfold Hid
     rw [List.take_succ_eq_append_getElem hke,List.mem_append]
     rintro (h | h)
     ·exact hd.out h
     ·exact ha (List.mem_singleton.1 h).symm
    have e1 : (l[k] == a) = false:=by rw [beq_eq_false_iff_ne]; exact ha
    generalize l[k] = x at q0 e1
    clear ha hd
    go_wp2_with fail
    go_round
    case rel => exact ⟨k + 1,by omega,by go_num,hnx⟩
    case measure => simp [intOf]; omega
  ·have hno : Hid (l.contains a = false):=by
    unfold Hid
    have h:=hd.out
    rw [List.take_of_length_le (by rw [HX.out]; omega)] at h
    simp only [List.contains_eq_mem,decide_eq_false_iff_not]
    exact h
   go_wp2_with fail
   go_ret
   exact ⟨ret_bool (by have h:=hno.out; simp only [List.contains_eq_mem] at h ⊢; exact h.symm),rfl⟩
set_option maxRecDepth 100000 in
set_option maxHeartbeats 4000000 in
theorem refAxles_any (st z0 z1 : Int) (A : Option Addr) (n c : Nat) (es : List Ev) (X : Option Addr) (m d : Nat) (axs : List Int) (w : World) (hn : n ≤ 14) (hl : es.length = n) (hA : EvsAt w w.heap.size A es) (hm : m ≤ 1000) (hx : axs.length = m) (hX : Sl w w.heap.size 1 X (ints axs)) :
  Calls Try.prog 78 #[.agg #[.int .i64 st,.int .i64 z0,.int .i64 z1,.slice A n c],.slice X m d] w fun e w' => e = .returned (.int .i64 (ckA es axs)) ∧ Below w.heap.size w w':=by
 have HL:=Lib.hid hl
 have HX:=Lib.hid hx
 clear hl hx
 by_cases h1 : m = 0
 case pos =>
  have H1 : Hid (ckA es axs = 7):=by unfold Hid ckA; rw [if_pos (by rw [HX.out]; omega)]
  subst h1
  go_enter Try.func78,Try.ntmps78
  go_wp2_with fail
  go_ret
  exact ⟨ret_int H1.out.symm,(Below.refl _ _).alloc (Nat.le_refl _) _⟩
 have h1' : ((m : Int) == 0) = false:=by rw [beq_eq_false_iff_ne]; omega
 by_cases h2 : 4 < m
 case pos =>
  have H1 : Hid (ckA es axs = 6):=by unfold Hid ckA; rw [if_neg (by rw [HX.out]; omega),if_pos (by rw [HX.out]; exact h2)]
  go_enter Try.func78,Try.ntmps78
  go_wp2_with fail
  go_ret
  exact ⟨ret_int H1.out.symm,(Below.refl _ _).alloc (Nat.le_refl _) _⟩
 have H1 : Hid (ckA es axs = ckAx es (-1) axs):=by unfold Hid ckA; rw [if_neg (by rw [HX.out]; omega),if_neg (by rw [HX.out]; exact h2)]
 have kL:=Bx.new w 26 #[.int .i64 st,.int .i64 z0,.int .i64 z1,.slice A n c]
 have hB0 : Below w.heap.size w (w.alloc (.cells #[.int .i64 st,.int .i64 z0,.int .i64 z1,.slice A n c] 26)):=(Below.refl _ _).alloc (Nat.le_refl _) _
 have hEW:=(hA.below hB0).more hB0.size
 have hXW:=(hX.below hB0).more hB0.size
 obtain ⟨W,hW⟩ : ∃ x,w.alloc (.cells #[.int .i64 st,.int .i64 z0,.int .i64 z1,.slice A n c] 26) = x:=⟨_,rfl⟩
 rw [hW] at kL hB0 hEW hXW
 have HW:=Lib.hid hW
 clear hW hA hX
 go_enter Try.func78,Try.ntmps78
 go_upto_region 1 with fail
 rw [HW.out]
 go_wp2_with fail
 go_loopw [5] (fun v5 wr => ∃ (k : Nat) (p : Int),k ≤ m ∧ v5 = .int .i64 k ∧ Hid (k = 0 ∧ p = -1 ∨ ∃ j,k = j + 1 ∧ axs[j]? = some p) ∧ Hid (ckA es axs = ckAx es p (axs.drop k)) ∧ Below W.heap.size W wr) (fun v5 _ => m - (intOf v5).toNat)
 case atStart => exact ⟨0,-1,by omega,rfl,Lib.hid (.inl ⟨rfl,rfl⟩),by unfold Hid; rw [H1.out]; rfl,Below.refl _ _⟩
 case round =>
  obtain ⟨w3,rfl⟩ : ∃ x,x = wr:=⟨_,rfl⟩
  obtain ⟨k,p,hk,rfl,hp,hd,hB⟩:=hrel
  by_cases hkm : k < m
  ·have hke : k < axs.length:=by rw [HX.out]; exact hkm
   have hX3:=(hXW.below hB).more hB.size
   obtain ⟨ad,rfl,hab,q0⟩:=ints_at hX3 hke
   have k3:=kL.call hB
   have hds:=ckAx_step (es:=es) (b:=p) hke
   obtain ⟨a,ha⟩ : ∃ a,axs[k] = a:=⟨_,rfl⟩
   rw [ha] at hds q0
   rw [HL.out] at hds
   have HA1 : Hid (axs[k]? = some a):=by unfold Hid; rw [List.getElem?_eq_getElem hke,ha]
   have Q0:=Lib.hid q0
   have hab2 : (ad.add k).block < w3.heap.size:=by rw [add_block]; exact hab
   have hwn : IntKind.i64.wrap ((n : Int) - 1) = (n : Int) - 1:=IntWalk.i64_in _ (by omega)
   clear ha q0
   by_cases c1 : a < 0 ∨ (n : Int) ≤ a
   ·have e1:=btw_f (n:=a) (lo:=0) (hi:=(n : Int) - 1) (by omega)
    have hd' : Hid (ckA es axs = 3):=by unfold Hid; rw [hd.out,hds,if_pos c1]
    clear hds hd c1
    go_upto_region 8 with fail
    refine AnyG.startC (by kernel_rfl) ?_
    refine AnyG.takeP (i:=0) (v:=?_) rfl (by kernel_rfl) (fun _ _ _ h => h) rfl ?_ ?_
    rotate_left
    ·(intro w'; go_simp; try with_reducible rfl)
    try simp only [Act.put,Sp1,Sp2,Sp3,Sp4,Sp5,Sp6]
    refine AnyG.takeP (i:=1) (v:=?_) rfl (by kernel_rfl) (fun _ _ _ h => h) rfl ?_ ?_
    rotate_left
    ·(intro w'; go_simp; try with_reducible rfl)
    try simp only [Act.put,Sp1,Sp2,Sp3,Sp4,Sp5,Sp6]
    refine AnyG.takeP (i:=2) (v:=?_) rfl (by kernel_rfl) (fun _ _ _ h => h) rfl ?_ ?_
    rotate_left
    ·(intro w'; go_simp; try with_reducible rfl)
    try simp only [Act.put,Sp1,Sp2,Sp3,Sp4,Sp5,Sp6]
    refine AnyG.takeP (i:=4) (v:=?_) rfl (by kernel_rfl) (fun _ _ _ h => h) rfl ?_ ?_
    rotate_left
    ·(intro w'; go_simp; try with_reducible rfl)
    try simp only [Act.put,Sp1,Sp2,Sp3,Sp4,Sp5,Sp6]
    refine AnyG.enter (fun w' : World => Below w3.heap.size w3 w') (fun i => true) ?_
    have hS : (fun w' : World => Below w3.heap.size w3 w') (World.drew _):=Below.drew (Below.refl _ _)
    refine AnyG.takeC (i:=3) (v:=?_) rfl (by kernel_rfl) (fun _ _ _ h => h) rfl ?_ hS ?_
    rotate_left
    ·(intro w' hSw; (try dsimp only at hSw); have q0:=(hSw.cell (p:=ad.add k) hab2).trans Q0.out; go_simp; try with_reducible rfl)
    try simp only [Act.put,Sp1,Sp2,Sp3,Sp4,Sp5,Sp6]
    refine AnyG.takeC (i:=5) (v:=?_) rfl (by kernel_rfl) (fun _ _ _ h => h) rfl ?_ hS ?_
    rotate_left
    ·(intro w' hSw; (try dsimp only at hSw); obtain ⟨l0,l1,l2,l3,lf,lz⟩:=(k3.call hSw).four; go_simp; try with_reducible rfl)
    try simp only [Act.put,Sp1,Sp2,Sp3,Sp4,Sp5,Sp6]
    refine AnyG.takeC (i:=6) (v:=?_) rfl (by kernel_rfl) (fun _ _ _ h => h) rfl ?_ hS ?_
    rotate_left
    ·(intro w' hSw; (try dsimp only at hSw); go_simp; try with_reducible rfl)
    try simp only [Act.put,Sp1,Sp2,Sp3,Sp4,Sp5,Sp6]
    refine AnyG.takeC (i:=7) (v:=?_) rfl (by kernel_rfl) (fun _ _ _ h => h) rfl ?_ hS ?_
    rotate_left
    ·(intro w' hSw; (try dsimp only at hSw); go_simp; try with_reducible rfl)
    try simp only [Act.put,Sp1,Sp2,Sp3,Sp4,Sp5,Sp6]
    refine AnyG.one (i:=8) (by kernel_rfl) rfl rfl ?_
    go_simp
    refine (between_b _ _ _ _).mono ?_
    rintro er y1 ⟨rfl,rfl⟩
    rw [e1]
    refine Onward.on hS (fun hS2 => ?_)
    clear hS
    have hS:=hS2
    clear hS2
    try simp only [Act.put,Sp1,Sp2,Sp3,Sp4,Sp5,Sp6]
    refine AnyG.takeC (i:=9) (v:=?_) rfl (by kernel_rfl) (fun _ _ _ h => h) rfl ?_ hS ?_
    rotate_left
    ·(intro w' hSw; (try dsimp only at hSw); go_simp; try with_reducible rfl)
    try simp only [Act.put,Sp1,Sp2,Sp3,Sp4,Sp5,Sp6]
    refine AnyG.done (by kernel_rfl) ?_ _
    go_simp
    have hB3:=hB0.trans ((hB.trans (hS.mono hB.size)).mono hB0.size)
    go_wp2_with fail
    go_ret
    exact ⟨ret_int hd'.out.symm,hB3⟩
   ·rw [if_neg c1] at hds
    have ha0 : 0 ≤ a:=by omega
    have ha1 : a < (n : Int):=by omega
    obtain ⟨t,rfl⟩:=Int.eq_ofNat_of_zero_le ha0
    have e1:=btw_t (n:=(t : Int)) (lo:=0) (hi:=(n : Int) - 1) (by omega)
    clear c1 ha0
    have hte : t < es.length:=by rw [HL.out]; omega
    have hE3:=(Sl.below hEW hB).more hB.size
    obtain ⟨ae,rfl,hae,e0,_⟩:=EvsAt.at_ hE3 hte
    have hkd : kdAt es (t : Int) = es[t].kd:=by unfold kdAt; rw [Int.toNat_natCast,List.getElem?_eq_getElem hte]
    rw [hkd] at hds
    clear hkd
    have hae2 : (ae.add (t * 5)).block < w3.heap.size:=by rw [add_block]; exact hae
    obtain ⟨kd,hkd⟩ : ∃ x,es[t].kd = x:=⟨_,rfl⟩
    rw [hkd] at hds e0
    have E0:=Lib.hid e0
    clear e0 hkd hE3
    go_upto_region 8 with fail
    refine AnyG.startC (by kernel_rfl) ?_
    refine AnyG.takeP (i:=0) (v:=?_) rfl (by kernel_rfl) (fun _ _ _ h => h) rfl ?_ ?_
    rotate_left
    ·(intro w'; go_simp; try with_reducible rfl)
    try simp only [Act.put,Sp1,Sp2,Sp3,Sp4,Sp5,Sp6]
    refine AnyG.takeP (i:=1) (v:=?_) rfl (by kernel_rfl) (fun _ _ _ h => h) rfl ?_ ?_
    rotate_left
    ·(intro w'; go_simp; try with_reducible rfl)
    try simp only [Act.put,Sp1,Sp2,Sp3,Sp4,Sp5,Sp6]
    refine AnyG.takeP (i:=2) (v:=?_) rfl (by kernel_rfl) (fun _ _ _ h => h) rfl ?_ ?_
    rotate_left
    ·(intro w'; go_simp; try with_reducible rfl)
    try simp only [Act.put,Sp1,Sp2,Sp3,Sp4,Sp5,Sp6]
    refine AnyG.takeP (i:=4) (v:=?_) rfl (by kernel_rfl) (fun _ _ _ h => h) rfl ?_ ?_
    rotate_left
    ·(intro w'; go_simp; try with_reducible rfl)
    try simp only [Act.put,Sp1,Sp2,Sp3,Sp4,Sp5,Sp6]
    refine AnyG.enter (fun w' : World => Below w3.heap.size w3 w') (fun i => true) ?_
    have hS : (fun w' : World => Below w3.heap.size w3 w') (World.drew _):=Below.drew (Below.refl _ _)
    refine AnyG.takeC (i:=3) (v:=?_) rfl (by kernel_rfl) (fun _ _ _ h => h) rfl ?_ hS ?_
    rotate_left
    ·(intro w' hSw; (try dsimp only at hSw); have q0:=(hSw.cell (p:=ad.add k) hab2).trans Q0.out; go_simp; try with_reducible rfl)
    try simp only [Act.put,Sp1,Sp2,Sp3,Sp4,Sp5,Sp6]
    refine AnyG.takeC (i:=5) (v:=?_) rfl (by kernel_rfl) (fun _ _ _ h => h) rfl ?_ hS ?_
    rotate_left
    ·(intro w' hSw; (try dsimp only at hSw); obtain ⟨l0,l1,l2,l3,lf,lz⟩:=(k3.call hSw).four; go_simp; try with_reducible rfl)
    try simp only [Act.put,Sp1,Sp2,Sp3,Sp4,Sp5,Sp6]
    refine AnyG.takeC (i:=6) (v:=?_) rfl (by kernel_rfl) (fun _ _ _ h => h) rfl ?_ hS ?_
    rotate_left
    ·(intro w' hSw; (try dsimp only at hSw); go_simp; try with_reducible rfl)
    try simp only [Act.put,Sp1,Sp2,Sp3,Sp4,Sp5,Sp6]
    refine AnyG.takeC (i:=7) (v:=?_) rfl (by kernel_rfl) (fun _ _ _ h => h) rfl ?_ hS ?_
    rotate_left
    ·(intro w' hSw; (try dsimp only at hSw); go_simp; try with_reducible rfl)
    try simp only [Act.put,Sp1,Sp2,Sp3,Sp4,Sp5,Sp6]
    refine AnyG.one (i:=8) (by kernel_rfl) rfl rfl ?_
    go_simp
    refine (between_b _ _ _ _).mono ?_
    rintro er y1 ⟨rfl,rfl⟩
    rw [e1]
    refine Onward.on hS (fun hS2 => ?_)
    clear hS
    have hS:=hS2
    clear hS2
    try simp only [Act.put,Sp1,Sp2,Sp3,Sp4,Sp5,Sp6]
    refine AnyG.takeC (i:=9) (v:=?_) rfl (by kernel_rfl) (fun _ _ _ h => h) rfl ?_ hS ?_
    rotate_left
    ·(intro w' hSw; (try dsimp only at hSw); go_simp; try with_reducible rfl)
    try simp only [Act.put,Sp1,Sp2,Sp3,Sp4,Sp5,Sp6]
    refine AnyG.done (by kernel_rfl) ?_ _
    go_simp
    go_upto_region 10 with fail
    try dsimp only at hS
    refine AnyG.startC (by kernel_rfl) ?_
    refine AnyG.takeP (i:=0) (v:=?_) rfl (by kernel_rfl) (fun _ _ _ h => h) rfl ?_ ?_
    rotate_left
    ·(intro w'; go_simp; try with_reducible rfl)
    try simp only [Act.put,Sp1,Sp2,Sp3,Sp4,Sp5,Sp6]
    refine AnyG.takeP (i:=2) (v:=?_) rfl (by kernel_rfl) (fun _ _ _ h => h) rfl ?_ ?_
    rotate_left
    ·(intro w'; go_simp; try with_reducible rfl)
    try simp only [Act.put,Sp1,Sp2,Sp3,Sp4,Sp5,Sp6]
    refine AnyG.takeP (i:=3) (v:=?_) rfl (by kernel_rfl) (fun _ _ _ h => h) rfl ?_ ?_
    rotate_left
    ·(intro w'; go_simp; try with_reducible rfl)
    try simp only [Act.put,Sp1,Sp2,Sp3,Sp4,Sp5,Sp6]
    refine AnyG.takeP (i:=4) (v:=?_) rfl (by kernel_rfl) (fun _ _ _ h => h) rfl ?_ ?_
    rotate_left
    ·(intro w'; go_simp; try with_reducible rfl)
    try simp only [Act.put,Sp1,Sp2,Sp3,Sp4,Sp5,Sp6]
    refine AnyG.enter (fun w' : World => Below w3.heap.size w3 w') (fun i => true) ?_
    have hS : (fun w' : World => Below w3.heap.size w3 w') (World.drew _):=Below.drew hS
    refine AnyG.takeC (i:=1) (v:=?_) rfl (by kernel_rfl) (fun _ _ _ h => h) rfl ?_ hS ?_
    rotate_left
    ·(intro w' hSw; (try dsimp only at hSw); obtain ⟨l0,l1,l2,l3,lf,lz⟩:=(k3.call hSw).four; go_simp; try with_reducible rfl)
    try simp only [Act.put,Sp1,Sp2,Sp3,Sp4,Sp5,Sp6]
    refine AnyG.takeC (i:=5) (v:=?_) rfl (by kernel_rfl) (fun _ _ _ h => h) rfl ?_ hS ?_
    rotate_left
    ·(intro w' hSw; (try dsimp only at hSw); have q0:=(hSw.cell (p:=ad.add k) hab2).trans Q0.out; go_simp; try with_reducible rfl)
    try simp only [Act.put,Sp1,Sp2,Sp3,Sp4,Sp5,Sp6]
    refine AnyG.takeC (i:=6) (v:=?_) rfl (by kernel_rfl) (fun _ _ _ h => h) rfl ?_ hS ?_
    rotate_left
    ·(intro w' hSw; (try dsimp only at hSw); go_simp; try with_reducible rfl)
    try simp only [Act.put,Sp1,Sp2,Sp3,Sp4,Sp5,Sp6]
    refine AnyG.takeC (i:=7) (v:=?_) rfl (by kernel_rfl) (fun _ _ _ h => h) rfl ?_ hS ?_
    rotate_left
    ·(intro w' hSw; (try dsimp only at hSw); go_simp; try with_reducible rfl)
    try simp only [Act.put,Sp1,Sp2,Sp3,Sp4,Sp5,Sp6]
    refine AnyG.takeC (i:=8) (v:=?_) rfl (by kernel_rfl) (fun _ _ _ h => h) rfl ?_ hS ?_
    rotate_left
    ·(intro w' hSw; (try dsimp only at hSw); have e0:=(hSw.cell (p:=ae.add (t * 5)) hae2).trans E0.out; go_simp; try with_reducible rfl)
    try simp only [Act.put,Sp1,Sp2,Sp3,Sp4,Sp5,Sp6]
    refine AnyG.takeC (i:=9) (v:=?_) rfl (by kernel_rfl) (fun _ _ _ h => h) rfl ?_ hS ?_
    rotate_left
    ·(intro w' hSw; (try dsimp only at hSw); go_simp; try with_reducible rfl)
    try simp only [Act.put,Sp1,Sp2,Sp3,Sp4,Sp5,Sp6]
    refine AnyG.done (by kernel_rfl) ?_ _
    go_simp
    try dsimp only at hS
    have hS10:=hS
    clear hS
    by_cases c2 : kd = 3
    ·subst c2
     rw [if_neg (by simp)] at hds
     go_upto_region 12 with fail
     rcases hp.out with ⟨hk0,hp1⟩ | ⟨j,hkj,hpj⟩
     ·subst hk0 hp1
      rw [if_neg (by omega)] at hds
      have hd' : Hid (ckA es axs = ckAx es t (axs.drop (0 + 1))):=by unfold Hid; rw [hd.out,hds]
      clear hds hd hp
      refine AnyG.startC (by kernel_rfl) ?_
      refine AnyG.takeP (i:=0) (v:=?_) rfl (by kernel_rfl) (fun _ _ _ h => h) rfl ?_ ?_
      rotate_left
      ·(intro w'; go_simp; try with_reducible rfl)
      try simp only [Act.put,Sp1,Sp2,Sp3,Sp4,Sp5,Sp6]
      refine AnyG.takeP (i:=1) (v:=?_) rfl (by kernel_rfl) (fun _ _ _ h => h) rfl ?_ ?_
      rotate_left
      ·(intro w'; go_simp; try with_reducible rfl)
      try simp only [Act.put,Sp1,Sp2,Sp3,Sp4,Sp5,Sp6]
      refine AnyG.takeP (i:=2) (v:=?_) rfl (by kernel_rfl) (fun _ _ _ h => h) rfl ?_ ?_
      rotate_left
      ·(intro w'; go_simp; try with_reducible rfl)
      try simp only [Act.put,Sp1,Sp2,Sp3,Sp4,Sp5,Sp6]
      refine AnyG.enter (fun w' : World => Below w3.heap.size w3 w') (fun i => true) ?_
      have hS : (fun w' : World => Below w3.heap.size w3 w') (World.drew _):=Below.drew hS10
      refine AnyG.takeNC (i:=3) rfl (by kernel_rfl) (fun _ _ _ h => h) (by first | (simp [Region.wanted,yielded]; done) | simp [Region.wanted,yielded,undef]) hS ?_
      try simp only [Act.put,Sp1,Sp2,Sp3,Sp4,Sp5,Sp6]
      refine AnyG.takeNC (i:=4) rfl (by kernel_rfl) (fun _ _ _ h => h) (by first | (simp [Region.wanted,yielded]; done) | simp [Region.wanted,yielded,undef]) hS ?_
      try simp only [Act.put,Sp1,Sp2,Sp3,Sp4,Sp5,Sp6]
      refine AnyG.takeNC (i:=5) rfl (by kernel_rfl) (fun _ _ _ h => h) (by first | (simp [Region.wanted,yielded]; done) | simp [Region.wanted,yielded,undef]) hS ?_
      try simp only [Act.put,Sp1,Sp2,Sp3,Sp4,Sp5,Sp6]
      refine AnyG.takeNC (i:=6) rfl (by kernel_rfl) (fun _ _ _ h => h) (by first | (simp [Region.wanted,yielded]; done) | simp [Region.wanted,yielded,undef]) hS ?_
      try simp only [Act.put,Sp1,Sp2,Sp3,Sp4,Sp5,Sp6]
      refine AnyG.takeNC (i:=7) rfl (by kernel_rfl) (fun _ _ _ h => h) (by first | (simp [Region.wanted,yielded]; done) | simp [Region.wanted,yielded,undef]) hS ?_
      try simp only [Act.put,Sp1,Sp2,Sp3,Sp4,Sp5,Sp6]
      refine AnyG.takeNC (i:=8) rfl (by kernel_rfl) (fun _ _ _ h => h) (by first | (simp [Region.wanted,yielded]; done) | simp [Region.wanted,yielded,undef]) hS ?_
      try simp only [Act.put,Sp1,Sp2,Sp3,Sp4,Sp5,Sp6]
      refine AnyG.takeNC (i:=9) rfl (by kernel_rfl) (fun _ _ _ h => h) (by first | (simp [Region.wanted,yielded]; done) | simp [Region.wanted,yielded,undef]) hS ?_
      try simp only [Act.put,Sp1,Sp2,Sp3,Sp4,Sp5,Sp6]
      refine AnyG.takeNC (i:=10) rfl (by kernel_rfl) (fun _ _ _ h => h) (by first | (simp [Region.wanted,yielded]; done) | simp [Region.wanted,yielded,undef]) hS ?_
      try simp only [Act.put,Sp1,Sp2,Sp3,Sp4,Sp5,Sp6]
      refine AnyG.takeNC (i:=11) rfl (by kernel_rfl) (fun _ _ _ h => h) (by first | (simp [Region.wanted,yielded]; done) | simp [Region.wanted,yielded,undef]) hS ?_
      try simp only [Act.put,Sp1,Sp2,Sp3,Sp4,Sp5,Sp6]
      refine AnyG.takeNC (i:=12) rfl (by kernel_rfl) (fun _ _ _ h => h) (by first | (simp [Region.wanted,yielded]; done) | simp [Region.wanted,yielded,undef]) hS ?_
      try simp only [Act.put,Sp1,Sp2,Sp3,Sp4,Sp5,Sp6]
      refine AnyG.takeC (i:=13) (v:=?_) rfl (by kernel_rfl) (fun _ _ _ h => h) rfl ?_ hS ?_
      rotate_left
      ·(intro w' hSw; (try dsimp only at hSw); go_simp; try with_reducible rfl)
      try simp only [Act.put,Sp1,Sp2,Sp3,Sp4,Sp5,Sp6]
      refine AnyG.done (by kernel_rfl) ?_ _
      go_simp
      have hB3:=hB.trans (hS.mono hB.size)
      go_wp2_with fail
      go_roundw
      case rel => exact ⟨1,t,by omega,rfl,Lib.hid (.inr ⟨0,rfl,HA1.out⟩),hd',hB3⟩
      case measure => simp [intOf]; omega
     ·have hjl : j < axs.length:=(List.getElem?_eq_some_iff.1 hpj).1
      obtain ⟨ad',had,hab',p0⟩:=ints_at hX3 hjl
      cases had
      rw [(List.getElem?_eq_some_iff.1 hpj).2] at p0
      have P0:=Lib.hid p0
      have hab3 : (ad.add j).block < w3.heap.size:=by rw [add_block]; exact hab'
      have hj2 : (0 : Int) < (k : Int):=by omega
      have hj3 : 0 < k:=by omega
      have hjm : j < m:=by omega
      have hwi2 : (k : Int) - 1 = (j : Int):=by omega
      have hwi : IntKind.i64.wrap ((k : Int) - 1) = (j : Int):=by rw [hwi2]; exact IntWalk.i64_in _ (by omega)
      have hwj : IntKind.i64.wrap (j : Int) = (j : Int):=IntWalk.i64_in _ (by omega)
      have hjm2 : (j : Int) < (m : Int):=by omega
      have HKJ:=Lib.hid hkj
      clear p0 hkj hpj hjl hp
      by_cases c3 : (t : Int) ≤ p
      ·have hd' : Hid (ckA es axs = 5):=by unfold Hid; rw [hd.out,hds,if_pos c3]
       clear hds hd
       refine AnyG.startC (by kernel_rfl) ?_
       refine AnyG.takeP (i:=0) (v:=?_) rfl (by kernel_rfl) (fun _ _ _ h => h) rfl ?_ ?_
       rotate_left
       ·(intro w'; go_simp; try with_reducible rfl)
       try simp only [Act.put,Sp1,Sp2,Sp3,Sp4,Sp5,Sp6]
       refine AnyG.takeP (i:=1) (v:=?_) rfl (by kernel_rfl) (fun _ _ _ h => h) rfl ?_ ?_
       rotate_left
       ·(intro w'; go_simp; try with_reducible rfl)
       try simp only [Act.put,Sp1,Sp2,Sp3,Sp4,Sp5,Sp6]
       refine AnyG.takeP (i:=2) (v:=?_) rfl (by kernel_rfl) (fun _ _ _ h => h) rfl ?_ ?_
       rotate_left
       ·(intro w'; go_simp; try with_reducible rfl)
       try simp only [Act.put,Sp1,Sp2,Sp3,Sp4,Sp5,Sp6]
       refine AnyG.enter (fun w' : World => Below w3.heap.size w3 w') (fun i => true) ?_
       have hS : (fun w' : World => Below w3.heap.size w3 w') (World.drew _):=Below.drew hS10
       refine AnyG.takeGC (i:=3) (v:=?_) rfl (by kernel_rfl) (fun _ _ _ h => h) (by first | (simp [Region.wanted,yielded]; done) | simp [Region.wanted,yielded,undef]) ?_ hS ?_
       rotate_left
       ·(intro w' hSw; (try dsimp only at hSw); go_simp; try with_reducible rfl)
       try simp only [Act.put,Sp1,Sp2,Sp3,Sp4,Sp5,Sp6]
       refine AnyG.takeGC (i:=4) (v:=?_) rfl (by kernel_rfl) (fun _ _ _ h => h) (by first | (simp [Region.wanted,yielded]; done) | simp [Region.wanted,yielded,undef]) ?_ hS ?_
       rotate_left
       ·(intro w' hSw; (try dsimp only at hSw); go_simp; try with_reducible rfl)
       try simp only [Act.put,Sp1,Sp2,Sp3,Sp4,Sp5,Sp6]
       refine AnyG.takeGC (i:=5) (v:=?_) rfl (by kernel_rfl) (fun _ _ _ h => h) (by first | (simp [Region.wanted,yielded]; done) | simp [Region.wanted,yielded,undef]) ?_ hS ?_
       rotate_left
       ·(intro w' hSw; (try dsimp only at hSw); go_simp; try with_reducible rfl)
       try simp only [Act.put,Sp1,Sp2,Sp3,Sp4,Sp5,Sp6]
       refine AnyG.takeGC (i:=6) (v:=?_) rfl (by kernel_rfl) (fun _ _ _ h => h) (by first | (simp [Region.wanted,yielded]; done) | simp [Region.wanted,yielded,undef]) ?_ hS ?_
       rotate_left
       ·(intro w' hSw; (try dsimp only at hSw); have q0:=(hSw.cell (p:=ad.add k) hab2).trans Q0.out; go_simp; try with_reducible rfl)
       try simp only [Act.put,Sp1,Sp2,Sp3,Sp4,Sp5,Sp6]
       refine AnyG.takeGC (i:=7) (v:=?_) rfl (by kernel_rfl) (fun _ _ _ h => h) (by first | (simp [Region.wanted,yielded]; done) | simp [Region.wanted,yielded,undef]) ?_ hS ?_
       rotate_left
       ·(intro w' hSw; (try dsimp only at hSw); go_simp; try with_reducible rfl)
       try simp only [Act.put,Sp1,Sp2,Sp3,Sp4,Sp5,Sp6]
       refine AnyG.takeGC (i:=8) (v:=?_) rfl (by kernel_rfl) (fun _ _ _ h => h) (by first | (simp [Region.wanted,yielded]; done) | simp [Region.wanted,yielded,undef]) ?_ hS ?_
       rotate_left
       ·(intro w' hSw; (try dsimp only at hSw); go_simp; try with_reducible rfl)
       try simp only [Act.put,Sp1,Sp2,Sp3,Sp4,Sp5,Sp6]
       refine AnyG.takeGC (i:=9) (v:=?_) rfl (by kernel_rfl) (fun _ _ _ h => h) (by first | (simp [Region.wanted,yielded]; done) | simp [Region.wanted,yielded,undef]) ?_ hS ?_
       rotate_left
       ·(intro w' hSw; (try dsimp only at hSw); go_simp; try with_reducible rfl)
       try simp only [Act.put,Sp1,Sp2,Sp3,Sp4,Sp5,Sp6]
       refine AnyG.takeGC (i:=10) (v:=?_) rfl (by kernel_rfl) (fun _ _ _ h => h) (by first | (simp [Region.wanted,yielded]; done) | simp [Region.wanted,yielded,undef]) ?_ hS ?_
       rotate_left
       ·(intro w' hSw; (try dsimp only at hSw); go_simp; try with_reducible rfl)
       try simp only [Act.put,Sp1,Sp2,Sp3,Sp4,Sp5,Sp6]
       refine AnyG.takeGC (i:=11) (v:=?_) rfl (by kernel_rfl) (fun _ _ _ h => h) (by first | (simp [Region.wanted,yielded]; done) | simp [Region.wanted,yielded,undef]) ?_ hS ?_
       rotate_left
       ·(intro w' hSw; (try dsimp only at hSw); have p0:=(hSw.cell (p:=ad.add j) hab3).trans P0.out; go_simp; try with_reducible rfl)
       try simp only [Act.put,Sp1,Sp2,Sp3,Sp4,Sp5,Sp6]
       refine AnyG.takeGC (i:=12) (v:=?_) rfl (by kernel_rfl) (fun _ _ _ h => h) (by first | (simp [Region.wanted,yielded]; done) | simp [Region.wanted,yielded,undef]) ?_ hS ?_
       rotate_left
       ·(intro w' hSw; (try dsimp only at hSw); go_simp; try with_reducible rfl)
       try simp only [Act.put,Sp1,Sp2,Sp3,Sp4,Sp5,Sp6]
       refine AnyG.takeC (i:=13) (v:=?_) rfl (by kernel_rfl) (fun _ _ _ h => h) rfl ?_ hS ?_
       rotate_left
       ·(intro w' hSw; (try dsimp only at hSw); go_simp; try with_reducible rfl)
       try simp only [Act.put,Sp1,Sp2,Sp3,Sp4,Sp5,Sp6]
       refine AnyG.done (by kernel_rfl) ?_ _
       go_simp
       have hB3:=hB0.trans ((hB.trans (hS.mono hB.size)).mono hB0.size)
       go_wp2_with fail
       go_ret
       exact ⟨ret_int hd'.out.symm,hB3⟩
      ·rw [if_neg c3] at hds
       have hd' : Hid (ckA es axs = ckAx es t (axs.drop (k + 1))):=by unfold Hid; rw [hd.out,hds]
       clear hds hd
       refine AnyG.startC (by kernel_rfl) ?_
       refine AnyG.takeP (i:=0) (v:=?_) rfl (by kernel_rfl) (fun _ _ _ h => h) rfl ?_ ?_
       rotate_left
       ·(intro w'; go_simp; try with_reducible rfl)
       try simp only [Act.put,Sp1,Sp2,Sp3,Sp4,Sp5,Sp6]
       refine AnyG.takeP (i:=1) (v:=?_) rfl (by kernel_rfl) (fun _ _ _ h => h) rfl ?_ ?_
       rotate_left
       ·(intro w'; go_simp; try with_reducible rfl)
       try simp only [Act.put,Sp1,Sp2,Sp3,Sp4,Sp5,Sp6]
       refine AnyG.takeP (i:=2) (v:=?_) rfl (by kernel_rfl) (fun _ _ _ h => h) rfl ?_ ?_
       rotate_left
       ·(intro w'; go_simp; try with_reducible rfl)
       try simp only [Act.put,Sp1,Sp2,Sp3,Sp4,Sp5,Sp6]
       refine AnyG.enter (fun w' : World => Below w3.heap.size w3 w') (fun i => true) ?_
       have hS : (fun w' : World => Below w3.heap.size w3 w') (World.drew _):=Below.drew hS10
       refine AnyG.takeGC (i:=3) (v:=?_) rfl (by kernel_rfl) (fun _ _ _ h => h) (by first | (simp [Region.wanted,yielded]; done) | simp [Region.wanted,yielded,undef]) ?_ hS ?_
       rotate_left
       ·(intro w' hSw; (try dsimp only at hSw); go_simp; try with_reducible rfl)
       try simp only [Act.put,Sp1,Sp2,Sp3,Sp4,Sp5,Sp6]
       refine AnyG.takeGC (i:=4) (v:=?_) rfl (by kernel_rfl) (fun _ _ _ h => h) (by first | (simp [Region.wanted,yielded]; done) | simp [Region.wanted,yielded,undef]) ?_ hS ?_
       rotate_left
       ·(intro w' hSw; (try dsimp only at hSw); go_simp; try with_reducible rfl)
       try simp only [Act.put,Sp1,Sp2,Sp3,Sp4,Sp5,Sp6]
       refine AnyG.takeGC (i:=5) (v:=?_) rfl (by kernel_rfl) (fun _ _ _ h => h) (by first | (simp [Region.wanted,yielded]; done) | simp [Region.wanted,yielded,undef]) ?_ hS ?_
       rotate_left
       ·(intro w' hSw; (try dsimp only at hSw); go_simp; try with_reducible rfl)
       try simp only [Act.put,Sp1,Sp2,Sp3,Sp4,Sp5,Sp6]
       refine AnyG.takeGC (i:=6) (v:=?_) rfl (by kernel_rfl) (fun _ _ _ h => h) (by first | (simp [Region.wanted,yielded]; done) | simp [Region.wanted,yielded,undef]) ?_ hS ?_
       rotate_left
       ·(intro w' hSw; (try dsimp only at hSw); have q0:=(hSw.cell (p:=ad.add k) hab2).trans Q0.out; go_simp; try with_reducible rfl)
       try simp only [Act.put,Sp1,Sp2,Sp3,Sp4,Sp5,Sp6]
       refine AnyG.takeGC (i:=7) (v:=?_) rfl (by kernel_rfl) (fun _ _ _ h => h) (by first | (simp [Region.wanted,yielded]; done) | simp [Region.wanted,yielded,undef]) ?_ hS ?_
       rotate_left
       ·(intro w' hSw; (try dsimp only at hSw); go_simp; try with_reducible rfl)
       try simp only [Act.put,Sp1,Sp2,Sp3,Sp4,Sp5,Sp6]
       refine AnyG.takeGC (i:=8) (v:=?_) rfl (by kernel_rfl) (fun _ _ _ h => h) (by first | (simp [Region.wanted,yielded]; done) | simp [Region.wanted,yielded,undef]) ?_ hS ?_
       rotate_left
       ·(intro w' hSw; (try dsimp only at hSw); go_simp; try with_reducible rfl)
       try simp only [Act.put,Sp1,Sp2,Sp3,Sp4,Sp5,Sp6]
       refine AnyG.takeGC (i:=9) (v:=?_) rfl (by kernel_rfl) (fun _ _ _ h => h) (by first | (simp [Region.wanted,yielded]; done) | simp [Region.wanted,yielded,undef]) ?_ hS ?_
       rotate_left
       ·(intro w' hSw; (try dsimp only at hSw); go_simp; try with_reducible rfl)
       try simp only [Act.put,Sp1,Sp2,Sp3,Sp4,Sp5,Sp6]
       refine AnyG.takeGC (i:=10) (v:=?_) rfl (by kernel_rfl) (fun _ _ _ h => h) (by first | (simp [Region.wanted,yielded]; done) | simp [Region.wanted,yielded,undef]) ?_ hS ?_
       rotate_left
       ·(intro w' hSw; (try dsimp only at hSw); go_simp; try with_reducible rfl)
       try simp only [Act.put,Sp1,Sp2,Sp3,Sp4,Sp5,Sp6]
       refine AnyG.takeGC (i:=11) (v:=?_) rfl (by kernel_rfl) (fun _ _ _ h => h) (by first | (simp [Region.wanted,yielded]; done) | simp [Region.wanted,yielded,undef]) ?_ hS ?_
       rotate_left
       ·(intro w' hSw; (try dsimp only at hSw); have p0:=(hSw.cell (p:=ad.add j) hab3).trans P0.out; go_simp; try with_reducible rfl)
       try simp only [Act.put,Sp1,Sp2,Sp3,Sp4,Sp5,Sp6]
       refine AnyG.takeGC (i:=12) (v:=?_) rfl (by kernel_rfl) (fun _ _ _ h => h) (by first | (simp [Region.wanted,yielded]; done) | simp [Region.wanted,yielded,undef]) ?_ hS ?_
       rotate_left
       ·(intro w' hSw; (try dsimp only at hSw); go_simp; try with_reducible rfl)
       try simp only [Act.put,Sp1,Sp2,Sp3,Sp4,Sp5,Sp6]
       refine AnyG.takeC (i:=13) (v:=?_) rfl (by kernel_rfl) (fun _ _ _ h => h) rfl ?_ hS ?_
       rotate_left
       ·(intro w' hSw; (try dsimp only at hSw); go_simp; try with_reducible rfl)
       try simp only [Act.put,Sp1,Sp2,Sp3,Sp4,Sp5,Sp6]
       refine AnyG.done (by kernel_rfl) ?_ _
       go_simp
       have hB3:=hB.trans (hS.mono hB.size)
       go_wp2_with fail
       go_roundw
       case rel => exact ⟨k + 1,t,by omega,by go_num,Lib.hid (.inr ⟨k,rfl,HA1.out⟩),hd',hB3⟩
       case measure => simp [intOf]; omega
    ·have hd' : Hid (ckA es axs = 8):=by unfold Hid; rw [hd.out,hds,if_pos c2]
     have c2' : (kd != 3) = true:=by simpa using c2
     have hB3:=hB0.trans ((hB.trans (hS10.mono hB.size)).mono hB0.size)
     clear hds hd
     go_wp2_with fail
     go_ret
     exact ⟨ret_int hd'.out.symm,hB3⟩
  ·have hd' : Hid (ckA es axs = 0):=by unfold Hid; rw [hd.out,List.drop_eq_nil_of_le (by rw [HX.out]; omega)]; rfl
   have hB3:=hB0.trans (hB.mono hB0.size)
   go_wp2_with fail
   go_ret
   exact ⟨ret_int hd'.out.symm,hB3⟩
end Go.Proofs.Ytgbogdckmfencaa
