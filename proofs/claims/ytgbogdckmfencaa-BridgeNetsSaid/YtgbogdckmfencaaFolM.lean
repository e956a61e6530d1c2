/- bridge.CheckSlip returns what ckS says, for all arguments. -/
import Derived.Test.YtgbogdckmfencaaWmM
import Derived.Test.YtgbogdckmfencaaRegM
set_option linter.unusedSimpArgs false
set_option linter.unusedVariables false
namespace Go.Proofs.Ytgbogdckmfencaa
open Go.RowKit Go.Maps
attribute [local go_sem ↓] Go.wp_at_zero Go.wp_at_succ
theorem Bx.six {w : World} {g t : Nat} {x y z u v s : Value} (h : Bx w g t #[x,y,z,u,v,s]) : w.cell? ⟨g,0,none⟩ = some x ∧ w.cell? ⟨g,1,none⟩ = some y ∧ w.cell? ⟨g,2,none⟩ = some z ∧ w.cell? ⟨g,3,none⟩ = some u ∧ w.cell? ⟨g,4,none⟩ = some v ∧ w.cell? ⟨g,5,none⟩ = some s ∧ (∀ o,w.frozen? ⟨g,o,none⟩ = false) ∧ g < w.heap.size:=⟨h.cell 0,h.cell 1,h.cell 2,h.cell 3,h.cell 4,h.cell 5,h.free,h.lt⟩
def seatB (s : Int) : Bool:=decide (0 ≤ s ∧ s ≤ 2)
def ckS (st z0 z1 : Int) (es : List Ev) (F B : List Int) (fs bs d0 d1 : Int) : Int :=
 if ckL st z0 z1 es ≠ 0 then ckL st z0 z1 es else if ckA es F ≠ 0 then ckA es F else if ckA es B ≠ 0 then ckA es B else if overlap F B = true then 4 else if seatB fs = false ∨ seatB bs = false then 8 else ckR d0 d1 0 200
theorem isSeat_b (s : Int) (w : World) : Calls Try.prog 77 #[.int .i64 s] w fun e w' => e = .returned (.bool (seatB s)) ∧ w = w':=isSeat_any s w
set_option maxRecDepth 100000 in
set_option maxHeartbeats 2000000 in
theorem checkSlip_any (st z0 z1 : Int) (A : Option Addr) (n c : Nat) (es : List Ev) (FA : Option Addr) (fn fc : Nat) (BA : Option Addr) (bn bc : Nat) (fs bs d0 d1 : Int) (F B : List Int) (w : World)
  (hn : n ≤ 9223372036854775807) (hl : es.length = n) (hA : EvsAt w w.heap.size A es) (hfn : fn ≤ 9223372036854775807) (hbn : bn ≤ 9223372036854775807) (hf : F.length = fn) (hb : B.length = bn) (hF : Sl w w.heap.size 1 FA (ints F)) (hBs : Sl w w.heap.size 1 BA (ints B)) :
  Calls Try.prog 33 #[.agg #[.int .i64 st,.int .i64 z0,.int .i64 z1,.slice A n c],.agg #[.slice FA fn fc,.slice BA bn bc,.int .i64 fs,.int .i64 bs,.int .i64 d0,.int .i64 d1]] w fun e w' => e = .returned (.int .i64 (ckS st z0 z1 es F B fs bs d0 d1)) ∧ Below w.heap.size w w':=by
 have HL:=Lib.hid hl
 have HF:=Lib.hid hf
 have HBn:=Lib.hid hb
 clear hl hf hb
 by_cases hc : ckL st z0 z1 es = 0
 case neg =>
  have hc1 : (ckL st z0 z1 es != 0) = true:=by simpa using hc
  have H1 : Hid (ckS st z0 z1 es F B fs bs d0 d1 = ckL st z0 z1 es):=by unfold Hid ckS; rw [if_pos hc]
  clear hc
  go_enter Try.func33,Try.ntmps33
  go_wp2_with (first
  | (go_at_call 22; refine (check_any st z0 z1 A n c es _ hn HL.out ((hA.below (((Below.refl _ _).alloc (Nat.le_refl _) _).alloc (by simp) _)).more (by simp; omega))).mono ?_; rintro e w1 ⟨rfl,hb⟩; have p1:=((Bx.new w 26 #[.int .i64 st,.int .i64 z0,.int .i64 z1,.slice A n c]).alloc (.cells #[.slice FA fn fc,.slice BA bn bc,.int .i64 fs,.int .i64 bs,.int .i64 d0,.int .i64 d1] 50)).call hb; have p2:=(Bx.at (w.alloc (.cells #[.int .i64 st,.int .i64 z0,.int .i64 z1,.slice A n c] 26)) 50 #[.slice FA fn fc,.slice BA bn bc,.int .i64 fs,.int .i64 bs,.int .i64 d0,.int .i64 d1] (n:=w.heap.size + 1) (by simp)).call hb; have hB:=(((Below.refl w.heap.size w).alloc (Nat.le_refl _) (.cells #[.int .i64 st,.int .i64 z0,.int .i64 z1,.slice A n c] 26)).alloc (by simp) (.cells #[.slice FA fn fc,.slice BA bn bc,.int .i64 fs,.int .i64 bs,.int .i64 d0,.int .i64 d1] 50)).trans (hb.mono (by simp; omega)); clear hb; obtain ⟨a0,a1,a2,a3,af,az⟩:=p1.four; obtain ⟨s0,s1,s2,s3,s4,s5,sf,sz⟩:=p2.six; try rw [HC.out])
  | (go_at_call_of 75 (Value.slice FA fn fc); refine (checkAxles_any st z0 z1 A n c es FA fn fc F _ h14 HL.out ((hA.below hB).more hB.size) hfn HF.out ((hF.below hB).more hB.size)).mono ?_; rintro e w2 ⟨rfl,hb⟩; replace p1:=p1.call hb; replace p2:=p2.call hb; replace hB:=hB.trans (hb.mono hB.size); clear hb; obtain ⟨a0,a1,a2,a3,af,az⟩:=p1.four; obtain ⟨s0,s1,s2,s3,s4,s5,sf,sz⟩:=p2.six; try rw [HFz.out])
  | (go_at_call_of 75 (Value.slice BA bn bc); refine (checkAxles_any st z0 z1 A n c es BA bn bc B _ h14 HL.out ((hA.below hB).more hB.size) hbn HBn.out ((hBs.below hB).more hB.size)).mono ?_; rintro e w3 ⟨rfl,hb⟩; replace p1:=p1.call hb; replace p2:=p2.call hb; replace hB:=hB.trans (hb.mono hB.size); clear hb; obtain ⟨a0,a1,a2,a3,af,az⟩:=p1.four; obtain ⟨s0,s1,s2,s3,s4,s5,sf,sz⟩:=p2.six; try rw [HBz.out]))
  go_ret
  exact ⟨ret_int H1.out.symm,hB⟩
 have h14 : n ≤ 14:=by rw [← HL.out]; exact (ckL_zero hc).n
 have H0 : Hid (ckS st z0 z1 es F B fs bs d0 d1 = if ckA es F ≠ 0 then ckA es F else if ckA es B ≠ 0 then ckA es B else if overlap F B = true then 4 else if seatB fs = false ∨ seatB bs = false then 8 else ckR d0 d1 0 200):=by unfold Hid ckS; rw [if_neg (fun h => h hc)]
 have HC:=Lib.hid hc
 clear hc
 by_cases hfz : ckA es F = 0
 case neg =>
  have hc1 : (ckA es F != 0) = true:=by simpa using hfz
  have H1 : Hid (ckS st z0 z1 es F B fs bs d0 d1 = ckA es F):=by unfold Hid; rw [H0.out,if_pos hfz]
  clear hfz H0
  go_enter Try.func33,Try.ntmps33
  go_wp2_with (first
  | (go_at_call 22; refine (check_any st z0 z1 A n c es _ hn HL.out ((hA.below (((Below.refl _ _).alloc (Nat.le_refl _) _).alloc (by simp) _)).more (by simp; omega))).mono ?_; rintro e w1 ⟨rfl,hb⟩; have p1:=((Bx.new w 26 #[.int .i64 st,.int .i64 z0,.int .i64 z1,.slice A n c]).alloc (.cells #[.slice FA fn fc,.slice BA bn bc,.int .i64 fs,.int .i64 bs,.int .i64 d0,.int .i64 d1] 50)).call hb; have p2:=(Bx.at (w.alloc (.cells #[.int .i64 st,.int .i64 z0,.int .i64 z1,.slice A n c] 26)) 50 #[.slice FA fn fc,.slice BA bn bc,.int .i64 fs,.int .i64 bs,.int .i64 d0,.int .i64 d1] (n:=w.heap.size + 1) (by simp)).call hb; have hB:=(((Below.refl w.heap.size w).alloc (Nat.le_refl _) (.cells #[.int .i64 st,.int .i64 z0,.int .i64 z1,.slice A n c] 26)).alloc (by simp) (.cells #[.slice FA fn fc,.slice BA bn bc,.int .i64 fs,.int .i64 bs,.int .i64 d0,.int .i64 d1] 50)).trans (hb.mono (by simp; omega)); clear hb; obtain ⟨a0,a1,a2,a3,af,az⟩:=p1.four; obtain ⟨s0,s1,s2,s3,s4,s5,sf,sz⟩:=p2.six; try rw [HC.out])
  | (go_at_call_of 75 (Value.slice FA fn fc); refine (checkAxles_any st z0 z1 A n c es FA fn fc F _ h14 HL.out ((hA.below hB).more hB.size) hfn HF.out ((hF.below hB).more hB.size)).mono ?_; rintro e w2 ⟨rfl,hb⟩; replace p1:=p1.call hb; replace p2:=p2.call hb; replace hB:=hB.trans (hb.mono hB.size); clear hb; obtain ⟨a0,a1,a2,a3,af,az⟩:=p1.four; obtain ⟨s0,s1,s2,s3,s4,s5,sf,sz⟩:=p2.six; try rw [HFz.out])
  | (go_at_call_of 75 (Value.slice BA bn bc); refine (checkAxles_any st z0 z1 A n c es BA bn bc B _ h14 HL.out ((hA.below hB).more hB.size) hbn HBn.out ((hBs.below hB).more hB.size)).mono ?_; rintro e w3 ⟨rfl,hb⟩; replace p1:=p1.call hb; replace p2:=p2.call hb; replace hB:=hB.trans (hb.mono hB.size); clear hb; obtain ⟨a0,a1,a2,a3,af,az⟩:=p1.four; obtain ⟨s0,s1,s2,s3,s4,s5,sf,sz⟩:=p2.six; try rw [HBz.out]))
  go_ret
  exact ⟨ret_int H1.out.symm,hB⟩
 have HFz:=Lib.hid hfz
 clear hfz
 by_cases hbz : ckA es B = 0
 case neg =>
  have hc1 : (ckA es B != 0) = true:=by simpa using hbz
  have H1 : Hid (ckS st z0 z1 es F B fs bs d0 d1 = ckA es B):=by unfold Hid; rw [H0.out,if_neg (fun h => h HFz.out),if_pos hbz]
  clear hbz H0
  go_enter Try.func33,Try.ntmps33
  go_wp2_with (first
  | (go_at_call 22; refine (check_any st z0 z1 A n c es _ hn HL.out ((hA.below (((Below.refl _ _).alloc (Nat.le_refl _) _).alloc (by simp) _)).more (by simp; omega))).mono ?_; rintro e w1 ⟨rfl,hb⟩; have p1:=((Bx.new w 26 #[.int .i64 st,.int .i64 z0,.int .i64 z1,.slice A n c]).alloc (.cells #[.slice FA fn fc,.slice BA bn bc,.int .i64 fs,.int .i64 bs,.int .i64 d0,.int .i64 d1] 50)).call hb; have p2:=(Bx.at (w.alloc (.cells #[.int .i64 st,.int .i64 z0,.int .i64 z1,.slice A n c] 26)) 50 #[.slice FA fn fc,.slice BA bn bc,.int .i64 fs,.int .i64 bs,.int .i64 d0,.int .i64 d1] (n:=w.heap.size + 1) (by simp)).call hb; have hB:=(((Below.refl w.heap.size w).alloc (Nat.le_refl _) (.cells #[.int .i64 st,.int .i64 z0,.int .i64 z1,.slice A n c] 26)).alloc (by simp) (.cells #[.slice FA fn fc,.slice BA bn bc,.int .i64 fs,.int .i64 bs,.int .i64 d0,.int .i64 d1] 50)).trans (hb.mono (by simp; omega)); clear hb; obtain ⟨a0,a1,a2,a3,af,az⟩:=p1.four; obtain ⟨s0,s1,s2,s3,s4,s5,sf,sz⟩:=p2.six; try rw [HC.out])
  | (go_at_call_of 75 (Value.slice FA fn fc); refine (checkAxles_any st z0 z1 A n c es FA fn fc F _ h14 HL.out ((hA.below hB).more hB.size) hfn HF.out ((hF.below hB).more hB.size)).mono ?_; rintro e w2 ⟨rfl,hb⟩; replace p1:=p1.call hb; replace p2:=p2.call hb; replace hB:=hB.trans (hb.mono hB.size); clear hb; obtain ⟨a0,a1,a2,a3,af,az⟩:=p1.four; obtain ⟨s0,s1,s2,s3,s4,s5,sf,sz⟩:=p2.six; try rw [HFz.out])
  | (go_at_call_of 75 (Value.slice BA bn bc); refine (checkAxles_any st z0 z1 A n c es BA bn bc B _ h14 HL.out ((hA.below hB).more hB.size) hbn HBn.out ((hBs.below hB).more hB.size)).mono ?_; rintro e w3 ⟨rfl,hb⟩; replace p1:=p1.call hb; replace p2:=p2.call hb; replace hB:=hB.trans (hb.mono hB.size); clear hb; obtain ⟨a0,a1,a2,a3,af,az⟩:=p1.four; obtain ⟨s0,s1,s2,s3,s4,s5,sf,sz⟩:=p2.six; try rw [HBz.out]))
  go_ret
  exact ⟨ret_int H1.out.symm,hB⟩
 have HBz:=Lib.hid hbz
 clear hbz
 go_enter Try.func33,Try.ntmps33
 go_wp2_with (first
  | (go_at_call 22; refine (check_any st z0 z1 A n c es _ hn HL.out ((hA.below (((Below.refl _ _).alloc (Nat.le_refl _) _).alloc (by simp) _)).more (by simp; omega))).mono ?_; rintro e w1 ⟨rfl,hb⟩; have p1:=((Bx.new w 26 #[.int .i64 st,.int .i64 z0,.int .i64 z1,.slice A n c]).alloc (.cells #[.slice FA fn fc,.slice BA bn bc,.int .i64 fs,.int .i64 bs,.int .i64 d0,.int .i64 d1] 50)).call hb; have p2:=(Bx.at (w.alloc (.cells #[.int .i64 st,.int .i64 z0,.int .i64 z1,.slice A n c] 26)) 50 #[.slice FA fn fc,.slice BA bn bc,.int .i64 fs,.int .i64 bs,.int .i64 d0,.int .i64 d1] (n:=w.heap.size + 1) (by simp)).call hb; have hB:=(((Below.refl w.heap.size w).alloc (Nat.le_refl _) (.cells #[.int .i64 st,.int .i64 z0,.int .i64 z1,.slice A n c] 26)).alloc (by simp) (.cells #[.slice FA fn fc,.slice BA bn bc,.int .i64 fs,.int .i64 bs,.int .i64 d0,.int .i64 d1] 50)).trans (hb.mono (by simp; omega)); clear hb; obtain ⟨a0,a1,a2,a3,af,az⟩:=p1.four; obtain ⟨s0,s1,s2,s3,s4,s5,sf,sz⟩:=p2.six; try rw [HC.out])
  | (go_at_call_of 75 (Value.slice FA fn fc); refine (checkAxles_any st z0 z1 A n c es FA fn fc F _ h14 HL.out ((hA.below hB).more hB.size) hfn HF.out ((hF.below hB).more hB.size)).mono ?_; rintro e w2 ⟨rfl,hb⟩; replace p1:=p1.call hb; replace p2:=p2.call hb; replace hB:=hB.trans (hb.mono hB.size); clear hb; obtain ⟨a0,a1,a2,a3,af,az⟩:=p1.four; obtain ⟨s0,s1,s2,s3,s4,s5,sf,sz⟩:=p2.six; try rw [HFz.out])
  | (go_at_call_of 75 (Value.slice BA bn bc); refine (checkAxles_any st z0 z1 A n c es BA bn bc B _ h14 HL.out ((hA.below hB).more hB.size) hbn HBn.out ((hBs.below hB).more hB.size)).mono ?_; rintro e w3 ⟨rfl,hb⟩; replace p1:=p1.call hb; replace p2:=p2.call hb; replace hB:=hB.trans (hb.mono hB.size); clear hb; obtain ⟨a0,a1,a2,a3,af,az⟩:=p1.four; obtain ⟨s0,s1,s2,s3,s4,s5,sf,sz⟩:=p2.six; try rw [HBz.out]))
 obtain ⟨f1,f2,f3,f4⟩:=ckA_zero HFz.out
 obtain ⟨b1,b2,b3,b4⟩:=ckA_zero HBz.out
 have hless:=Lib.hid (wmap_less F B (nodup_of_lt f4) (nodup_of_lt b4))
 have hF1 : ∀ x ∈ F,0 ≤ x ∧ x ≤ 14:=fun x hx => by have:=f3 x hx; have:=HL.out; omega
 have hB1 : ∀ x ∈ B,0 ≤ x ∧ x ≤ 14:=fun x hx => by have:=b3 x hx; have:=HL.out; omega
 have hfn4 : fn ≤ 4:=by have:=HF.out; omega
 have hbn4 : bn ≤ 4:=by have:=HBn.out; omega
 have hs4 : size (wmap F B) ≤ 8:=by rw [wmap_size F B (nodup_of_lt f4) (nodup_of_lt b4)]; have:=List.length_filter_le (fun x => !F.contains x) B; omega
 clear f1 f2 f3 f4 b1 b2 b3 b4
 have HF1:=Lib.hid hF1
 have HB1:=Lib.hid hB1
 clear hF1 hB1
 have hwr : IntKind.i64.wrap ((fn : Int) + (bn : Int)) = (fn : Int) + (bn : Int):=IntWalk.i64_in _ (by omega)
 refine AnyG.start (fun w' : World => w'.cell? ⟨w.heap.size + 1,0,none⟩ = some (.slice FA fn fc) ∧ w'.cell? ⟨w.heap.size + 1,1,none⟩ = some (.slice BA bn bc) ∧ w'.cell? ⟨w.heap.size + 1,2,none⟩ = some (.int .i64 fs) ∧ w'.cell? ⟨w.heap.size + 1,3,none⟩ = some (.int .i64 bs) ∧ w'.cell? ⟨w.heap.size + 1,4,none⟩ = some (.int .i64 d0) ∧ w'.cell? ⟨w.heap.size + 1,5,none⟩ = some (.int .i64 d1)) (fun _ => true) (by kernel_rfl) ?_
 have hS : (fun w' : World => w'.cell? ⟨w.heap.size + 1,0,none⟩ = some (.slice FA fn fc) ∧ w'.cell? ⟨w.heap.size + 1,1,none⟩ = some (.slice BA bn bc) ∧ w'.cell? ⟨w.heap.size + 1,2,none⟩ = some (.int .i64 fs) ∧ w'.cell? ⟨w.heap.size + 1,3,none⟩ = some (.int .i64 bs) ∧ w'.cell? ⟨w.heap.size + 1,4,none⟩ = some (.int .i64 d0) ∧ w'.cell? ⟨w.heap.size + 1,5,none⟩ = some (.int .i64 d1)) (World.drew w3):=⟨s0,s1,s2,s3,s4,s5⟩
 refine AnyG.take (i:=0) (v:=?_) rfl (by kernel_rfl) (fun _ _ _ h => h) rfl ?_ hS ?_
 rotate_left
 ·(intro w' hSw; (try dsimp only at hSw); go_split_ands; go_simp; try with_reducible rfl)
 try simp only [Act.put,Sp4,Sp5,Sp6]
 refine AnyG.take (i:=3) (v:=?_) rfl (by kernel_rfl) (fun _ _ _ h => h) rfl ?_ hS ?_
 rotate_left
 ·(intro w' hSw; (try dsimp only at hSw); go_split_ands; go_simp; try with_reducible rfl)
 try simp only [Act.put,Sp4,Sp5,Sp6]
 refine AnyG.take (i:=4) (v:=?_) rfl (by kernel_rfl) (fun _ _ _ h => h) rfl ?_ hS ?_
 rotate_left
 ·(intro w' hSw; (try dsimp only at hSw); go_split_ands; go_simp; try with_reducible rfl)
 try simp only [Act.put,Sp4,Sp5,Sp6]
 refine AnyG.take (i:=5) (v:=?_) rfl (by kernel_rfl) (fun _ _ _ h => h) rfl ?_ hS ?_
 rotate_left
 ·(intro w' hSw; (try dsimp only at hSw); go_split_ands; go_simp; try with_reducible rfl)
 try simp only [Act.put,Sp4,Sp5,Sp6]
 refine AnyG.take (i:=6) (v:=?_) rfl (by kernel_rfl) (fun _ _ _ h => h) rfl ?_ hS ?_
 rotate_left
 ·(intro w' hSw; (try dsimp only at hSw); go_split_ands; go_simp; try with_reducible rfl)
 try simp only [Act.put,Sp4,Sp5,Sp6]
 refine AnyG.take (i:=7) (v:=?_) rfl (by kernel_rfl) (fun _ _ _ h => h) rfl ?_ hS ?_
 rotate_left
 ·(intro w' hSw; (try dsimp only at hSw); go_split_ands; go_simp; try with_reducible rfl)
 try simp only [Act.put,Sp4,Sp5,Sp6]
 refine AnyG.take (i:=8) (v:=?_) rfl (by kernel_rfl) (fun _ _ _ h => h) rfl ?_ hS ?_
 rotate_left
 ·(intro w' hSw; (try dsimp only at hSw); go_split_ands; go_simp; try with_reducible rfl)
 try simp only [Act.put,Sp4,Sp5,Sp6]
 refine AnyG.take (i:=9) (v:=?_) rfl (by kernel_rfl) (fun _ _ _ h => h) rfl ?_ hS ?_
 rotate_left
 ·(intro w' hSw; (try dsimp only at hSw); go_split_ands; go_simp; try with_reducible rfl)
 try simp only [Act.put,Sp4,Sp5,Sp6]
 refine AnyG.one (i:=1) (by kernel_rfl) rfl rfl ?_
 have HS:=Lib.hid hS
 clear hS
 go_simp
 refine (wanted_any FA fn fc BA bn bc fs bs d0 d1 F B _ HF.out HBn.out hfn4 hbn4 ((hF.below hB.drew).more hB.size) ((hBs.below hB.drew).more hB.size) HF1.out HB1.out).mono ?_
 rintro r w4 ⟨rfl,hown,hb4⟩
 replace hown : w4.ownsMap Try.prog 3 (plainElem Try.prog 3) (w3.heap.size + 1) 8 (wmap F B):=hown
 have hlen:=hown.len Try.underlying113 3
 refine Onward.on ⟨cellB hb4 HS.out.1,cellB hb4 HS.out.2.1,cellB hb4 HS.out.2.2.1,cellB hb4 HS.out.2.2.2.1,cellB hb4 HS.out.2.2.2.2.1,cellB hb4 HS.out.2.2.2.2.2⟩ (fun hS => ?_)
 try simp only [Act.put,Sp4,Sp5,Sp6]
 refine AnyG.one (i:=2) (by kernel_rfl) rfl rfl ?_
 clear HS
 have HS:=Lib.hid hS
 clear hS
 go_simp
 refine Onward.on HS.out (fun hS => ?_)
 try simp only [Act.put,Sp4,Sp5,Sp6]
 refine AnyG.take (i:=10) (v:=?_) rfl (by kernel_rfl) (fun _ _ _ h => h) rfl ?_ hS ?_
 rotate_left
 ·(intro w' hSw; (try dsimp only at hSw); go_split_ands; go_simp; try with_reducible rfl)
 try simp only [Act.put,Sp4,Sp5,Sp6]
 refine AnyG.done (by kernel_rfl) ?_ _
 replace hB:=hB.drew.trans (hb4.mono hB.size)
 replace p2:=p2.drew.call hb4
 clear hwr hlen hown hb4 p1 hS HS a0 a1 a2 a3 af az s0 s1 s2 s3 s4 s5 sf sz
 obtain ⟨s0,s1,s2,s3,s4,s5,sf,sz⟩:=p2.six
 by_cases ho : overlap F B = true
 ·have hlt : ((size (wmap F B) : Nat) : Int) < (fn : Int) + (bn : Int):=by have:=hless.out.2 ho; rw [HF.out,HBn.out] at this; omega
  have H1 : Hid (ckS st z0 z1 es F B fs bs d0 d1 = 4):=by unfold Hid; rw [H0.out,if_neg (fun h => h HFz.out),if_neg (fun h => h HBz.out),if_pos ho]
  clear ho H0
  go_wp2_with fail
  go_ret
  exact ⟨ret_int H1.out.symm,hB⟩
 have hlt : (fn : Int) + (bn : Int) ≤ ((size (wmap F B) : Nat) : Int):=by
  rcases Nat.lt_or_ge (size (wmap F B)) (fn + bn) with h | h
  ·exact absurd (hless.out.1 (by rw [HF.out,HBn.out]; exact h)) ho
  ·omega
 have H1 : Hid (ckS st z0 z1 es F B fs bs d0 d1 = if seatB fs = false ∨ seatB bs = false then 8 else ckR d0 d1 0 200):=by unfold Hid; rw [H0.out,if_neg (fun h => h HFz.out),if_neg (fun h => h HBz.out),if_neg ho]
 clear ho H0
 by_cases h1 : seatB fs = false
 ·have H2 : Hid (ckS st z0 z1 es F B fs bs d0 d1 = 8):=by unfold Hid; rw [H1.out,if_pos (.inl h1)]
  clear H1
  go_wp2_with (first | (go_at_call_of 77 (Value.int .i64 fs); refine (isSeat_b _ _).mono ?_; rintro e w' ⟨rfl,rfl⟩) | (go_at_call_of 77 (Value.int .i64 bs); refine (isSeat_b _ _).mono ?_; rintro e w' ⟨rfl,rfl⟩) | (go_at_call 62; refine (checkRange_any _ _ _ _ _).mono ?_; rintro e w5 ⟨rfl,hb5⟩; replace hB:=hB.trans (hb5.mono hB.size)))
  go_ret
  exact ⟨ret_int H2.out.symm,hB⟩
 have h1 : seatB fs = true:=by simpa using h1
 by_cases h2 : seatB bs = false
 ·have H2 : Hid (ckS st z0 z1 es F B fs bs d0 d1 = 8):=by unfold Hid; rw [H1.out,if_pos (.inr h2)]
  clear H1
  go_wp2_with (first | (go_at_call_of 77 (Value.int .i64 fs); refine (isSeat_b _ _).mono ?_; rintro e w' ⟨rfl,rfl⟩) | (go_at_call_of 77 (Value.int .i64 bs); refine (isSeat_b _ _).mono ?_; rintro e w' ⟨rfl,rfl⟩) | (go_at_call 62; refine (checkRange_any _ _ _ _ _).mono ?_; rintro e w5 ⟨rfl,hb5⟩; replace hB:=hB.trans (hb5.mono hB.size)))
  go_ret
  exact ⟨ret_int H2.out.symm,hB⟩
 have h2 : seatB bs = true:=by simpa using h2
 have H2 : Hid (ckS st z0 z1 es F B fs bs d0 d1 = ckR d0 d1 0 200):=by unfold Hid; rw [H1.out,if_neg (by simp [h1,h2])]
 clear H1
 go_wp2_with (first | (go_at_call_of 77 (Value.int .i64 fs); refine (isSeat_b _ _).mono ?_; rintro e w' ⟨rfl,rfl⟩) | (go_at_call_of 77 (Value.int .i64 bs); refine (isSeat_b _ _).mono ?_; rintro e w' ⟨rfl,rfl⟩) | (go_at_call 62; refine (checkRange_any _ _ _ _ _).mono ?_; rintro e w5 ⟨rfl,hb5⟩; replace hB:=hB.trans (hb5.mono hB.size)))
 go_ret
 exact ⟨ret_int H2.out.symm,hB⟩
end Go.Proofs.Ytgbogdckmfencaa

/-! Contracts with the very world behind the call, for statements that leave their order open; bridge.shownZeros. -/
namespace Go.Proofs.Ytgbogdckmfencaa
open Go.RowKit
theorem onBridge_w (st kd sh ld c0 c1 : Int) (w : World) (h1 : 1 ≤ st) (h2 : st ≤ 100) (h3 : -60000 ≤ sh) (h4 : sh ≤ 60000) :
  Calls Try.prog 98 #[.int .i64 st,.agg #[.int .i64 kd,.int .i64 sh,.int .i64 ld,.int .i64 c0,.int .i64 c1]] w fun e w' => e = .returned (.agg #[.int .i64 (sh - st / 2),.int .i64 (sh - st / 2 + st - 1)]) ∧
   (w.alloc (.cells #[.int .i64 kd,.int .i64 sh,.int .i64 ld,.int .i64 c0,.int .i64 c1] 28)).alloc (.cells #[.int .i64 (sh - st / 2),.int .i64 (sh - st / 2 + st - 1)] 23) = w':=by
 have h0 : 0 ≤ st:=by omega
 go_enter Try.func98,Try.ntmps98
 go_wp2
 exact bodyPost_ret (v:=.agg #[.int .i64 (sh - st / 2),.int .i64 (sh - st / 2 + st - 1)]) (by simp [results,Try.results98,go_sem]) rfl ⟨rfl,rfl⟩
theorem loads_w (kd sh ld c0 c1 : Int) (w : World) :
  Calls Try.prog 99 #[.agg #[.int .i64 kd,.int .i64 sh,.int .i64 ld,.int .i64 c0,.int .i64 c1]] w fun e w' => e = .returned (.agg #[.int .i64 (ldLo kd ld),.int .i64 (ldHi kd ld)]) ∧
   (w.alloc (.cells #[.int .i64 kd,.int .i64 sh,.int .i64 ld,.int .i64 c0,.int .i64 c1] 28)).alloc (.cells #[.int .i64 (ldLo kd ld),.int .i64 (ldHi kd ld)] 23) = w':=by
 by_cases h2 : kd = 2
 ·subst h2
  go_enter Try.func99,Try.ntmps99
  go_wp2
  exact bodyPost_ret (v:=.agg #[.int .i64 (ldLo 2 ld),.int .i64 (ldHi 2 ld)]) (by simp [results,Try.results99,go_sem,ldLo,ldHi]) rfl ⟨rfl,by simp [ldLo,ldHi]⟩
 ·by_cases h3 : kd = 3
  ·subst h3
   go_enter Try.func99,Try.ntmps99
   go_wp2
   exact bodyPost_ret (v:=.agg #[.int .i64 (ldLo 3 ld),.int .i64 (ldHi 3 ld)]) (by simp [results,Try.results99,go_sem,ldLo,ldHi]) rfl ⟨rfl,by simp [ldLo,ldHi]⟩
  ·go_enter Try.func99,Try.ntmps99
   go_wp2
   exact bodyPost_ret (v:=.agg #[.int .i64 (ldLo kd ld),.int .i64 (ldHi kd ld)]) (by simp [results,Try.results99,go_sem,ldLo,ldHi,h2,h3]) rfl ⟨rfl,by simp [ldLo,ldHi,h2,h3]⟩
theorem ldLo_bd (kd ld : Int) (h5 : 0 ≤ ld) (h6 : ld ≤ 60000) : 0 ≤ ldLo kd ld ∧ ldLo kd ld ≤ 60000 ∧ 0 ≤ ldHi kd ld ∧ ldHi kd ld ≤ 60000:=by
 unfold ldLo ldHi; split <;> (try split) <;> omega
attribute [local go_sem ↓] Go.wp_at_zero Go.wp_at_succ
set_option maxHeartbeats 1000000 in
theorem shownZeros_any (st kd sh ld c0 c1 : Int) (w : World) (h1 : 1 ≤ st) (h2 : st ≤ 100) (h3 : -60000 ≤ sh) (h4 : sh ≤ 60000) (h5 : 0 ≤ ld) (h6 : ld ≤ 60000) :
  Calls Try.prog 91 #[.int .i64 st,.agg #[.int .i64 kd,.int .i64 sh,.int .i64 ld,.int .i64 c0,.int .i64 c1]] w fun e w' => e = .returned (.agg #[.int .i64 (max (sh - st / 2 - ldHi kd ld) (-200)),.int .i64 (min (sh - st / 2 + st - 1 - ldLo kd ld) 200)]) ∧ Below w.heap.size w w':=by
 go_enter Try.func91,Try.ntmps91
 go_upto_region 1 with fail
 go_cut [5,6] (fun v5 v6 wr => ∃ b5 b6 : Nat,v5 = .pointer (some ⟨b5,0,none⟩) ∧ v6 = .pointer (some ⟨b6,0,none⟩) ∧ wr.cell? ⟨b5,0,none⟩ = some (.int .i64 (sh - st / 2)) ∧ wr.cell? ⟨b5,1,none⟩ = some (.int .i64 (sh - st / 2 + st - 1)) ∧ wr.cell? ⟨b6,0,none⟩ = some (.int .i64 (ldLo kd ld)) ∧ wr.cell? ⟨b6,1,none⟩ = some (.int .i64 (ldHi kd ld)) ∧
  Below (w.heap.size + 2) ((w.alloc (.cells #[.int .i64 kd,.int .i64 sh,.int .i64 ld,.int .i64 c0,.int .i64 c1] 28)).alloc (.cells #[.int .i64 0,.int .i64 0] 23)) wr)
 case first =>
  go_region_held3 (fun w' => w'.cell? ⟨w.heap.size,0,none⟩ = some (.int .i64 kd) ∧ w'.cell? ⟨w.heap.size,1,none⟩ = some (.int .i64 sh) ∧ w'.cell? ⟨w.heap.size,2,none⟩ = some (.int .i64 ld) ∧ w'.cell? ⟨w.heap.size,3,none⟩ = some (.int .i64 c0) ∧ w'.cell? ⟨w.heap.size,4,none⟩ = some (.int .i64 c1))
   (first | (go_keep; done) | (go_simp; done))
   (first | (go_at_call 98; refine (onBridge_w st kd sh ld c0 c1 _ h1 h2 h3 h4).mono ?_; rintro e w1 ⟨rfl,rfl⟩) | (go_at_call 99; refine (loads_w kd sh ld c0 c1 _).mono ?_; rintro e w2 ⟨rfl,rfl⟩))
  all_goals
   go_wp2_with fail
   go_meet
   refine ⟨_,_,rfl,rfl,by go_simp,by go_simp,by go_simp,by go_simp,?_⟩
   repeat (first | exact Below.refl _ _ | refine Below.drew ?_ | refine Below.alloc ?_ (by simp; try omega) _ | refine Below.setCell ?_ (by simp) _ )
 case rest =>
  obtain ⟨b5,b6,rfl,rfl,p0,p1,p2,p3,hB⟩:=hcut
  have hl:=ldLo_bd kd ld h5 h6
  obtain ⟨l1,l2,l3,l4⟩:=hl
  obtain ⟨r0,r1,rf,rz⟩:=((Bx.at (w.alloc _) 23 #[.int .i64 0,.int .i64 0] (n:=w.heap.size + 1) (by simp)).below hB (by omega)).two
  go_wp2_with (go_at_call 87; refine (meet_any _ _ _ _ _).mono ?_; rintro e w1 ⟨rfl,hb⟩; obtain ⟨r0',r1',rf',rz'⟩:=(((((Bx.at (w.alloc _) 23 #[.int .i64 0,.int .i64 0] (n:=w.heap.size + 1) (by simp)).below hB (by omega)).alloc _)).below hb (by simp; omega)).two)
  refine bodyPost_ret (v:=.agg #[.int .i64 (max (sh - st / 2 - ldHi kd ld) (-200)),.int .i64 (min (sh - st / 2 + st - 1 - ldLo kd ld) 200)]) (by simp [results,Try.results91,go_sem,r0',r1',World.cell?_setCell_same',World.cell?_setCell_other]) rfl ⟨rfl,?_⟩
  refine Below.trans (((Below.refl _ _).alloc (Nat.le_refl _) _).alloc (by simp) _) (Below.trans (hB.mono (by omega)) (Below.setCell (Below.setCell (Below.trans ((Below.refl _ _).alloc (by omega) _) (hb.mono (by simp; omega))) (by simp) _) (by simp) _))
  repeat (first | exact Below.refl _ _ | refine Below.alloc ?_ (by simp; try omega) _ | refine Below.setCell ?_ (by simp) _ )
end Go.Proofs.Ytgbogdckmfencaa

/-! Small functions of bridge: drivers, clean, better, numbers. -/
namespace Go.Proofs.Ytgbogdckmfencaa
open Go.RowKit
attribute [local go_sem ↓] Go.wp_at_zero Go.wp_at_succ
def drLo (s : Int) : Int:=if s = 1 then 1 else 0
def drHi (s : Int) : Int:=if s = 1 ∨ s = 2 then 1 else 0
theorem drivers_w (s : Int) (w : World) :
  Calls Try.prog 100 #[.int .i64 s] w fun e w' => e = .returned (.agg #[.int .i64 (drLo s),.int .i64 (drHi s)]) ∧ w.alloc (.cells #[.int .i64 (drLo s),.int .i64 (drHi s)] 23) = w':=by
 by_cases h1 : s = 1
 ·subst h1
  go_enter Try.func100,Try.ntmps100
  go_wp2
  exact bodyPost_ret (v:=.agg #[.int .i64 (drLo 1),.int .i64 (drHi 1)]) (by simp [results,Try.results100,go_sem,drLo,drHi]) rfl ⟨rfl,by simp [drLo,drHi]⟩
 ·by_cases h2 : s = 2
  ·subst h2
   go_enter Try.func100,Try.ntmps100
   go_wp2
   exact bodyPost_ret (v:=.agg #[.int .i64 (drLo 2),.int .i64 (drHi 2)]) (by simp [results,Try.results100,go_sem,drLo,drHi]) rfl ⟨rfl,by simp [drLo,drHi]⟩
  ·go_enter Try.func100,Try.ntmps100
   go_wp2
   exact bodyPost_ret (v:=.agg #[.int .i64 (drLo s),.int .i64 (drHi s)]) (by simp [results,Try.results100,go_sem,drLo,drHi,h1,h2]) rfl ⟨rfl,by simp [drLo,drHi,h1,h2]⟩
theorem clean_any (x d : Int) (w : World) (h1 : -1000000000 ≤ x) (h2 : x ≤ 1000000000) (h3 : 0 ≤ d) (h4 : d ≤ 1000) :
  Calls Try.prog 73 #[.int .i64 x,.int .i64 d] w fun e w' => e = .returned (.int .i64 (max 0 x * (1000 - d) / 1000)) ∧ w = w':=by
 have hp : ∀ y : Int,0 ≤ y → y ≤ 1000000000 → 0 ≤ y * (1000 - d) ∧ y * (1000 - d) ≤ 1000000000000:=fun y h0 hy => by
  constructor
  ·exact Int.mul_nonneg h0 (by omega)
  ·calc y * (1000 - d) ≤ 1000000000 * (1000 - d):=Int.mul_le_mul_of_nonneg_right hy (by omega)
    _ ≤ 1000000000000:=by omega
 by_cases hx : 0 ≤ x
 ·have e : max 0 x = x:=by omega
  obtain ⟨p1,p2⟩:=hp x hx h2
  have E:=Lib.hid e
  clear e hp
  go_enter Try.func73,Try.ntmps73
  go_wp2
  all_goals
   go_ret
   refine ⟨ret_int ?_,rfl⟩
   rw [E.out]
  ·generalize x * (1000 - d) = q at *
   have e1 : wrap64 q = q:=IntWalk.wrap64_in q ⟨by omega,by omega⟩
   rw [e1,Int.tdiv_eq_ediv_of_nonneg p1]
   exact IntWalk.wrap64_in _ ⟨by omega,by omega⟩
  ·obtain rfl : x = 0:=by omega
   have e0 : wrap64 0 = 0:=IntWalk.wrap64_in 0 ⟨by omega,by omega⟩
   simp [e0]
 ·have e : max 0 x = 0:=by omega
  have E:=Lib.hid e
  clear e hp
  go_enter Try.func73,Try.ntmps73
  go_wp2
  go_ret
  refine ⟨ret_int ?_,rfl⟩
  rw [E.out]; simp
theorem lessW_any (a b c d : Int) (w : World) :
  Calls Try.prog 81 #[.agg #[.int .i64 a,.int .i64 b],.agg #[.int .i64 c,.int .i64 d]] w fun e w' => e = .returned (.bool (decide (b < d))) ∧ Below w.heap.size w w':=by
 go_enter Try.func81,Try.ntmps81
 go_wp2
 go_ret
 exact ⟨rfl,((Below.refl _ _).alloc (Nat.le_refl _) _).alloc (by simp) _⟩
theorem numbers_any (a b : Int) (w : World) :
  Calls Try.prog 94 #[.agg #[.int .i64 a,.int .i64 b]] w fun e w' => e = .returned (.func (.func 105) #[] #[.pointer (some ⟨w.heap.size,0,none⟩)]) ∧ w.alloc (.cells #[.int .i64 a,.int .i64 b] 23) = w':=by
 go_enter Try.func94,Try.ntmps94
 go_wp2
 go_ret
 exact ⟨rfl,rfl⟩
def better2 (a b c d : Int) : Value:=if d < b then .agg #[.int .i64 c,.int .i64 d] else .agg #[.int .i64 a,.int .i64 b]
theorem better_any (a b c d : Int) (w : World) :
  Calls Try.prog 84 #[.agg #[.int .i64 a,.int .i64 b],.agg #[.int .i64 c,.int .i64 d],.func (.func 81) #[] #[]] w fun e w' => e = .returned (better2 a b c d) ∧ Below w.heap.size w w':=by
 by_cases h : d < b
 ·go_enter Try.func84,Try.ntmps84
  go_wp2_with (go_at_call 81; refine (lessW_any _ _ _ _ _).mono ?_; rintro e w1 ⟨rfl,hb⟩; have p2:=((Bx.at (w.alloc (.cells #[.int .i64 a,.int .i64 b] 119)) 119 #[.int .i64 c,.int .i64 d] (n:=w.heap.size + 1) (by simp)).alloc _).call hb; have p3:=(Bx.at ((w.alloc (.cells #[.int .i64 a,.int .i64 b] 119)).alloc (.cells #[.int .i64 c,.int .i64 d] 119)) 119 _ (n:=w.heap.size + 1 + 1) (by simp)).call hb; obtain ⟨s0,s1,sf,sz⟩:=p2.two; obtain ⟨r0,r1,rf,rz⟩:=p3.two)
  refine bodyPost_ret (v:=better2 a b c d) (by simp [results,Try.results84,go_sem,better2,h,r0,r1,World.cell?_setCell_same',World.cell?_setCell_other]) rfl ⟨rfl,?_⟩
  exact Below.setCell (Below.setCell (((((Below.refl _ _).alloc (Nat.le_refl _) _).alloc (by simp) _).alloc (by simp; omega) _).trans (hb.mono (by simp; omega))) (by simp; omega) _) (by simp; omega) _
 ·go_enter Try.func84,Try.ntmps84
  go_wp2_with (go_at_call 81; refine (lessW_any _ _ _ _ _).mono ?_; rintro e w1 ⟨rfl,hb⟩; have p2:=(((Bx.new w 119 #[.int .i64 a,.int .i64 b]).alloc _).alloc _).call hb; have p3:=(Bx.at ((w.alloc (.cells #[.int .i64 a,.int .i64 b] 119)).alloc (.cells #[.int .i64 c,.int .i64 d] 119)) 119 _ (n:=w.heap.size + 1 + 1) (by simp)).call hb; obtain ⟨s0,s1,sf,sz⟩:=p2.two; obtain ⟨r0,r1,rf,rz⟩:=p3.two)
  refine bodyPost_ret (v:=.agg #[.int .i64 a,.int .i64 b]) (by simp [results,Try.results84,go_sem,r0,r1,World.cell?_setCell_same',World.cell?_setCell_other]) rfl ⟨by unfold better2; rw [if_neg (by omega)],?_⟩
  exact Below.setCell (Below.setCell (((((Below.refl _ _).alloc (Nat.le_refl _) _).alloc (by simp) _).alloc (by simp; omega) _).trans (hb.mono (by simp; omega))) (by simp; omega) _) (by simp; omega) _
end Go.Proofs.Ytgbogdckmfencaa

/-! bridge.follow: an iterator over the zeros that may follow a zero. -/
namespace Go.Proofs.Ytgbogdckmfencaa
open Go.RowKit
attribute [local go_sem ↓] Go.wp_at_zero Go.wp_at_succ
/-- An iterator over the numbers from lo to hi, in a box of the call's own. -/
def Iter (w : World) (lo hi : Int) (e : Ending) (w' : World) : Prop :=
 (∃ g,e = .returned (.func (.func 105) #[] #[.pointer (some ⟨g,0,none⟩)]) ∧ w.heap.size ≤ g ∧ Bx w' g 23 #[.int .i64 lo,.int .i64 hi]) ∧ Below w.heap.size w w'
set_option maxRecDepth 100000 in
set_option maxHeartbeats 1000000 in
theorem follow_any (st z0 z1 : Int) (A : Option Addr) (n c : Nat) (es : List Ev) (f : Nat → Int × Int) (k : Nat) (z : Int) (w : World) (hn : n ≤ 14) (hk : k + 1 < n) (hl : es.length = n) (hA : EvsAt w w.heap.size A es) (hz1 : -200 ≤ z) (hz2 : z ≤ 200) (e : Ev) (he : es[k + 1]? = some e) (hok : EvOk e) :
  Calls Try.prog 104 #[.agg #[.int .i64 st,.int .i64 z0,.int .i64 z1,.slice A n c],.agg (zarr f),.int .i64 k,.int .i64 z] w (Iter w (max (e.c0 + z) (f (k + 1)).1) (min (e.c1 + z) (f (k + 1)).2)):=by
 have hke : k + 1 < es.length:=by omega
 obtain ⟨ad,rfl,hab,_,_,_,q3,q4⟩:=((hA.alloc (Nat.le_refl _) (.cells #[.int .i64 st,.int .i64 z0,.int .i64 z1,.slice A n c] 26)).alloc (by simp) (.cells (zarr f) 91)).at_ hke
 have hee : es[k + 1] = e:=by rw [List.getElem?_eq_getElem hke] at he; exact Option.some.inj he
 rw [hee] at q3 q4
 obtain ⟨_,_,_,_,_,_,hc1,hc2,hc3⟩:=hok
 generalize e.c0 = c0 at *
 generalize e.c1 = c1 at *
 clear hee he hl
 have hi0 : (0 : Int) ≤ (k : Int) + 1:=by omega
 have hi1 : (k : Int) + 1 < 14:=by omega
 have hi2 : (k : Int) + 1 < (n : Int):=by omega
 have p5:=Bx.at (w.alloc (.cells #[.int .i64 st,.int .i64 z0,.int .i64 z1,.slice (some ad) n c] 26)) 91 (zarr f) (n:=w.heap.size + 1) (by simp)
 have HP:=Lib.hid p5
 clear p5
 go_enter Try.func104,Try.ntmps104
 go_wp2_with (go_at_call 68; refine (plus_any _ _ _ _ _ (by omega) (by omega) (by omega) (by omega) (by omega) (by omega) (by omega) (by omega)).mono ?_; rintro e w1 ⟨rfl,hb⟩; have p5:=HP.out.call hb; have hB:=(((Below.refl w.heap.size w).alloc (Nat.le_refl _) (.cells #[.int .i64 st,.int .i64 z0,.int .i64 z1,.slice (some ad) n c] 26)).alloc (by simp) (.cells (zarr f) 91)).trans (hb.mono (by simp; omega)))
 have e0:=((p5.alloc (.cells #[.int .i64 (c0 + z),.int .i64 (c1 + z)] 23)).cell ((k + 1) * 2)).trans (zarr_fst _ (by omega))
 have e1:=((p5.alloc (.cells #[.int .i64 (c0 + z),.int .i64 (c1 + z)] 23)).cell ((k + 1) * 2 + 1)).trans (zarr_snd _ (by omega))
 generalize (f (k + 1)).1 = y0 at *
 generalize (f (k + 1)).2 = y1 at *
 have hw1 : IntKind.i64.wrap ((k : Int) + 1) = (k : Int) + 1:=IntWalk.i64_in _ (by omega)
 have hw2 : ((k : Int) + 1).toNat = k + 1:=by omega
 refine AnyG.start (fun w' : World => w'.cell? ⟨w1.heap.size,0,none⟩ = some (.int .i64 (c0 + z)) ∧ w'.cell? ⟨w1.heap.size,1,none⟩ = some (.int .i64 (c1 + z)) ∧ w'.cell? ⟨w.heap.size + 1,(k + 1) * 2,none⟩ = some (.int .i64 y0) ∧ w'.cell? ⟨w.heap.size + 1,(k + 1) * 2 + 1,none⟩ = some (.int .i64 y1)) (fun _ => true) (by kernel_rfl) ?_
 have hS : (fun w' : World => w'.cell? ⟨w1.heap.size,0,none⟩ = some (.int .i64 (c0 + z)) ∧ w'.cell? ⟨w1.heap.size,1,none⟩ = some (.int .i64 (c1 + z)) ∧ w'.cell? ⟨w.heap.size + 1,(k + 1) * 2,none⟩ = some (.int .i64 y0) ∧ w'.cell? ⟨w.heap.size + 1,(k + 1) * 2 + 1,none⟩ = some (.int .i64 y1)) (World.drew (w1.alloc (.cells #[.int .i64 (c0 + z),.int .i64 (c1 + z)] 23))):=⟨(Bx.new w1 23 _).cell 0,(Bx.new w1 23 _).cell 1,e0,e1⟩
 refine AnyG.take (i:=0) (v:=?_) rfl (by kernel_rfl) (fun _ _ _ h => h) rfl ?_ hS ?_
 rotate_left
 ·(intro w' hSw; (try dsimp only at hSw); go_split_ands; go_simp; try with_reducible rfl)
 try simp only [Act.put,Sp4,Sp5,Sp6]
 refine AnyG.take (i:=1) (v:=?_) rfl (by kernel_rfl) (fun _ _ _ h => h) rfl ?_ hS ?_
 rotate_left
 ·(intro w' hSw; (try dsimp only at hSw); go_split_ands; go_simp; try with_reducible rfl)
 try simp only [Act.put,Sp4,Sp5,Sp6]
 refine AnyG.take (i:=2) (v:=?_) rfl (by kernel_rfl) (fun _ _ _ h => h) rfl ?_ hS ?_
 rotate_left
 ·(intro w' hSw; (try dsimp only at hSw); go_split_ands; go_simp; try with_reducible rfl)
 try simp only [Act.put,Sp4,Sp5,Sp6]
 refine AnyG.take (i:=3) (v:=?_) rfl (by kernel_rfl) (fun _ _ _ h => h) rfl ?_ hS ?_
 rotate_left
 ·(intro w' hSw; (try dsimp only at hSw); go_split_ands; go_simp; try with_reducible rfl)
 try simp only [Act.put,Sp4,Sp5,Sp6]
 refine AnyG.take (i:=4) (v:=?_) rfl (by kernel_rfl) (fun _ _ _ h => h) rfl ?_ hS ?_
 rotate_left
 ·(intro w' hSw; (try dsimp only at hSw); go_split_ands; go_simp; try with_reducible rfl)
 try simp only [Act.put,Sp4,Sp5,Sp6]
 refine AnyG.one (i:=5) (by kernel_rfl) rfl rfl ?_
 have HS:=Lib.hid hS
 clear hS e0 e1
 go_simp
 refine (meet_any _ _ _ _ _).mono ?_
 rintro r w2 ⟨rfl,hb2⟩
 refine Onward.on ⟨cellB hb2 HS.out.1,cellB hb2 HS.out.2.1,cellB hb2 HS.out.2.2.1,cellB hb2 HS.out.2.2.2⟩ (fun hS => ?_)
 try simp only [Act.put,Sp4,Sp5,Sp6]
 replace hB:=((hB.alloc hB.size (.cells #[.int .i64 (c0 + z),.int .i64 (c1 + z)] 23)).drew).trans (hb2.mono (hB.alloc hB.size _).size)
 refine AnyG.one (i:=6) (by kernel_rfl) rfl rfl ?_
 clear HS
 have HS:=Lib.hid hS
 clear hS hb2
 go_simp
 refine (numbers_any _ _ _).mono ?_
 rintro r w3 ⟨rfl,rfl⟩
 have hb3:=(Below.refl w2.heap.size w2).alloc (Nat.le_refl _) (.cells #[.int .i64 (max (c0 + z) y0),.int .i64 (min (c1 + z) y1)] 23)
 refine Onward.on ⟨cellB hb3 HS.out.1,cellB hb3 HS.out.2.1,cellB hb3 HS.out.2.2.1,cellB hb3 HS.out.2.2.2⟩ (fun hS => ?_)
 try simp only [Act.put,Sp4,Sp5,Sp6]
 refine AnyG.one (i:=7) (by kernel_rfl) rfl rfl ?_
 clear HS
 have HS:=Lib.hid hS
 clear hS
 go_simp
 refine Onward.on HS.out (fun hS => ?_)
 refine AnyG.done (by kernel_rfl) ?_ _
 clear hS HS hw1 hw2
 go_wp2_with fail
 go_ret
 exact ⟨⟨_,rfl,hB.size,Bx.new w2 23 _⟩,hB.trans (hb3.mono hB.size)⟩
end Go.Proofs.Ytgbogdckmfencaa
