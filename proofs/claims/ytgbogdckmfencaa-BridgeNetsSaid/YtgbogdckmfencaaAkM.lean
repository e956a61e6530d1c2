/- A log in which the bridge was seen to be empty right behind an event: what truths weigh then. Nothing of the program. -/
import Derived.Test.YtgbogdckmfencaaMa
import Derived.Test.YtgbogdckmfencaaSqM
import Derived.Test.YtgbogdckmfencaaBg
import Derived.Test.YtgbogdckmfencaaAw
set_option linter.unusedSimpArgs false
set_option linter.unusedVariables false
namespace Go.Proofs.Ytgbogdckmfencaa
section
variable {z0 z1 : Int} {es : List Ev} {i : Nat} {y : Int} (hi : i < es.length) (h1 : -200 ≤ y) (h2 : y ≤ 200)
include hi h1 h2
omit hi h1 h2 in
omit h1 h2 in
omit h1 h2 in
end
theorem ldRng_ne {st : Int} {e : Ev} {z : Int} (h1 : sLo st e ≤ z) (h2 : z ≤ sHi st e) (h3 : 1 ≤ st) (hl : ldLo e.kd e.ld ≤ ldHi e.kd e.ld) : (ldRng st e z).1 ≤ (ldRng st e z).2:=by
 unfold sLo sHi at *
 unfold ldRng
 dsimp only
 omega
theorem ld_le {e : Ev} (h : EvOk e) : ldLo e.kd e.ld ≤ ldHi e.kd e.ld:=by
 obtain ⟨kd,_,_,_,_,_,_,_,_⟩:=h
 unfold ldLo ldHi
 rcases kd with k | k | k <;> rw [k] <;> simp
end Go.Proofs.Ytgbogdckmfencaa

/-! awake: the examples of the chapter that every statement of layer 1 asks hold. -/
namespace Go.Proofs.Ytgbogdckmfencaa
open Go.RowKit
section
variable {P : Program} {ops : Array Oper} {Q : Exit → Act → World → Prop} {md : Region.Mode} {S : World → Prop} {G : Nat → Bool}
/-- An operation under a guard that lets it run. -/
theorem AnyG.takeG {i : Nat} {oi : Oper} {v : Value} {fuel : Nat} {listed : Array Bool} {a : Act} {w : World} (hi : ops[i]? = some oi)
  (hs : (Region.noSelect ops && waits md ops G i && Region.free md ops listed i && (Region.ready md ops listed).contains i) = true)
  (hQ : ∀ c a w,Q (.panic c) (a.put oi.dst v) w → Q (.panic c) a w) (hg : Region.wanted oi (yielded ops a.tmps) = true) (hy : ∀ w,S w → (execOp a.eval oi).run P w = .ok (.value v) w) (hS : S w)
  (h : AnyG P md ops Q S G fuel (listed.setIfInBounds i true) (a.put oi.dst v) w) : AnyG P md ops Q S G (fuel + 1) listed a w:=by
 simp only [Bool.and_eq_true] at hs
 obtain ⟨⟨⟨h1,h2⟩,h3⟩,h4⟩:=hs
 exact AnyG.first hi h1 h2 hQ fuel listed a w (Region.free_spec hi h3) (by simpa using h4) (.inl ⟨hg,hy⟩) hS h
theorem AnyG.oneG {i : Nat} {o : Oper} {fuel : Nat} {listed : Array Bool} {a : Act} {w : World} (hr : Region.ready md ops listed = [i]) (ho : ops[i]? = some o) (hg : Region.wanted o (yielded ops a.tmps) = true)
  (h : o.wp P a w (Onward P md ops Q S G fuel i listed) Q) : AnyG P md ops Q S G (fuel + 1) listed a w:=by
 refine ⟨fun h0 => absurd (hr.symm.trans h0) (by simp),fun j hj => ?_⟩
 rw [hr] at hj
 obtain rfl : j = i:=by simpa using hj
 unfold wpOp
 rw [ho]
 show if Region.wanted o (yielded ops a.tmps) = true then _ else _
 rw [if_pos hg]
 exact .inl h
end
theorem yard_ck : ckL 10 (-5) 5 yardEs = 0:=by kernel_rfl
theorem yard_fit : Fits 10 (-5) 5 yardEs 6:=⟨by decide,by decide,fun h => absurd h (by decide)⟩
theorem yard_zeros : zrows (zst 10 (-5) 5 yardEs 0) 6 = prs [(-1,4),(2,7),(2,7),(5,10),(5,11),(5,11)]:=by kernel_rfl
theorem yard_slip : ckS 10 (-5) 5 yardEs [1,2] [4,5] 2 0 70 90 = 0:=by kernel_rfl
theorem yard_net : ((netOf 10 yardEs [1,2] [4,5] (zst 10 (-5) 5 yardEs 0) 6).1 + dsLo 2 0 70 90,(netOf 10 yardEs [1,2] [4,5] (zst 10 (-5) 5 yardEs 0) 6).2 + dsHi 2 0 70 90) = ((9292,9426) : Int × Int):=by kernel_rfl
theorem short_fit : Fits 1 0 4 shortEs 3:=⟨by decide,by decide,fun h => absurd h (by decide)⟩
theorem short_slip : ckS 1 0 4 shortEs [0] [2] 0 0 0 0 = 0:=by kernel_rfl
theorem short_best : bst (wideL 1 shortEs [0] [2] (zst 1 0 4 shortEs 0) 3) (dsHi 0 0 0 0 - dsLo 0 0 0 0) 3 = ((0,0) : Int × Int):=by kernel_rfl

set_option maxRecDepth 100000 in
set_option maxHeartbeats 4000000 in
theorem awake_any (w : World) : Calls Try.prog 14 #[] w fun e w' => e = .returned (.bool true) ∧ Below w.heap.size w w':=by
 go_enter Try.func14,Try.ntmps14
 go_wp2_with (first
  | (go_at_call 52; first | (have _t:=hq3; clear _t; refine (yard_any _).mono ?_; rintro e w5 ⟨⟨b5,rfl,hb5,kb5⟩,hq5⟩; replace ksl:=(ksl.below hq5).more hq5.size; have B5:=B3.trans (hq5.mono B3.size)) | (refine (yard_any _).mono ?_; rintro e w1 ⟨⟨b1,rfl,hb1,kb1⟩,hq1⟩; have B1:=hq1))
  | (go_at_call 18; refine (zeros_all 10 (-5) 5 (some ⟨b1,0,none⟩) 6 6 yardEs w1 rfl (Sl.of_flat kb1 (by decide) rfl) yard_ck yard_fit).mono ?_; rintro e w3 ⟨⟨A',c',rfl,ksl⟩,hq3⟩; rw [yard_zeros] at ksl; have B3:=B1.trans (hq3.mono B1.size))
  | (go_at_call 53; refine (lorry_any _ _ _).mono ?_; rintro e w6 ⟨⟨p6,q6,rfl,hp6,hq6',kp6,kq6⟩,hq6⟩; replace ksl:=(ksl.below hq6).more hq6.size; have kb6:=kb5.call hq6; have B6:=B5.trans (hq6.mono B5.size))
  | (go_at_call 29; refine (net_ok 10 (-5) 5 (some ⟨b5,0,none⟩) 6 6 yardEs (some ⟨p6,0,none⟩) 2 2 (some ⟨q6,0,none⟩) 2 2 2 0 70 90 [1,2] [4,5] w6 (by omega) rfl (Sl.of_flat kb6 (by decide) rfl) (by omega) (by omega) rfl rfl (Sl.of_flat kp6 (by decide) rfl) (Sl.of_flat kq6 (by decide) rfl) yard_slip yard_fit).mono ?_; rintro e w7 ⟨rfl,hq7⟩; rw [show (netOf 10 yardEs [1,2] [4,5] (zst 10 (-5) 5 yardEs 0) 6).1 + dsLo 2 0 70 90 = 9292 from congrArg Prod.fst yard_net,show (netOf 10 yardEs [1,2] [4,5] (zst 10 (-5) 5 yardEs 0) 6).2 + dsHi 2 0 70 90 = 9426 from congrArg Prod.snd yard_net]; replace ksl:=((ksl.below hq7).more hq7.size).alloc (Nat.le_refl _) (.cells #[.int .i64 9292,.int .i64 9426] 23); have k3:=Bx.new w7 23 #[.int .i64 9292,.int .i64 9426]; have B7:=(B6.trans (hq7.mono B6.size)).alloc (B6.trans (hq7.mono B6.size)).size (.cells #[.int .i64 9292,.int .i64 9426] 23))
  | (go_at_call 54; refine (short_any _).mono ?_; rintro e w8 ⟨⟨b8,rfl,hb8,kb8⟩,hq8⟩; replace ksl:=(ksl.more (by simp)).below hq8; replace k3:=k3.call hq8; have B8:=B7.trans (hq8.mono B7.size))
  | (go_at_call 38; have BF:=Bx.new (w8.alloc (.cells #[.int .i64 0] 3)) 3 #[.int .i64 2]; have AF:=(Bx.new w8 3 #[.int .i64 0]).alloc (.cells #[.int .i64 2] 3); have kb9:=(kb8.alloc (.cells #[.int .i64 0] 3)).alloc (.cells #[.int .i64 2] 3); have B9:=(B8.alloc B8.size (.cells #[.int .i64 0] 3)).alloc (B8.alloc B8.size (.cells #[.int .i64 0] 3)).size (.cells #[.int .i64 2] 3); replace k3:=(k3.alloc (.cells #[.int .i64 0] 3)).alloc (.cells #[.int .i64 2] 3); replace ksl:=((ksl.alloc (by simpa using hq8.size) (.cells #[.int .i64 0] 3)).alloc (by have:=hq8.size; simp at this ⊢; omega) (.cells #[.int .i64 2] 3)).more (B':=((w8.alloc (.cells #[.int .i64 0] 3)).alloc (.cells #[.int .i64 2] 3)).heap.size) (by have:=hq8.size; simp at this ⊢; omega); refine (best_ok 1 0 4 (some ⟨b8,0,none⟩) 3 3 shortEs (some ⟨w8.heap.size,0,none⟩) 1 1 (some ⟨w8.heap.size + 1,0,none⟩) 1 1 0 0 0 0 [0] [2] _ (by omega) rfl (Sl.of_flat kb9 (by decide) rfl) (by omega) (by omega) rfl rfl (Sl.of_flat AF (by decide) rfl) (by simpa using Sl.of_flat (xs:=ints [2]) BF (by decide) rfl) short_slip short_fit).mono ?_; rintro e w9 ⟨rfl,hq9⟩; rw [congrArg Prod.fst short_best,congrArg Prod.snd short_best]; replace ksl:=(ksl.below hq9).more hq9.size; replace k3:=k3.call hq9; replace B9:=B9.trans (hq9.mono B9.size); clear BF AF kb9)
  | fail)
 obtain ⟨c0,c1,cf,cz⟩:=k3.two
 refine AnyG.start (fun w' : World => Below w9.heap.size w9 w') (fun i => true) (by kernel_rfl) ?_
 have hS : (fun w' : World => Below w9.heap.size w9 w') (World.drew _):=(Below.refl _ _).drew
 refine AnyG.takeG (i:=0) (v:=?_) rfl (by kernel_rfl) (fun _ _ _ h => h) (by simp [Region.wanted,yielded]) ?_ hS ?_
 rotate_left
 ·(intro w' _; go_simp; try with_reducible rfl)
 try simp only [Act.put,Sp4,Sp5,Sp6]
 refine AnyG.takeG (i:=1) (v:=?_) rfl (by kernel_rfl) (fun _ _ _ h => h) (by simp [Region.wanted,yielded]) ?_ hS ?_
 rotate_left
 ·(intro w' _; go_simp; try with_reducible rfl)
 try simp only [Act.put,Sp4,Sp5,Sp6]
 refine AnyG.takeG (i:=2) (v:=?_) rfl (by kernel_rfl) (fun _ _ _ h => h) (by simp [Region.wanted,yielded]) ?_ hS ?_
 rotate_left
 ·(intro w' _; go_simp; try with_reducible rfl)
 try simp only [Act.put,Sp4,Sp5,Sp6]
 refine AnyG.takeG (i:=3) (v:=?_) rfl (by kernel_rfl) (fun _ _ _ h => h) (by simp [Region.wanted,yielded]) ?_ hS ?_
 rotate_left
 ·(intro w' _; go_simp; try with_reducible rfl)
 try simp only [Act.put,Sp4,Sp5,Sp6]
 refine AnyG.takeG (i:=4) (v:=?_) rfl (by kernel_rfl) (fun _ _ _ h => h) (by simp [Region.wanted,yielded]) ?_ hS ?_
 rotate_left
 ·(intro w' _; go_simp; try with_reducible rfl)
 try simp only [Act.put,Sp4,Sp5,Sp6]
 refine AnyG.takeG (i:=5) (v:=?_) rfl (by kernel_rfl) (fun _ _ _ h => h) (by simp [Region.wanted,yielded]) ?_ hS ?_
 rotate_left
 ·(intro w' _; go_simp; try with_reducible rfl)
 try simp only [Act.put,Sp4,Sp5,Sp6]
 refine AnyG.takeG (i:=6) (v:=?_) rfl (by kernel_rfl) (fun _ _ _ h => h) (by simp [Region.wanted,yielded]) ?_ hS ?_
 rotate_left
 ·(intro w' _; go_simp; try with_reducible rfl)
 try simp only [Act.put,Sp4,Sp5,Sp6]
 refine AnyG.takeG (i:=7) (v:=?_) rfl (by kernel_rfl) (fun _ _ _ h => h) (by simp [Region.wanted,yielded]) ?_ hS ?_
 rotate_left
 ·(intro w' _; go_simp; try with_reducible rfl)
 try simp only [Act.put,Sp4,Sp5,Sp6]
 refine AnyG.takeG (i:=8) (v:=?_) rfl (by kernel_rfl) (fun _ _ _ h => h) (by simp [Region.wanted,yielded]) ?_ hS ?_
 rotate_left
 ·(intro w' _; go_simp; try with_reducible rfl)
 try simp only [Act.put,Sp4,Sp5,Sp6]
 refine AnyG.takeG (i:=9) (v:=?_) rfl (by kernel_rfl) (fun _ _ _ h => h) (by simp [Region.wanted,yielded]) ?_ hS ?_
 rotate_left
 ·(intro w' _; go_simp; try with_reducible rfl)
 try simp only [Act.put,Sp4,Sp5,Sp6]
 refine AnyG.takeG (i:=10) (v:=?_) rfl (by kernel_rfl) (fun _ _ _ h => h) (by simp [Region.wanted,yielded]) ?_ hS ?_
 rotate_left
 ·(intro w' _; go_simp; try with_reducible rfl)
 try simp only [Act.put,Sp4,Sp5,Sp6]
 refine AnyG.takeG (i:=11) (v:=?_) rfl (by kernel_rfl) (fun _ _ _ h => h) (by simp [Region.wanted,yielded]) ?_ hS ?_
 rotate_left
 ·(intro w' _; go_simp; try with_reducible rfl)
 try simp only [Act.put,Sp4,Sp5,Sp6]
 refine AnyG.takeG (i:=12) (v:=?_) rfl (by kernel_rfl) (fun _ _ _ h => h) (by simp [Region.wanted,yielded]) ?_ hS ?_
 rotate_left
 ·(intro w' _; go_simp; try with_reducible rfl)
 try simp only [Act.put,Sp4,Sp5,Sp6]
 refine AnyG.takeG (i:=13) (v:=?_) rfl (by kernel_rfl) (fun _ _ _ h => h) (by simp [Region.wanted,yielded]) ?_ hS ?_
 rotate_left
 ·(intro w' _; go_simp; try with_reducible rfl)
 try simp only [Act.put,Sp4,Sp5,Sp6]
 refine AnyG.takeG (i:=14) (v:=?_) rfl (by kernel_rfl) (fun _ _ _ h => h) (by simp [Region.wanted,yielded]) ?_ hS ?_
 rotate_left
 ·(intro w' _; go_simp; try with_reducible rfl)
 try simp only [Act.put,Sp4,Sp5,Sp6]
 refine AnyG.takeG (i:=15) (v:=?_) rfl (by kernel_rfl) (fun _ _ _ h => h) (by simp [Region.wanted,yielded]) ?_ hS ?_
 rotate_left
 ·(intro w' _; go_simp; try with_reducible rfl)
 try simp only [Act.put,Sp4,Sp5,Sp6]
 refine AnyG.takeG (i:=16) (v:=?_) rfl (by kernel_rfl) (fun _ _ _ h => h) (by simp [Region.wanted,yielded]) ?_ hS ?_
 rotate_left
 ·(intro w' _; go_simp; try with_reducible rfl)
 try simp only [Act.put,Sp4,Sp5,Sp6]
 refine AnyG.takeG (i:=17) (v:=?_) rfl (by kernel_rfl) (fun _ _ _ h => h) (by simp [Region.wanted,yielded]) ?_ hS ?_
 rotate_left
 ·(intro w' _; go_simp; try with_reducible rfl)
 try simp only [Act.put,Sp4,Sp5,Sp6]
 refine AnyG.takeG (i:=18) (v:=?_) rfl (by kernel_rfl) (fun _ _ _ h => h) (by simp [Region.wanted,yielded]) ?_ hS ?_
 rotate_left
 ·(intro w' _; go_simp; try with_reducible rfl)
 try simp only [Act.put,Sp4,Sp5,Sp6]
 refine AnyG.takeG (i:=19) (v:=?_) rfl (by kernel_rfl) (fun _ _ _ h => h) (by simp [Region.wanted,yielded]) ?_ hS ?_
 rotate_left
 ·(intro w' hSw; (try dsimp only at hSw); have c0:=cellC hSw c0; have c1:=cellC hSw c1; go_simp; try with_reducible rfl)
 try simp only [Act.put,Sp4,Sp5,Sp6]
 refine AnyG.oneG (i:=20) (by kernel_rfl) rfl (by simp [Region.wanted,yielded]) ?_
 go_simp
 refine (rng_any _ _ _).mono ?_
 rintro e w10 ⟨rfl,hr⟩
 have hS10 : Below w9.heap.size w9 w10:=Below.trans hS (hr.mono hS.size)
 clear hS hr
 refine Onward.on hS10 (fun hS => ?_)
 clear hS10
 try simp only [Act.put,Sp4,Sp5,Sp6]
 refine AnyG.takeG (i:=21) (v:=?_) rfl (by kernel_rfl) (fun _ _ _ h => h) (by simp [Region.wanted,yielded]) ?_ hS ?_
 rotate_left
 ·(intro w' _; go_simp; try with_reducible rfl)
 try simp only [Act.put,Sp4,Sp5,Sp6]
 refine AnyG.takeG (i:=22) (v:=?_) rfl (by kernel_rfl) (fun _ _ _ h => h) (by simp [Region.wanted,yielded]) ?_ hS ?_
 rotate_left
 ·(intro w' _; go_simp; try with_reducible rfl)
 try simp only [Act.put,Sp4,Sp5,Sp6]
 refine AnyG.takeG (i:=23) (v:=?_) rfl (by kernel_rfl) (fun _ _ _ h => h) (by simp [Region.wanted,yielded]) ?_ hS ?_
 rotate_left
 ·(intro w' _; go_simp; try with_reducible rfl)
 try simp only [Act.put,Sp4,Sp5,Sp6]
 refine AnyG.takeG (i:=24) (v:=?_) rfl (by kernel_rfl) (fun _ _ _ h => h) (by simp [Region.wanted,yielded]) ?_ hS ?_
 rotate_left
 ·(intro w' _; go_simp; try with_reducible rfl)
 try simp only [Act.put,Sp4,Sp5,Sp6]
 refine AnyG.oneG (i:=25) (by kernel_rfl) rfl (by simp [Region.wanted,yielded]) ?_
 go_simp
 refine (rng_any _ _ _).mono ?_
 rintro e w11 ⟨rfl,hr⟩
 have hS11 : Below w9.heap.size w9 w11:=Below.trans hS (hr.mono hS.size)
 clear hS hr
 refine Onward.on hS11 (fun hS => ?_)
 clear hS11
 try simp only [Act.put,Sp4,Sp5,Sp6]
 refine AnyG.oneG (i:=26) (by kernel_rfl) rfl (by simp [Region.wanted,yielded]) ?_
 go_simp
 refine (rng_any _ _ _).mono ?_
 rintro e w12 ⟨rfl,hr⟩
 have hS12 : Below w9.heap.size w9 w12:=Below.trans hS (hr.mono hS.size)
 clear hS hr
 refine Onward.on hS12 (fun hS => ?_)
 clear hS12
 try simp only [Act.put,Sp4,Sp5,Sp6]
 refine AnyG.oneG (i:=27) (by kernel_rfl) rfl (by simp [Region.wanted,yielded]) ?_
 go_simp
 refine (rng_any _ _ _).mono ?_
 rintro e w13 ⟨rfl,hr⟩
 have hS13 : Below w9.heap.size w9 w13:=Below.trans hS (hr.mono hS.size)
 clear hS hr
 refine Onward.on hS13 (fun hS => ?_)
 clear hS13
 try simp only [Act.put,Sp4,Sp5,Sp6]
 refine AnyG.oneG (i:=28) (by kernel_rfl) rfl (by simp [Region.wanted,yielded]) ?_
 go_simp
 refine (rng_any _ _ _).mono ?_
 rintro e w14 ⟨rfl,hr⟩
 have hS14 : Below w9.heap.size w9 w14:=Below.trans hS (hr.mono hS.size)
 clear hS hr
 refine Onward.on hS14 (fun hS => ?_)
 clear hS14
 try simp only [Act.put,Sp4,Sp5,Sp6]
 refine AnyG.oneG (i:=29) (by kernel_rfl) rfl (by simp [Region.wanted,yielded]) ?_
 go_simp
 refine (rng_any _ _ _).mono ?_
 rintro e w15 ⟨rfl,hr⟩
 have hS15 : Below w9.heap.size w9 w15:=Below.trans hS (hr.mono hS.size)
 clear hS hr
 refine Onward.on hS15 (fun hS => ?_)
 clear hS15
 try simp only [Act.put,Sp4,Sp5,Sp6]
 refine AnyG.oneG (i:=30) (by kernel_rfl) rfl (by simp [Region.wanted,yielded]) ?_
 go_simp
 refine (rng_any _ _ _).mono ?_
 rintro e w16 ⟨rfl,hr⟩
 have hS16 : Below w9.heap.size w9 w16:=Below.trans hS (hr.mono hS.size)
 clear hS hr
 refine Onward.on hS16 (fun hS => ?_)
 clear hS16
 try simp only [Act.put,Sp4,Sp5,Sp6]
 refine AnyG.oneG (i:=31) (by kernel_rfl) rfl (by simp [Region.wanted,yielded]) ?_
 go_simp
 have kz:=Bx.new w16 23 #[.int .i64 (-1),.int .i64 4,.int .i64 2,.int .i64 7,.int .i64 2,.int .i64 7,.int .i64 5,.int .i64 10,.int .i64 5,.int .i64 11,.int .i64 5,.int .i64 11]
 refine Onward.on (Below.alloc hS hS.size _) (fun hS => ?_)
 try simp only [Act.put,Sp4,Sp5,Sp6]
 refine AnyG.oneG (i:=32) (by kernel_rfl) rfl (by simp [Region.wanted,yielded]) ?_
 go_simp
 refine (equalRanges_any A' 6 c' (some ⟨w16.heap.size,0,none⟩) 6 6 [(-1,4),(2,7),(2,7),(5,10),(5,11),(5,11)] [(-1,4),(2,7),(2,7),(5,10),(5,11),(5,11)] _ (by omega) (by omega) rfl rfl ((ksl.below hS).more hS.size) (Sl.of_flat kz (by decide) rfl)).mono ?_
 rintro e w17 ⟨rfl,hr⟩
 have hS17 : Below w9.heap.size w9 w17:=Below.trans hS (hr.mono hS.size)
 clear hS hr
 refine Onward.on hS17 (fun hS => ?_)
 clear hS17
 try simp only [Act.put,Sp4,Sp5,Sp6]
 refine AnyG.takeG (i:=33) (v:=?_) rfl (by kernel_rfl) (fun _ _ _ h => h) (by simp [Region.wanted,yielded]) ?_ hS ?_
 rotate_left
 ·(intro w' _; go_simp; try with_reducible rfl)
 try simp only [Act.put,Sp4,Sp5,Sp6]
 refine AnyG.takeG (i:=34) (v:=?_) rfl (by kernel_rfl) (fun _ _ _ h => h) (by simp [Region.wanted,yielded]) ?_ hS ?_
 rotate_left
 ·(intro w' _; go_simp; try with_reducible rfl)
 try simp only [Act.put,Sp4,Sp5,Sp6]
 refine AnyG.done (by kernel_rfl) ?_ _
 go_simp
 go_wp2_with fail
 go_ret
 exact ⟨rfl,B9.trans (hS.mono B9.size)⟩
end Go.Proofs.Ytgbogdckmfencaa
