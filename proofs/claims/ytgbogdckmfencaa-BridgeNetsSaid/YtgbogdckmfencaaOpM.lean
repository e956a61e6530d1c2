/- bridge.zerosOf: the zeros that each event of a log may have, by all events; or Check's error; or ErrConflict. -/
import Derived.Test.YtgbogdckmfencaaReachM
import Derived.Test.YtgbogdckmfencaaWmM
import Derived.Test.YtgbogdckmfencaaFolM
import Derived.Test.YtgbogdckmfencaaRegM
import Derived.ProofKit
import Derived.SizedLaws
import Derived.Deep.Slices
import Derived.Carry
set_option linter.unusedSimpArgs false
set_option linter.unusedVariables false
namespace Go.Proofs.Ytgbogdckmfencaa
open Go.RowKit
attribute [local go_sem ↓] Go.wp_at_zero Go.wp_at_succ
set_option maxRecDepth 100000 in
set_option maxHeartbeats 1000000 in
theorem zerosOf_none (st z0 z1 : Int) (A : Option Addr) (n c : Nat) (es : List Ev) (w : World) (hl : es.length = n) (hA : EvsAt w w.heap.size A es) (hck : ckL st z0 z1 es = 0) (m : Nat) (hfit : Fits st z0 z1 es m) (hm : m < n) :
  Calls Try.prog 58 #[.agg #[.int .i64 st,.int .i64 z0,.int .i64 z1,.slice A n c]] w fun e w' => e = .returned (.tuple #[.agg (zarr fun _ => (0,0)),.int .i64 9]) ∧ Below w.heap.size w w':=by
 have hz1 : (ckL st z0 z1 es != 0) = false:=by simpa using hck
 have hok:=ckL_zero hck
 have hn : n ≤ 9223372036854775807:=by have:=hok.n; omega
 have HC:=Lib.hid hck
 clear hck
 have HL:=Lib.hid hl
 clear hl
 have HF:=Lib.hid hfit
 clear hfit
 have HO:=Lib.hid hok
 clear hok
 go_enter Try.func58,Try.ntmps58
 go_wp2_with (first
  | (go_at_call 22; refine (check_any st z0 z1 A n c es _ hn HL.out ((hA.below (((Below.refl _ _).alloc (Nat.le_refl _) _).alloc (by simp) _)).more (by simp; omega))).mono ?_; rintro e w1 ⟨rfl,hb⟩; have p1:=((Bx.new w 26 _).alloc _).call hb; have p2:=(Bx.at (w.alloc _) 91 _ (n:=w.heap.size + 1) (by simp)).call hb; have hsz : w.heap.size + 1 < w1.heap.size:=p2.lt; have hB:=(((Below.refl w.heap.size w).alloc (Nat.le_refl _) _).alloc (by simp) _).trans (hb.mono (by simp; omega)); clear hb; obtain ⟨a0,a1,a2,a3,af,az⟩:=p1.four; rw [HC.out])
  | (go_at_call 61; refine (reachable_any st z0 z1 A n c es _ HO.out HL.out ((hA.below hB).more hB.size)).mono ?_; rintro e w2 ⟨⟨m',hfit',rfl⟩,hb2⟩; obtain rfl:=hfit'.uniq HF.out; replace p1:=p1.call hb2; replace p2:=p2.call hb2; replace hB:=hB.trans (hb2.mono hB.size); have hsz2 : w.heap.size + 1 < w2.heap.size:=p2.lt; clear hb2; obtain ⟨a0,a1,a2,a3,af,az⟩:=p1.four)
  | ((with_reducible (show wpList _ _ _ (⟨none,.store 91 (.tmp 5) _,_,_,_,_⟩ :: _) _ _)); rw [← zarr0]; refine wpList_store_row rfl 91 (.tmp 5) (.tmp 17) rfl w2.heap.size _ rfl rfl 91 _ (Bx.new w2 91 (zarr fun _ => (0,0))) (by rw [zarr_size]; kernel_rfl) (by rw [zarr_size,zarr_size]) (zarr_one _) ?_; have p5:=(Bx.new w2 91 (zarr fun _ => (0,0))).row (cs':=zarr (kn st z0 z1 es m')); replace p1:=(p1.alloc (.cells (zarr fun _ => (0,0)) 91)).rowfar (g':=w2.heap.size) (cs':=zarr (kn st z0 z1 es m')) (by omega); replace p2:=(p2.alloc (.cells (zarr fun _ => (0,0)) 91)).rowfar (g':=w2.heap.size) (cs':=zarr (kn st z0 z1 es m')) (by omega); replace hB:=(hB.alloc hB.size (.cells (zarr fun _ => (0,0)) 91)).setRow (g:=w2.heap.size) hB.size (zarr (kn st z0 z1 es m')); generalize World.setRow _ _ _ = w3 at *; obtain ⟨a0,a1,a2,a3,af,az⟩:=p1.four)
  | ((with_reducible (show wpList _ _ _ (⟨none,.store 91 (.tmp 2) _,_,_,_,_⟩ :: _) _ _)); rw [← zarr0] at p2 ⊢; refine wpList_store_row rfl 91 (.tmp 2) (.tmp 24) rfl (w.heap.size + 1) _ rfl rfl 91 _ p2 (by rw [zarr_size]; kernel_rfl) (by rw [zarr_size]) (zarr_one _) ?_))
 refine bodyPost_ret (results_row_tmp (cs:=zarr fun _ => (0,0)) rfl rfl p2.row Try.underlying91 rfl (by rw [zarr_size]; kernel_rfl)) rfl ⟨rfl,hB.setRow (by omega) _⟩
theorem reachable_fit (st z0 z1 : Int) (A : Option Addr) (n c : Nat) (es : List Ev) (w : World) (hok : LogOk st z0 z1 es) (hl : es.length = n) (hA : EvsAt w w.heap.size A es) {m : Nat} (hfit : Fits st z0 z1 es m) :
  Calls Try.prog 61 #[.agg #[.int .i64 st,.int .i64 z0,.int .i64 z1,.slice A n c]] w fun e w' => e = .returned (.tuple #[.agg (zarr (kn st z0 z1 es m)),.int .i64 m]) ∧ Below w.heap.size w w' :=
 (reachable_any st z0 z1 A n c es w hok hl hA).mono fun e w' ⟨⟨m',hf,he⟩,hb⟩ => by
  obtain rfl:=hf.uniq hfit
  exact ⟨he,hb⟩
set_option maxRecDepth 100000 in
set_option maxHeartbeats 1000000 in
theorem zerosOf_all (st z0 z1 : Int) (A : Option Addr) (n c : Nat) (es : List Ev) (w : World) (hl : es.length = n) (hA : EvsAt w w.heap.size A es) (hck : ckL st z0 z1 es = 0) (hfit : Fits st z0 z1 es n) :
  Calls Try.prog 58 #[.agg #[.int .i64 st,.int .i64 z0,.int .i64 z1,.slice A n c]] w fun e w' => e = .returned (.tuple #[.agg (zarr (zst st z0 z1 es 0)),.int .i64 0]) ∧ Below w.heap.size w w':=by
 have hz0 : ∀ x : World,x = x:=fun _ => rfl
 clear hz0
 have hz1 : (ckL st z0 z1 es != 0) = false:=by simpa using hck
 have hok:=ckL_zero hck
 have hn : n ≤ 9223372036854775807:=by have:=hok.n; omega
 have HC:=Lib.hid hck
 clear hck
 have HL:=Lib.hid hl
 clear hl
 have HF:=Lib.hid hfit
 clear hfit
 have HO:=Lib.hid hok
 clear hok
 go_enter Try.func58,Try.ntmps58
 go_wp2_with (first
  | (go_at_call 22; refine (check_any st z0 z1 A n c es _ hn HL.out ((hA.below (((Below.refl _ _).alloc (Nat.le_refl _) _).alloc (by simp) _)).more (by simp; omega))).mono ?_; rintro e w1 ⟨rfl,hb⟩; have p1:=((Bx.new w 26 _).alloc _).call hb; have p2:=(Bx.at (w.alloc _) 91 _ (n:=w.heap.size + 1) (by simp)).call hb; have hsz : w.heap.size + 1 < w1.heap.size:=p2.lt; have hB:=(((Below.refl w.heap.size w).alloc (Nat.le_refl _) _).alloc (by simp) _).trans (hb.mono (by simp; omega)); clear hb; obtain ⟨a0,a1,a2,a3,af,az⟩:=p1.four; rw [HC.out])
  | (go_at_call 61; refine (reachable_fit st z0 z1 A n c es _ HO.out HL.out ((hA.below hB).more hB.size) HF.out).mono ?_; rintro e w2 ⟨rfl,hb2⟩; replace p1:=p1.call hb2; replace p2:=p2.call hb2; replace hB:=hB.trans (hb2.mono hB.size); have hsz2 : w.heap.size + 1 < w2.heap.size:=p2.lt; clear hb2; obtain ⟨a0,a1,a2,a3,af,az⟩:=p1.four)
  | ((with_reducible (show wpList _ _ _ (⟨none,.store 91 (.tmp 5) _,_,_,_,_⟩ :: _) _ _)); rw [← zarr0]; refine wpList_store_row rfl 91 (.tmp 5) (.tmp 17) rfl w2.heap.size _ rfl rfl 91 _ (Bx.new w2 91 (zarr fun _ => (0,0))) (by rw [zarr_size]; kernel_rfl) (by rw [zarr_size,zarr_size]) (zarr_one _) ?_; have p5:=(Bx.new w2 91 (zarr fun _ => (0,0))).row (cs':=zarr (kn st z0 z1 es n)); replace p1:=(p1.alloc (.cells (zarr fun _ => (0,0)) 91)).rowfar (g':=w2.heap.size) (cs':=zarr (kn st z0 z1 es n)) (by omega); replace p2:=(p2.alloc (.cells (zarr fun _ => (0,0)) 91)).rowfar (g':=w2.heap.size) (cs':=zarr (kn st z0 z1 es n)) (by omega); replace hB:=(hB.alloc hB.size (.cells (zarr fun _ => (0,0)) 91)).setRow (g:=w2.heap.size) hB.size (zarr (kn st z0 z1 es n)); generalize World.setRow _ _ _ = w3 at *; obtain ⟨a0,a1,a2,a3,af,az⟩:=p1.four))
 rw [show kn st z0 z1 es n = zst st z0 z1 es (n - 1) from by rw [← HL.out]; exact zst_start st z0 z1 es] at p5
 go_loopw [7] (fun i wr => ∃ (j : Nat) (q : Int),i = .int .i64 q ∧ (0 ≤ q → q + 1 = j) ∧ (q < 0 → j = 0) ∧ -2 ≤ q ∧ j ≤ n - 1 ∧ Bx wr w.heap.size 26 #[.int .i64 st,.int .i64 z0,.int .i64 z1,.slice A n c] ∧ Bx wr (w.heap.size + 1) 91 (zarr fun _ => (0,0)) ∧ Bx wr w2.heap.size 91 (zarr (zst st z0 z1 es j)) ∧ Below w.heap.size w wr) (fun i _ => (intOf i + 2).toNat)
 case atStart =>
  exact ⟨n - 1,(n : Int) - 2,rfl,by omega,by omega,by omega,by omega,p1,by rw [zarr0]; exact p2,p5,hB⟩
 case round =>
  obtain ⟨j,q,rfl,hq1,hq2,hq3,hj,k1,k2,k5,hB'⟩:=hrel
  by_cases hq : 0 ≤ q
  ·obtain ⟨i,rfl⟩ : ∃ i,j = i + 1:=⟨j - 1,by omega⟩
   obtain rfl : q = (i : Int):=by omega
   clear hq1 hq2 hq3 hq p1 p2 p5 hB
   have hin : i + 1 < n:=by omega
   have hke : i + 1 < es.length:=by rw [HL.out]; exact hin
   have hn14 : n ≤ 14:=by rw [← HL.out]; exact HO.out.n
   obtain ⟨ad,rfl,hab,_,_,_,q3,q4⟩:=(hA.below hB').at_ hke
   have hfs:=finR_succ (st:=st) (z0:=z0) (z1:=z1) hke
   have hup:=Lib.hid (zst_upd (st:=st) (z0:=z0) (z1:=z1) hke)
   have he:=HO.out.ev _ (List.getElem_mem hke)
   obtain ⟨_,_,_,_,_,_,hc1,hc2,hc3⟩:=he
   obtain ⟨b1,b2⟩:=bef_lo HO.out (i + 1)
   have b3:=HF.out.yes i (by omega)
   obtain ⟨f1,f2,f3,f4⟩:=finR_bd HO.out (fun j hj => HF.out.yes j (by rw [← HL.out]; exact hj)) (es.length - 1 - (i + 1)) (by omega)
   have hd14 : es.length - 1 - (i + 1) ≤ 14:=by have:=HO.out.n; omega
   have e0:=(k5.cell (i * 2)).trans (zarr_fst _ (by omega))
   have e1:=(k5.cell (i * 2 + 1)).trans (zarr_snd _ (by omega))
   have e2:=(k5.cell ((i + 1) * 2)).trans (zarr_fst _ (by omega))
   have e3:=(k5.cell ((i + 1) * 2 + 1)).trans (zarr_snd _ (by omega))
   rw [zst_lo hke] at e0 e1
   rw [zst_hi hke] at e2 e3
   generalize es.length - 1 - (i + 1) = d at *
   generalize hx0 : (bef st z0 z1 es (i + 1)).1 = x0 at *
   generalize hx1 : (bef st z0 z1 es (i + 1)).2 = x1 at *
   generalize hy0 : (finR st z0 z1 es d).1 = y0 at *
   generalize hy1 : (finR st z0 z1 es d).2 = y1 at *
   generalize es[i + 1].c0 = c0 at *
   generalize es[i + 1].c1 = c1 at *
   clear hx0 hx1 hy0 hy1
   have hfs:=Lib.hid hfs
   obtain ⟨a0,a1,a2,a3,af,az⟩:=k1.four
   have hi0 : (0 : Int) ≤ (i : Int):=by omega
   have hi1 : (i : Int) < 14:=by omega
   have hi2 : (i : Int) + 1 < 14:=by omega
   have hi3 : (i : Int) + 1 < (n : Int):=by omega
   have hw1 : IntKind.i64.wrap ((i : Int) + 1) = (i : Int) + 1:=IntWalk.i64_in _ (by omega)
   have hw2 : ((i : Int) + 1).toNat = i + 1:=by omega
   have hw3 : (0 : Int) ≤ (i : Int) + 1:=by omega
   go_wp2_with fail
   refine AnyG.start (fun w' : World => w'.cell? ⟨w.heap.size,3,none⟩ = some (.slice (some ad) n c) ∧ w'.cell? ⟨w2.heap.size,i * 2,none⟩ = some (.int .i64 x0) ∧ w'.cell? ⟨w2.heap.size,i * 2 + 1,none⟩ = some (.int .i64 x1) ∧ w'.cell? ⟨w2.heap.size,(i + 1) * 2,none⟩ = some (.int .i64 y0) ∧ w'.cell? ⟨w2.heap.size,(i + 1) * 2 + 1,none⟩ = some (.int .i64 y1) ∧ w'.cell? ⟨(ad.add ((i + 1) * 5)).block,(ad.add ((i + 1) * 5)).off + 3,none⟩ = some (.int .i64 c0) ∧ w'.cell? ⟨(ad.add ((i + 1) * 5)).block,(ad.add ((i + 1) * 5)).off + 4,none⟩ = some (.int .i64 c1)) (fun i => i != 18) (by kernel_rfl) ?_
   have hS : (fun w' : World => w'.cell? ⟨w.heap.size,3,none⟩ = some (.slice (some ad) n c) ∧ w'.cell? ⟨w2.heap.size,i * 2,none⟩ = some (.int .i64 x0) ∧ w'.cell? ⟨w2.heap.size,i * 2 + 1,none⟩ = some (.int .i64 x1) ∧ w'.cell? ⟨w2.heap.size,(i + 1) * 2,none⟩ = some (.int .i64 y0) ∧ w'.cell? ⟨w2.heap.size,(i + 1) * 2 + 1,none⟩ = some (.int .i64 y1) ∧ w'.cell? ⟨(ad.add ((i + 1) * 5)).block,(ad.add ((i + 1) * 5)).off + 3,none⟩ = some (.int .i64 c0) ∧ w'.cell? ⟨(ad.add ((i + 1) * 5)).block,(ad.add ((i + 1) * 5)).off + 4,none⟩ = some (.int .i64 c1)) (World.drew wr):=⟨a3,e0,e1,e2,e3,q3,q4⟩
   refine AnyG.take (i:=0) (v:=?_) rfl (by kernel_rfl) (fun _ _ _ h => h) rfl ?_ hS ?_
   rotate_left
   ·(intro w' hSw; (try dsimp only at hSw); go_split_ands; go_simp; try with_reducible rfl)
   try simp only [Act.put,Sp4,Sp5,Sp6]
   refine AnyG.take (i:=1) (v:=?_) rfl (by kernel_rfl) (fun _ _ _ h => h) rfl ?_ hS ?_
   rotate_left
   ·(intro w' hSw; (try dsimp only at hSw); go_split_ands; go_simp; try with_reducible rfl)
   try simp only [Act.put,Sp4,Sp5,Sp6]
   refine AnyG.take (i:=2) (v:=?_) rfl (by kernel_rfl) (fun _ _ _ h => h) rfl ?_ hS ?_
   rotate_left
   ·(intro w' hSw; (try dsimp only at hSw); go_split_ands; go_simp; try with_reducible rfl)
   try simp only [Act.put,Sp4,Sp5,Sp6]
   refine AnyG.take (i:=3) (v:=?_) rfl (by kernel_rfl) (fun _ _ _ h => h) rfl ?_ hS ?_
   rotate_left
   ·(intro w' hSw; (try dsimp only at hSw); go_split_ands; go_simp; try with_reducible rfl)
   try simp only [Act.put,Sp4,Sp5,Sp6]
   refine AnyG.take (i:=4) (v:=?_) rfl (by kernel_rfl) (fun _ _ _ h => h) rfl ?_ hS ?_
   rotate_left
   ·(intro w' hSw; (try dsimp only at hSw); go_split_ands; go_simp; try with_reducible rfl)
   try simp only [Act.put,Sp4,Sp5,Sp6]
   refine AnyG.take (i:=5) (v:=?_) rfl (by kernel_rfl) (fun _ _ _ h => h) rfl ?_ hS ?_
   rotate_left
   ·(intro w' hSw; (try dsimp only at hSw); go_split_ands; go_simp; try with_reducible rfl)
   try simp only [Act.put,Sp4,Sp5,Sp6]
   refine AnyG.take (i:=6) (v:=?_) rfl (by kernel_rfl) (fun _ _ _ h => h) rfl ?_ hS ?_
   rotate_left
   ·(intro w' hSw; (try dsimp only at hSw); go_split_ands; go_simp; try with_reducible rfl)
   try simp only [Act.put,Sp4,Sp5,Sp6]
   refine AnyG.take (i:=7) (v:=?_) rfl (by kernel_rfl) (fun _ _ _ h => h) rfl ?_ hS ?_
   rotate_left
   ·(intro w' hSw; (try dsimp only at hSw); go_split_ands; go_simp; try with_reducible rfl)
   try simp only [Act.put,Sp4,Sp5,Sp6]
   refine AnyG.take (i:=8) (v:=?_) rfl (by kernel_rfl) (fun _ _ _ h => h) rfl ?_ hS ?_
   rotate_left
   ·(intro w' hSw; (try dsimp only at hSw); go_split_ands; go_simp; try with_reducible rfl)
   try simp only [Act.put,Sp4,Sp5,Sp6]
   refine AnyG.take (i:=9) (v:=?_) rfl (by kernel_rfl) (fun _ _ _ h => h) rfl ?_ hS ?_
   rotate_left
   ·(intro w' hSw; (try dsimp only at hSw); go_split_ands; go_simp; try with_reducible rfl)
   try simp only [Act.put,Sp4,Sp5,Sp6]
   refine AnyG.take (i:=10) (v:=?_) rfl (by kernel_rfl) (fun _ _ _ h => h) rfl ?_ hS ?_
   rotate_left
   ·(intro w' hSw; (try dsimp only at hSw); go_split_ands; go_simp; try with_reducible rfl)
   try simp only [Act.put,Sp4,Sp5,Sp6]
   refine AnyG.take (i:=11) (v:=?_) rfl (by kernel_rfl) (fun _ _ _ h => h) rfl ?_ hS ?_
   rotate_left
   ·(intro w' hSw; (try dsimp only at hSw); go_split_ands; go_simp; try with_reducible rfl)
   try simp only [Act.put,Sp4,Sp5,Sp6]
   refine AnyG.take (i:=12) (v:=?_) rfl (by kernel_rfl) (fun _ _ _ h => h) rfl ?_ hS ?_
   rotate_left
   ·(intro w' hSw; (try dsimp only at hSw); go_split_ands; go_simp; try with_reducible rfl)
   try simp only [Act.put,Sp4,Sp5,Sp6]
   refine AnyG.take (i:=13) (v:=?_) rfl (by kernel_rfl) (fun _ _ _ h => h) rfl ?_ hS ?_
   rotate_left
   ·(intro w' hSw; (try dsimp only at hSw); go_split_ands; go_simp; try with_reducible rfl)
   try simp only [Act.put,Sp4,Sp5,Sp6]
   refine AnyG.take (i:=14) (v:=?_) rfl (by kernel_rfl) (fun _ _ _ h => h) rfl ?_ hS ?_
   rotate_left
   ·(intro w' hSw; (try dsimp only at hSw); go_split_ands; go_simp; try with_reducible rfl)
   try simp only [Act.put,Sp4,Sp5,Sp6]
   clear hw1 hw2 hw3 e0 e1 e2 e3 a0 a1 a2 a3 q3 q4
   refine AnyG.one (i:=15) (by kernel_rfl) rfl rfl ?_
   have HS:=Lib.hid hS
   clear hS
   go_simp
   refine (origins_any _ _ _ _ _ (by omega) (by omega) (by omega) (by omega) (by omega) (by omega) (by omega) (by omega)).mono ?_
   rintro r w4 ⟨rfl,hb4⟩
   refine Onward.on ⟨cellB hb4 HS.out.1,cellB hb4 HS.out.2.1,cellB hb4 HS.out.2.2.1,cellB hb4 HS.out.2.2.2.1,cellB hb4 HS.out.2.2.2.2.1,cellB hb4 HS.out.2.2.2.2.2.1,cellB hb4 HS.out.2.2.2.2.2.2⟩ (fun hS => ?_)
   try simp only [Act.put,Sp4,Sp5,Sp6]
   replace k1:=k1.drew.call hb4
   replace k2:=k2.drew.call hb4
   replace k5:=k5.drew.call hb4
   replace hB':=hB'.drew.trans (hb4.mono hB'.size)
   refine AnyG.one (i:=16) (by kernel_rfl) rfl rfl ?_
   clear HS
   have HS:=Lib.hid hS
   clear hS
   go_simp
   refine (meet_any _ _ _ _ _).mono ?_
   rintro r w5 ⟨rfl,hb5⟩
   refine Onward.on ⟨cellB hb5 HS.out.1,cellB hb5 HS.out.2.1,cellB hb5 HS.out.2.2.1,cellB hb5 HS.out.2.2.2.1,cellB hb5 HS.out.2.2.2.2.1,cellB hb5 HS.out.2.2.2.2.2.1,cellB hb5 HS.out.2.2.2.2.2.2⟩ (fun hS => ?_)
   try simp only [Act.put,Sp4,Sp5,Sp6]
   replace k1:=k1.call hb5
   replace k2:=k2.call hb5
   replace k5:=k5.call hb5
   replace hB':=hB'.trans (hb5.mono hB'.size)
   clear hb4 hb5
   refine AnyG.take (i:=17) (v:=?_) rfl (by kernel_rfl) (fun _ _ _ h => h) rfl ?_ hS ?_
   rotate_left
   ·(intro w' hSw; (try dsimp only at hSw); go_split_ands; go_simp; try with_reducible rfl)
   try simp only [Act.put,Sp4,Sp5,Sp6]
   refine AnyG.one (i:=18) (by kernel_rfl) rfl rfl ?_
   obtain ⟨_,s0,s1,_⟩:=hS
   have s2:=k5.free
   have s3:=k5.lt
   go_simp
   refine Onward.last rfl (AnyG.done (by kernel_rfl) ?_ _)
   have k5':=(k5.set_ (i * 2) (.int .i64 (max x0 (y0 - c1)))).set_ (i * 2 + 1) (.int .i64 (min x1 (y1 - c0)))
   rw [zarr_set _ (by omega),← hfs.out,hup.out] at k5'
   have k1':=(k1.far (p:=⟨w2.heap.size,i * 2,none⟩) (by simp; omega) (.int .i64 (max x0 (y0 - c1)))).far (p:=⟨w2.heap.size,i * 2 + 1,none⟩) (by simp; omega) (.int .i64 (min x1 (y1 - c0)))
   have k2':=(k2.far (p:=⟨w2.heap.size,i * 2,none⟩) (by simp; omega) (.int .i64 (max x0 (y0 - c1)))).far (p:=⟨w2.heap.size,i * 2 + 1,none⟩) (by simp; omega) (.int .i64 (min x1 (y1 - c0)))
   have hB2:=(hB'.setCell (p:=⟨w2.heap.size,i * 2,none⟩) (by simp; omega) (.int .i64 (max x0 (y0 - c1)))).setCell (p:=⟨w2.heap.size,i * 2 + 1,none⟩) (by simp; omega) (.int .i64 (min x1 (y1 - c0)))
   go_wp2_with fail
   go_roundw
   case rel => exact ⟨i,(i : Int) - 1,rfl,by omega,by omega,by omega,by omega,k1',k2',k5',hB2⟩
   case measure => simp [intOf]; omega
  ·obtain rfl : j = 0:=hq2 (by omega)
   go_wp2_with (first
    | ((with_reducible (show wpList _ _ _ (⟨some 51,_,_,_,_,_⟩ :: _) _ _)); refine wpList_load_row rfl 91 (.tmp 5) rfl w2.heap.size rfl 91 _ (0,0) _ k5 Try.underlying91 rfl (by rw [zarr_size]; kernel_rfl) ?_)
    | ((with_reducible (show wpList _ _ _ (⟨none,.store 91 (.tmp 2) _,_,_,_,_⟩ :: _) _ _)); refine wpList_store_row rfl 91 (.tmp 2) (.tmp 51) rfl (w.heap.size + 1) _ rfl rfl 91 _ k2 (by rw [zarr_size]; kernel_rfl) (by rw [zarr_size,zarr_size]) (zarr_one _) ?_))
   exact bodyPost_ret (results_row_tmp (cs:=zarr (zst st z0 z1 es 0)) rfl rfl k2.row Try.underlying91 rfl (by rw [zarr_size]; kernel_rfl)) rfl ⟨rfl,hB'.setRow (by omega) _⟩
end Go.Proofs.Ytgbogdckmfencaa

/-! bridge.Zeros and bridge.Conflict, in all cases. -/
namespace Go.Proofs.Ytgbogdckmfencaa
open Go.RowKit
attribute [local go_sem ↓] Go.wp_at_zero Go.wp_at_succ
def ZerosPost (st z0 z1 : Int) (es : List Ev) (n : Nat) (w : World) (e : Ending) (w' : World) : Prop :=
 (∃ A' c',e = .returned (.tuple #[.slice A' n c',.int .i64 0]) ∧ Sl w' w'.heap.size 2 A' (zrows (zst st z0 z1 es 0) n)) ∧ Below w.heap.size w w'
theorem info23 : (Try.prog.info? 23).map (fun i => (i.zero,i.size,i.bytes)) = some (some (.agg #[.int .i64 0,.int .i64 0]),2,16):=by kernel_rfl
set_option maxRecDepth 100000 in
set_option maxHeartbeats 1000000 in
theorem zeros_all (st z0 z1 : Int) (A : Option Addr) (n c : Nat) (es : List Ev) (w : World) (hl : es.length = n) (hA : EvsAt w w.heap.size A es) (hck : ckL st z0 z1 es = 0) (hfit : Fits st z0 z1 es n) :
  Calls Try.prog 18 #[.agg #[.int .i64 st,.int .i64 z0,.int .i64 z1,.slice A n c]] w (ZerosPost st z0 z1 es n w):=by
 have hok:=ckL_zero hck
 have hn : n ≤ 14:=by have:=hok.n; omega
 clear hok
 have HC:=Lib.hid hck
 clear hck
 have HF:=Lib.hid hfit
 clear hfit
 have HL:=Lib.hid hl
 clear hl
 obtain ⟨i0,hi,hz0,hz1,hz2⟩:=info_parts info23
 have hmk:=run_make_n (P:=Try.prog) 39 23 i0 _ Try.underlying39 hi hz0 n (by rw [hz2]; omega) (by omega)
 have hcur : (madeCells (Value.cells (.agg #[.int .i64 0,.int .i64 0])) (n * i0.size)).size = n * 2:=by rw [size_madeCells,hz1]
 generalize madeCells (Value.cells (.agg #[.int .i64 0,.int .i64 0])) (n * i0.size) = cur at hmk hcur
 have HI:=And.intro hcur (And.intro hz1 hi)
 have HI:=Lib.hid HI
 clear hcur hz1 hz2 hi hz0
 go_enter Try.func18,Try.ntmps18
 go_wp2_with (first
  | (go_at_call 58; refine (zerosOf_all st z0 z1 A n c es _ HL.out ((hA.below ((Below.refl _ _).alloc (Nat.le_refl _) _)).more (by simp)) HC.out HF.out).mono ?_; rintro e w1 ⟨rfl,hb⟩; have p1:=(Bx.new w 26 _).call hb; have hB:=((Below.refl w.heap.size w).alloc (Nat.le_refl _) _).trans (hb.mono (by simp)); have hsz : w.heap.size < w1.heap.size:=p1.lt; clear hb)
  | ((with_reducible (show wpList _ _ _ (⟨none,.store 91 (.tmp 4) _,_,_,_,_⟩ :: _) _ _)); rw [← zarr0]; refine wpList_store_row rfl 91 (.tmp 4) (.tmp 10) rfl w1.heap.size _ rfl rfl 91 _ (Bx.new w1 91 (zarr fun _ => (0,0))) (by rw [zarr_size]; kernel_rfl) (by rw [zarr_size,zarr_size]) (zarr_one _) ?_; have p4:=(Bx.new w1 91 (zarr fun _ => (0,0))).row (cs':=zarr (zst st z0 z1 es 0)); replace p1:=(p1.alloc (.cells (zarr fun _ => (0,0)) 91)).rowfar (g':=w1.heap.size) (cs':=zarr (zst st z0 z1 es 0)) (by omega); replace hB:=(hB.alloc hB.size (.cells (zarr fun _ => (0,0)) 91)).setRow (g:=w1.heap.size) hB.size (zarr (zst st z0 z1 es 0)); generalize World.setRow _ _ _ = w3 at *; obtain ⟨a0,a1,a2,a3,af,az⟩:=p1.four)
  | ((with_reducible (show wpList _ _ _ (⟨some 21,_,_,_,_,_⟩ :: _) _ _)); refine wpList_copy_all rfl (.tmp 19) (.tmp 20) 39 39 rfl 23 2 w3.heap.size n n ⟨w1.heap.size,0,none⟩ 14 14 cur 23 ((zarr (zst st z0 z1 es 0)).toList.take (n * 2)) rfl rfl Try.underlying39 (by kernel_rfl) (Bx.new w3 23 cur) (by rw [List.length_take,Array.length_toList,zarr_size]; omega) HI.out.1 hn ?_ ?_ ?_; rotate_left 2; have p6:=(Bx.new w3 23 cur).row (cs':=((zarr (zst st z0 z1 es 0)).toList.take (n * 2)).toArray); replace hB:=(hB.alloc hB.size (.cells cur 23)).setRow (g:=w3.heap.size) hB.size ((zarr (zst st z0 z1 es 0)).toList.take (n * 2)).toArray; generalize World.setRow _ _ _ = w5 at *))
 ·go_ret2
  exact ⟨⟨_,_,rfl,Sl.of_bx p6 (zrows_cells hn)⟩,hB⟩
 ·intro j v hv
  have e : (⟨w1.heap.size,0,none⟩ : Addr).add j = ⟨w1.heap.size,j,none⟩:=by unfold Addr.add; split <;> simp_all
  rw [e,(p4.alloc _).cell]
  rw [List.getElem?_take] at hv
  split at hv
  ·simpa using hv
  ·cases hv
 ·intro v hv
  exact (Array.all_eq_true_iff_forall_mem.1 (zarr_one _)) v (by simpa using List.mem_of_mem_take hv)
end Go.Proofs.Ytgbogdckmfencaa

/-! bridge.driverShare: what a driver adds to the net weight. -/
namespace Go.Proofs.Ytgbogdckmfencaa
open Go.RowKit
attribute [local go_sem ↓] Go.wp_at_zero Go.wp_at_succ
/-- What a driver adds to the net weight, at least and at most. -/
def dsLo (fs bs d0 d1 : Int) : Int:=min ((drLo bs - drHi fs) * d0) ((drLo bs - drHi fs) * d1)
def dsHi (fs bs d0 d1 : Int) : Int:=max ((drHi bs - drLo fs) * d0) ((drHi bs - drLo fs) * d1)
set_option maxHeartbeats 4000000 in
theorem driverShare_any (FA : Option Addr) (fn fc : Nat) (BA : Option Addr) (bn bc : Nat) (fs bs d0 d1 : Int) (w : World) (h1 : 0 ≤ fs) (h2 : fs ≤ 2) (h3 : 0 ≤ bs) (h4 : bs ≤ 2) (g1 : 0 ≤ d0) (g2 : d0 ≤ 200) (g3 : 0 ≤ d1) (g4 : d1 ≤ 200) :
  Calls Try.prog 71 #[.agg #[.slice FA fn fc,.slice BA bn bc,.int .i64 fs,.int .i64 bs,.int .i64 d0,.int .i64 d1]] w fun e w' => e = .returned (.agg #[.int .i64 (dsLo fs bs d0 d1),.int .i64 (dsHi fs bs d0 d1)]) ∧ Below w.heap.size w w':=by
 go_enter Try.func71,Try.ntmps71
 go_upto_region 1 with fail
 go_cut [3,4] (fun v5 v6 wr => ∃ b5 b6 : Nat,v5 = .pointer (some ⟨b5,0,none⟩) ∧ v6 = .pointer (some ⟨b6,0,none⟩) ∧ wr.cell? ⟨b5,0,none⟩ = some (.int .i64 (drLo fs)) ∧ wr.cell? ⟨b5,1,none⟩ = some (.int .i64 (drHi fs)) ∧ wr.cell? ⟨b6,0,none⟩ = some (.int .i64 (drLo bs)) ∧ wr.cell? ⟨b6,1,none⟩ = some (.int .i64 (drHi bs)) ∧
  Below (w.heap.size + 2) ((w.alloc (.cells #[.slice FA fn fc,.slice BA bn bc,.int .i64 fs,.int .i64 bs,.int .i64 d0,.int .i64 d1] 50)).alloc (.cells #[.int .i64 0,.int .i64 0] 23)) wr)
 case first =>
  go_region_held3 (fun w' => w'.cell? ⟨w.heap.size,2,none⟩ = some (.int .i64 fs) ∧ w'.cell? ⟨w.heap.size,3,none⟩ = some (.int .i64 bs))
   (first | (go_keep; done) | (go_simp; done))
   (first | (go_at_call_of 100 (Value.int .i64 fs); refine (drivers_w fs _).mono ?_; rintro e w1 ⟨rfl,rfl⟩) | (go_at_call_of 100 (Value.int .i64 bs); refine (drivers_w bs _).mono ?_; rintro e w2 ⟨rfl,rfl⟩))
  all_goals
   go_wp2_with fail
   go_meet
   refine ⟨_,_,rfl,rfl,by go_simp,by go_simp,by go_simp,by go_simp,?_⟩
   repeat (first | exact Below.refl _ _ | refine Below.drew ?_ | refine Below.alloc ?_ (by simp; try omega) _ | refine Below.setCell ?_ (by simp) _ )
 case rest =>
  obtain ⟨b5,b6,rfl,rfl,p0,p1,p2,p3,hB⟩:=hcut
  have k1:=((Bx.new w 50 #[.slice FA fn fc,.slice BA bn bc,.int .i64 fs,.int .i64 bs,.int .i64 d0,.int .i64 d1]).alloc (.cells #[.int .i64 0,.int .i64 0] 23)).below hB (by omega)
  have k2:=(Bx.at (w.alloc (.cells #[.slice FA fn fc,.slice BA bn bc,.int .i64 fs,.int .i64 bs,.int .i64 d0,.int .i64 d1] 50)) 23 #[.int .i64 0,.int .i64 0] (n:=w.heap.size + 1) (by simp)).below hB (by omega)
  obtain ⟨s0,s1,s2,s3,s4,s5,sf,sz⟩:=k1.six
  obtain ⟨r0,r1,rf,rz⟩:=k2.two
  have hfs : fs = 0 ∨ fs = 1 ∨ fs = 2:=by omega
  have hbs : bs = 0 ∨ bs = 1 ∨ bs = 2:=by omega
  clear s0 s1 s2 s3 k1
  have c1 : drLo fs = 0 ∨ drLo fs = 1:=by unfold drLo; split <;> simp
  have c2 : drHi fs = 0 ∨ drHi fs = 1:=by unfold drHi; split <;> simp
  have c3 : drLo bs = 0 ∨ drLo bs = 1:=by unfold drLo; split <;> simp
  have c4 : drHi bs = 0 ∨ drHi bs = 1:=by unfold drHi; split <;> simp
  have hlo : dsLo fs bs d0 d1 = min ((drLo bs - drHi fs) * d0) ((drLo bs - drHi fs) * d1):=rfl
  have hhi : dsHi fs bs d0 d1 = max ((drHi bs - drLo fs) * d0) ((drHi bs - drLo fs) * d1):=rfl
  generalize drLo fs = x1 at *
  generalize drHi fs = x2 at *
  generalize drLo bs = x3 at *
  generalize drHi bs = x4 at *
  have HLO:=Lib.hid hlo
  have HHI:=Lib.hid hhi
  clear hlo hhi hfs hbs
  rcases c1 with rfl | rfl <;> rcases c2 with rfl | rfl <;> rcases c3 with rfl | rfl <;> rcases c4 with rfl | rfl
  all_goals
   go_wp2_with fail
  all_goals
   refine bodyPost_ret (v:=.agg #[.int .i64 (dsLo fs bs d0 d1),.int .i64 (dsHi fs bs d0 d1)]) (by rw [HLO.out,HHI.out]; simp [results,Try.results71,go_sem,r0,r1,World.cell?_setCell_same',World.cell?_setCell_other,World.cell?_alloc_past,rz] <;> omega) rfl ⟨rfl,?_⟩
   refine Below.trans (((Below.refl _ _).alloc (Nat.le_refl _) (.cells #[.slice FA fn fc,.slice BA bn bc,.int .i64 fs,.int .i64 bs,.int .i64 d0,.int .i64 d1] 50)).alloc (by simp) (.cells #[.int .i64 0,.int .i64 0] 23)) (Below.trans (hB.mono (by omega)) ?_)
   repeat (first | exact Below.refl _ _ | refine Below.alloc ?_ (by simp <;> omega) _ | refine Below.setCell ?_ (by simp) _)
end Go.Proofs.Ytgbogdckmfencaa

/-! Logs, slips, ranges and rows of numbers as arguments. -/
namespace Go.Proofs.Ytgbogdckmfencaa.opened
open Go Go.ChangeShapes Go.WideShapes Go.ChangeAt Go.RowKit
theorem own : ownKnob Try.prog.godebug = none:=by kernel_rfl
theorem laidOut : laidOutB Try.prog = true:=by kernel_rfl
theorem cells3 : Try.prog.cellsOf 3 = 1:=by kernel_rfl
theorem cells23 : Try.prog.cellsOf 23 = 2:=by kernel_rfl
theorem cells24 : Try.prog.cellsOf 24 = 1:=by kernel_rfl
theorem cells26 : Try.prog.cellsOf 26 = 4:=by kernel_rfl
theorem cells28 : Try.prog.cellsOf 28 = 5:=by kernel_rfl
theorem bytes3 : Try.prog.bytesOf 3 = 8:=by kernel_rfl
theorem len2 {l : List Value} (h : l.length = 2) : ∃ a b,l = [a,b]:=by
 match l,h with
 | [a,b],_ => exact ⟨a,b,rfl⟩
theorem len4 {l : List Value} (h : l.length = 4) : ∃ a b c d,l = [a,b,c,d]:=by
 match l,h with
 | [a,b,c,d],_ => exact ⟨a,b,c,d,rfl⟩
theorem len5 {l : List Value} (h : l.length = 5) : ∃ a b c d e,l = [a,b,c,d,e]:=by
 match l,h with
 | [a,b,c,d,e],_ => exact ⟨a,b,c,d,e,rfl⟩
theorem list_of {α : Type} {P : Nat → α → Prop} : ∀ n : Nat,(∀ i,i < n → ∃ e,P i e) → ∃ es : List α,es.length = n ∧ ∀ i e,es[i]? = some e → P i e:=by
 intro n
 induction n with
 | zero => intro _; exact ⟨[],rfl,fun i e h => by simp at h⟩
 | succ n ih =>
  intro h
  obtain ⟨es,hl,he⟩:=ih fun i hi => h i (by omega)
  obtain ⟨e,hp⟩:=h n (by omega)
  refine ⟨es ++ [e],by simp [hl],fun i x hx => ?_⟩
  by_cases hi : i < n
  ·rw [List.getElem?_append_left (by omega)] at hx
   exact he i x hx
  ·rw [List.getElem?_append_right (by omega)] at hx
   have h0 : i - es.length = 0:=by
    rcases Nat.eq_zero_or_pos (i - es.length) with h | h
    ·exact h
    ·rw [List.getElem?_eq_none (by simp; omega)] at hx; cases hx
   rw [h0] at hx
   simp only [List.getElem?_cons_zero,Option.some.injEq] at hx
   subst hx
   rw [show i = n by omega]
   exact hp
section
variable {H : Type} {enc : TypeId × Value → H} {w : World} {base : Nat} {spare : Nat → Bool} {held : Bool}
set_option maxRecDepth 100000 in
theorem open_range {fuel : Nat} {cs : List Value} {x : DataW H × List MemPlace} (h : DataW.trod enc Try.prog w base spare held fuel 23 cs = some x) : ∃ a b : Int,cs = [.int .i64 a,.int .i64 b]:=by
 obtain ⟨xs,n,_,_,hl,hlen,hf⟩:=DataW.trod_struct Try.underlying23 h
 rw [cells23] at hl
 obtain ⟨c0,c1,rfl⟩:=len2 hl
 ·have e0:=hf 0 _ rfl
  have e1:=hf 1 _ rfl
  simp only [Sp1,Sp3,Sp2] at e0 e1
  rw [cells3,List.getElem?_eq_getElem (by rw [hlen]; decide)] at e0 e1
  obtain ⟨a,ha,_⟩:=DataW.trod_int Try.underlying3 e0
  obtain ⟨b,hb,_⟩:=DataW.trod_int Try.underlying3 e1
  simp at ha hb
  exact ⟨a,b,by rw [ha,hb]⟩
set_option maxRecDepth 100000 in
theorem open_event {fuel : Nat} {cs : List Value} {x : DataW H × List MemPlace} (h : DataW.trod enc Try.prog w base spare held fuel 28 cs = some x) : ∃ e : Ev,cs = e.cells:=by
 obtain ⟨xs,n,_,_,hl,hlen,hf⟩:=DataW.trod_struct Try.underlying28 h
 rw [cells28] at hl
 obtain ⟨c0,c1,c2,c3,c4,rfl⟩:=len5 hl
 ·have e0:=hf 0 _ rfl
  have e1:=hf 1 _ rfl
  have e2:=hf 2 _ rfl
  have e3:=hf 3 _ rfl
  simp only [Sp1,Sp3,Sp2] at e0 e1 e2 e3
  rw [cells3,List.getElem?_eq_getElem (by rw [hlen]; decide)] at e0 e1 e2
  rw [cells23,List.getElem?_eq_getElem (by rw [hlen]; decide)] at e3
  obtain ⟨a,ha,_⟩:=DataW.trod_int Try.underlying3 e0
  obtain ⟨b,hb,_⟩:=DataW.trod_int Try.underlying3 e1
  obtain ⟨c,hc,_⟩:=DataW.trod_int Try.underlying3 e2
  obtain ⟨p,q,hp⟩:=open_range e3
  simp at ha hb hc hp
  exact ⟨⟨a,b,c,p,q⟩,by rw [ha,hb,hc,hp.1,hp.2]; rfl⟩
theorem open_events {fuel : Nat} {v : Value} {x : DataW H × List MemPlace} (h : DataW.trod enc Try.prog w base spare held fuel 24 [v] = some x) : ∃ (A : Option Addr) (len cap : Nat) (es : List Ev),v = .slice A len cap ∧ es.length = len ∧ len ≤ 9223372036854775807 ∧ EvsAt w w.heap.size A es:=by
 rcases Go.Deep.open_slice Try.underlying24 h with ⟨hcs,_⟩ | ⟨a,len,cap,m,n,D,Pl,hcs,hb,hl,hm,hmm,hx,hi⟩
 ·simp at hcs
  exact ⟨none,0,0,[],hcs,rfl,by omega,Sl.nil _ _ _ _⟩
 ·simp at hcs
  have hlm : len ≤ m:=by rw [hmm]; split <;> omega
  obtain ⟨es,h1,h2⟩:=list_of (P:=fun i (e : Ev) => w.cells? base (a.add (i * 5)) 5 = some e.cells) len fun i him => by
   obtain ⟨cs',hc,ht⟩:=hi i (by omega)
   rw [cells28] at hc
   obtain ⟨e,rfl⟩:=open_event ht
   exact ⟨e,hc⟩
  refine ⟨some a,len,cap,es,hcs,h1,by unfold maxLen at hm; omega,fun k r hr => ?_⟩
  rw [List.getElem?_map] at hr
  cases he : es[k]? with
  | none => rw [he] at hr; cases hr
  | some e =>
   rw [he] at hr
   simp only [Option.map_some,Option.some.injEq] at hr
   subst hr
   obtain ⟨_,hcl,hat⟩:=World.cells?_some (h2 k e he)
   have h0:=hat 0 (by omega)
   refine ⟨a,rfl,?_,fun j u hu => ?_⟩
   ·have hh:=World.block_lt_of_cell? w _ (h0.trans (show e.cells[0]? = some _ from rfl))
    rwa [add_block,add_block] at hh
   ·have hj : j < 5:=by
     have:=(List.getElem?_eq_some_iff.1 hu).1
     simpa [Ev.cells] using this
    rw [hat j hj]
    exact hu
set_option maxRecDepth 100000 in
theorem open_log {r : Reach} {b0 : Nat} {v : Value} {d : DataW H} {p : List MemPlace} (hv : Value.okWide Try.prog w r b0 26 v) (h : DataW.Trod enc Try.prog w base spare held 26 v d p) : ∃ (st z0 z1 : Int) (A : Option Addr) (len cap : Nat) (es : List Ev),v = .agg #[.int .i64 st,.int .i64 z0,.int .i64 z1,.slice A len cap] ∧ es.length = len ∧ len ≤ 9223372036854775807 ∧ EvsAt w w.heap.size A es:=by
 obtain ⟨cs,rfl,hsz⟩:=okWide_struct Try.underlying26 hv
 obtain ⟨l⟩:=cs
 rw [cells26] at hsz
 obtain ⟨fuel,hf⟩:=h
 obtain ⟨c0,c1,c2,c3,rfl⟩:=len4 (l:=l) hsz
 ·obtain ⟨xs,n,_,_,hl,hlen,hg⟩:=DataW.trod_struct Try.underlying26 hf
  have e0:=hg 0 _ rfl
  have e1:=hg 1 _ rfl
  have e2:=hg 2 _ rfl
  simp only [Sp1,Sp3,Sp2] at e0 e1 e2
  rw [cells3,List.getElem?_eq_getElem (by rw [hlen]; decide)] at e0
  rw [cells23,List.getElem?_eq_getElem (by rw [hlen]; decide)] at e1
  rw [cells24,List.getElem?_eq_getElem (by rw [hlen]; decide)] at e2
  simp only [Value.cells] at e0 e1 e2
  obtain ⟨st,hst,_⟩:=DataW.trod_int Try.underlying3 e0
  obtain ⟨z0,z1,hz⟩:=open_range e1
  obtain ⟨A,len,cap,es,hA,h1,h2,h3⟩:=open_events (v:=c3) (by simpa using e2)
  simp at hst hz
  exact ⟨st,z0,z1,A,len,cap,es,by rw [hst,hz.1,hz.2,hA],h1,h2,h3⟩
end
theorem cells29 : Try.prog.cellsOf 29 = 1:=by kernel_rfl
theorem cells50 : Try.prog.cellsOf 50 = 6:=by kernel_rfl
theorem len6 {l : List Value} (h : l.length = 6) : ∃ a b c d e f,l = [a,b,c,d,e,f]:=by
 match l,h with
 | [a,b,c,d,e,f],_ => exact ⟨a,b,c,d,e,f,rfl⟩
theorem row_sl {w : World} {a : Addr} {len : Nat} {zs : List Int} (hlz : len ≤ zs.length) (hcell : ∀ i,i < zs.length → w.cell? (a.add i) = some (.int .i64 (zs.getD i 0))) : (zs.take len).length = len ∧ Sl w w.heap.size 1 (some a) (ints (zs.take len)):=by
 have hlen : (zs.take len).length = len:=by simp; omega
 refine ⟨hlen,?_⟩
 intro k r hr
 have hk : k < (zs.take len).length:=by
  have:=(List.getElem?_eq_some_iff.1 hr).1
  simpa [ints] using this
 have hkl : k < len:=by rw [hlen] at hk; exact hk
 have hrr : r = [.int .i64 (zs.take len)[k]]:=by
  have h1 : (ints (zs.take len))[k]? = some [.int .i64 (zs.take len)[k]]:=by
   show ((zs.take len).map fun a => [Value.int .i64 a])[k]? = _
   rw [List.getElem?_map,List.getElem?_eq_getElem hk]
   rfl
  rw [h1] at hr
  exact (Option.some.inj hr).symm
 subst hrr
 have hc:=hcell k (by omega)
 refine ⟨a,rfl,by have h:=World.block_lt_of_cell? w _ hc; rwa [add_block] at h,fun j u hu => ?_⟩
 match j,hu with
 | 0,hu =>
  obtain rfl : Value.int .i64 (zs.take len)[k] = u:=by simpa using hu
  rw [Nat.mul_one,add_add,Nat.add_zero,hc]
  simp [List.getD,List.getElem?_eq_getElem (show k < zs.length by omega)]
 | j + 1,hu => simp at hu
section
variable {H : Type} {enc : TypeId × Value → H} {w : World} {base : Nat} {spare : Nat → Bool} {held : Bool}
theorem open_row {fuel : Nat} {v : Value} {x : DataW H × List MemPlace} (h : DataW.trod enc Try.prog w base spare held fuel 29 [v] = some x) : ∃ (A : Option Addr) (len cap : Nat) (l : List Int),v = .slice A len cap ∧ l.length = len ∧ len ≤ 9223372036854775807 ∧ Sl w w.heap.size 1 A (ints l):=by
 rcases open_ints Try.underlying29 Try.underlying3 cells3 h with ⟨hcs,_⟩ | ⟨a,len,cap,zs,hcs,_,hl,hm,hz,_,hcell,_⟩
 ·simp at hcs
  exact ⟨none,0,0,[],hcs,rfl,by omega,Sl.nil _ _ _ _⟩
 ·simp at hcs
  have hlz : len ≤ zs.length:=by rw [hz]; split <;> omega
  obtain ⟨h1,h2⟩:=row_sl hlz hcell
  exact ⟨some a,len,cap,zs.take len,hcs,h1,by unfold maxLen at hm; omega,h2⟩
set_option maxRecDepth 100000 in
theorem open_slip {r : Reach} {b0 : Nat} {v : Value} {d : DataW H} {p : List MemPlace} (hv : Value.okWide Try.prog w r b0 50 v) (h : DataW.Trod enc Try.prog w base spare held 50 v d p) : ∃ (FA : Option Addr) (fn fc : Nat) (BA : Option Addr) (bn bc : Nat) (fs bs d0 d1 : Int) (F B : List Int),v = .agg #[.slice FA fn fc,.slice BA bn bc,.int .i64 fs,.int .i64 bs,.int .i64 d0,.int .i64 d1] ∧ (F.length = fn ∧ fn ≤ 9223372036854775807 ∧ Sl w w.heap.size 1 FA (ints F)) ∧ B.length = bn ∧ bn ≤ 9223372036854775807 ∧ Sl w w.heap.size 1 BA (ints B):=by
 obtain ⟨cs,rfl,hsz⟩:=okWide_struct Try.underlying50 hv
 obtain ⟨l⟩:=cs
 rw [cells50] at hsz
 obtain ⟨fuel,hf⟩:=h
 obtain ⟨c0,c1,c2,c3,c4,c5,rfl⟩:=len6 (l:=l) hsz
 obtain ⟨xs,n,_,_,hl,hlen,hg⟩:=DataW.trod_struct Try.underlying50 hf
 have e0:=hg 0 _ rfl
 have e1:=hg 1 _ rfl
 have e2:=hg 2 _ rfl
 have e3:=hg 3 _ rfl
 have e4:=hg 4 _ rfl
 simp only [Sp1,Sp3,Sp2] at e0 e1 e2 e3 e4
 rw [cells29,List.getElem?_eq_getElem (by rw [hlen]; decide)] at e0 e1
 rw [cells3,List.getElem?_eq_getElem (by rw [hlen]; decide)] at e2 e3
 rw [cells23,List.getElem?_eq_getElem (by rw [hlen]; decide)] at e4
 simp only [Value.cells] at e0 e1 e2 e3 e4
 obtain ⟨FA,fn,fc,F,hF,f1,f2,f3⟩:=open_row (v:=c0) (by simpa using e0)
 obtain ⟨BA,bn,bc,B,hB,g1,g2,g3⟩:=open_row (v:=c1) (by simpa using e1)
 obtain ⟨fs,hfs,_⟩:=DataW.trod_int Try.underlying3 e2
 obtain ⟨bs,hbs,_⟩:=DataW.trod_int Try.underlying3 e3
 obtain ⟨d0,d1,hd⟩:=open_range e4
 simp at hfs hbs hd
 exact ⟨FA,fn,fc,BA,bn,bc,fs,bs,d0,d1,F,B,by rw [hF,hB,hfs,hbs,hd.1,hd.2],⟨f1,f2,f3⟩,g1,g2,g3⟩
set_option maxRecDepth 100000 in
theorem open_rng {r : Reach} {b0 : Nat} {v : Value} {d : DataW H} {p : List MemPlace} (hv : Value.okWide Try.prog w r b0 23 v) (h : DataW.Trod enc Try.prog w base spare held 23 v d p) : ∃ q0 q1 : Int,v = .agg #[.int .i64 q0,.int .i64 q1]:=by
 obtain ⟨cs,rfl,hsz⟩:=okWide_struct Try.underlying23 hv
 obtain ⟨l⟩:=cs
 obtain ⟨fuel,hf⟩:=h
 obtain ⟨a,b,he⟩:=open_range hf
 simp only [Value.cells] at he
 have : l = [.int .i64 a,.int .i64 b]:=by simpa using he
 exact ⟨a,b,by rw [this]⟩
end
end Go.Proofs.Ytgbogdckmfencaa.opened
