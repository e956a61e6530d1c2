/- The reference's Best, for all arguments; tame. -/
import Derived.Test.YtgbogdckmfencaaRn
import Derived.Test.YtgbogdckmfencaaBg
set_option linter.unusedSimpArgs false
set_option linter.unusedVariables false
namespace Go.Proofs.Ytgbogdckmfencaa
open Go Go.RowKit
/-- The best event so far, as the reference looks for it. -/
def bR (M : Nat → Int) : Nat → Int × Int
 | 0 => (-1,0)
 | i + 1 => if (bR M i).1 < 0 ∨ M i < (bR M i).2 then ((i : Int),M i) else bR M i
theorem bR_bst {L : Nat → Int} {d : Int} : ∀ i : Nat,(∀ k,k < i + 1 → L k + d < 1073741824) → bR (fun k => L k + d) (i + 1) = bst L d (i + 1) ∧ 0 ≤ (bst L d (i + 1)).1:=by
 intro i
 induction i with
 | zero =>
  intro h
  have h0:=h 0 (by omega)
  have e1 : bR (fun k => L k + d) (0 + 1) = (0,L 0 + d):=if_pos (.inl (by show (-1 : Int) < 0; omega))
  have e2 : bst L d (0 + 1) = (0,L 0 + d):=if_pos h0
  rw [e1,e2]
  exact ⟨rfl,Int.le_refl _⟩
 | succ i ih =>
  intro h
  obtain ⟨a,b⟩:=ih fun k hk => h k (by omega)
  have e1 : bR (fun k => L k + d) (i + 1 + 1) = if (bR (fun k => L k + d) (i + 1)).1 < 0 ∨ L (i + 1) + d < (bR (fun k => L k + d) (i + 1)).2 then (((i + 1 : Nat) : Int),L (i + 1) + d) else bR (fun k => L k + d) (i + 1):=rfl
  have e2 : bst L d (i + 1 + 1) = if L (i + 1) + d < (bst L d (i + 1)).2 then (((i + 1 : Nat) : Int),L (i + 1) + d) else bst L d (i + 1):=rfl
  rw [e1,e2,a]
  by_cases hl : L (i + 1) + d < (bst L d (i + 1)).2
  ·rw [if_pos (.inr hl),if_pos hl]
   exact ⟨rfl,by dsimp only; omega⟩
  ·rw [if_neg (fun x => by rcases x with x | x; exact absurd x (by omega); exact hl x),if_neg hl]
   exact ⟨rfl,b⟩
/-- The greatest width so far. -/
def WM (T1 T2 : Nat → Int × Int) (i : Nat) (d : Int) (zs : List Int) : Int:=if zs = [] then 0 else widest T1 T2 i zs + d
theorem WM_snoc {T1 T2 : Nat → Int × Int} {i : Nat} {d : Int} (hd : 0 ≤ d) (zs : List Int) (z : Int) (h : 0 ≤ wideOf T1 T2 i z) : WM T1 T2 i d (zs ++ [z]) = max (WM T1 T2 i d zs) (wideOf T1 T2 i z + d):=by
 unfold WM
 rw [if_neg (by simp),widest_snoc]
 by_cases h0 : zs = []
 ·subst h0
  rw [if_pos rfl]
  have : widest T1 T2 i [] = 0:=rfl
  omega
 ·rw [if_neg h0]
  omega
def ZS (a c z : Int) : List Int:=rngL a (min (z - 1) c)
theorem ZS_start {a c z : Int} (h : z ≤ a) : ZS a c z = []:=by unfold ZS rngL; rw [show (min (z - 1) c - a + 1).toNat = 0 by omega]; rfl
theorem ZS_in {a c z : Int} (h1 : a ≤ z) (h2 : z ≤ c) : ZS a c (z + 1) = ZS a c z ++ [z]:=by
 unfold ZS rngL
 rw [show (min (z + 1 - 1) c - a + 1).toNat = (min (z - 1) c - a + 1).toNat + 1 by omega,List.range_succ,List.map_append]
 congr 1
 simp only [List.map_cons,List.map_nil,List.cons.injEq,and_true]
 omega
theorem ZS_out {a c z : Int} (h : ¬ (a ≤ z ∧ z ≤ c)) (hac : a ≤ c) : ZS a c (z + 1) = ZS a c z:=by
 by_cases h1 : z < a
 ·rw [ZS_start (by omega),ZS_start (by omega)]
 ·unfold ZS
  rw [show min (z + 1 - 1) c = min (z - 1) c by omega]
theorem ZS_all {a c : Int} (h : c ≤ 200) : ZS a c 201 = rngL a c:=by unfold ZS; rw [show min (201 - 1) c = c by omega]
theorem widest_le {T1 T2 : Nat → Int × Int} {i : Nat} {b : Int} (hb : 0 ≤ b) : ∀ zs : List Int,(∀ z ∈ zs,wideOf T1 T2 i z ≤ b) → 0 ≤ widest T1 T2 i zs ∧ widest T1 T2 i zs ≤ b:=by
 refine snoc_ind ?_ ?_
 ·intro _
  have : widest T1 T2 i [] = 0:=rfl
  omega
 ·intro zs z ih h
  have a:=ih fun x hx => h x (by simp [hx])
  have c:=h z (by simp)
  rw [widest_snoc]
  omega
theorem smF_path {st z0 z1 : Int} {es : List Ev} (h : LogOk st z0 z1 es) (hn : 1 ≤ es.length) {gv zr : Int} (hp : ∃ f,PPath st z0 z1 es gv zr (es.length - 1) f) : smF st z0 z1 es gv zr es.length = true:=by
 obtain ⟨f,p⟩:=hp
 obtain ⟨i,hi⟩ : ∃ i,es.length = i + 1:=⟨es.length - 1,by omega⟩
 have hv:=List.getElem?_eq_getElem (show i < es.length by omega)
 rw [hi]
 show (rngL (-200) 200).any (fitF st z0 z1 es gv zr i) = true
 rw [any_rng]
 rw [show es.length - 1 = i by omega] at p
 have a:=p.at_ i _ (Nat.le_refl _) hv
 unfold sLo sHi at a
 exact ⟨f i,by omega,by omega,(fitF_iff h.ev h.s1 h.r2 i _ (by omega)).2 ⟨f,p,rfl⟩⟩
theorem ds_le {fs bs d0 d1 : Int} (h1 : 0 ≤ d0) (h2 : d0 ≤ d1) (h3 : d1 ≤ 200) : dsLo fs bs d0 d1 ≤ dsHi fs bs d0 d1:=by
 have b1 : ∀ s,(drLo s = 0 ∨ drLo s = 1) ∧ (drHi s = 0 ∨ drHi s = 1) ∧ drLo s ≤ drHi s:=fun s => by
  unfold drLo drHi
  refine ⟨?_,?_,?_⟩ <;> (repeat' split) <;> omega
 obtain ⟨a1,a2,a3⟩:=b1 fs
 obtain ⟨c1,c2,c3⟩:=b1 bs
 unfold dsLo dsHi
 rcases a1 with e1 | e1 <;> rcases a2 with e2 | e2 <;> rcases c1 with e3 | e3 <;> rcases c2 with e4 | e4 <;> rw [e1,e2,e3,e4] <;> omega
/-- What the reference's Best has in memory. -/
structure BI (w : World) (st z0 z1 : Int) (A : Option Addr) (n c : Nat) (es : List Ev) (FA : Option Addr) (fn fc : Nat) (BA : Option Addr) (bn bc : Nat) (fs bs d0 d1 : Int) (F B : List Int) (b8 : Nat) (KA : Option Addr) (KC : Nat) (qk : Nat → Nat) (g : Nat → Nat → Bool) (wr : World) : Prop where
 ls : LS w st z0 z1 A n c es FA fn fc BA bn bc fs bs d0 d1 F B wr
 k8 : Bx wr b8 96 #[.slice KA n KC]
 gr : Grid wr 0 KA n qk g
theorem BI.bel {w wr x : World} {st z0 z1 : Int} {A : Option Addr} {n c : Nat} {es : List Ev} {FA : Option Addr} {fn fc : Nat} {BA : Option Addr} {bn bc : Nat} {fs bs d0 d1 : Int} {F B : List Int} {b8 : Nat} {KA : Option Addr} {KC : Nat} {qk : Nat → Nat} {g : Nat → Nat → Bool} (I : BI w st z0 z1 A n c es FA fn fc BA bn bc fs bs d0 d1 F B b8 KA KC qk g wr) (h : Below wr.heap.size wr x) : BI w st z0 z1 A n c es FA fn fc BA bn bc fs bs d0 d1 F B b8 KA KC qk g x:=⟨I.ls.bel h,I.k8.call h,I.gr.bel h⟩
theorem refBest_bad (st z0 z1 : Int) (A : Option Addr) (n c : Nat) (es : List Ev) (FA : Option Addr) (fn fc : Nat) (BA : Option Addr) (bn bc : Nat) (fs bs d0 d1 : Int) (F B : List Int) (w : World) (hn : n ≤ 9223372036854775807) (hl : es.length = n) (hA : EvsAt w w.heap.size A es) (hfn : fn ≤ 1000) (hbn : bn ≤ 1000) (hf : F.length = fn) (hb : B.length = bn) (hF : Sl w w.heap.size 1 FA (ints F)) (hBs : Sl w w.heap.size 1 BA (ints B)) (hck : ckS st z0 z1 es F B fs bs d0 d1 ≠ 0) :
  Calls Try.prog 39 #[.agg #[.int .i64 st,.int .i64 z0,.int .i64 z1,.slice A n c],.agg #[.slice FA fn fc,.slice BA bn bc,.int .i64 fs,.int .i64 bs,.int .i64 d0,.int .i64 d1]] w fun e w' => e = .returned (.tuple #[.int .i64 0,.int .i64 0,.int .i64 (ckS st z0 z1 es F B fs bs d0 d1)]) ∧ Below w.heap.size w w':=by
 have hc1 : (ckS st z0 z1 es F B fs bs d0 d1 != 0) = true:=by simpa using hck
 clear hck
 have HL:=Lib.hid hl
 have HF:=Lib.hid hf
 have HBn:=Lib.hid hb
 clear hl hf hb
 have I:=LS.start (st:=st) (z0:=z0) (z1:=z1) (n:=n) (c:=c) (fn:=fn) (fc:=fc) (bn:=bn) (bc:=bc) (fs:=fs) (bs:=bs) (d0:=d0) (d1:=d1) hA hF hBs
 obtain ⟨W,hW⟩ : ∃ x,(w.alloc (.cells #[.int .i64 st,.int .i64 z0,.int .i64 z1,.slice A n c] 26)).alloc (.cells #[.slice FA fn fc,.slice BA bn bc,.int .i64 fs,.int .i64 bs,.int .i64 d0,.int .i64 d1] 50) = x:=⟨_,rfl⟩
 rw [hW] at I
 have HW:=Lib.hid hW
 clear hW hA hF hBs
 obtain ⟨a0,a1,a2,a3,af,az⟩:=I.k1.four
 obtain ⟨s0,s1,s2,s3,s4,s5,sf,sz⟩:=I.k2.six
 go_enter Try.func39,Try.ntmps39
 go_upto_region 1 with fail
 rw [HW.out]
 go_wp2_with (first | (go_at_call 34; refine (refSlip_any st z0 z1 A n c es FA fn fc BA bn bc fs bs d0 d1 F B _ hn HL.out I.ev hfn hbn HF.out HBn.out I.sf I.sb).mono ?_; rintro e w1 ⟨rfl,hq⟩; replace I:=I.bel hq; clear hq a0 a1 a2 a3 af az s0 s1 s2 s3 s4 s5 sf sz; obtain ⟨a0,a1,a2,a3,af,az⟩:=I.k1.four; obtain ⟨s0,s1,s2,s3,s4,s5,sf,sz⟩:=I.k2.six) | fail)
 exact bodyPost_ret (v:=.tuple #[.int .i64 0,.int .i64 0,.int .i64 (ckS st z0 z1 es F B fs bs d0 d1)]) (by simp [results,Try.results39,go_sem]) rfl ⟨rfl,I.hb⟩
set_option maxRecDepth 100000 in
set_option maxHeartbeats 4000000 in
theorem refBest_none (st z0 z1 : Int) (A : Option Addr) (n c : Nat) (es : List Ev) (FA : Option Addr) (fn fc : Nat) (BA : Option Addr) (bn bc : Nat) (fs bs d0 d1 : Int) (F B : List Int) (w : World) (hn : n ≤ 9223372036854775807) (hl : es.length = n) (hA : EvsAt w w.heap.size A es) (hfn : fn ≤ 1000) (hbn : bn ≤ 1000) (hf : F.length = fn) (hb : B.length = bn) (hF : Sl w w.heap.size 1 FA (ints F)) (hBs : Sl w w.heap.size 1 BA (ints B)) (hck : ckS st z0 z1 es F B fs bs d0 d1 = 0) (m : Nat) (hm : Fits st z0 z1 es m) (hml : m < es.length) :
  Calls Try.prog 39 #[.agg #[.int .i64 st,.int .i64 z0,.int .i64 z1,.slice A n c],.agg #[.slice FA fn fc,.slice BA bn bc,.int .i64 fs,.int .i64 bs,.int .i64 d0,.int .i64 d1]] w fun e w' => e = .returned (.tuple #[.int .i64 0,.int .i64 0,.int .i64 9]) ∧ Below w.heap.size w w':=by
 have hlog:=ckL_zero (ckS_zero hck).1
 have hsf:=smF_fits hlog hm
 rw [decide_eq_false (by omega),hl] at hsf
 have HC:=Lib.hid hck
 have HSF:=Lib.hid hsf
 have HLOG:=Lib.hid hlog
 clear hck hsf hm hml
 have HL:=Lib.hid hl
 have HF:=Lib.hid hf
 have HBn:=Lib.hid hb
 clear hl hf hb
 have I:=LS.start (st:=st) (z0:=z0) (z1:=z1) (n:=n) (c:=c) (fn:=fn) (fc:=fc) (bn:=bn) (bc:=bc) (fs:=fs) (bs:=bs) (d0:=d0) (d1:=d1) hA hF hBs
 obtain ⟨W,hW⟩ : ∃ x,(w.alloc (.cells #[.int .i64 st,.int .i64 z0,.int .i64 z1,.slice A n c] 26)).alloc (.cells #[.slice FA fn fc,.slice BA bn bc,.int .i64 fs,.int .i64 bs,.int .i64 d0,.int .i64 d1] 50) = x:=⟨_,rfl⟩
 rw [hW] at I
 have HW:=Lib.hid hW
 clear hW hA hF hBs
 obtain ⟨a0,a1,a2,a3,af,az⟩:=I.k1.four
 obtain ⟨s0,s1,s2,s3,s4,s5,sf,sz⟩:=I.k2.six
 go_enter Try.func39,Try.ntmps39
 go_upto_region 1 with fail
 rw [HW.out]
 go_wp2_with (first | (go_at_call 34; refine (refSlip_any st z0 z1 A n c es FA fn fc BA bn bc fs bs d0 d1 F B _ hn HL.out I.ev hfn hbn HF.out HBn.out I.sf I.sb).mono ?_; rintro e w1 ⟨rfl,hq⟩; replace I:=I.bel hq; clear hq a0 a1 a2 a3 af az s0 s1 s2 s3 s4 s5 sf sz; obtain ⟨a0,a1,a2,a3,af,az⟩:=I.k1.four; obtain ⟨s0,s1,s2,s3,s4,s5,sf,sz⟩:=I.k2.six; rw [HC.out]) | (go_at_call 59; refine (learn_fwd st z0 z1 A n c es (-1) 0 n _ HL.out HLOG.out (Nat.le_refl _) (by omega) (by omega) (by omega) (by omega) I.ev).mono ?_; rintro r w2 ⟨⟨KA,KC,qk,rfl,hG⟩,hq⟩; rw [HSF.out]; have I2:=(I.bel hq).al (.cells #[.slice KA n KC] 96); clear hq a0 a1 a2 a3 af az s0 s1 s2 s3 s4 s5 sf sz) | fail)
 exact bodyPost_ret (v:=.tuple #[.int .i64 0,.int .i64 0,.int .i64 9]) (by simp [results,Try.results39,go_sem]) rfl ⟨rfl,I2.hb⟩
set_option maxRecDepth 100000 in
set_option maxHeartbeats 16000000 in
theorem refBest_ok (st z0 z1 : Int) (A : Option Addr) (n c : Nat) (es : List Ev) (FA : Option Addr) (fn fc : Nat) (BA : Option Addr) (bn bc : Nat) (fs bs d0 d1 : Int) (F B : List Int) (w : World) (hn : n ≤ 9223372036854775807) (hl : es.length = n) (hA : EvsAt w w.heap.size A es) (hfn : fn ≤ 1000) (hbn : bn ≤ 1000) (hf : F.length = fn) (hb : B.length = bn) (hF : Sl w w.heap.size 1 FA (ints F)) (hBs : Sl w w.heap.size 1 BA (ints B)) (hck : ckS st z0 z1 es F B fs bs d0 d1 = 0) (hfit : Fits st z0 z1 es es.length) :
  Calls Try.prog 39 #[.agg #[.int .i64 st,.int .i64 z0,.int .i64 z1,.slice A n c],.agg #[.slice FA fn fc,.slice BA bn bc,.int .i64 fs,.int .i64 bs,.int .i64 d0,.int .i64 d1]] w fun e w' => e = .returned (.tuple #[.int .i64 (bst (wideL st es F B (zst st z0 z1 es 0) n) (dsHi fs bs d0 d1 - dsLo fs bs d0 d1) n).1,.int .i64 (bst (wideL st es F B (zst st z0 z1 es 0) n) (dsHi fs bs d0 d1 - dsLo fs bs d0 d1) n).2,.int .i64 0]) ∧ Below w.heap.size w w':=by
 obtain ⟨hckl,hcf,hcb,hov,hs1,hs2,e1,e2,e3⟩:=ckS_zero hck
 have hlog:=ckL_zero hckl
 have hn1:=ckS_n1 hck
 rw [hl] at hn1
 have hn14 : n ≤ 14:=by rw [← hl]; exact hlog.n
 have hsf:=smF_fits hlog hfit
 rw [decide_eq_true rfl,hl] at hsf
 have hdb:=ds_small (fs:=fs) (bs:=bs) e1 (show d0 ≤ 200 by omega) (show 0 ≤ d1 by omega) e3
 obtain ⟨D1,hD1⟩ : ∃ x,dsLo fs bs d0 d1 = x:=⟨_,rfl⟩
 obtain ⟨D2,hD2⟩ : ∃ x,dsHi fs bs d0 d1 = x:=⟨_,rfl⟩
 have hdd : D1 ≤ D2:=by rw [← hD1,← hD2]; exact ds_le e1 e2 e3
 unfold Bd at hdb
 rw [hD1,hD2] at hdb
 dsimp only at hdb
 obtain ⟨T1,hT1⟩ : ∃ T,Tbe (wtc st es F B) (folc es (zst st z0 z1 es 0)) (zst st z0 z1 es 0) (n - 1) = T:=⟨_,rfl⟩
 obtain ⟨T2,hT2⟩ : ∃ T,Tab (wtc st es F B) (folc es (zst st z0 z1 es 0)) (zst st z0 z1 es 0) n n = T:=⟨_,rfl⟩
 have hmay : ∀ i z,i < n → mayB (gB st z0 z1 es (-1) 0 n) i z = decide ((zst st z0 z1 es 0 i).1 ≤ z ∧ z ≤ (zst st z0 z1 es 0 i).2):=fun i z hi => by
  have h:=gB_may hlog hfit (i:=i) (by omega) z
  rw [hl] at h
  exact h
 have hzg : ∀ i,i < n → -200 ≤ (zst st z0 z1 es 0 i).1 ∧ (zst st z0 z1 es 0 i).1 ≤ (zst st z0 z1 es 0 i).2 ∧ (zst st z0 z1 es 0 i).2 ≤ 200:=fun i hi => zst_good hlog hfit i (by omega)
 have hnet : ∀ i z,i < n → (zst st z0 z1 es 0 i).1 ≤ z → z ≤ (zst st z0 z1 es 0 i).2 → smF st z0 z1 es i z n = true ∧ (smA z0 z1 es (knB st z0 z1 es i z n) (wtc st es F B) n).2 - (smA z0 z1 es (knB st z0 z1 es i z n) (wtc st es F B) n).1 = wideOf T1 T2 i z ∧ (0 ≤ wideOf T1 T2 i z ∧ wideOf T1 T2 i z ≤ 2800000):=fun i z hi h1 h2 => by
  have a:=refNet_given hlog hfit F B (i:=i) (by omega) h1 h2
  have b:=smF_path hlog (by omega) a.1
  have c:=wide_ok hlog hfit F B (i:=i) (by omega) h1 h2
  have a2:=a.2
  rw [hl] at a2 b c
  rw [hT1,hT2] at a2 c
  exact ⟨b,a2,c⟩
 have hLw : ∀ i,i < n → wideL st es F B (zst st z0 z1 es 0) n i = widest T1 T2 i (rngL (zst st z0 z1 es 0 i).1 (zst st z0 z1 es 0 i).2):=fun i hi => by
  unfold wideL Lw
  rw [if_pos hi,hT1,hT2]
  rfl
 obtain ⟨L,hL⟩ : ∃ L,wideL st es F B (zst st z0 z1 es 0) n = L:=⟨_,rfl⟩
 rw [hL,hD1,hD2]
 rw [hL] at hLw
 obtain ⟨f,hf0⟩ : ∃ f,zst st z0 z1 es 0 = f:=⟨_,rfl⟩
 rw [hf0] at hmay hzg hnet hLw
 have hLb : ∀ i,i < n → 0 ≤ L i ∧ L i ≤ 2800000:=fun i hi => by
  rw [hLw i hi]
  exact widest_le (by omega) _ fun z hz => by have:=rngL_mem hz; exact (hnet i z hi this.1 this.2).2.2.2
 have hbst : bR (fun k => L k + (D2 - D1)) n = bst L (D2 - D1) n:=by
  obtain ⟨n1,hn1⟩ : ∃ r,n = r + 1:=⟨n - 1,by omega⟩
  rw [hn1]
  exact (bR_bst n1 fun k hk => by have:=hLb k (by omega); omega).1
 have HC:=Lib.hid hck
 have HSF:=Lib.hid hsf
 have HLOG:=Lib.hid hlog
 have HD:=Lib.hid (And.intro hD1 hD2)
 have HMAY:=Lib.hid hmay
 have HZG:=Lib.hid hzg
 have HNET:=Lib.hid hnet
 have HLW:=Lib.hid hLw
 have HLB:=Lib.hid hLb
 have HBST:=Lib.hid hbst
 clear hck hsf hlog hD1 hD2 hmay hzg hnet hLw hLb hbst hckl hcf hcb hov hs1 hs2 e1 e2 e3 hfit hT1 hT2 hL hf0
 have HL:=Lib.hid hl
 have HF:=Lib.hid hf
 have HBn:=Lib.hid hb
 clear hl hf hb
 have I:=LS.start (st:=st) (z0:=z0) (z1:=z1) (n:=n) (c:=c) (fn:=fn) (fc:=fc) (bn:=bn) (bc:=bc) (fs:=fs) (bs:=bs) (d0:=d0) (d1:=d1) hA hF hBs
 obtain ⟨W,hW⟩ : ∃ x,(w.alloc (.cells #[.int .i64 st,.int .i64 z0,.int .i64 z1,.slice A n c] 26)).alloc (.cells #[.slice FA fn fc,.slice BA bn bc,.int .i64 fs,.int .i64 bs,.int .i64 d0,.int .i64 d1] 50) = x:=⟨_,rfl⟩
 rw [hW] at I
 have HW:=Lib.hid hW
 clear hW hA hF hBs
 obtain ⟨a0,a1,a2,a3,af,az⟩:=I.k1.four
 obtain ⟨s0,s1,s2,s3,s4,s5,sf,sz⟩:=I.k2.six
 go_enter Try.func39,Try.ntmps39
 go_upto_region 1 with fail
 rw [HW.out]
 go_upto_region 8 with (first | (go_at_call 34; refine (refSlip_any st z0 z1 A n c es FA fn fc BA bn bc fs bs d0 d1 F B _ hn HL.out I.ev hfn hbn HF.out HBn.out I.sf I.sb).mono ?_; rintro e w1 ⟨rfl,hq⟩; replace I:=I.bel hq; clear hq a0 a1 a2 a3 af az s0 s1 s2 s3 s4 s5 sf sz; obtain ⟨a0,a1,a2,a3,af,az⟩:=I.k1.four; obtain ⟨s0,s1,s2,s3,s4,s5,sf,sz⟩:=I.k2.six; rw [HC.out]) | (go_at_call 59; refine (learn_fwd st z0 z1 A n c es (-1) 0 n _ HL.out HLOG.out (Nat.le_refl _) (by omega) (by omega) (by omega) (by omega) I.ev).mono ?_; rintro r w2 ⟨⟨KA,KC,qk,rfl,hG⟩,hq⟩; rw [HSF.out]) | fail)
 clear a0 a1 a2 a3 af az s0 s1 s2 s3 s4 s5 sf sz
 have I2 : BI w st z0 z1 A n c es FA fn fc BA bn bc fs bs d0 d1 F B w2.heap.size KA KC qk (gB st z0 z1 es (-1) 0 n) (w2.alloc (.cells #[.slice KA n KC] 96)):=⟨(I.bel hq).al _,Bx.new w2 96 #[.slice KA n KC],(Grid.zero hG).alloc _⟩
 obtain ⟨W2,hW2⟩ : ∃ x,w2.alloc (.cells #[.slice KA n KC] 96) = x:=⟨_,rfl⟩
 obtain ⟨b8,hb8⟩ : ∃ b,w2.heap.size = b:=⟨_,rfl⟩
 rw [hW2,hb8] at I2
 rw [hW2]
 rw [hb8]
 clear hW2 hb8 I hq hG
 go_wp2_with fail
 go_loopw [12,10,11] (fun v12 v10 v11 wr => ∃ (i : Nat) (ev wd : Int),i ≤ n ∧ v12 = .int .i64 i ∧ v10 = .int .i64 ev ∧ v11 = .int .i64 wd ∧ Hid (bR (fun k => L k + (D2 - D1)) i = (ev,wd)) ∧ BI w st z0 z1 A n c es FA fn fc BA bn bc fs bs d0 d1 F B b8 KA KC qk (gB st z0 z1 es (-1) 0 n) wr) (fun v12 _ _ _ => n - (intOf v12).toNat)
 case atStart => exact ⟨0,-1,0,by omega,rfl,rfl,rfl,Lib.hid rfl,I2⟩
 case round =>
  clear I2
  obtain ⟨w3,rfl⟩ : ∃ x,x = wr:=⟨_,rfl⟩
  obtain ⟨i,ev,wd,hi,rfl,rfl,rfl,hbr,I⟩:=hrel
  obtain ⟨a0,a1,a2,a3,af,az⟩:=I.ls.k1.four
  by_cases hin : i < n
  ·have hzi:=HZG.out i hin
   have hmi:=fun z => HMAY.out i z hin
   have hni:=fun z => HNET.out i z hin
   have hli:=HLW.out i hin
   have hlb:=HLB.out i hin
   obtain ⟨a,ha⟩ : ∃ a,(f i).1 = a:=⟨_,rfl⟩
   obtain ⟨c2,hc2⟩ : ∃ a,(f i).2 = a:=⟨_,rfl⟩
   rw [ha,hc2] at hzi hli
   simp only [ha,hc2] at hmi hni
   have HMI:=Lib.hid hmi
   have HNI:=Lib.hid hni
   have HLI:=Lib.hid hli
   clear ha hc2 hmi hni hli
   go_wp2_with fail
   clear a0 a1 a2 a3 af az
   go_loopw [14,13] (fun v14 v13 wr => ∃ (z m : Int),v14 = .int .i64 z ∧ -200 ≤ z ∧ z ≤ 201 ∧ v13 = .int .i64 m ∧ Hid (m = WM T1 T2 i (D2 - D1) (ZS a c2 z)) ∧ (0 ≤ m ∧ m ≤ 3000000) ∧ BI w st z0 z1 A n c es FA fn fc BA bn bc fs bs d0 d1 F B b8 KA KC qk (gB st z0 z1 es (-1) 0 n) wr) (fun v14 _ _ => (201 - intOf v14).toNat)
   case atStart => exact ⟨-200,0,rfl,by omega,by omega,rfl,Lib.hid (by rw [ZS_start (by omega)]; rfl),by omega,I⟩
   case round =>
    clear I
    obtain ⟨w4,rfl⟩ : ∃ x,x = wr:=⟨_,rfl⟩
    obtain ⟨z,m,rfl,hz1,hz2,rfl,hm,hmb,I⟩:=hrel
    by_cases hz : z ≤ 200
    ·have hmay:=may_any 0 KA n KC qk (gB st z0 z1 es (-1) 0 n) i z w4 I.gr hn14 hin (by omega) (by omega)
     rw [HMI.out z] at hmay
     obtain ⟨a0,af,az⟩:=I.k8.one
     by_cases hin2 : a ≤ z ∧ z ≤ c2
     ·rw [decide_eq_true hin2] at hmay
      have HM:=Lib.hid hmay
      obtain ⟨q1,q2,q3⟩:=HNI.out z hin2.1 hin2.2
      obtain ⟨A1,hA1⟩ : ∃ x,(smA z0 z1 es (knB st z0 z1 es i z n) (wtc st es F B) n).1 = x:=⟨_,rfl⟩
      obtain ⟨A2,hA2⟩ : ∃ x,(smA z0 z1 es (knB st z0 z1 es i z n) (wtc st es F B) n).2 = x:=⟨_,rfl⟩
      have hAb:=smA_bd (z0:=z0) (z1:=z1) (es:=es) (K:=knB st z0 z1 es i z n) (wtc_bd HLOG.out F B) hn14 hn1
      unfold Bd at hAb
      rw [hA1,hA2] at q2 hAb
      have HSM:=Lib.hid (show smA z0 z1 es (knB st z0 z1 es i z n) (wtc st es F B) n = (A1,A2) by rw [← hA1,← hA2])
      have HQ1:=Lib.hid q1
      have hstep : Hid (max m (A2 + D2 - (A1 + D1)) = WM T1 T2 i (D2 - D1) (ZS a c2 (z + 1))):=by
       unfold Hid
       rw [ZS_in hin2.1 hin2.2,WM_snoc (by omega) _ _ q3.1,← hm.out]
       congr 1
       omega
      have hw1 : IntKind.i64.wrap (A2 + D2 - (A1 + D1)) = A2 + D2 - (A1 + D1):=IntWalk.i64_in _ (by omega)
      have hmb2 : A2 + D2 - (A1 + D1) ≤ 3000000:=by omega
      clear hmay q1 q2 q3 hA1 hA2 hAb
      obtain ⟨l0,l1,l2,l3,lf,lz⟩:=I.ls.k1.four
      obtain ⟨s0,s1,s2,s3,s4,s5,sf,sz⟩:=I.ls.k2.six
      go_upto_region 17 with (first
       | (go_at_call 85; refine HM.out.mono ?_; rintro r y1 ⟨rfl,hq⟩; replace I:=I.bel hq; clear hq a0 af az l0 l1 l2 l3 lf lz s0 s1 s2 s3 s4 s5 sf sz; obtain ⟨l0,l1,l2,l3,lf,lz⟩:=I.ls.k1.four; obtain ⟨s0,s1,s2,s3,s4,s5,sf,sz⟩:=I.ls.k2.six)
       | (go_at_call 72; refine (refnet_any st z0 z1 A n c es FA fn fc BA bn bc fs bs d0 d1 F B i z A1 A2 D1 D2 true _ hn HL.out I.ls.ev hfn hbn HF.out HBn.out I.ls.sf I.ls.sb HC.out (by omega) (by omega) (by omega) (by omega) HQ1.out HSM.out HD.out.1 HD.out.2).mono ?_; rintro r y2 ⟨rfl,hq⟩; simp only [if_true])
       | fail)
      clear l0 l1 l2 l3 lf lz s0 s1 s2 s3 s4 s5 sf sz
      have hBx:=hq.alloc hq.size (.cells #[.int .i64 (A1 + D1),.int .i64 (A2 + D2)] 23)
      have I5:=I.bel hBx
      have k15:=Bx.new y2 23 #[.int .i64 (A1 + D1),.int .i64 (A2 + D2)]
      obtain ⟨x5,hx5⟩ : ∃ x,y2.alloc (.cells #[.int .i64 (A1 + D1),.int .i64 (A2 + D2)] 23) = x:=⟨_,rfl⟩
      obtain ⟨b15,hb15⟩ : ∃ b,y2.heap.size = b:=⟨_,rfl⟩
      rw [hx5] at I5 k15 ⊢
      rw [hb15] at k15 ⊢
      clear hx5 hb15 hBx hq I
      obtain ⟨m0,m1,mf,mz⟩:=k15.two
      go_wp2_with fail
      all_goals go_roundw
      all_goals first
       | exact ⟨z + 1,max m (A2 + D2 - (A1 + D1)),rfl,by omega,by omega,by first | rfl | (congr 1; omega),hstep,by omega,I5⟩
       | (simp [intOf]; omega)
       | trace_state
     ·rw [decide_eq_false hin2] at hmay
      have HM:=Lib.hid hmay
      clear hmay
      go_wp2_with (first | (go_at_call 85; refine HM.out.mono ?_; rintro r y1 ⟨rfl,hq⟩) | fail)
      go_roundw
      case rel => exact ⟨z + 1,m,rfl,by omega,by omega,rfl,Lib.hid (by rw [ZS_out hin2 hzi.2.1]; exact hm.out),hmb,I.bel hq⟩
      case measure => simp [intOf]; omega
    ·obtain rfl : z = 201:=by omega
     have hme : m = L i + (D2 - D1):=by
      have h:=hm.out
      rw [ZS_all hzi.2.2] at h
      unfold WM at h
      rw [if_neg (rngL_ne hzi.2.1)] at h
      rw [h,HLI.out]
     have hnx : Hid (bR (fun k => L k + (D2 - D1)) (i + 1) = if ev < 0 ∨ m < wd then ((i : Int),m) else (ev,wd)):=by
      unfold Hid
      show (if (bR (fun k => L k + (D2 - D1)) i).1 < 0 ∨ L i + (D2 - D1) < (bR (fun k => L k + (D2 - D1)) i).2 then ((i : Int),L i + (D2 - D1)) else bR (fun k => L k + (D2 - D1)) i) = _
      rw [hbr.out,hme]
     clear hme
     by_cases h1 : ev < 0
     ·go_wp2_with fail
      go_roundw
      case rel => exact ⟨i + 1,i,m,by omega,by go_num,rfl,rfl,Lib.hid (by rw [hnx.out,if_pos (.inl h1)]),I⟩
      case measure => simp [intOf]; omega
     ·by_cases h2 : m < wd
      ·go_wp2_with fail
       go_roundw
       case rel => exact ⟨i + 1,i,m,by omega,by go_num,rfl,rfl,Lib.hid (by rw [hnx.out,if_pos (.inr h2)]),I⟩
       case measure => simp [intOf]; omega
      ·go_wp2_with fail
       go_roundw
       case rel => exact ⟨i + 1,ev,wd,by omega,by go_num,rfl,rfl,Lib.hid (by rw [hnx.out,if_neg (fun x => by rcases x with x | x; exact h1 x; exact h2 x)]),I⟩
       case measure => simp [intOf]; omega
  ·have hni : n = i:=by omega
   subst hni
   have hfin : bst L (D2 - D1) n = (ev,wd):=by rw [← HBST.out]; exact hbr.out
   go_wp2_with fail
   exact bodyPost_ret (v:=.tuple #[.int .i64 ev,.int .i64 wd,.int .i64 0]) (by simp [results,Try.results39,go_sem]) rfl ⟨by rw [hfin],I.ls.hb⟩
end Go.Proofs.Ytgbogdckmfencaa
