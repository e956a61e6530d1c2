/- The reference's sums: what its rows hold. -/
import Derived.Test.YtgbogdckmfencaaDr
import Derived.Test.YtgbogdckmfencaaPhM
import Derived.Test.YtgbogdckmfencaaLe
import Derived.Test.YtgbogdckmfencaaReachM
set_option linter.unusedSimpArgs false
set_option linter.unusedVariables false
namespace Go.Proofs.Ytgbogdckmfencaa
open Go Go.RowKit
theorem parr_made2 : madeCells #[.int .i64 0,.int .i64 0] (401 * 2) = parr 401 fun _ => (0,0):=by
 apply Array.ext
 ·simp [madeCells,parr_size]
 ·intro j h1 h2
  have hj : j < 802:=by simpa [madeCells] using h1
  have e1 : (parr 401 fun _ => ((0 : Int),(0 : Int)))[j] = .int .i64 0:=by
   rw [← Option.some_inj,← Array.getElem?_eq_getElem h2]
   rcases Nat.mod_two_eq_zero_or_one j with h | h
   ·exact parr_fst 401 _ (i:=j / 2) (by omega) (by omega)
   ·exact parr_snd 401 _ (i:=j / 2) (by omega) (by omega)
  rw [e1]
  simp only [madeCells,Array.getElem_map,Array.getElem_range]
  rcases Nat.mod_two_eq_zero_or_one j with h | h <;> simp [h]
theorem infoR : (Try.prog.info? 23).map (fun i => (i.zero,i.size,i.bytes)) = some (some (.agg #[.int .i64 0,.int .i64 0]),2,16):=by kernel_rfl
theorem make_rngs (w : World) : (Instr.makeSlice 39 (.int .i64 401) (.int .i64 401)).run Try.prog w = .ok (.slice (some ⟨w.heap.size,0,none⟩) 401 401) (w.alloc (.cells (parr 401 fun _ => (0,0)) 23)):=by
 obtain ⟨i0,hi,hz0,hz1,hz2⟩:=info_parts infoR
 have h:=run_make_n (P:=Try.prog) 39 23 i0 _ Try.underlying39 hi hz0 401 (by rw [hz2]; omega) (by omega) w
 rw [show ((401 : Nat) : Int) = 401 from rfl] at h
 rw [h]
 have e : madeCells (Value.cells (.agg #[.int .i64 0,.int .i64 0])) (401 * i0.size) = parr 401 fun _ => (0,0):=by rw [hz1]; exact parr_made2
 rw [e]
theorem parr_congr {m : Nat} {f g : Nat → Int × Int} (h : ∀ i,i < m → f i = g i) : parr m f = parr m g:=by
 apply Array.ext
 ·rw [parr_size,parr_size]
 ·intro j h1 h2
  have hj : j < 2 * m:=by rw [parr_size] at h1; exact h1
  rw [← Option.some_inj,← Array.getElem?_eq_getElem h1,← Array.getElem?_eq_getElem h2]
  rcases Nat.mod_two_eq_zero_or_one j with h0 | h0
  ·rw [parr_fst m f (i:=j / 2) (by omega) (by omega),parr_fst m g (i:=j / 2) (by omega) (by omega),h _ (by omega)]
  ·rw [parr_snd m f (i:=j / 2) (by omega) (by omega),parr_snd m g (i:=j / 2) (by omega) (by omega),h _ (by omega)]
def okS (z0 z1 : Int) (K : Nat → Int → Bool) (i : Nat) (y : Int) : Bool:=match i with
 | 0 => decide (z0 ≤ y) && decide (y ≤ z1)
 | j + 1 => K j y
def prS (z0 z1 : Int) (es : List Ev) (K : Nat → Int → Bool) (wt : Nat → Int → Int × Int) (i : Nat) (y : Int) : Int × Int:=match i with
 | 0 => (0,0)
 | j + 1 => smD z0 z1 es K wt j y
theorem smD_eq {z0 z1 : Int} {es : List Ev} {K : Nat → Int → Bool} {wt : Nat → Int → Int × Int} {i : Nat} {e : Ev} (he : es[i]? = some e) (z : Int) : smD z0 z1 es K wt i z = ((cov1 (((rngL (z - e.c1) (z - e.c0)).filter (okS z0 z1 K i)).map (prS z0 z1 es K wt i))).1 + (wt i z).1,(cov1 (((rngL (z - e.c1) (z - e.c0)).filter (okS z0 z1 K i)).map (prS z0 z1 es K wt i))).2 + (wt i z).2):=by
 cases i with
 | zero => rw [smD,he]; rfl
 | succ i => rw [smD,he]; rfl
theorem cov1_bd {b : Int} (hb : 0 ≤ b) {l : List (Int × Int)} (h : ∀ x ∈ l,Bd b x) : Bd b (cov1 l):=by
 by_cases h0 : l = []
 ·subst h0
  unfold Bd cov1
  dsimp only
  omega
 ·obtain ⟨⟨x,hx,h1⟩,⟨y,hy,h2⟩⟩:=cov1_at h0
  have a:=h x hx
  have c:=h y hy
  unfold Bd at *
  rw [h1,h2]
  exact ⟨a.1,a.2.1,c.2.2.1,c.2.2.2⟩
theorem smD_bd {z0 z1 : Int} {es : List Ev} {K : Nat → Int → Bool} {wt : Nat → Int → Int × Int} (hw : ∀ i z,Bd 100000 (wt i z)) : ∀ (i : Nat) (z : Int),Bd ((i + 1 : Int) * 100000) (smD z0 z1 es K wt i z):=by
 have key : ∀ (i : Nat) (z : Int),(∀ y,Bd ((i : Int) * 100000) (prS z0 z1 es K wt i y)) → Bd ((i + 1 : Int) * 100000) (smD z0 z1 es K wt i z):=by
  intro i z h
  cases he : es[i]? with
  | none =>
   have e0 : smD z0 z1 es K wt i z = (0,0):=by cases i <;> (rw [smD,he])
   rw [e0]
   unfold Bd
   dsimp only
   omega
  | some e =>
   rw [smD_eq he]
   have a:=cov1_bd (b:=(i : Int) * 100000) (by omega) (l:=((rngL (z - e.c1) (z - e.c0)).filter (okS z0 z1 K i)).map (prS z0 z1 es K wt i)) (fun x hx => by obtain ⟨y,_,rfl⟩:=List.mem_map.1 hx; exact h y)
   have c:=hw i z
   unfold Bd at *
   dsimp only
   omega
 intro i
 induction i with
 | zero => exact fun z => key 0 z (fun y => by show Bd _ ((0 : Int),(0 : Int)); unfold Bd; simp)
 | succ i ih => exact fun z => key (i + 1) z (fun y => by have:=ih y; show Bd _ (smD z0 z1 es K wt i y); simpa using this)
/-- A row of ranges: what there is at the start of event i. -/
def rowS (K : Nat → Int → Bool) (S : Nat → Int → Int × Int) (i : Nat) (p : Nat) : Int × Int:=match i with
 | 0 => (0,0)
 | j + 1 => if K j ((p : Int) - 200) = true then S j ((p : Int) - 200) else (0,0)
/-- And the row that is being filled. -/
def rowP (K : Nat → Int → Bool) (S : Nat → Int → Int × Int) (i p : Nat) (r : Nat) : Int × Int:=if r < p ∧ K i ((r : Int) - 200) = true then S i ((r : Int) - 200) else (0,0)
theorem rowP_zero (K : Nat → Int → Bool) (S : Nat → Int → Int × Int) (i : Nat) : (fun _ => (0,0)) = rowP K S i 0:=by
 funext r; unfold rowP; rw [if_neg (by omega)]
theorem rowP_skip {K : Nat → Int → Bool} {S : Nat → Int → Int × Int} {i p : Nat} (h : K i ((p : Int) - 200) = false) : rowP K S i p = rowP K S i (p + 1):=by
 funext r
 unfold rowP
 by_cases hr : r = p
 ·subst hr; rw [if_neg (by omega),if_neg (by rw [h]; simp)]
 ·have : (r < p) = (r < p + 1):=by apply propext; omega
  simp only [this]
theorem rowP_put {K : Nat → Int → Bool} {S : Nat → Int → Int × Int} {i p : Nat} (h : K i ((p : Int) - 200) = true) : upd (rowP K S i p) p (S i ((p : Int) - 200)) = rowP K S i (p + 1):=by
 funext r
 unfold upd rowP
 by_cases hr : r = p
 ·subst hr; rw [if_pos rfl,if_pos ⟨by omega,h⟩]
 ·rw [if_neg hr]
  have : (r < p) = (r < p + 1):=by apply propext; omega
  simp only [this]
theorem rowP_all (K : Nat → Int → Bool) (S : Nat → Int → Int × Int) (i r : Nat) (hr : r < 401) : rowP K S i 401 r = rowS K S (i + 1) r:=by
 unfold rowP
 show _ = if K i ((r : Int) - 200) = true then S i ((r : Int) - 200) else (0,0)
 by_cases h : K i ((r : Int) - 200) = true
 ·rw [if_pos ⟨hr,h⟩,if_pos h]
 ·rw [if_neg (fun e => h e.2),if_neg h]
theorem may_gB (st z0 z1 : Int) (es : List Ev) (gv zr : Int) (n i : Nat) (y : Int) : mayB (gB st z0 z1 es gv zr n) i y = knB st z0 z1 es gv zr n i y:=by
 unfold mayB gB knB
 by_cases h : -200 ≤ y ∧ y ≤ 200
 ·rw [btw_t h,Bool.true_and,show (((y + 200).toNat : Nat) : Int) - 200 = y by omega]
 ·rw [btw_f h,Bool.false_and]
  cases hf : fitB st z0 z1 es gv zr n (n - 1 - i) y with
  | false => rfl
  | true => exact absurd (fitB_bd hf) h
theorem filt_next (ok : Int → Bool) (f : Int → Int × Int) (lo : Int) (j : Nat) : ((upTo lo (j + 1)).filter ok).map f = ((upTo lo j).filter ok).map f ++ (if ok (lo + j) = true then [f (lo + j)] else []):=by
 rw [upTo_succ,List.filter_append,List.map_append]
 congr 1
 by_cases h : ok (lo + j) = true
 ·rw [if_pos h,List.filter_cons_of_pos h]; rfl
 ·rw [if_neg h,List.filter_cons_of_neg h]; rfl
theorem min_if (a b : Int) : (if b < a then b else a) = min a b:=by split <;> omega
theorem min_if2 (a b : Int) : (if a < b then a else b) = min a b:=by split <;> omega
theorem min_if3 (a b : Int) : (if a ≤ b then a else b) = min a b:=by split <;> omega
theorem max_if2 (a b : Int) : (if b < a then a else b) = max a b:=by split <;> omega
/-- What the reference's sums has in memory. -/
structure QI (w : World) (st z0 z1 : Int) (A : Option Addr) (n c : Nat) (es : List Ev) (FA : Option Addr) (fn fc : Nat) (BA : Option Addr) (bn bc : Nat) (fs bs d0 d1 : Int) (F B : List Int) (KA : Option Addr) (KC : Nat) (qk : Nat → Nat) (g : Nat → Nat → Bool) (wr : World) : Prop where
 ls : LS w st z0 z1 A n c es FA fn fc BA bn bc fs bs d0 d1 F B wr
 k5 : Bx wr (w.heap.size + 1 + 1) 96 #[.slice KA n KC]
 k6 : Bx wr (w.heap.size + 1 + 1 + 1) 23 #[.int .i64 0,.int .i64 0]
 gr : Grid wr 0 KA n qk g
structure RJ (w : World) (st z0 z1 : Int) (A : Option Addr) (n c : Nat) (es : List Ev) (FA : Option Addr) (fn fc : Nat) (BA : Option Addr) (bn bc : Nat) (fs bs d0 d1 : Int) (F B : List Int) (KA : Option Addr) (KC : Nat) (qk : Nat → Nat) (g : Nat → Nat → Bool) (q : Nat) (f1 : Nat → Int × Int) (q2 : Nat) (f2 : Nat → Int × Int) (b11 : Nat) (ec0 ec1 : Int) (wr : World) : Prop where
 qi : QI w st z0 z1 A n c es FA fn fc BA bn bc fs bs d0 d1 F B KA KC qk g wr
 kq : Bx wr q 23 (parr 401 f1)
 kq2 : Bx wr q2 23 (parr 401 f2)
 k11 : Bx wr b11 23 #[.int .i64 ec0,.int .i64 ec1]
section
variable {w wr x : World} {st z0 z1 : Int} {A : Option Addr} {n c : Nat} {es : List Ev} {FA : Option Addr} {fn fc : Nat} {BA : Option Addr} {bn bc : Nat} {fs bs d0 d1 : Int} {F B : List Int} {KA : Option Addr} {KC : Nat} {qk : Nat → Nat} {g : Nat → Nat → Bool} {q : Nat} {f1 : Nat → Int × Int} {q2 : Nat} {f2 : Nat → Int × Int} {b11 : Nat} {ec0 ec1 : Int}
theorem QI.bel (I : QI w st z0 z1 A n c es FA fn fc BA bn bc fs bs d0 d1 F B KA KC qk g wr) (h : Below wr.heap.size wr x) : QI w st z0 z1 A n c es FA fn fc BA bn bc fs bs d0 d1 F B KA KC qk g x:=⟨I.ls.bel h,I.k5.call h,I.k6.call h,I.gr.bel h⟩
theorem QI.al (I : QI w st z0 z1 A n c es FA fn fc BA bn bc fs bs d0 d1 F B KA KC qk g wr) (o : Obj) : QI w st z0 z1 A n c es FA fn fc BA bn bc fs bs d0 d1 F B KA KC qk g (wr.alloc o):=I.bel ((Below.refl _ _).alloc (Nat.le_refl _) o)
theorem QI.far (I : QI w st z0 z1 A n c es FA fn fc BA bn bc fs bs d0 d1 F B KA KC qk g wr) {r : Nat} {cs : Array Value} (k : Bx wr r 23 cs) (hr : w.heap.size + 1 + 1 + 1 < r) (j : Nat) (u : Value) : QI w st z0 z1 A n c es FA fn fc BA bn bc fs bs d0 d1 F B KA KC qk g (wr.setCell ⟨r,j,none⟩ u) :=
 ⟨I.ls.far (by omega) j u,I.k5.far (by show w.heap.size + 1 + 1 ≠ r; omega) u,I.k6.far (by show w.heap.size + 1 + 1 + 1 ≠ r; omega) u,I.gr.far k (by decide) (by decide) j u⟩
theorem RJ.bel (I : RJ w st z0 z1 A n c es FA fn fc BA bn bc fs bs d0 d1 F B KA KC qk g q f1 q2 f2 b11 ec0 ec1 wr) (h : Below wr.heap.size wr x) : RJ w st z0 z1 A n c es FA fn fc BA bn bc fs bs d0 d1 F B KA KC qk g q f1 q2 f2 b11 ec0 ec1 x:=⟨I.qi.bel h,I.kq.call h,I.kq2.call h,I.k11.call h⟩
theorem RJ.al (I : RJ w st z0 z1 A n c es FA fn fc BA bn bc fs bs d0 d1 F B KA KC qk g q f1 q2 f2 b11 ec0 ec1 wr) (o : Obj) : RJ w st z0 z1 A n c es FA fn fc BA bn bc fs bs d0 d1 F B KA KC qk g q f1 q2 f2 b11 ec0 ec1 (wr.alloc o):=I.bel ((Below.refl _ _).alloc (Nat.le_refl _) o)
theorem RJ.far (I : RJ w st z0 z1 A n c es FA fn fc BA bn bc fs bs d0 d1 F B KA KC qk g q f1 q2 f2 b11 ec0 ec1 wr) {r : Nat} {cs : Array Value} (k : Bx wr r 23 cs) (hr : w.heap.size + 1 + 1 + 1 < r) (h1 : q < r) (h2 : q2 < r) (h3 : b11 < r) (j : Nat) (u : Value) : RJ w st z0 z1 A n c es FA fn fc BA bn bc fs bs d0 d1 F B KA KC qk g q f1 q2 f2 b11 ec0 ec1 (wr.setCell ⟨r,j,none⟩ u) :=
 ⟨I.qi.far k hr j u,I.kq.far (by show q ≠ r; omega) u,I.kq2.far (by show q2 ≠ r; omega) u,I.k11.far (by show b11 ≠ r; omega) u⟩
end
end Go.Proofs.Ytgbogdckmfencaa
