/- BridgeTogether: two slips put together. -/
import Derived.Test.YtgbogdckmfencaaKp
import Derived.Test.YtgbogdckmfencaaMa
import Derived.Test.YtgbogdckmfencaaAk
import Derived.Deep.CutBlock
set_option linter.unusedSimpArgs false
set_option linter.unusedVariables false
namespace Go.Proofs.Ytgbogdckmfencaa
open Go Go.RowKit
theorem tog_nets (st z0 z1 : Int) (EA : Option Addr) (k EC : Nat) (es : List Ev) (fa : Addr) (fn fc : Nat) (ba : Addr) (bn bc i m : Nat) (d0 d1 : Int) (F B l : List Int) (j : Nat) (Y : World) (hck : ckL st z0 z1 es = 0) (hfit : Fits st z0 z1 es k) (hel : es.length = k) (hk14 : k ≤ 14) (hat : AtOk es es.length l) (hsp : SpOk l 4 j F B) (hfn : F.length = fn) (hbn : B.length = bn) (h2 : 2 ≤ fn) (h3 : 0 ≤ d0) (h4 : d0 ≤ d1) (h5 : d1 ≤ 200) (hi1 : 1 ≤ i) (hi2 : i < fn) (hm1 : 1 ≤ m) (hm2 : m < bn) (hE : EvsAt Y Y.heap.size EA es) (hF : Sl Y Y.heap.size 1 (some fa) (ints F)) (hB : Sl Y Y.heap.size 1 (some ba) (ints B)) :
    ∃ N P R : Int × Int, (∀ (W : World), Below Y.heap.size Y W → Calls Try.prog 29 #[.agg #[.int .i64 st, .int .i64 z0, .int .i64 z1, .slice EA k EC], .agg #[.slice (some fa) fn fc, .slice (some ba) bn bc, .int .i64 0, .int .i64 0, .int .i64 d0, .int .i64 d1]] W fun e w' => e = .returned (.tuple #[.agg #[.int .i64 N.1, .int .i64 N.2], .int .i64 0]) ∧ Below W.heap.size W w') ∧
      (∀ (W : World), Below Y.heap.size Y W → Calls Try.prog 29 #[.agg #[.int .i64 st, .int .i64 z0, .int .i64 z1, .slice EA k EC], .agg #[.slice (some fa) i fc, .slice (some ba) m bc, .int .i64 0, .int .i64 0, .int .i64 d0, .int .i64 d1]] W fun e w' => e = .returned (.tuple #[.agg #[.int .i64 P.1, .int .i64 P.2], .int .i64 0]) ∧ Below W.heap.size W w') ∧
      (∀ (W : World), Below Y.heap.size Y W → Calls Try.prog 29 #[.agg #[.int .i64 st, .int .i64 z0, .int .i64 z1, .slice EA k EC], .agg #[.slice (some (fa.add i)) (fn - i) (fc - i), .slice (some (ba.add m)) (bn - m) (bc - m), .int .i64 0, .int .i64 0, .int .i64 d0, .int .i64 d1]] W fun e w' => e = .returned (.tuple #[.agg #[.int .i64 R.1, .int .i64 R.2], .int .i64 0]) ∧ Below W.heap.size W w') ∧
      (P.1 + R.1 ≤ N.1 ∧ N.2 ≤ P.2 + R.2) ∧ Bd 1400000 P ∧ Bd 1400000 R := by
  have hfl := hsp.fl
  have hbl := hsp.bl
  have hs0 : ckS st z0 z1 es F B 0 0 d0 d1 = 0 := ckS_made hck hat hsp (by omega) (by omega) (by omega) (by omega) (by omega) (by omega) (by omega) (by omega) h4 (by omega)
  have lft : (F.take i).length = i := by rw [List.length_take, hfn]; omega
  have lbt : (B.take m).length = m := by rw [List.length_take, hbn]; omega
  have lfd : (F.drop i).length = fn - i := by rw [List.length_drop, hfn]
  have lbd : (B.drop m).length = bn - m := by rw [List.length_drop, hbn]
  have hs1 : ckS st z0 z1 es (F.take i) (B.take m) 0 0 d0 d1 = 0 := ckS_made hck hat (hsp.takeDrop i m).1 (by omega) (by omega) (by omega) (by omega) (by omega) (by omega) (by omega) (by omega) h4 (by omega)
  have hs2 : ckS st z0 z1 es (F.drop i) (B.drop m) 0 0 d0 d1 = 0 := ckS_made hck hat (hsp.takeDrop i m).2 (by omega) (by omega) (by omega) (by omega) (by omega) (by omega) (by omega) (by omega) h4 (by omega)
  have hlog := ckL_zero hck
  have hfit' : Fits st z0 z1 es es.length := by rw [hel]; exact hfit
  have he1 : 1 ≤ es.length := by
    have := (hat.mem _ (List.mem_of_mem_take (hsp.fm (F[0]'(by omega)) (List.getElem_mem _)))).1
    have h1 := this.1
    have h2 := this.2.1
    omega
  have hsum := net_sum hlog hfit' he1 (List.take_append_drop i F).symm (List.take_append_drop m B).symm hsp.ap (asc_apart hsp.fa i) (asc_apart hsp.ba m)
  have b1 := net_small hlog hfit' he1 (F.take i) (B.take m)
  have b2 := net_small hlog hfit' he1 (F.drop i) (B.drop m)
  rw [hel] at hsum b1 b2
  have hz1 : dsLo 0 0 d0 d1 = 0 := by unfold dsLo drLo drHi; simp
  have hz2 : dsHi 0 0 d0 d1 = 0 := by unfold dsHi drLo drHi; simp
  refine ⟨_, _, _, fun W hW => ?_, fun W hW => ?_, fun W hW => ?_, hsum, b1, b2⟩
  · have := net_ok st z0 z1 EA k EC es (some fa) fn fc (some ba) bn bc 0 0 d0 d1 F B W (by omega) hel ((Sl.below hE hW).more hW.size) (by omega) (by omega) hfn hbn ((hF.below hW).more hW.size) ((hB.below hW).more hW.size) hs0 hfit
    rw [hz1, hz2, Int.add_zero, Int.add_zero] at this
    exact this
  · have := net_ok st z0 z1 EA k EC es (some fa) i fc (some ba) m bc 0 0 d0 d1 (F.take i) (B.take m) W (by omega) hel ((Sl.below hE hW).more hW.size) (by omega) (by omega) lft lbt ((sl_take1 (hF.below hW) i).more hW.size) ((sl_take1 (hB.below hW) m).more hW.size) hs1 hfit
    rw [hz1, hz2, Int.add_zero, Int.add_zero] at this
    exact this
  · have := net_ok st z0 z1 EA k EC es (some (fa.add i)) (fn - i) (fc - i) (some (ba.add m)) (bn - m) (bc - m) 0 0 d0 d1 (F.drop i) (B.drop m) W (by omega) hel ((Sl.below hE hW).more hW.size) (by omega) (by omega) lfd lbd ((sl_drop (hF.below hW) i).more hW.size) ((sl_drop (hB.below hW) m).more hW.size) hs2 hfit
    rw [hz1, hz2, Int.add_zero, Int.add_zero] at this
    exact this
set_option maxRecDepth 100000 in
set_option maxHeartbeats 8000000 in
theorem together_run (A : Option Addr) (n c : Nat) (L : List Int) (w : World) (hn : n ≤ 9000000000000000000) (hl : L.length = n) (hA : Sl w w.heap.size 1 A (ints L)) : Calls Try.prog 13 #[.slice A n c] w fun e w' => e = .returned (.bool true) ∧ Below w.heap.size w w' := by
  have HL := Lib.hid hl
  clear hl
  go_enter Try.func13, Try.ntmps13
  go_upto_region 3 with (first
    | (go_at_call 16; refine (feedOf_any A n c L _ hn HL.out hA).mono ?_; rintro e w1 ⟨⟨g, rfl, hg0, hfd⟩, hb1⟩)
    | (go_at_call 15; refine (logOf_any g 12 60 false _ hfd (by omega) (by omega) (by omega) (by omega)).mono ?_; rintro e w2 ⟨st, z0, z1, ts, z, ev, zv, nv, rfl, ⟨hs1, hs2, -, hz0, hz01, hz1⟩, hmd, hlen, hoe, hoz, hon, -, hfd2, hgr2⟩; obtain ⟨EA, EC, rfl⟩ := own_shape hoe; obtain ⟨ZA, ZC, rfl⟩ := own_shape hoz; obtain ⟨NA, NC, rfl⟩ := own_shape hon)
    | fail)
  have hBw : Below w.heap.size w w2 := hb1.grown hgr2 hb1.size (fun k e => by cases e; exact hg0)
  have hgl2 := hfd2.lt
  obtain ⟨k, hk⟩ : ∃ k, ts.length = k := ⟨_, rfl⟩
  have hck := hmd.ck hs1 (by omega) hz0 hz01 hz1 (by omega) (by omega)
  have hfit := hmd.fit hs1 hz0 hz1 (by omega) (by omega)
  rw [hk] at hoe hlen hfit ⊢
  have hel : (evsOf ts).length = k := by rw [← hk]; simp [evsOf]
  obtain ⟨es, hes⟩ : ∃ x, evsOf ts = x := ⟨_, rfl⟩
  rw [hes] at hoe hck hfit hel
  have hO0 := ((ownsRow_up (b' := 0) hoe (fun q e => Nat.zero_le _)).alloc (.cells #[.int .i64 st, .int .i64 z0, .int .i64 z1, .slice EA k EC] 26)).alloc (.cells #[.slice ZA k ZC, .slice NA k NC] 32)
  have hE0 : EvsAt ((w2.alloc (.cells #[.int .i64 st, .int .i64 z0, .int .i64 z1, .slice EA k EC] 26)).alloc (.cells #[.slice ZA k ZC, .slice NA k NC] 32)) ((w2.alloc (.cells #[.int .i64 st, .int .i64 z0, .int .i64 z1, .slice EA k EC] 26)).alloc (.cells #[.slice ZA k ZC, .slice NA k NC] 32)).heap.size EA es := (((own_evs2 hoe hel).alloc (Nat.le_refl _) _).alloc (by simp) _).more (by simp; omega)
  have hf0 : Fd g ((w2.alloc (.cells #[.int .i64 st, .int .i64 z0, .int .i64 z1, .slice EA k EC] 26)).alloc (.cells #[.slice ZA k ZC, .slice NA k NC] 32)) := (hfd2.alloc _).alloc _
  have kL0 := (Bx.new w2 26 #[.int .i64 st, .int .i64 z0, .int .i64 z1, .slice EA k EC]).alloc (.cells #[.slice ZA k ZC, .slice NA k NC] 32)
  have hB0 := (hBw.alloc hBw.size (.cells #[.int .i64 st, .int .i64 z0, .int .i64 z1, .slice EA k EC] 26)).alloc (by have := hBw.size; simp; omega) (.cells #[.slice ZA k ZC, .slice NA k NC] 32)
  obtain ⟨V0, hV0⟩ : ∃ V, (w2.alloc (.cells #[.int .i64 st, .int .i64 z0, .int .i64 z1, .slice EA k EC] 26)).alloc (.cells #[.slice ZA k ZC, .slice NA k NC] 32) = V := ⟨_, rfl⟩
  rw [hV0] at hO0 hE0 hf0 kL0 hB0 ⊢
  obtain ⟨bL, hbL⟩ : ∃ b, w2.heap.size = b := ⟨_, rfl⟩
  have hgL : g ≠ bL := by omega
  rw [hbL] at kL0 ⊢
  have HCK := Lib.hid hck
  have HFIT := Lib.hid hfit
  have HEL := Lib.hid hel
  have hk14 : k ≤ 14 := by omega
  clear hoe hoz hon hfd hgr2 hmd hV0 hbL hes hk hck hfit hel hBw hfd2 hgl2 hb1
  obtain ⟨l0, l1, l2, l3, lf, lz⟩ := kL0.four
  go_upto_region 4 with (first
    | (go_at_call 26; refine (slipOf_any g st z0 z1 EA k EC es 4 _ hf0 HEL.out hk14 hE0 (by omega) (by omega)).mono ?_; rintro e V ⟨FA, fn, fc, BA, bn, bc, fs, bs, d0, d1, F, B, l, j, rfl, hFn, hBn, hF, hBs, ⟨hfc, hbc⟩, hat, hsp, hfs, hbs, dr1, dr2, dr3, hfd, hgr⟩)
    | fail)
  have hE : EvsAt V V.heap.size EA es := by
    refine own_evs2 (hO0.kept hgr (.inr fun hk => ?_)) HEL.out
    obtain ⟨y, _, _, hy⟩ := hf0
    exact own_bx hO0 hy (by decide) hk.symm
  have kLV := kL0.grown hgr (by simpa using Ne.symm hgL)
  have hBV : Below w.heap.size w V := hB0.grown hgr hB0.size (fun k e => by cases e; exact hg0)
  have hbV := kLV.lt
  have HFN := Lib.hid hFn
  have HBN := Lib.hid hBn
  clear hO0 hE0 hf0 kL0 hB0 hgr l0 l1 l2 l3 lf lz hFn hBn
  have kS0 := Bx.new V 50 #[.slice FA fn fc, .slice BA bn bc, .int .i64 fs, .int .i64 bs, .int .i64 d0, .int .i64 d1]
  obtain ⟨s0, s1, s2, s3, s4, s5, sf, sz⟩ := kS0.six
  clear kS0
  by_cases hff : (fn : Int) < 2
  · go_wp2_with (first | (go_at_call 14; refine (awake_any _).mono ?_; rintro e x7 ⟨rfl, hq7⟩) | fail)
    go_ret
    exact ⟨rfl, (hBV.alloc hBV.size _).trans (hq7.mono (by have := hBV.size; simp; omega))⟩
  by_cases hbb : (bn : Int) < 2
  · go_wp2_with (first | (go_at_call 14; refine (awake_any _).mono ?_; rintro e x7 ⟨rfl, hq7⟩) | fail)
    go_ret
    exact ⟨rfl, (hBV.alloc hBV.size _).trans (hq7.mono (by have := hBV.size; simp; omega))⟩
  have hf2 : 2 ≤ fn := by omega
  have hfn4 : fn ≤ 4 := by have := hsp.fl; rw [HFN.out] at this; omega
  have hbn4 : bn ≤ 4 := by have := hsp.bl; rw [HBN.out] at this; omega
  have hb2 : 2 ≤ bn := by omega
  go_upto_region 7 with fail
  clear s0 s1 s2 s3 s4 s5 sf sz
  have hgV := hfd.lt
  have kX := Bx.new V 50 #[.slice FA fn fc, .slice BA bn bc, .int .i64 0, .int .i64 0, .int .i64 d0, .int .i64 d1]
  have hBX : Below w.heap.size w (V.alloc (.cells #[.slice FA fn fc, .slice BA bn bc, .int .i64 0, .int .i64 0, .int .i64 d0, .int .i64 d1] 50)) := hBV.alloc hBV.size _
  have hfX : Fd g (V.alloc (.cells #[.slice FA fn fc, .slice BA bn bc, .int .i64 0, .int .i64 0, .int .i64 d0, .int .i64 d1] 50)) := hfd.alloc _
  have kLX := kLV.alloc (.cells #[.slice FA fn fc, .slice BA bn bc, .int .i64 0, .int .i64 0, .int .i64 d0, .int .i64 d1] 50)
  have hEX := (hE.alloc (Nat.le_refl _) (.cells #[.slice FA fn fc, .slice BA bn bc, .int .i64 0, .int .i64 0, .int .i64 d0, .int .i64 d1] 50)).more (B' := (V.alloc (.cells #[.slice FA fn fc, .slice BA bn bc, .int .i64 0, .int .i64 0, .int .i64 d0, .int .i64 d1] 50)).heap.size) (by simp)
  have hFX := (hF.alloc (Nat.le_refl _) (.cells #[.slice FA fn fc, .slice BA bn bc, .int .i64 0, .int .i64 0, .int .i64 d0, .int .i64 d1] 50)).more (B' := (V.alloc (.cells #[.slice FA fn fc, .slice BA bn bc, .int .i64 0, .int .i64 0, .int .i64 d0, .int .i64 d1] 50)).heap.size) (by simp)
  have hBsX := (hBs.alloc (Nat.le_refl _) (.cells #[.slice FA fn fc, .slice BA bn bc, .int .i64 0, .int .i64 0, .int .i64 d0, .int .i64 d1] 50)).more (B' := (V.alloc (.cells #[.slice FA fn fc, .slice BA bn bc, .int .i64 0, .int .i64 0, .int .i64 d0, .int .i64 d1] 50)).heap.size) (by simp)
  obtain ⟨X, hX⟩ : ∃ X, V.alloc (.cells #[.slice FA fn fc, .slice BA bn bc, .int .i64 0, .int .i64 0, .int .i64 d0, .int .i64 d1] 50) = X := ⟨_, rfl⟩
  rw [hX] at kX hBX hfX kLX hEX hFX hBsX ⊢
  obtain ⟨sb, hsb⟩ : ∃ b, V.heap.size = b := ⟨_, rfl⟩
  have hgs : g ≠ sb := by omega
  have hLs : bL ≠ sb := by omega
  have hws : w.heap.size ≤ sb := by rw [← hsb]; exact hBV.size
  rw [hsb] at kX ⊢
  clear hX hsb hF hBs hE kLV hBV hfd hbV hgV
  go_cut [8, 9] (fun v8 v9 wr => ∃ p q : Nat, v8 = .pointer (some ⟨p, 0, none⟩) ∧ v9 = .pointer (some ⟨q, 0, none⟩) ∧ p ≠ q ∧ X.heap.size ≤ p ∧ X.heap.size ≤ q ∧ Bx wr p 50 #[.slice FA fn fc, .slice BA bn bc, .int .i64 0, .int .i64 0, .int .i64 d0, .int .i64 d1] ∧ Bx wr q 50 #[.slice FA fn fc, .slice BA bn bc, .int .i64 0, .int .i64 0, .int .i64 d0, .int .i64 d1] ∧ Below X.heap.size X wr)
  case first =>
    refine AnyG.start (fun w' : World => Below X.heap.size X w') (fun i => true) (by kernel_rfl) ?_
    have hS : (fun w' : World => Below X.heap.size X w') (World.drew _) := (Below.refl _ _).drew
    refine AnyG.take (i := 0) (v := ?_) rfl (by kernel_rfl) (fun _ _ _ h => h) rfl ?_ hS ?_
    rotate_left
    · (intro w' hSw; (try dsimp only at hSw); obtain ⟨s0, s1, s2, s3, s4, s5, sf, sz⟩ := (kX.call hSw).six; go_simp; try with_reducible rfl)
    try simp only [Act.put, List.getElem_toArray, List.getElem_cons_succ, List.getElem_cons_zero, List.setIfInBounds_toArray, List.set_cons_zero, List.set_cons_succ]
    refine AnyG.take (i := 1) (v := ?_) rfl (by kernel_rfl) (fun _ _ _ h => h) rfl ?_ hS ?_
    rotate_left
    · (intro w' hSw; (try dsimp only at hSw); obtain ⟨s0, s1, s2, s3, s4, s5, sf, sz⟩ := (kX.call hSw).six; go_simp; try with_reducible rfl)
    try simp only [Act.put, List.getElem_toArray, List.getElem_cons_succ, List.getElem_cons_zero, List.setIfInBounds_toArray, List.set_cons_zero, List.set_cons_succ]
    refine AnyG.all (rs := [2, 3]) (by kernel_rfl) (by simp) ?_
    intro i hi
    simp only [List.mem_cons, List.not_mem_nil, or_false] at hi
    rcases hi with rfl | rfl
    · refine ⟨_, rfl, rfl, ?_⟩
      go_simp
      refine Onward.on (Below.alloc hS (Nat.le_of_eq rfl) _) (fun hS2 => ?_)
      clear hS
      have hS := hS2
      clear hS2
      try simp only [Act.put, List.getElem_toArray, List.getElem_cons_succ, List.getElem_cons_zero, List.setIfInBounds_toArray, List.set_cons_zero, List.set_cons_succ]
      refine AnyG.one (i := 3) (by kernel_rfl) rfl rfl ?_
      go_simp
      refine Onward.on (Below.alloc hS hS.size _) (fun hS2 => ?_)
      clear hS
      have hS := hS2
      clear hS2
      try simp only [Act.put, List.getElem_toArray, List.getElem_cons_succ, List.getElem_cons_zero, List.setIfInBounds_toArray, List.set_cons_zero, List.set_cons_succ]
      refine AnyG.one (i := 4) (by kernel_rfl) rfl rfl ?_
      go_simp
      refine Onward.on ((((Below.refl _ _).alloc (Nat.le_refl _) _).alloc (by simp) _).drew) (fun hS2 => ?_)
      clear hS2
      try simp only [Act.put, List.getElem_toArray, List.getElem_cons_succ, List.getElem_cons_zero, List.setIfInBounds_toArray, List.set_cons_zero, List.set_cons_succ]
      refine AnyG.one (i := 5) (by kernel_rfl) rfl rfl ?_
      go_simp
      refine Onward.on ((((Below.refl _ _).alloc (Nat.le_refl _) _).alloc (by simp) _).drew) (fun hS2 => ?_)
      clear hS2
      try simp only [Act.put, List.getElem_toArray, List.getElem_cons_succ, List.getElem_cons_zero, List.setIfInBounds_toArray, List.set_cons_zero, List.set_cons_succ]
      clear hS
      refine AnyG.done (by kernel_rfl) ?_ _
      go_simp
      go_wp2_with fail
      go_meet
      exact ⟨_, _, rfl, rfl, by omega, by omega, by omega, ((Bx.new X 50 #[.slice FA fn fc, .slice BA bn bc, .int .i64 0, .int .i64 0, .int .i64 d0, .int .i64 d1]).alloc (.cells #[.slice FA fn fc, .slice BA bn bc, .int .i64 0, .int .i64 0, .int .i64 d0, .int .i64 d1] 50)).drew, (Bx.at (X.alloc (.cells #[.slice FA fn fc, .slice BA bn bc, .int .i64 0, .int .i64 0, .int .i64 d0, .int .i64 d1] 50)) 50 #[.slice FA fn fc, .slice BA bn bc, .int .i64 0, .int .i64 0, .int .i64 d0, .int .i64 d1] (n := X.heap.size + 1) (by simp)).drew, (((Below.refl _ _).alloc (Nat.le_refl _) _).alloc (by simp) _).drew⟩
    · refine ⟨_, rfl, rfl, ?_⟩
      go_simp
      refine Onward.on (Below.alloc hS (Nat.le_of_eq rfl) _) (fun hS2 => ?_)
      clear hS
      have hS := hS2
      clear hS2
      try simp only [Act.put, List.getElem_toArray, List.getElem_cons_succ, List.getElem_cons_zero, List.setIfInBounds_toArray, List.set_cons_zero, List.set_cons_succ]
      refine AnyG.one (i := 2) (by kernel_rfl) rfl rfl ?_
      go_simp
      refine Onward.on (Below.alloc hS hS.size _) (fun hS2 => ?_)
      clear hS
      have hS := hS2
      clear hS2
      try simp only [Act.put, List.getElem_toArray, List.getElem_cons_succ, List.getElem_cons_zero, List.setIfInBounds_toArray, List.set_cons_zero, List.set_cons_succ]
      refine AnyG.one (i := 4) (by kernel_rfl) rfl rfl ?_
      go_simp
      refine Onward.on ((((Below.refl _ _).alloc (Nat.le_refl _) _).alloc (by simp) _).drew) (fun hS2 => ?_)
      clear hS2
      try simp only [Act.put, List.getElem_toArray, List.getElem_cons_succ, List.getElem_cons_zero, List.setIfInBounds_toArray, List.set_cons_zero, List.set_cons_succ]
      refine AnyG.one (i := 5) (by kernel_rfl) rfl rfl ?_
      go_simp
      refine Onward.on ((((Below.refl _ _).alloc (Nat.le_refl _) _).alloc (by simp) _).drew) (fun hS2 => ?_)
      clear hS2
      try simp only [Act.put, List.getElem_toArray, List.getElem_cons_succ, List.getElem_cons_zero, List.setIfInBounds_toArray, List.set_cons_zero, List.set_cons_succ]
      clear hS
      refine AnyG.done (by kernel_rfl) ?_ _
      go_simp
      go_wp2_with fail
      go_meet
      exact ⟨_, _, rfl, rfl, by omega, by omega, by omega, (Bx.at (X.alloc (.cells #[.slice FA fn fc, .slice BA bn bc, .int .i64 0, .int .i64 0, .int .i64 d0, .int .i64 d1] 50)) 50 #[.slice FA fn fc, .slice BA bn bc, .int .i64 0, .int .i64 0, .int .i64 d0, .int .i64 d1] (n := X.heap.size + 1) (by simp)).drew, ((Bx.new X 50 #[.slice FA fn fc, .slice BA bn bc, .int .i64 0, .int .i64 0, .int .i64 d0, .int .i64 d1]).alloc (.cells #[.slice FA fn fc, .slice BA bn bc, .int .i64 0, .int .i64 0, .int .i64 d0, .int .i64 d1] 50)).drew, (((Below.refl _ _).alloc (Nat.le_refl _) _).alloc (by simp) _).drew⟩
  case rest =>
    obtain ⟨p, q, rfl, rfl, hpq, hp, hq, kp, kq, hqB⟩ := hcut
    have hXl := kX.lt
    have hLl := kLX.lt
    have kL := kLX.call hqB
    have kS := kX.call hqB
    have hBc := hBX.trans (hqB.mono hBX.size)
    have hEc := hEX.below hqB
    have hFc := hFX.below hqB
    have hBsc := hBsX.below hqB
    have hfc' : Fd g wc := by obtain ⟨y, h1, h2, h3⟩ := hfX; exact ⟨y, h1, h2, h3.call hqB⟩
    have hgX := hfX.lt
    have hgp : g ≠ p := by omega
    have hgq : g ≠ q := by omega
    clear kX kLX hBX hEX hFX hBsX hfX hqB
    obtain ⟨fa, rfl, hfab, hfa0⟩ := hFc.at_ (k := 0) (by unfold ints; rw [List.length_map, HFN.out]; omega)
    obtain ⟨ba, rfl, hbab, hba0⟩ := hBsc.at_ (k := 0) (by unfold ints; rw [List.length_map, HBN.out]; omega)
    clear hfa0 hba0 hfab hbab
    have hwf : IntKind.i64.wrap ((fn : Int) - 1) = (fn : Int) - 1 := IntWalk.i64_in _ (by omega)
    have hwb : IntKind.i64.wrap ((bn : Int) - 1) = (bn : Int) - 1 := IntWalk.i64_in _ (by omega)
    go_upto_region 8 with fail
    refine AnyG.start (FT g wc) (fun i => true) (by kernel_rfl) ?_
    have hS : (FT g wc) (World.drew _) := ⟨grown_drew _ _, hfc'.drew⟩
    refine AnyG.take (i := 0) (v := ?_) rfl (by kernel_rfl) (fun _ _ _ h => h) rfl ?_ hS ?_
    rotate_left
    · (intro w' hSw; (try dsimp only at hSw); go_simp; try with_reducible rfl)
    try simp only [Act.put, List.getElem_toArray, List.getElem_cons_succ, List.getElem_cons_zero, List.setIfInBounds_toArray, List.set_cons_zero, List.set_cons_succ]
    refine AnyG.take (i := 1) (v := ?_) rfl (by kernel_rfl) (fun _ _ _ h => h) rfl ?_ hS ?_
    rotate_left
    · (intro w' hSw; (try dsimp only at hSw); go_simp; try with_reducible rfl)
    try simp only [Act.put, List.getElem_toArray, List.getElem_cons_succ, List.getElem_cons_zero, List.setIfInBounds_toArray, List.set_cons_zero, List.set_cons_succ]
    refine AnyG.take (i := 2) (v := ?_) rfl (by kernel_rfl) (fun _ _ _ h => h) rfl ?_ hS ?_
    rotate_left
    · (intro w' hSw; (try dsimp only at hSw); obtain ⟨s0, s1, s2, s3, s4, s5, sf, sz⟩ := (hSw.bx kS (Ne.symm hgs)).six; go_simp; try with_reducible rfl)
    try simp only [Act.put, List.getElem_toArray, List.getElem_cons_succ, List.getElem_cons_zero, List.setIfInBounds_toArray, List.set_cons_zero, List.set_cons_succ]
    refine AnyG.take (i := 3) (v := ?_) rfl (by kernel_rfl) (fun _ _ _ h => h) rfl ?_ hS ?_
    rotate_left
    · (intro w' hSw; (try dsimp only at hSw); go_simp; try with_reducible rfl)
    try simp only [Act.put, List.getElem_toArray, List.getElem_cons_succ, List.getElem_cons_zero, List.setIfInBounds_toArray, List.set_cons_zero, List.set_cons_succ]
    refine AnyG.take (i := 4) (v := ?_) rfl (by kernel_rfl) (fun _ _ _ h => h) rfl ?_ hS ?_
    rotate_left
    · (intro w' hSw; (try dsimp only at hSw); go_simp; try with_reducible rfl)
    try simp only [Act.put, List.getElem_toArray, List.getElem_cons_succ, List.getElem_cons_zero, List.setIfInBounds_toArray, List.set_cons_zero, List.set_cons_succ]
    refine AnyG.take (i := 6) (v := ?_) rfl (by kernel_rfl) (fun _ _ _ h => h) rfl ?_ hS ?_
    rotate_left
    · (intro w' hSw; (try dsimp only at hSw); go_simp; try with_reducible rfl)
    try simp only [Act.put, List.getElem_toArray, List.getElem_cons_succ, List.getElem_cons_zero, List.setIfInBounds_toArray, List.set_cons_zero, List.set_cons_succ]
    refine AnyG.take (i := 7) (v := ?_) rfl (by kernel_rfl) (fun _ _ _ h => h) rfl ?_ hS ?_
    rotate_left
    · (intro w' hSw; (try dsimp only at hSw); go_simp; try with_reducible rfl)
    try simp only [Act.put, List.getElem_toArray, List.getElem_cons_succ, List.getElem_cons_zero, List.setIfInBounds_toArray, List.set_cons_zero, List.set_cons_succ]
    refine AnyG.take (i := 8) (v := ?_) rfl (by kernel_rfl) (fun _ _ _ h => h) rfl ?_ hS ?_
    rotate_left
    · (intro w' hSw; (try dsimp only at hSw); obtain ⟨s0, s1, s2, s3, s4, s5, sf, sz⟩ := (hSw.bx kS (Ne.symm hgs)).six; go_simp; try with_reducible rfl)
    try simp only [Act.put, List.getElem_toArray, List.getElem_cons_succ, List.getElem_cons_zero, List.setIfInBounds_toArray, List.set_cons_zero, List.set_cons_succ]
    refine AnyG.take (i := 9) (v := ?_) rfl (by kernel_rfl) (fun _ _ _ h => h) rfl ?_ hS ?_
    rotate_left
    · (intro w' hSw; (try dsimp only at hSw); go_simp; try with_reducible rfl)
    try simp only [Act.put, List.getElem_toArray, List.getElem_cons_succ, List.getElem_cons_zero, List.setIfInBounds_toArray, List.set_cons_zero, List.set_cons_succ]
    refine AnyG.take (i := 10) (v := ?_) rfl (by kernel_rfl) (fun _ _ _ h => h) rfl ?_ hS ?_
    rotate_left
    · (intro w' hSw; (try dsimp only at hSw); go_simp; try with_reducible rfl)
    try simp only [Act.put, List.getElem_toArray, List.getElem_cons_succ, List.getElem_cons_zero, List.setIfInBounds_toArray, List.set_cons_zero, List.set_cons_succ]
    refine AnyG.one (i := 5) (by kernel_rfl) rfl rfl ?_
    go_simp
    refine (between_any g 1 ((fn : Int) - 1) _ hS.2 (by omega) (by omega) (by omega) (by omega)).mono ?_
    rintro e x1 ⟨⟨r0, rfl, hr1, hr2⟩, hf, hg⟩
    obtain ⟨i, rfl⟩ := Int.eq_ofNat_of_zero_le (show 0 ≤ r0 by omega)
    have hi1 : 1 ≤ i := by omega
    have hi2 : i < fn := by omega
    clear hr1 hr2
    refine Onward.on ⟨grown_trans hS.1 hg, hf⟩ (fun hS2 => ?_)
    clear hS
    have hS := hS2
    clear hS2
    try simp only [Act.put, List.getElem_toArray, List.getElem_cons_succ, List.getElem_cons_zero, List.setIfInBounds_toArray, List.set_cons_zero, List.set_cons_succ]
    refine AnyG.one (i := 11) (by kernel_rfl) rfl rfl ?_
    go_simp
    refine (between_any g 1 ((bn : Int) - 1) _ hS.2 (by omega) (by omega) (by omega) (by omega)).mono ?_
    rintro e x2 ⟨⟨r0, rfl, hr1, hr2⟩, hf, hg⟩
    obtain ⟨m, rfl⟩ := Int.eq_ofNat_of_zero_le (show 0 ≤ r0 by omega)
    have hm1 : 1 ≤ m := by omega
    have hm2 : m < bn := by omega
    clear hr1 hr2
    refine Onward.on ⟨grown_trans hS.1 hg, hf⟩ (fun hS2 => ?_)
    clear hS
    have hS := hS2
    clear hS2
    try simp only [Act.put, List.getElem_toArray, List.getElem_cons_succ, List.getElem_cons_zero, List.setIfInBounds_toArray, List.set_cons_zero, List.set_cons_succ]
    refine AnyG.take (i := 12) (v := ?_) rfl (by kernel_rfl) (fun _ _ _ h => h) rfl ?_ hS ?_
    rotate_left
    · (intro w' hSw; (try dsimp only at hSw); go_simp; try with_reducible rfl)
    try simp only [Act.put, List.getElem_toArray, List.getElem_cons_succ, List.getElem_cons_zero, List.setIfInBounds_toArray, List.set_cons_zero, List.set_cons_succ]
    refine AnyG.take (i := 13) (v := ?_) rfl (by kernel_rfl) (fun _ _ _ h => h) rfl ?_ hS ?_
    rotate_left
    · (intro w' hSw; (try dsimp only at hSw); go_simp; try with_reducible rfl)
    try simp only [Act.put, List.getElem_toArray, List.getElem_cons_succ, List.getElem_cons_zero, List.setIfInBounds_toArray, List.set_cons_zero, List.set_cons_succ]
    refine AnyG.done (by kernel_rfl) ?_ _
    go_simp
    go_upto_region 9 with fail
    have kS9 := hS.bx kS (Ne.symm hgs)
    have kp9 := hS.bx kp (Ne.symm hgp)
    have kq9 := hS.bx kq (Ne.symm hgq)
    have kL9 := hS.bx kL (Ne.symm hgL)
    have hE9 : EvsAt x2 X.heap.size EA es := Sl.ft hEc hfc' hS.1 (evs_no es)
    have hF9 := Sl.ft hFc hfc' hS.1 (ints_no F)
    have hB9 := Sl.ft hBsc hfc' hS.1 (ints_no B)
    have hBx2 : Below w.heap.size w x2 := hBc.grown hS.1 hBc.size (fun k e => by cases e; exact hg0)
    have hX2 : X.heap.size ≤ x2.heap.size := Nat.le_trans (by have := kp.lt; have := kL.lt; omega) hS.1.size
    have hwX : w.heap.size ≤ X.heap.size := by omega
    clear hS kS kp kq kL hEc hFc hBsc hBc hfc' hf hg hwf hwb
    have hifc : i ≤ fc := by omega
    have hifn : i ≤ fn := by omega
    have hmbc : m ≤ bc := by omega
    have hmbn : m ≤ bn := by omega
    refine AnyG.start (fun w' : World => Below X.heap.size x2 w') (fun i => true) (by kernel_rfl) ?_
    have hS : (fun w' : World => Below X.heap.size x2 w') (World.drew _) := (Below.refl _ _).drew
    refine AnyG.take (i := 0) (v := ?_) rfl (by kernel_rfl) (fun _ _ _ h => h) rfl ?_ hS ?_
    rotate_left
    · (intro w' hSw; (try dsimp only at hSw); go_simp; try with_reducible rfl)
    try simp only [Act.put, List.getElem_toArray, List.getElem_cons_succ, List.getElem_cons_zero, List.setIfInBounds_toArray, List.set_cons_zero, List.set_cons_succ]
    refine AnyG.take (i := 1) (v := ?_) rfl (by kernel_rfl) (fun _ _ _ h => h) rfl ?_ hS ?_
    rotate_left
    · (intro w' hSw; (try dsimp only at hSw); obtain ⟨s0, s1, s2, s3, s4, s5, sf, sz⟩ := (kS9.below hSw hXl).six; go_simp; try with_reducible rfl)
    try simp only [Act.put, List.getElem_toArray, List.getElem_cons_succ, List.getElem_cons_zero, List.setIfInBounds_toArray, List.set_cons_zero, List.set_cons_succ]
    refine AnyG.take (i := 2) (v := ?_) rfl (by kernel_rfl) (fun _ _ _ h => h) rfl ?_ hS ?_
    rotate_left
    · (intro w' hSw; (try dsimp only at hSw); go_simp; try with_reducible rfl)
    try simp only [Act.put, List.getElem_toArray, List.getElem_cons_succ, List.getElem_cons_zero, List.setIfInBounds_toArray, List.set_cons_zero, List.set_cons_succ]
    refine AnyG.take (i := 3) (v := ?_) rfl (by kernel_rfl) (fun _ _ _ h => h) rfl ?_ hS ?_
    rotate_left
    · (intro w' hSw; (try dsimp only at hSw); go_simp; try with_reducible rfl)
    try simp only [Act.put, List.getElem_toArray, List.getElem_cons_succ, List.getElem_cons_zero, List.setIfInBounds_toArray, List.set_cons_zero, List.set_cons_succ]
    refine AnyG.take (i := 4) (v := ?_) rfl (by kernel_rfl) (fun _ _ _ h => h) rfl ?_ hS ?_
    rotate_left
    · (intro w' hSw; (try dsimp only at hSw); go_simp; try with_reducible rfl)
    try simp only [Act.put, List.getElem_toArray, List.getElem_cons_succ, List.getElem_cons_zero, List.setIfInBounds_toArray, List.set_cons_zero, List.set_cons_succ]
    refine AnyG.take (i := 5) (v := ?_) rfl (by kernel_rfl) (fun _ _ _ h => h) rfl ?_ hS ?_
    rotate_left
    · (intro w' hSw; (try dsimp only at hSw); obtain ⟨s0, s1, s2, s3, s4, s5, sf, sz⟩ := (kS9.below hSw hXl).six; go_simp; try with_reducible rfl)
    try simp only [Act.put, List.getElem_toArray, List.getElem_cons_succ, List.getElem_cons_zero, List.setIfInBounds_toArray, List.set_cons_zero, List.set_cons_succ]
    refine AnyG.take (i := 6) (v := ?_) rfl (by kernel_rfl) (fun _ _ _ h => h) rfl ?_ hS ?_
    rotate_left
    · (intro w' hSw; (try dsimp only at hSw); go_simp; try with_reducible rfl)
    try simp only [Act.put, List.getElem_toArray, List.getElem_cons_succ, List.getElem_cons_zero, List.setIfInBounds_toArray, List.set_cons_zero, List.set_cons_succ]
    refine AnyG.take (i := 7) (v := ?_) rfl (by kernel_rfl) (fun _ _ _ h => h) rfl ?_ hS ?_
    rotate_left
    · (intro w' hSw; (try dsimp only at hSw); go_simp; try with_reducible rfl)
    try simp only [Act.put, List.getElem_toArray, List.getElem_cons_succ, List.getElem_cons_zero, List.setIfInBounds_toArray, List.set_cons_zero, List.set_cons_succ]
    refine AnyG.take (i := 8) (v := ?_) rfl (by kernel_rfl) (fun _ _ _ h => h) rfl ?_ hS ?_
    rotate_left
    · (intro w' hSw; (try dsimp only at hSw); go_simp; try with_reducible rfl)
    try simp only [Act.put, List.getElem_toArray, List.getElem_cons_succ, List.getElem_cons_zero, List.setIfInBounds_toArray, List.set_cons_zero, List.set_cons_succ]
    refine AnyG.take (i := 9) (v := ?_) rfl (by kernel_rfl) (fun _ _ _ h => h) rfl ?_ hS ?_
    rotate_left
    · (intro w' hSw; (try dsimp only at hSw); obtain ⟨s0, s1, s2, s3, s4, s5, sf, sz⟩ := (kS9.below hSw hXl).six; go_simp; try with_reducible rfl)
    try simp only [Act.put, List.getElem_toArray, List.getElem_cons_succ, List.getElem_cons_zero, List.setIfInBounds_toArray, List.set_cons_zero, List.set_cons_succ]
    refine AnyG.take (i := 10) (v := ?_) rfl (by kernel_rfl) (fun _ _ _ h => h) rfl ?_ hS ?_
    rotate_left
    · (intro w' hSw; (try dsimp only at hSw); go_simp; try with_reducible rfl)
    try simp only [Act.put, List.getElem_toArray, List.getElem_cons_succ, List.getElem_cons_zero, List.setIfInBounds_toArray, List.set_cons_zero, List.set_cons_succ]
    refine AnyG.take (i := 11) (v := ?_) rfl (by kernel_rfl) (fun _ _ _ h => h) rfl ?_ hS ?_
    rotate_left
    · (intro w' hSw; (try dsimp only at hSw); go_simp; try with_reducible rfl)
    try simp only [Act.put, List.getElem_toArray, List.getElem_cons_succ, List.getElem_cons_zero, List.setIfInBounds_toArray, List.set_cons_zero, List.set_cons_succ]
    refine AnyG.take (i := 12) (v := ?_) rfl (by kernel_rfl) (fun _ _ _ h => h) rfl ?_ hS ?_
    rotate_left
    · (intro w' hSw; (try dsimp only at hSw); go_simp; try with_reducible rfl)
    try simp only [Act.put, List.getElem_toArray, List.getElem_cons_succ, List.getElem_cons_zero, List.setIfInBounds_toArray, List.set_cons_zero, List.set_cons_succ]
    refine AnyG.take (i := 13) (v := ?_) rfl (by kernel_rfl) (fun _ _ _ h => h) rfl ?_ hS ?_
    rotate_left
    · (intro w' hSw; (try dsimp only at hSw); obtain ⟨s0, s1, s2, s3, s4, s5, sf, sz⟩ := (kS9.below hSw hXl).six; go_simp; try with_reducible rfl)
    try simp only [Act.put, List.getElem_toArray, List.getElem_cons_succ, List.getElem_cons_zero, List.setIfInBounds_toArray, List.set_cons_zero, List.set_cons_succ]
    refine AnyG.take (i := 14) (v := ?_) rfl (by kernel_rfl) (fun _ _ _ h => h) rfl ?_ hS ?_
    rotate_left
    · (intro w' hSw; (try dsimp only at hSw); go_simp; try with_reducible rfl)
    try simp only [Act.put, List.getElem_toArray, List.getElem_cons_succ, List.getElem_cons_zero, List.setIfInBounds_toArray, List.set_cons_zero, List.set_cons_succ]
    refine AnyG.take (i := 15) (v := ?_) rfl (by kernel_rfl) (fun _ _ _ h => h) rfl ?_ hS ?_
    rotate_left
    · (intro w' hSw; (try dsimp only at hSw); go_simp; try with_reducible rfl)
    try simp only [Act.put, List.getElem_toArray, List.getElem_cons_succ, List.getElem_cons_zero, List.setIfInBounds_toArray, List.set_cons_zero, List.set_cons_succ]
    refine AnyG.take (i := 16) (v := ?_) rfl (by kernel_rfl) (fun _ _ _ h => h) rfl ?_ hS ?_
    rotate_left
    · (intro w' hSw; (try dsimp only at hSw); go_simp; try with_reducible rfl)
    try simp only [Act.put, List.getElem_toArray, List.getElem_cons_succ, List.getElem_cons_zero, List.setIfInBounds_toArray, List.set_cons_zero, List.set_cons_succ]
    refine AnyG.one (i := 17) (by kernel_rfl) rfl rfl ?_
    obtain ⟨m0, m1, m2, m3, m4, m5, mf, mz⟩ := kp9.six
    obtain ⟨r0, r1, r2, r3, r4, r5, rf, rz⟩ := kq9.six
    go_simp
    clear m0 m1 m2 m3 m4 m5 mf mz r0 r1 r2 r3 r4 r5 rf rz
    refine Onward.on (hS.setCell (by simpa using hp) _) (fun hS2 => ?_)
    clear hS
    have hS := hS2
    clear hS2
    try simp only [Act.put, List.getElem_toArray, List.getElem_cons_succ, List.getElem_cons_zero, List.setIfInBounds_toArray, List.set_cons_zero, List.set_cons_succ]
    refine AnyG.take (i := 18) (v := ?_) rfl (by kernel_rfl) (fun _ _ _ h => h) rfl ?_ hS ?_
    rotate_left
    · (intro w' hSw; (try dsimp only at hSw); go_simp; try with_reducible rfl)
    try simp only [Act.put, List.getElem_toArray, List.getElem_cons_succ, List.getElem_cons_zero, List.setIfInBounds_toArray, List.set_cons_zero, List.set_cons_succ]
    refine AnyG.one (i := 19) (by kernel_rfl) rfl rfl ?_
    obtain ⟨m0, m1, m2, m3, m4, m5, mf, mz⟩ := kp9.six
    obtain ⟨r0, r1, r2, r3, r4, r5, rf, rz⟩ := kq9.six
    go_simp
    clear m0 m1 m2 m3 m4 m5 mf mz r0 r1 r2 r3 r4 r5 rf rz
    refine Onward.on (hS.setCell (by simpa using hp) _) (fun hS2 => ?_)
    clear hS
    have hS := hS2
    clear hS2
    try simp only [Act.put, List.getElem_toArray, List.getElem_cons_succ, List.getElem_cons_zero, List.setIfInBounds_toArray, List.set_cons_zero, List.set_cons_succ]
    refine AnyG.take (i := 20) (v := ?_) rfl (by kernel_rfl) (fun _ _ _ h => h) rfl ?_ hS ?_
    rotate_left
    · (intro w' hSw; (try dsimp only at hSw); go_simp; try with_reducible rfl)
    try simp only [Act.put, List.getElem_toArray, List.getElem_cons_succ, List.getElem_cons_zero, List.setIfInBounds_toArray, List.set_cons_zero, List.set_cons_succ]
    refine AnyG.one (i := 21) (by kernel_rfl) rfl rfl ?_
    obtain ⟨m0, m1, m2, m3, m4, m5, mf, mz⟩ := kp9.six
    obtain ⟨r0, r1, r2, r3, r4, r5, rf, rz⟩ := kq9.six
    go_simp
    clear m0 m1 m2 m3 m4 m5 mf mz r0 r1 r2 r3 r4 r5 rf rz
    refine Onward.on (hS.setCell (by simpa using hq) _) (fun hS2 => ?_)
    clear hS
    have hS := hS2
    clear hS2
    try simp only [Act.put, List.getElem_toArray, List.getElem_cons_succ, List.getElem_cons_zero, List.setIfInBounds_toArray, List.set_cons_zero, List.set_cons_succ]
    refine AnyG.take (i := 22) (v := ?_) rfl (by kernel_rfl) (fun _ _ _ h => h) rfl ?_ hS ?_
    rotate_left
    · (intro w' hSw; (try dsimp only at hSw); go_simp; try with_reducible rfl)
    try simp only [Act.put, List.getElem_toArray, List.getElem_cons_succ, List.getElem_cons_zero, List.setIfInBounds_toArray, List.set_cons_zero, List.set_cons_succ]
    refine AnyG.one (i := 23) (by kernel_rfl) rfl rfl ?_
    obtain ⟨m0, m1, m2, m3, m4, m5, mf, mz⟩ := kp9.six
    obtain ⟨r0, r1, r2, r3, r4, r5, rf, rz⟩ := kq9.six
    go_simp
    clear m0 m1 m2 m3 m4 m5 mf mz r0 r1 r2 r3 r4 r5 rf rz
    refine Onward.on (hS.setCell (by simpa using hq) _) (fun hS2 => ?_)
    clear hS
    have hS := hS2
    clear hS2
    try simp only [Act.put, List.getElem_toArray, List.getElem_cons_succ, List.getElem_cons_zero, List.setIfInBounds_toArray, List.set_cons_zero, List.set_cons_succ]
    refine AnyG.done (by kernel_rfl) ?_ _
    have hn1 : ¬ fc = i := by omega
    have hn2 : ¬ bc = m := by omega
    rw [if_neg hn1, if_neg hn2] at hS
    go_simp
    try rw [if_neg hn1, if_neg hn2]
    have kpY : Bx (World.setCell (World.setCell (World.setCell (World.setCell x2 ⟨p, 0, none⟩ (.slice (some fa) i fc)) ⟨p, 1, none⟩ (.slice (some ba) m bc)) ⟨q, 0, none⟩ (.slice (some (fa.add i)) (fn - i) (fc - i))) ⟨q, 1, none⟩ (.slice (some (ba.add m)) (bn - m) (bc - m))).drew p 50 #[.slice (some fa) i fc, .slice (some ba) m bc, .int .i64 0, .int .i64 0, .int .i64 d0, .int .i64 d1] := by have := ((((kp9.set_ 0 (.slice (some fa) i fc)).set_ 1 (.slice (some ba) m bc)).far (p := ⟨q, 0, none⟩) hpq (.slice (some (fa.add i)) (fn - i) (fc - i))).far (p := ⟨q, 1, none⟩) hpq (.slice (some (ba.add m)) (bn - m) (bc - m))).drew; simpa using this
    have kqY : Bx (World.setCell (World.setCell (World.setCell (World.setCell x2 ⟨p, 0, none⟩ (.slice (some fa) i fc)) ⟨p, 1, none⟩ (.slice (some ba) m bc)) ⟨q, 0, none⟩ (.slice (some (fa.add i)) (fn - i) (fc - i))) ⟨q, 1, none⟩ (.slice (some (ba.add m)) (bn - m) (bc - m))).drew q 50 #[.slice (some (fa.add i)) (fn - i) (fc - i), .slice (some (ba.add m)) (bn - m) (bc - m), .int .i64 0, .int .i64 0, .int .i64 d0, .int .i64 d1] := by have := ((((kq9.far (p := ⟨p, 0, none⟩) (Ne.symm hpq) (.slice (some fa) i fc)).far (p := ⟨p, 1, none⟩) (Ne.symm hpq) (.slice (some ba) m bc)).set_ 0 (.slice (some (fa.add i)) (fn - i) (fc - i))).set_ 1 (.slice (some (ba.add m)) (bn - m) (bc - m))).drew; simpa using this
    obtain ⟨Y, hY⟩ : ∃ Y, (World.setCell (World.setCell (World.setCell (World.setCell x2 ⟨p, 0, none⟩ (.slice (some fa) i fc)) ⟨p, 1, none⟩ (.slice (some ba) m bc)) ⟨q, 0, none⟩ (.slice (some (fa.add i)) (fn - i) (fc - i))) ⟨q, 1, none⟩ (.slice (some (ba.add m)) (bn - m) (bc - m))).drew = Y := ⟨_, rfl⟩
    rw [hY] at hS kpY kqY ⊢
    have kSY := kS9.below hS hXl
    have kLY := kL9.below hS hLl
    have hXY := hS.size
    have hEY := (hE9.below hS).more (Nat.le_trans hX2 hXY)
    have hFY := (hF9.below hS).more (Nat.le_trans hX2 hXY)
    have hBY := (hB9.below hS).more (Nat.le_trans hX2 hXY)
    have hwY : Below w.heap.size w Y := hBx2.trans (hS.mono hwX)
    clear hY hS kS9 kL9 kp9 kq9 hE9 hF9 hB9 hBx2 hn1 hn2
    obtain ⟨N, P, R, net0, net1, net2, hsum, ⟨b1, b2, b3, b4⟩, c1, c2, c3, c4⟩ := tog_nets st z0 z1 EA k EC es fa fn fc ba bn bc i m d0 d1 F B l j Y HCK.out HFIT.out HEL.out hk14 hat hsp HFN.out HBN.out (by omega) (by omega) dr2 (by omega) hi1 hi2 hm1 hm2 hEY hFY hBY
    have NET := Lib.hid (And.intro net0 (And.intro net1 net2))
    have HSUM := Lib.hid hsum
    have hW := Lib.hid (And.intro (IntWalk.i64_in (P.1 + R.1) (by omega)) (IntWalk.i64_in (P.2 + R.2) (by omega)))
    clear net0 net1 net2 hsum hEY hFY hBY hat hsp
    obtain ⟨l0, l1, l2, l3, lf, lz⟩ := kLY.four
    obtain ⟨s0, s1, s2, s3, s4, s5, sf, sz⟩ := kSY.six
    go_upto_region 11 with (first | (go_at_call 29; refine (NET.out.1 _ (Below.refl _ _)).mono ?_; rintro e y1 ⟨rfl, hq1⟩) | fail)
    clear l0 l1 l2 l3 lf lz s0 s1 s2 s3 s4 s5 sf sz
    have hA1 : Below Y.heap.size Y (y1.alloc (.cells #[.int .i64 N.1, .int .i64 N.2] 23)) := hq1.alloc hq1.size _
    have kN := Bx.new y1 23 #[.int .i64 N.1, .int .i64 N.2]
    obtain ⟨Y1, hY1⟩ : ∃ V, y1.alloc (.cells #[.int .i64 N.1, .int .i64 N.2] 23) = V := ⟨_, rfl⟩
    rw [hY1] at hA1 kN ⊢
    clear hY1 hq1
    obtain ⟨l0, l1, l2, l3, lf, lz⟩ := (kLY.call hA1).four
    obtain ⟨s0, s1, s2, s3, s4, s5, sf, sz⟩ := (kpY.call hA1).six
    go_upto_region 12 with (first | (go_at_call 29; refine (NET.out.2.1 _ hA1).mono ?_; rintro e y2 ⟨rfl, hq2⟩) | fail)
    clear l0 l1 l2 l3 lf lz s0 s1 s2 s3 s4 s5 sf sz
    have hA2 : Below Y.heap.size Y (y2.alloc (.cells #[.int .i64 P.1, .int .i64 P.2] 23)) := (hA1.trans (hq2.mono hA1.size)).alloc (by have := hA1.size; have := hq2.size; omega) _
    have kP := Bx.new y2 23 #[.int .i64 P.1, .int .i64 P.2]
    have kN2 := (kN.call hq2).alloc (.cells #[.int .i64 P.1, .int .i64 P.2] 23)
    obtain ⟨Y2, hY2⟩ : ∃ V, y2.alloc (.cells #[.int .i64 P.1, .int .i64 P.2] 23) = V := ⟨_, rfl⟩
    rw [hY2] at hA2 kP kN2 ⊢
    clear hY2 hq2 kN
    obtain ⟨l0, l1, l2, l3, lf, lz⟩ := (kLY.call hA2).four
    obtain ⟨s0, s1, s2, s3, s4, s5, sf, sz⟩ := (kqY.call hA2).six
    go_upto_region 13 with (first | (go_at_call 29; refine (NET.out.2.2 _ hA2).mono ?_; rintro e y3 ⟨rfl, hq3⟩) | fail)
    clear l0 l1 l2 l3 lf lz s0 s1 s2 s3 s4 s5 sf sz
    have hA3 : Below Y.heap.size Y (y3.alloc (.cells #[.int .i64 R.1, .int .i64 R.2] 23)) := (hA2.trans (hq3.mono hA2.size)).alloc (by have := hA2.size; have := hq3.size; omega) _
    have kR := Bx.new y3 23 #[.int .i64 R.1, .int .i64 R.2]
    have kP3 := (kP.call hq3).alloc (.cells #[.int .i64 R.1, .int .i64 R.2] 23)
    have kN3 := (kN2.call hq3).alloc (.cells #[.int .i64 R.1, .int .i64 R.2] 23)
    obtain ⟨Y3, hY3⟩ : ∃ V, y3.alloc (.cells #[.int .i64 R.1, .int .i64 R.2] 23) = V := ⟨_, rfl⟩
    rw [hY3] at hA3 kR kP3 kN3 ⊢
    clear hY3 hq3 kN2 kP kSY kLY kpY kqY NET
    refine AnyG.start (fun w' : World => Below Y3.heap.size Y3 w') (fun i => true) (by kernel_rfl) ?_
    have hS : (fun w' : World => Below Y3.heap.size Y3 w') (World.drew _) := (Below.refl _ _).drew
    refine AnyG.take (i := 0) (v := ?_) rfl (by kernel_rfl) (fun _ _ _ h => h) rfl ?_ hS ?_
    rotate_left
    · (intro w' hSw; (try dsimp only at hSw); go_simp; try with_reducible rfl)
    try simp only [Act.put, List.getElem_toArray, List.getElem_cons_succ, List.getElem_cons_zero, List.setIfInBounds_toArray, List.set_cons_zero, List.set_cons_succ]
    refine AnyG.take (i := 1) (v := ?_) rfl (by kernel_rfl) (fun _ _ _ h => h) rfl ?_ hS ?_
    rotate_left
    · (intro w' hSw; (try dsimp only at hSw); go_simp; try with_reducible rfl)
    try simp only [Act.put, List.getElem_toArray, List.getElem_cons_succ, List.getElem_cons_zero, List.setIfInBounds_toArray, List.set_cons_zero, List.set_cons_succ]
    refine AnyG.take (i := 2) (v := ?_) rfl (by kernel_rfl) (fun _ _ _ h => h) rfl ?_ hS ?_
    rotate_left
    · (intro w' hSw; (try dsimp only at hSw); go_simp; try with_reducible rfl)
    try simp only [Act.put, List.getElem_toArray, List.getElem_cons_succ, List.getElem_cons_zero, List.setIfInBounds_toArray, List.set_cons_zero, List.set_cons_succ]
    refine AnyG.takeG (i := 3) (v := ?_) rfl (by kernel_rfl) (fun _ _ _ h => h) (by simp [Region.wanted, yielded]) ?_ hS ?_
    rotate_left
    · (intro w' hSw; (try dsimp only at hSw); go_simp; (try simp only [hW.out.1, hW.out.2, if_true]); try with_reducible rfl)
    try simp only [Act.put, List.getElem_toArray, List.getElem_cons_succ, List.getElem_cons_zero, List.setIfInBounds_toArray, List.set_cons_zero, List.set_cons_succ]
    refine AnyG.takeG (i := 4) (v := ?_) rfl (by kernel_rfl) (fun _ _ _ h => h) (by simp [Region.wanted, yielded]) ?_ hS ?_
    rotate_left
    · (intro w' hSw; (try dsimp only at hSw); go_simp; (try simp only [hW.out.1, hW.out.2, if_true]); try with_reducible rfl)
    try simp only [Act.put, List.getElem_toArray, List.getElem_cons_succ, List.getElem_cons_zero, List.setIfInBounds_toArray, List.set_cons_zero, List.set_cons_succ]
    refine AnyG.take (i := 5) (v := ?_) rfl (by kernel_rfl) (fun _ _ _ h => h) rfl ?_ hS ?_
    rotate_left
    · (intro w' hSw; (try dsimp only at hSw); go_simp; try with_reducible rfl)
    try simp only [Act.put, List.getElem_toArray, List.getElem_cons_succ, List.getElem_cons_zero, List.setIfInBounds_toArray, List.set_cons_zero, List.set_cons_succ]
    refine AnyG.take (i := 6) (v := ?_) rfl (by kernel_rfl) (fun _ _ _ h => h) rfl ?_ hS ?_
    rotate_left
    · (intro w' hSw; (try dsimp only at hSw); go_simp; try with_reducible rfl)
    try simp only [Act.put, List.getElem_toArray, List.getElem_cons_succ, List.getElem_cons_zero, List.setIfInBounds_toArray, List.set_cons_zero, List.set_cons_succ]
    refine AnyG.takeG (i := 7) (v := ?_) rfl (by kernel_rfl) (fun _ _ _ h => h) (by simp [Region.wanted, yielded]) ?_ hS ?_
    rotate_left
    · (intro w' hSw; (try dsimp only at hSw); go_simp; (try simp only [hW.out.1, hW.out.2, if_true]); try with_reducible rfl)
    try simp only [Act.put, List.getElem_toArray, List.getElem_cons_succ, List.getElem_cons_zero, List.setIfInBounds_toArray, List.set_cons_zero, List.set_cons_succ]
    refine AnyG.takeG (i := 8) (v := ?_) rfl (by kernel_rfl) (fun _ _ _ h => h) (by simp [Region.wanted, yielded]) ?_ hS ?_
    rotate_left
    · (intro w' hSw; (try dsimp only at hSw); go_simp; (try simp only [hW.out.1, hW.out.2, if_true]); try with_reducible rfl)
    try simp only [Act.put, List.getElem_toArray, List.getElem_cons_succ, List.getElem_cons_zero, List.setIfInBounds_toArray, List.set_cons_zero, List.set_cons_succ]
    refine AnyG.take (i := 9) (v := ?_) rfl (by kernel_rfl) (fun _ _ _ h => h) rfl ?_ hS ?_
    rotate_left
    · (intro w' hSw; (try dsimp only at hSw); go_simp; try with_reducible rfl)
    try simp only [Act.put, List.getElem_toArray, List.getElem_cons_succ, List.getElem_cons_zero, List.setIfInBounds_toArray, List.set_cons_zero, List.set_cons_succ]
    refine AnyG.take (i := 10) (v := ?_) rfl (by kernel_rfl) (fun _ _ _ h => h) rfl ?_ hS ?_
    rotate_left
    · (intro w' hSw; (try dsimp only at hSw); go_simp; try with_reducible rfl)
    try simp only [Act.put, List.getElem_toArray, List.getElem_cons_succ, List.getElem_cons_zero, List.setIfInBounds_toArray, List.set_cons_zero, List.set_cons_succ]
    refine AnyG.takeG (i := 11) (v := ?_) rfl (by kernel_rfl) (fun _ _ _ h => h) (by simp [Region.wanted, yielded]) ?_ hS ?_
    rotate_left
    · (intro w' hSw; (try dsimp only at hSw); obtain ⟨r0, r1, rf, rz⟩ := (kN3.call hSw).two; go_simp; (try simp only [hW.out.1, hW.out.2, if_true]); try with_reducible rfl)
    try simp only [Act.put, List.getElem_toArray, List.getElem_cons_succ, List.getElem_cons_zero, List.setIfInBounds_toArray, List.set_cons_zero, List.set_cons_succ]
    refine AnyG.takeG (i := 12) (v := ?_) rfl (by kernel_rfl) (fun _ _ _ h => h) (by simp [Region.wanted, yielded]) ?_ hS ?_
    rotate_left
    · (intro w' hSw; (try dsimp only at hSw); go_simp; (try simp only [hW.out.1, hW.out.2, if_true]); try with_reducible rfl)
    try simp only [Act.put, List.getElem_toArray, List.getElem_cons_succ, List.getElem_cons_zero, List.setIfInBounds_toArray, List.set_cons_zero, List.set_cons_succ]
    refine AnyG.takeG (i := 13) (v := ?_) rfl (by kernel_rfl) (fun _ _ _ h => h) (by simp [Region.wanted, yielded]) ?_ hS ?_
    rotate_left
    · (intro w' hSw; (try dsimp only at hSw); obtain ⟨r0, r1, rf, rz⟩ := (kP3.call hSw).two; go_simp; (try simp only [hW.out.1, hW.out.2, if_true]); try with_reducible rfl)
    try simp only [Act.put, List.getElem_toArray, List.getElem_cons_succ, List.getElem_cons_zero, List.setIfInBounds_toArray, List.set_cons_zero, List.set_cons_succ]
    refine AnyG.takeG (i := 14) (v := ?_) rfl (by kernel_rfl) (fun _ _ _ h => h) (by simp [Region.wanted, yielded]) ?_ hS ?_
    rotate_left
    · (intro w' hSw; (try dsimp only at hSw); go_simp; (try simp only [hW.out.1, hW.out.2, if_true]); try with_reducible rfl)
    try simp only [Act.put, List.getElem_toArray, List.getElem_cons_succ, List.getElem_cons_zero, List.setIfInBounds_toArray, List.set_cons_zero, List.set_cons_succ]
    refine AnyG.takeG (i := 15) (v := ?_) rfl (by kernel_rfl) (fun _ _ _ h => h) (by simp [Region.wanted, yielded]) ?_ hS ?_
    rotate_left
    · (intro w' hSw; (try dsimp only at hSw); obtain ⟨r0, r1, rf, rz⟩ := (kR.call hSw).two; go_simp; (try simp only [hW.out.1, hW.out.2, if_true]); try with_reducible rfl)
    try simp only [Act.put, List.getElem_toArray, List.getElem_cons_succ, List.getElem_cons_zero, List.setIfInBounds_toArray, List.set_cons_zero, List.set_cons_succ]
    refine AnyG.takeG (i := 16) (v := ?_) rfl (by kernel_rfl) (fun _ _ _ h => h) (by simp [Region.wanted, yielded]) ?_ hS ?_
    rotate_left
    · (intro w' hSw; (try dsimp only at hSw); go_simp; (try simp only [hW.out.1, hW.out.2, if_true]); try with_reducible rfl)
    try simp only [Act.put, List.getElem_toArray, List.getElem_cons_succ, List.getElem_cons_zero, List.setIfInBounds_toArray, List.set_cons_zero, List.set_cons_succ]
    refine AnyG.takeG (i := 17) (v := ?_) rfl (by kernel_rfl) (fun _ _ _ h => h) (by simp [Region.wanted, yielded]) ?_ hS ?_
    rotate_left
    · (intro w' hSw; (try dsimp only at hSw); go_simp; (try simp only [hW.out.1, hW.out.2, if_true]); try with_reducible rfl)
    try simp only [Act.put, List.getElem_toArray, List.getElem_cons_succ, List.getElem_cons_zero, List.setIfInBounds_toArray, List.set_cons_zero, List.set_cons_succ]
    refine AnyG.takeG (i := 18) (v := ?_) rfl (by kernel_rfl) (fun _ _ _ h => h) (by simp [Region.wanted, yielded]) ?_ hS ?_
    rotate_left
    · (intro w' hSw; (try dsimp only at hSw); obtain ⟨r0, r1, rf, rz⟩ := (kP3.call hSw).two; go_simp; (try simp only [hW.out.1, hW.out.2, if_true]); try with_reducible rfl)
    try simp only [Act.put, List.getElem_toArray, List.getElem_cons_succ, List.getElem_cons_zero, List.setIfInBounds_toArray, List.set_cons_zero, List.set_cons_succ]
    refine AnyG.takeG (i := 19) (v := ?_) rfl (by kernel_rfl) (fun _ _ _ h => h) (by simp [Region.wanted, yielded]) ?_ hS ?_
    rotate_left
    · (intro w' hSw; (try dsimp only at hSw); go_simp; (try simp only [hW.out.1, hW.out.2, if_true]); try with_reducible rfl)
    try simp only [Act.put, List.getElem_toArray, List.getElem_cons_succ, List.getElem_cons_zero, List.setIfInBounds_toArray, List.set_cons_zero, List.set_cons_succ]
    refine AnyG.takeG (i := 20) (v := ?_) rfl (by kernel_rfl) (fun _ _ _ h => h) (by simp [Region.wanted, yielded]) ?_ hS ?_
    rotate_left
    · (intro w' hSw; (try dsimp only at hSw); obtain ⟨r0, r1, rf, rz⟩ := (kR.call hSw).two; go_simp; (try simp only [hW.out.1, hW.out.2, if_true]); try with_reducible rfl)
    try simp only [Act.put, List.getElem_toArray, List.getElem_cons_succ, List.getElem_cons_zero, List.setIfInBounds_toArray, List.set_cons_zero, List.set_cons_succ]
    refine AnyG.takeG (i := 21) (v := ?_) rfl (by kernel_rfl) (fun _ _ _ h => h) (by simp [Region.wanted, yielded]) ?_ hS ?_
    rotate_left
    · (intro w' hSw; (try dsimp only at hSw); go_simp; (try simp only [hW.out.1, hW.out.2, if_true]); try with_reducible rfl)
    try simp only [Act.put, List.getElem_toArray, List.getElem_cons_succ, List.getElem_cons_zero, List.setIfInBounds_toArray, List.set_cons_zero, List.set_cons_succ]
    refine AnyG.oneG (i := 22) (by kernel_rfl) rfl (by simp [Region.wanted, yielded]) ?_
    go_simp
    refine (rng_any _ _ _).mono ?_
    rintro e yy ⟨rfl, hr⟩
    have hS2 : Below Y3.heap.size Y3 yy := Below.trans hS (hr.mono hS.size)
    clear hS hr
    refine Onward.on hS2 (fun hS => ?_)
    clear hS2
    try simp only [Act.put, List.getElem_toArray, List.getElem_cons_succ, List.getElem_cons_zero, List.setIfInBounds_toArray, List.set_cons_zero, List.set_cons_succ]
    refine AnyG.oneG (i := 23) (by kernel_rfl) rfl (by simp [Region.wanted, yielded]) ?_
    go_simp
    refine (part_any _ _ _ _ _).mono ?_
    rintro e yy ⟨he, hr⟩
    rw [decide_eq_true HSUM.out] at he
    subst he
    have hS2 : Below Y3.heap.size Y3 yy := Below.trans hS (hr.mono hS.size)
    clear hS hr
    refine Onward.on hS2 (fun hS => ?_)
    clear hS2
    try simp only [Act.put, List.getElem_toArray, List.getElem_cons_succ, List.getElem_cons_zero, List.setIfInBounds_toArray, List.set_cons_zero, List.set_cons_succ]
    refine AnyG.take (i := 24) (v := ?_) rfl (by kernel_rfl) (fun _ _ _ h => h) rfl ?_ hS ?_
    rotate_left
    · (intro w' hSw; (try dsimp only at hSw); go_simp; try with_reducible rfl)
    try simp only [Act.put, List.getElem_toArray, List.getElem_cons_succ, List.getElem_cons_zero, List.setIfInBounds_toArray, List.set_cons_zero, List.set_cons_succ]
    refine AnyG.take (i := 25) (v := ?_) rfl (by kernel_rfl) (fun _ _ _ h => h) rfl ?_ hS ?_
    rotate_left
    · (intro w' hSw; (try dsimp only at hSw); go_simp; try with_reducible rfl)
    try simp only [Act.put, List.getElem_toArray, List.getElem_cons_succ, List.getElem_cons_zero, List.setIfInBounds_toArray, List.set_cons_zero, List.set_cons_succ]
    refine AnyG.oneG (i := 26) (by kernel_rfl) rfl (by simp [Region.wanted, yielded]) ?_
    go_simp
    refine (awake_any _).mono ?_
    rintro e yy ⟨rfl, hr⟩
    have hS2 : Below Y3.heap.size Y3 yy := Below.trans hS (hr.mono hS.size)
    clear hS hr
    refine Onward.on hS2 (fun hS => ?_)
    clear hS2
    try simp only [Act.put, List.getElem_toArray, List.getElem_cons_succ, List.getElem_cons_zero, List.setIfInBounds_toArray, List.set_cons_zero, List.set_cons_succ]
    refine AnyG.take (i := 27) (v := ?_) rfl (by kernel_rfl) (fun _ _ _ h => h) rfl ?_ hS ?_
    rotate_left
    · (intro w' hSw; (try dsimp only at hSw); go_simp; try with_reducible rfl)
    try simp only [Act.put, List.getElem_toArray, List.getElem_cons_succ, List.getElem_cons_zero, List.setIfInBounds_toArray, List.set_cons_zero, List.set_cons_succ]
    refine AnyG.take (i := 28) (v := ?_) rfl (by kernel_rfl) (fun _ _ _ h => h) rfl ?_ hS ?_
    rotate_left
    · (intro w' hSw; (try dsimp only at hSw); go_simp; try with_reducible rfl)
    try simp only [Act.put, List.getElem_toArray, List.getElem_cons_succ, List.getElem_cons_zero, List.setIfInBounds_toArray, List.set_cons_zero, List.set_cons_succ]
    refine AnyG.done (by kernel_rfl) ?_ _
    go_simp
    go_wp2_with fail
    go_ret
    exact ⟨rfl, (hwY.trans (hA3.mono hwY.size)).trans (hS.mono (by have := hwY.size; have := hA3.size; omega))⟩
end Go.Proofs.Ytgbogdckmfencaa
