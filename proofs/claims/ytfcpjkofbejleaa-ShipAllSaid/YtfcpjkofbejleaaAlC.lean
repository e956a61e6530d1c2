/- ShipAll: what one truth more changes. -/
import Derived.Test.YtfcpjkofbejleaaAlB
import Derived.Test.YtfcpjkofbejleaaAls
set_option linter.unusedSimpArgs false
set_option linter.unusedVariables false
namespace Go.Proofs.Ytfcpjkofbejleaa
open Go Go.RowKit
theorem k0_of {α β : Type} {L : List α} {f : α → β} {k n : Nat} (hn : L.length = n) (hk : k < n) (h : (L.take k).map f = []) : k = 0 := by
  have := congrArg List.length h
  rw [List.length_map, List.length_take] at this
  simp at this
  rcases this with h | h
  · exact h
  · subst h; simp at hn; omega
theorem k1_of {α β : Type} {L : List α} {f : α → β} {k : Nat} (h : (L.take k).map f ≠ []) : k ≠ 0 := fun e => h (by rw [e]; rfl)
set_option maxRecDepth 100000 in
set_option maxHeartbeats 16000000 in
theorem shipAll_C (A : Option Addr) (n c : Nat) (L : List Int) (w : World) : (shipAll_B A n c L w).1 := by
  intro hn hA HL i3 hi3 hz3 hs3 iy3 i41 hi41 hz41 hs41 iy41 i27 hi27 hz27 hs27 iy27 j0 w1 g hg0 w3 v p HFW HOK HCK HLF HFT hln2 hsn2 V1 bO hgO V SA sc s HSL HST HLL HSS j1 j2 u44 u45 u46 u47 u48 u49 u50 u51 u52 u53 u54 u55 u56 u57 u58 u59 j3 j4 R j5 j6 j7 j8 j9 u9 u60 u61 u62 u63 u64 u65 u66 u67 u68 u69 u70 u71 u72 u73 u74 u75 u76 u77 u78 u79 u80 u81 u82 u83 u84 u85 u86 u87 u88 u89 u90 u91 u92 u93 u94 u95 u96 u97 u98 u99 nr RA rc kr HRL j10 j11 j12 w8 nac hB8 AL na hsm8 HNA HMEM LV B0 B1 S0 S1 vd OV n2 hol HB0 HB1 HS0 HS1 HVD HOV HN2 t1 t2 htb HTL HLV w9 Zw9 pk11 pk12 w10 Zw10 pk15 w11 Xgr1 cgr1 W gr1 k15 k12 k11 hBw hss hvv kv U9 bq hbq2 HBQ j13 j14 u28 u29 u30 jj0 u32 u33 u34 u35 u136 u137 u138 u139 u140 u141 u142 u143 u144 u145 u146 u147 u148 u149 u150 u151 u152 u153 u154 u155 u156 u157 u158 jj1 jj2 jj3 jj4 jj5 jj6 jj7 jj8 jj9 jj10 jj11 jj12 jj13 jj14 jj15 jj16 jj17 jj18 jj19 jj20 jj21 jj22 jj23 jj24 jj25 jj26 jj27 jj28 jj29 jj30 jj31 jj32 jj33 jj34 jj35 u194 u195 u196 u197 u198 u199 u200 u201 u202 u203 u204 u205 u206 u207 u208 u209 u210 u211 u212 u213 u214 u215 u216 u217 u218 u219 u220 u221 u222 u223 u224 u225 u226 u227 u228 u229 u230 u231 u232 u233 u234 u235 u236 u237 u238 u239 u240 u241 u242 u243 u244 u245 u246 u247 u248 u249 u250 u251 u252 u253 u254 u255 u256 u257 u258 u259 u260 u261 u262 u263 u264 u265 u266 u267 u268 u269 u270 u271 u272 u273 u274 u275 u276 u277 u278 u279 u280 u281 u282 u283 u284 u285 u286 u287 u288 u289 u290 u291 u292 u293 u294 u295 u296 u297 u298 u299 u300 u301 u302 u303 u304 u305 u306 u307 u308 u309 u310 u311 u312 u313 u314 u315 u316 u317 u318 u319 u320 u321 u322 u323 u324 k nd dc fw cnt DA due p0 q0 y0 lb hk HAS hkn nd' G gc hndb l hgc hln1 HLL2 HIN HTK HXK hls hlg jj36 jj37 jj38 bt w29 w0 hbs T29 GX hS jj39 u31 u159 u160 u161 u162 u163 u164 u165 u166 u167 u168 u169 u170 u171 u172 u173 u174 u175 u176 u177 u178 u179 u180 u181 u182 u183 u184 u185 u186 u187 u188 u189 u190 u191 u192 u193 nx xc wc dc9 XA WA DA9 rst ws ds vs wx HTL9 HWL9 HDL9 jj40 jj41 jj42 w37 LA9 lc9 jj43 jj44 jj45 jj46 X9 bw sn LL nl hsl HBW HSN HLL9 HNL hbw2 hsn2' oL9 hxsz
  have hkk : ((k : Int) == 0) = decide (k = 0) := by by_cases h : k = 0 <;> simp [h]
  have htr := HOK.out.tr
  have wap : IntKind.i64.wrap (bw - sn) = bw - sn := IntWalk.i64_in _ (by omega)
  have waq : IntKind.i64.wrap (sn - bw) = sn - bw := IntWalk.i64_in _ (by omega)
  have HKK := Lib.hid hkk
  clear hkk
  go_upto_if 203 with fail
  go_cut [27] from 202 to 216 (fun v27 x => v27 = .int .i64 k ∧ ∃ p1 p2 q1 q2 y1 y2 : Int, Hid ((k = 0 → (p1, p2) = (bw, bw) ∧ (q1, q2) = (sn, sn) ∧ (y1, y2) = (bw - sn, bw - sn)) ∧ (k ≠ 0 → (p1, p2) = p0 ∧ (q1, q2) = q0 ∧ (y1, y2) = y0)) ∧ AI W bq (p1, p2) (q1, q2) (y1, y2) due DA nd dc x ∧ x.ownsRow W.heap.size 3 1 (.slice LA9 nl lc9) nl (inr LL).flatten)
  case first =>
    by_cases hk0 : k = 0
    · have hkk : ((k : Int) == 0) = true := by rw [HKK.out]; simpa using hk0
      have HK0 := Lib.hid hk0
      clear hk0
      obtain ⟨a0, a1, af, az⟩ := X9.kp.two'; obtain ⟨b0, b1, bf, bz⟩ := X9.kq.two'; obtain ⟨c0, c1, cf, cz⟩ := (show Bx _ (bq + 1 + 1) 41 #[.int .i64 _, .int .i64 _] from X9.ky).two'
      go_wp2_with (first
        | (go_at_call 44; refine (rng_any _ _ _).mono ?_; rintro e w38 ⟨rfl, hb38⟩; replace X9 := X9.call hb38; replace oL9 := own_bel oL9 hb38; clear hb38; clear a0 a1 af az b0 b1 bf bz c0 c1 cf cz; obtain ⟨a0, a1, af, az⟩ := X9.kp.two'; obtain ⟨b0, b1, bf, bz⟩ := X9.kq.two'; obtain ⟨c0, c1, cf, cz⟩ := (show Bx _ (bq + 1 + 1) 41 #[.int .i64 _, .int .i64 _] from X9.ky).two')
        | fail)
      have XS := X9.sets hbq2 bw bw sn sn (bw - sn) (bw - sn)
      have OS := X9.setsRow oL9 bw bw sn sn (bw - sn) (bw - sn)
      go_meet
      exact ⟨rfl, bw, bw, sn, sn, bw - sn, bw - sn, Lib.hid ⟨fun _ => ⟨rfl, rfl, rfl⟩, fun h => absurd HK0.out h⟩, XS, OS⟩
    · have hkk : ((k : Int) == 0) = false := by rw [HKK.out]; simpa using hk0
      have HK0 := Lib.hid hk0
      clear hk0
      go_wp2_with fail
      go_meet
      exact ⟨rfl, p0.1, p0.2, q0.1, q0.2, y0.1, y0.2, Lib.hid ⟨fun h => absurd h HK0.out, fun _ => ⟨rfl, rfl, rfl⟩⟩, X9, oL9⟩
  case rest =>
    obtain ⟨rfl, p1, p2, q1, q2, y1, y2, HPQ, X10, oL10⟩ := hcut
    obtain ⟨w40, hw40⟩ : ∃ x, wc = x := ⟨_, rfl⟩
    rw [hw40] at X10 oL10 ⊢
    clear hw40 X9 oL9
    have ky10 : Bx w40 (bq + 1 + 1) 41 #[.int .i64 y1, .int .i64 y2] := X10.ky
    obtain ⟨P1, hP1⟩ : ∃ x, (if bw < p1 then bw else p1) = x := ⟨_, rfl⟩
    obtain ⟨P2, hP2⟩ : ∃ x, (if p2 < bw then bw else p2) = x := ⟨_, rfl⟩
    obtain ⟨Q1, hQ1⟩ : ∃ x, (if sn < q1 then sn else q1) = x := ⟨_, rfl⟩
    obtain ⟨Q2, hQ2⟩ : ∃ x, (if q2 < sn then sn else q2) = x := ⟨_, rfl⟩
    obtain ⟨Y1, hY1⟩ : ∃ x, (if bw - sn < y1 then bw - sn else y1) = x := ⟨_, rfl⟩
    obtain ⟨Y2, hY2⟩ : ∃ x, (if y2 < bw - sn then bw - sn else y2) = x := ⟨_, rfl⟩
    go_wp2_with fail
    refine AnyG.startC (by as_aux_lemma => kernel_rfl) ?_
    refine AnyG.takeP (i := 0) (v := ?_) rfl (by as_aux_lemma => kernel_rfl) (fun _ _ _ h => h) rfl ?_ ?_
    rotate_left
    · (intro w'; go_simp; try with_reducible rfl)
    try simp only [Act.put, List.getElem_toArray, List.getElem_cons_succ, List.getElem_cons_zero, List.setIfInBounds_toArray, List.set_cons_zero, List.set_cons_succ]
    refine AnyG.takeP (i := 2) (v := ?_) rfl (by as_aux_lemma => kernel_rfl) (fun _ _ _ h => h) rfl ?_ ?_
    rotate_left
    · (intro w'; go_simp; try with_reducible rfl)
    try simp only [Act.put, List.getElem_toArray, List.getElem_cons_succ, List.getElem_cons_zero, List.setIfInBounds_toArray, List.set_cons_zero, List.set_cons_succ]
    refine AnyG.takeP (i := 4) (v := ?_) rfl (by as_aux_lemma => kernel_rfl) (fun _ _ _ h => h) rfl ?_ ?_
    rotate_left
    · (intro w'; go_simp; try with_reducible rfl)
    try simp only [Act.put, List.getElem_toArray, List.getElem_cons_succ, List.getElem_cons_zero, List.setIfInBounds_toArray, List.set_cons_zero, List.set_cons_succ]
    refine AnyG.takeP (i := 6) (v := ?_) rfl (by as_aux_lemma => kernel_rfl) (fun _ _ _ h => h) rfl ?_ ?_
    rotate_left
    · (intro w'; go_simp; try with_reducible rfl)
    try simp only [Act.put, List.getElem_toArray, List.getElem_cons_succ, List.getElem_cons_zero, List.setIfInBounds_toArray, List.set_cons_zero, List.set_cons_succ]
    refine AnyG.takeP (i := 9) (v := ?_) rfl (by as_aux_lemma => kernel_rfl) (fun _ _ _ h => h) rfl ?_ ?_
    rotate_left
    · (intro w'; go_simp; try with_reducible rfl)
    try simp only [Act.put, List.getElem_toArray, List.getElem_cons_succ, List.getElem_cons_zero, List.setIfInBounds_toArray, List.set_cons_zero, List.set_cons_succ]
    refine AnyG.takeP (i := 11) (v := ?_) rfl (by as_aux_lemma => kernel_rfl) (fun _ _ _ h => h) rfl ?_ ?_
    rotate_left
    · (intro w'; go_simp; try with_reducible rfl)
    try simp only [Act.put, List.getElem_toArray, List.getElem_cons_succ, List.getElem_cons_zero, List.setIfInBounds_toArray, List.set_cons_zero, List.set_cons_succ]
    refine AnyG.takeP (i := 13) (v := ?_) rfl (by as_aux_lemma => kernel_rfl) (fun _ _ _ h => h) rfl ?_ ?_
    rotate_left
    · (intro w'; go_simp; try with_reducible rfl)
    try simp only [Act.put, List.getElem_toArray, List.getElem_cons_succ, List.getElem_cons_zero, List.setIfInBounds_toArray, List.set_cons_zero, List.set_cons_succ]
    refine AnyG.takeP (i := 15) (v := ?_) rfl (by as_aux_lemma => kernel_rfl) (fun _ _ _ h => h) rfl ?_ ?_
    rotate_left
    · (intro w'; go_simp; try with_reducible rfl)
    try simp only [Act.put, List.getElem_toArray, List.getElem_cons_succ, List.getElem_cons_zero, List.setIfInBounds_toArray, List.set_cons_zero, List.set_cons_succ]
    refine AnyG.takeP (i := 18) (v := ?_) rfl (by as_aux_lemma => kernel_rfl) (fun _ _ _ h => h) rfl ?_ ?_
    rotate_left
    · (intro w'; go_simp; try with_reducible rfl)
    try simp only [Act.put, List.getElem_toArray, List.getElem_cons_succ, List.getElem_cons_zero, List.setIfInBounds_toArray, List.set_cons_zero, List.set_cons_succ]
    refine AnyG.takeP (i := 20) (v := ?_) rfl (by as_aux_lemma => kernel_rfl) (fun _ _ _ h => h) rfl ?_ ?_
    rotate_left
    · (intro w'; go_simp; try with_reducible rfl)
    try simp only [Act.put, List.getElem_toArray, List.getElem_cons_succ, List.getElem_cons_zero, List.setIfInBounds_toArray, List.set_cons_zero, List.set_cons_succ]
    refine AnyG.takeP (i := 21) (v := ?_) rfl (by as_aux_lemma => kernel_rfl) (fun _ _ _ h => h) rfl ?_ ?_
    rotate_left
    · (intro w'; go_simp; try with_reducible rfl)
    try simp only [Act.put, List.getElem_toArray, List.getElem_cons_succ, List.getElem_cons_zero, List.setIfInBounds_toArray, List.set_cons_zero, List.set_cons_succ]
    refine AnyG.takeP (i := 22) (v := ?_) rfl (by as_aux_lemma => kernel_rfl) (fun _ _ _ h => h) rfl ?_ ?_
    rotate_left
    · (intro w'; go_simp; try with_reducible rfl)
    try simp only [Act.put, List.getElem_toArray, List.getElem_cons_succ, List.getElem_cons_zero, List.setIfInBounds_toArray, List.set_cons_zero, List.set_cons_succ]
    refine AnyG.takeP (i := 24) (v := ?_) rfl (by as_aux_lemma => kernel_rfl) (fun _ _ _ h => h) rfl ?_ ?_
    rotate_left
    · (intro w'; go_simp; try with_reducible rfl)
    try simp only [Act.put, List.getElem_toArray, List.getElem_cons_succ, List.getElem_cons_zero, List.setIfInBounds_toArray, List.set_cons_zero, List.set_cons_succ]
    refine AnyG.takeP (i := 26) (v := ?_) rfl (by as_aux_lemma => kernel_rfl) (fun _ _ _ h => h) rfl ?_ ?_
    rotate_left
    · (intro w'; go_simp; try with_reducible rfl)
    try simp only [Act.put, List.getElem_toArray, List.getElem_cons_succ, List.getElem_cons_zero, List.setIfInBounds_toArray, List.set_cons_zero, List.set_cons_succ]
    refine AnyG.takeP (i := 27) (v := ?_) rfl (by as_aux_lemma => kernel_rfl) (fun _ _ _ h => h) rfl ?_ ?_
    rotate_left
    · (intro w'; go_simp; try with_reducible rfl)
    try simp only [Act.put, List.getElem_toArray, List.getElem_cons_succ, List.getElem_cons_zero, List.setIfInBounds_toArray, List.set_cons_zero, List.set_cons_succ]
    refine AnyG.takeP (i := 28) (v := ?_) rfl (by as_aux_lemma => kernel_rfl) (fun _ _ _ h => h) rfl ?_ ?_
    rotate_left
    · (intro w'; go_simp; try with_reducible rfl)
    try simp only [Act.put, List.getElem_toArray, List.getElem_cons_succ, List.getElem_cons_zero, List.setIfInBounds_toArray, List.set_cons_zero, List.set_cons_succ]
    refine AnyG.enter (fun w' : World => Below w40.heap.size w40 w') (fun i => i != 31 && i != 32 && i != 33) ?_
    have hS : (fun w' : World => Below w40.heap.size w40 w') (World.drew _) := (Below.refl _ _).drew
    refine AnyG.takeC (i := 1) (v := ?_) rfl (by as_aux_lemma => kernel_rfl) (fun _ _ _ h => h) rfl ?_ hS ?_
    rotate_left
    · (intro w' hSw; (try dsimp only at hSw); obtain ⟨a0, a1, af, az⟩ := (X10.kp.call hSw).two'; go_simp; try with_reducible rfl)
    try simp only [Act.put, List.getElem_toArray, List.getElem_cons_succ, List.getElem_cons_zero, List.setIfInBounds_toArray, List.set_cons_zero, List.set_cons_succ]
    refine AnyG.takeC (i := 3) (v := ?_) rfl (by as_aux_lemma => kernel_rfl) (fun _ _ _ h => h) rfl ?_ hS ?_
    rotate_left
    · (intro w' hSw; (try dsimp only at hSw); go_simp; try with_reducible rfl)
    try simp only [Act.put, List.getElem_toArray, List.getElem_cons_succ, List.getElem_cons_zero, List.setIfInBounds_toArray, List.set_cons_zero, List.set_cons_succ]
    refine AnyG.takeC (i := 5) (v := ?_) rfl (by as_aux_lemma => kernel_rfl) (fun _ _ _ h => h) rfl ?_ hS ?_
    rotate_left
    · (intro w' hSw; (try dsimp only at hSw); obtain ⟨a0, a1, af, az⟩ := (X10.kp.call hSw).two'; go_simp; try with_reducible rfl)
    try simp only [Act.put, List.getElem_toArray, List.getElem_cons_succ, List.getElem_cons_zero, List.setIfInBounds_toArray, List.set_cons_zero, List.set_cons_succ]
    refine AnyG.takeC (i := 7) (v := ?_) rfl (by as_aux_lemma => kernel_rfl) (fun _ _ _ h => h) rfl ?_ hS ?_
    rotate_left
    · (intro w' hSw; (try dsimp only at hSw); go_simp; try with_reducible rfl)
    try simp only [Act.put, List.getElem_toArray, List.getElem_cons_succ, List.getElem_cons_zero, List.setIfInBounds_toArray, List.set_cons_zero, List.set_cons_succ]
    refine AnyG.takeC (i := 10) (v := ?_) rfl (by as_aux_lemma => kernel_rfl) (fun _ _ _ h => h) rfl ?_ hS ?_
    rotate_left
    · (intro w' hSw; (try dsimp only at hSw); obtain ⟨b0, b1, bf, bz⟩ := (X10.kq.call hSw).two'; go_simp; try with_reducible rfl)
    try simp only [Act.put, List.getElem_toArray, List.getElem_cons_succ, List.getElem_cons_zero, List.setIfInBounds_toArray, List.set_cons_zero, List.set_cons_succ]
    refine AnyG.takeC (i := 12) (v := ?_) rfl (by as_aux_lemma => kernel_rfl) (fun _ _ _ h => h) rfl ?_ hS ?_
    rotate_left
    · (intro w' hSw; (try dsimp only at hSw); go_simp; try with_reducible rfl)
    try simp only [Act.put, List.getElem_toArray, List.getElem_cons_succ, List.getElem_cons_zero, List.setIfInBounds_toArray, List.set_cons_zero, List.set_cons_succ]
    refine AnyG.takeC (i := 14) (v := ?_) rfl (by as_aux_lemma => kernel_rfl) (fun _ _ _ h => h) rfl ?_ hS ?_
    rotate_left
    · (intro w' hSw; (try dsimp only at hSw); obtain ⟨b0, b1, bf, bz⟩ := (X10.kq.call hSw).two'; go_simp; try with_reducible rfl)
    try simp only [Act.put, List.getElem_toArray, List.getElem_cons_succ, List.getElem_cons_zero, List.setIfInBounds_toArray, List.set_cons_zero, List.set_cons_succ]
    refine AnyG.takeC (i := 16) (v := ?_) rfl (by as_aux_lemma => kernel_rfl) (fun _ _ _ h => h) rfl ?_ hS ?_
    rotate_left
    · (intro w' hSw; (try dsimp only at hSw); go_simp; try with_reducible rfl)
    try simp only [Act.put, List.getElem_toArray, List.getElem_cons_succ, List.getElem_cons_zero, List.setIfInBounds_toArray, List.set_cons_zero, List.set_cons_succ]
    refine AnyG.takeC (i := 19) (v := ?_) rfl (by as_aux_lemma => kernel_rfl) (fun _ _ _ h => h) rfl ?_ hS ?_
    rotate_left
    · (intro w' hSw; (try dsimp only at hSw); obtain ⟨c0, c1, cf, cz⟩ := (ky10.call hSw).two'; go_simp; try with_reducible rfl)
    try simp only [Act.put, List.getElem_toArray, List.getElem_cons_succ, List.getElem_cons_zero, List.setIfInBounds_toArray, List.set_cons_zero, List.set_cons_succ]
    refine AnyG.takeC (i := 23) (v := ?_) rfl (by as_aux_lemma => kernel_rfl) (fun _ _ _ h => h) rfl ?_ hS ?_
    rotate_left
    · (intro w' hSw; (try dsimp only at hSw); go_simp; try with_reducible rfl)
    try simp only [Act.put, List.getElem_toArray, List.getElem_cons_succ, List.getElem_cons_zero, List.setIfInBounds_toArray, List.set_cons_zero, List.set_cons_succ]
    refine AnyG.takeC (i := 25) (v := ?_) rfl (by as_aux_lemma => kernel_rfl) (fun _ _ _ h => h) rfl ?_ hS ?_
    rotate_left
    · (intro w' hSw; (try dsimp only at hSw); obtain ⟨c0, c1, cf, cz⟩ := (ky10.call hSw).two'; go_simp; try with_reducible rfl)
    try simp only [Act.put, List.getElem_toArray, List.getElem_cons_succ, List.getElem_cons_zero, List.setIfInBounds_toArray, List.set_cons_zero, List.set_cons_succ]
    refine AnyG.takeC (i := 29) (v := ?_) rfl (by as_aux_lemma => kernel_rfl) (fun _ _ _ h => h) rfl ?_ hS ?_
    rotate_left
    · (intro w' hSw; (try dsimp only at hSw); go_simp; try with_reducible rfl)
    try simp only [Act.put, List.getElem_toArray, List.getElem_cons_succ, List.getElem_cons_zero, List.setIfInBounds_toArray, List.set_cons_zero, List.set_cons_succ]
    refine AnyG.one (i := 8) (by as_aux_lemma => kernel_rfl) rfl rfl ?_
    go_simp
    refine (rng_any _ _ _).mono ?_
    rintro er y8 ⟨rfl, hb8⟩
    have hS8 := hS.trans (hb8.mono hS.size)
    refine Onward.on hS8 (fun hS2 => ?_)
    clear hS
    have hS := hS2
    clear hS2
    try simp only [Act.put, List.getElem_toArray, List.getElem_cons_succ, List.getElem_cons_zero, List.setIfInBounds_toArray, List.set_cons_zero, List.set_cons_succ]
    refine AnyG.one (i := 17) (by as_aux_lemma => kernel_rfl) rfl rfl ?_
    go_simp
    refine (rng_any _ _ _).mono ?_
    rintro er y17 ⟨rfl, hb17⟩
    have hS17 := hS.trans (hb17.mono hS.size)
    refine Onward.on hS17 (fun hS2 => ?_)
    clear hS
    have hS := hS2
    clear hS2
    try simp only [Act.put, List.getElem_toArray, List.getElem_cons_succ, List.getElem_cons_zero, List.setIfInBounds_toArray, List.set_cons_zero, List.set_cons_succ]
    refine AnyG.one (i := 30) (by as_aux_lemma => kernel_rfl) rfl rfl ?_
    go_simp
    refine (rng_any _ _ _).mono ?_
    rintro er y30 ⟨rfl, hb30⟩
    have hS30 := hS.trans (hb30.mono hS.size)
    refine Onward.on hS30 (fun hS2 => ?_)
    clear hS
    have hS := hS2
    clear hS2
    try simp only [Act.put, List.getElem_toArray, List.getElem_cons_succ, List.getElem_cons_zero, List.setIfInBounds_toArray, List.set_cons_zero, List.set_cons_succ]
    refine AnyG.one (i := 31) (by as_aux_lemma => kernel_rfl) rfl rfl ?_
    have X11 := X10.call hS
    have oL11 := own_bel oL10 hS
    obtain ⟨a0, a1, af, az⟩ := X11.kp.two'; obtain ⟨b0, b1, bf, bz⟩ := X11.kq.two'; obtain ⟨c0, c1, cf, cz⟩ := (show Bx _ (bq + 1 + 1) 41 #[.int .i64 _, .int .i64 _] from X11.ky).two'
    go_simp
    refine Onward.last rfl ?_
    try simp only [Act.put, List.getElem_toArray, List.getElem_cons_succ, List.getElem_cons_zero, List.setIfInBounds_toArray, List.set_cons_zero, List.set_cons_succ]
    refine AnyG.one (i := 32) (by as_aux_lemma => kernel_rfl) rfl rfl ?_
    go_simp
    refine Onward.last rfl ?_
    try simp only [Act.put, List.getElem_toArray, List.getElem_cons_succ, List.getElem_cons_zero, List.setIfInBounds_toArray, List.set_cons_zero, List.set_cons_succ]
    refine AnyG.one (i := 33) (by as_aux_lemma => kernel_rfl) rfl rfl ?_
    go_simp
    refine Onward.last rfl ?_
    try simp only [Act.put, List.getElem_toArray, List.getElem_cons_succ, List.getElem_cons_zero, List.setIfInBounds_toArray, List.set_cons_zero, List.set_cons_succ]
    refine AnyG.done (by as_aux_lemma => kernel_rfl) ?_ _
    go_simp
    have HP1 := Lib.hid hP1
    have HP2 := Lib.hid hP2
    have HQ1 := Lib.hid hQ1
    have HQ2 := Lib.hid hQ2
    have HY1 := Lib.hid hY1
    have HY2 := Lib.hid hY2
    clear hP1 hP2 hQ1 hQ2 hY1 hY2
    have XS := X11.sets hbq2 P1 P2 Q1 Q2 Y1 Y2
    have OS := X11.setsRow oL11 P1 P2 Q1 Q2 Y1 Y2
    obtain ⟨w41, hw41⟩ : ∃ x, ((((((y30.setCell ⟨bq, 0, none⟩ (.int .i64 P1)).setCell ⟨bq, 1, none⟩ (.int .i64 P2)).setCell ⟨bq + 1, 0, none⟩ (.int .i64 Q1)).setCell ⟨bq + 1, 1, none⟩ (.int .i64 Q2)).setCell ⟨bq + 1 + 1, 0, none⟩ (.int .i64 Y1)).setCell ⟨bq + 1 + 1, 1, none⟩ (.int .i64 Y2)) = x := ⟨_, rfl⟩
    rw [hw41] at XS OS ⊢
    clear a0 a1 af az b0 b1 bf bz c0 c1 cf cz
    clear hw41 X10 X11 oL10 oL11 ky10 hS hS8 hS17 hS30 hb8 hb17 hb30
    obtain ⟨f1, hf1⟩ : ∃ x : Nat, x = min fw nl := ⟨_, rfl⟩
    have hfi : (if nl < fw then (nl : Int) else (fw : Int)) = (f1 : Int) := by split <;> omega
    have HF1 := Lib.hid hf1
    clear hf1
    have kv41 := kv.call XS.bel
    obtain ⟨l0, l1, l2, l3, l4, l5, l6, lf', lz⟩ := kv41.seven
    have w1000 : IntKind.i64.wrap (1000 * v.tr) = 1000 * v.tr := IntWalk.i64_in _ (by omega)
    go_upto_region 42 with fail
    clear hfi
    go_cut [26] from 252 to 270 (fun v26 x => v26 = .bool (lb && (decide (bw - sn ≤ 1000 * v.tr) && decide (sn - bw ≤ 1000 * v.tr))) ∧ x = w41)
    case first =>
      cases lb
      · go_wp2_with fail
        go_meet
        exact ⟨rfl, rfl⟩
      · by_cases e1 : bw - sn ≤ 1000 * v.tr
        · by_cases e2 : sn - bw ≤ 1000 * v.tr
          · go_wp2_with fail
            go_meet
            exact ⟨by rw [decide_eq_true e1, decide_eq_true e2]; rfl, rfl⟩
          · go_wp2_with fail
            go_meet
            exact ⟨by rw [decide_eq_true e1, decide_eq_false (by omega)]; rfl, rfl⟩
        · go_wp2_with fail
          go_meet
          exact ⟨by rw [decide_eq_false (by omega)]; rfl, rfl⟩
    case rest =>
      obtain ⟨rfl, hwc⟩ := hcut
      rw [hwc]
      clear hwc
      obtain ⟨lb2, hlb2⟩ : ∃ x, (lb && (decide (bw - sn ≤ 1000 * v.tr) && decide (sn - bw ≤ 1000 * v.tr))) = x := ⟨_, rfl⟩
      rw [hlb2]
      have HLB2 := Lib.hid hlb2
      clear hlb2
      have hcn : cnt ≤ 6561 := by
        have a := HAS.out.1.cnt
        have b := cntP_le v.ss.length (((AL.take k).map (truX v)).map fun t => salT v t s)
        rw [List.length_map, List.length_map, List.length_take] at b
        have := HNA.out
        omega
      have hcw : IntKind.i64.wrap ((cnt : Int) + 1) = (cnt : Int) + 1 := IntWalk.i64_in _ (by omega)
      go_upto_if 276 with fail
      obtain ⟨c2, hc2⟩ : ∃ x, cnt + (if nl = p.sn then 1 else 0) = x := ⟨_, rfl⟩
      have HC2 := Lib.hid hc2
      clear hc2
      go_cut [25] from 277 to 278 (fun v25 x => v25 = .int .i64 c2 ∧ x = w41)
      case first =>
        by_cases e : nl = p.sn
        · have eb : ((nl : Int) == (p.sn : Int)) = true := by rw [beq_iff_eq]; omega
          have eb2 : (nl == p.sn) = true := by rw [beq_iff_eq]; omega
          have hcc : (cnt : Int) + 1 = (c2 : Int) := by have := HC2.out; rw [if_pos e] at this; omega
          clear e
          go_wp2_with fail
          go_meet
          exact ⟨by rw [← hcc], rfl⟩
        · have eb : ((nl : Int) == (p.sn : Int)) = false := by rw [beq_eq_false_iff_ne]; omega
          have eb2 : (nl == p.sn) = false := by rw [beq_eq_false_iff_ne]; omega
          have eb3 : (nl = p.sn) = False := eq_false e
          have hcc : (cnt : Int) = (c2 : Int) := by have := HC2.out; rw [if_neg e] at this; omega
          have HCC := Lib.hid hcc
          clear e hcc
          go_wp2_with fail
          go_meet
          exact ⟨by rw [← HCC.out], rfl⟩
      case rest =>
        obtain ⟨rfl, hwc⟩ := hcut
        rw [hwc]
        clear hwc
        clear l0 l1 l2 l3 l4 l5 l6 lf' lz kv41
        have hsalb : ∀ t ∈ (AL.take k).map (truX v), (salT v t s).length ≤ p.sn := fun t ht => by
          obtain ⟨x, hx, rfl⟩ := List.mem_map.1 ht
          have hm := (HMEM.out x).1 (List.mem_of_mem_take hx)
          have := salT_len (truX_ok hm) s
          rw [HSS.out] at this
          exact this
        have hnd2 : nd ≤ 2 := by
          have a := HAS.out.2
          rcases Nat.eq_zero_or_pos nd with h | h
          · omega
          · obtain ⟨m, hm, hi⟩ := (HAS.out.1.due.len (nd - 1)).1 (by omega)
            obtain ⟨t, ht, rfl⟩ := List.mem_map.1 hm
            have := hsalb t ht
            omega
        have HDU := Lib.hid (And.intro (HAS.out.1.due.start LL) HAS.out.2)
        have HSB := Lib.hid hsalb
        clear hsalb
        go_wp2_with fail
        go_loopw [23, 35] (fun dv iv x => ∃ (i nd dc : Nat) (DA : Option Addr) (du : List (Int × Int)), dv = .slice DA nd dc ∧ iv = .int .i64 i ∧ i ≤ nl ∧ nd ≤ 2 ∧ i ≤ nd ∧ Hid (DueP (((AL.take k).map (truX v)).map fun t => salT v t s) LL i du ∧ du.length = nd) ∧ AI W bq (P1, P2) (Q1, Q2) (Y1, Y2) du DA nd dc x ∧ x.ownsRow W.heap.size 3 1 (.slice LA9 nl lc9) nl (inr LL).flatten) (fun _ iv _ => nl - (intOf iv).toNat)
        case atStart => exact ⟨0, nd, dc, DA, due, rfl, rfl, by omega, hnd2, by omega, HDU, XS, OS⟩
        case round =>
          clear XS OS HDU hnd2
          obtain ⟨i, nd, dc, DA, du, rfl, rfl, hi, hnd2, hind, HDU, XI, oLi⟩ := hrel
          obtain ⟨wx, rfl⟩ : ∃ Z, Z = wr := ⟨_, rfl⟩
          by_cases hin : i < nl
          · have hil : i < LL.length := by rw [HNL.out]; exact hin
            have hLs := own_inr oLi HNL.out
            obtain ⟨lad, rfl, hlb, g0⟩ := inr_at hLs hil
            have hgl := List.getElem?_eq_getElem hil
            generalize LL[i] = m at *
            have HGL := Lib.hid hgl
            have hiw : IntKind.i64.wrap ((i : Int) + 1) = (i : Int) + 1 := IntWalk.i64_in _ (by omega)
            clear hgl hil hLs
            go_upto_if 288 with fail
            go_cut [23] from 288 to 300 (fun v23 x => ∃ (nd8 dc8 : Nat) (DA8 : Option Addr) (du8 : List (Int × Int)), v23 = .slice DA8 nd8 dc8 ∧ Hid (du8.length = nd8 ∧ (nd = i → du8 = du ++ [(m, m)]) ∧ (nd ≠ i → du8 = du)) ∧ i < nd8 ∧ nd8 ≤ 2 ∧ AI W bq (P1, P2) (Q1, Q2) (Y1, Y2) du8 DA8 nd8 dc8 x ∧ x.ownsRow W.heap.size 3 1 (.slice (some lad) nl lc9) nl (inr LL).flatten)
            case first =>
              by_cases e : nd = i
              · have eb : ((i : Int) == (nd : Int)) = true := by rw [beq_iff_eq]; omega
                have eb2 : (i == nd) = true := by rw [beq_iff_eq]; omega
                have HE := Lib.hid e
                have hnd1 : nd ≤ 1 := by omega
                have hbx : bq + 3 ≤ wx.heap.size := by have := XI.ky.lt; omega
                clear e
                go_wp2_with fail
                refine AnyG.startC (by as_aux_lemma => kernel_rfl) ?_
                refine AnyG.takeP (i := 0) (v := ?_) rfl (by as_aux_lemma => kernel_rfl) (fun _ _ _ h => h) rfl ?_ ?_
                rotate_left
                · (intro w'; go_simp; try with_reducible rfl)
                try simp only [Act.put, List.getElem_toArray, List.getElem_cons_succ, List.getElem_cons_zero, List.setIfInBounds_toArray, List.set_cons_zero, List.set_cons_succ]
                refine AnyG.takeP (i := 1) (v := ?_) rfl (by as_aux_lemma => kernel_rfl) (fun _ _ _ h => h) rfl ?_ ?_
                rotate_left
                · (intro w'; go_simp; try with_reducible rfl)
                try simp only [Act.put, List.getElem_toArray, List.getElem_cons_succ, List.getElem_cons_zero, List.setIfInBounds_toArray, List.set_cons_zero, List.set_cons_succ]
                refine AnyG.takeP (i := 2) (v := ?_) rfl (by as_aux_lemma => kernel_rfl) (fun _ _ _ h => h) rfl ?_ ?_
                rotate_left
                · (intro w'; go_simp; try with_reducible rfl)
                try simp only [Act.put, List.getElem_toArray, List.getElem_cons_succ, List.getElem_cons_zero, List.setIfInBounds_toArray, List.set_cons_zero, List.set_cons_succ]
                refine AnyG.takeP (i := 3) (v := ?_) rfl (by as_aux_lemma => kernel_rfl) (fun _ _ _ h => h) rfl ?_ ?_
                rotate_left
                · (intro w'; go_simp; try with_reducible rfl)
                try simp only [Act.put, List.getElem_toArray, List.getElem_cons_succ, List.getElem_cons_zero, List.setIfInBounds_toArray, List.set_cons_zero, List.set_cons_succ]
                refine AnyG.takeP (i := 5) (v := ?_) rfl (by as_aux_lemma => kernel_rfl) (fun _ _ _ h => h) rfl ?_ ?_
                rotate_left
                · (intro w'; go_simp; try with_reducible rfl)
                try simp only [Act.put, List.getElem_toArray, List.getElem_cons_succ, List.getElem_cons_zero, List.setIfInBounds_toArray, List.set_cons_zero, List.set_cons_succ]
                refine AnyG.takeP (i := 6) (v := ?_) rfl (by as_aux_lemma => kernel_rfl) (fun _ _ _ h => h) rfl ?_ ?_
                rotate_left
                · (intro w'; go_simp; try with_reducible rfl)
                try simp only [Act.put, List.getElem_toArray, List.getElem_cons_succ, List.getElem_cons_zero, List.setIfInBounds_toArray, List.set_cons_zero, List.set_cons_succ]
                refine AnyG.takeP (i := 7) (v := ?_) rfl (by as_aux_lemma => kernel_rfl) (fun _ _ _ h => h) rfl ?_ ?_
                rotate_left
                · (intro w'; go_simp; try with_reducible rfl)
                try simp only [Act.put, List.getElem_toArray, List.getElem_cons_succ, List.getElem_cons_zero, List.setIfInBounds_toArray, List.set_cons_zero, List.set_cons_succ]
                refine AnyG.enter (fun w' : World => Below wx.heap.size wx w') (fun i => i != 11 && i != 12) ?_
                have hS : (fun w' : World => Below wx.heap.size wx w') (World.drew _) := (Below.refl _ _).drew
                refine AnyG.takeC (i := 4) (v := ?_) rfl (by as_aux_lemma => kernel_rfl) (fun _ _ _ h => h) rfl ?_ hS ?_
                rotate_left
                · (intro w' hSw; (try dsimp only at hSw); have p0 := cellC hSw g0; go_simp; try with_reducible rfl)
                try simp only [Act.put, List.getElem_toArray, List.getElem_cons_succ, List.getElem_cons_zero, List.setIfInBounds_toArray, List.set_cons_zero, List.set_cons_succ]
                refine AnyG.takeC (i := 8) (v := ?_) rfl (by as_aux_lemma => kernel_rfl) (fun _ _ _ h => h) rfl ?_ hS ?_
                rotate_left
                · (intro w' hSw; (try dsimp only at hSw); have p0 := cellC hSw g0; go_simp; try with_reducible rfl)
                try simp only [Act.put, List.getElem_toArray, List.getElem_cons_succ, List.getElem_cons_zero, List.setIfInBounds_toArray, List.set_cons_zero, List.set_cons_succ]
                refine AnyG.one (i := 9) (by as_aux_lemma => kernel_rfl) rfl rfl ?_
                go_simp
                refine (rng_any _ _ _).mono ?_
                rintro er y9 ⟨rfl, hb9⟩
                have hS9 := hS.trans (hb9.mono hS.size)
                refine Onward.on hS9 (fun hS2 => ?_)
                clear hS
                have hS := hS2
                clear hS2
                try simp only [Act.put, List.getElem_toArray, List.getElem_cons_succ, List.getElem_cons_zero, List.setIfInBounds_toArray, List.set_cons_zero, List.set_cons_succ]
                refine AnyG.one (i := 10) (by as_aux_lemma => kernel_rfl) rfl rfl ?_
                have kn := Bx.new y9 41 #[.int .i64 m, .int .i64 m]
                have hS10 := hS.alloc hS.size (.cells #[.int .i64 m, .int .i64 m] 41)
                have od10 := own_bel XI.od hS10
                have oL10 := own_bel oLi hS10
                have hs10 := hS10.size
                have X10 := XI.call hS10
                go_simp
                refine Onward.on hS10 (fun hS2 => ?_)
                clear hS
                have hS := hS2
                clear hS2
                try simp only [Act.put, List.getElem_toArray, List.getElem_cons_succ, List.getElem_cons_zero, List.setIfInBounds_toArray, List.set_cons_zero, List.set_cons_succ]
                refine AnyG.one (i := 11) (by as_aux_lemma => kernel_rfl) rfl rfl ?_
                refine wp_app2 (.tmp 289) (.tmp 299) 52 rfl (bq + 3) 41 i41 _ 2 16 Try.underlying52 hi41 hz41 hs41 iy41 rfl (by decide) (.slice DA nd dc) nd (gnr du).flatten (by simp [Act.eval]) od10 ⟨y9.heap.size, 0, none⟩ 1 1 [.int .i64 m, .int .i64 m] (by simp [Act.eval]) rfl (bx_news kn) (by simp [Value.oneCell']) (by unfold maxLen; omega) (by omega) (by omega) ?_
                intro v11 w11x o11 g11 x11 r11
                obtain ⟨DA8, dc8, rfl⟩ := own_shape o11
                refine Onward.last rfl ?_
                try simp only [Act.put, List.getElem_toArray, List.getElem_cons_succ, List.getElem_cons_zero, List.setIfInBounds_toArray, List.set_cons_zero, List.set_cons_succ]
                refine AnyG.one (i := 12) (by as_aux_lemma => kernel_rfl) rfl rfl ?_
                go_simp
                refine Onward.last rfl ?_
                try simp only [Act.put, List.getElem_toArray, List.getElem_cons_succ, List.getElem_cons_zero, List.setIfInBounds_toArray, List.set_cons_zero, List.set_cons_succ]
                refine AnyG.done (by as_aux_lemma => kernel_rfl) ?_ _
                go_simp
                rw [← gnr_snoc] at o11
                have XJ := X10.app hbq2 g11 o11
                have oLJ := oL10.kept g11 (own_ne oL10 X10.od (by decide))
                go_wp2_with fail
                go_meet
                exact ⟨nd + 1, dc8, DA8, du ++ [(m, m)], rfl, Lib.hid ⟨by rw [List.length_append, HDU.out.2]; rfl, fun _ => rfl, fun h => absurd HE.out h⟩, by have := HE.out; omega, by omega, XJ, oLJ⟩
              · have eb : ((i : Int) == (nd : Int)) = false := by rw [beq_eq_false_iff_ne]; omega
                have eb2 : (i == nd) = false := by rw [beq_eq_false_iff_ne]; omega
                have eb3 : (i = nd) = False := eq_false (by omega)
                have hlt : i < nd := by omega
                have HE := Lib.hid e
                clear e
                go_wp2_with fail
                go_meet
                exact ⟨nd, dc, DA, du, rfl, Lib.hid ⟨HDU.out.2, fun h => absurd h HE.out, fun _ => rfl⟩, hlt, hnd2, XI, oLi⟩
            case rest =>
              obtain ⟨nd8, dc8, DA8, du8, rfl, HD8, hi8, hn8, X8, oL8⟩ := hcut
              obtain ⟨w50, hw50⟩ : ∃ x, wc = x := ⟨_, rfl⟩
              rw [hw50] at X8 oL8 ⊢
              clear hw50 XI oLi g0
              have hi8l : i < du8.length := by rw [HD8.out.1]; exact hi8
              have hgd := List.getElem?_eq_getElem hi8l
              generalize du8[i] = d at *
              have od := X8.od
              obtain ⟨dq, rfl⟩ := own_some od (by omega)
              obtain ⟨d0, d1, df⟩ := due_cells od HD8.out.1 hgd
              obtain ⟨lad2, hlad, _, g0⟩ := inr_at (own_inr oL8 HNL.out) (k := i) (by rw [HNL.out]; exact hin)
              rw [Option.some.injEq] at hlad
              subst hlad
              rw [show LL[i]'(by rw [HNL.out]; exact hin) = m by have := HGL.out; rw [List.getElem?_eq_getElem (by rw [HNL.out]; exact hin), Option.some.injEq] at this; exact this] at g0
              have hdaq : (⟨dq, 0, none⟩ : Addr).add (i * 2) = ⟨dq, i * 2, none⟩ := by unfold Addr.add; split <;> simp_all
              obtain ⟨M1, hM1⟩ : ∃ x, (if m < d.1 then m else d.1) = x := ⟨_, rfl⟩
              obtain ⟨M2, hM2⟩ : ∃ x, (if d.2 < m then m else d.2) = x := ⟨_, rfl⟩
              have HGD := Lib.hid hgd
              clear hgd hi8l
              go_wp2_with fail
              refine AnyG.startC (by as_aux_lemma => kernel_rfl) ?_
              refine AnyG.takeP (i := 0) (v := ?_) rfl (by as_aux_lemma => kernel_rfl) (fun _ _ _ h => h) rfl ?_ ?_
              rotate_left
              · (intro w'; go_simp; try with_reducible rfl)
              try simp only [Act.put, List.getElem_toArray, List.getElem_cons_succ, List.getElem_cons_zero, List.setIfInBounds_toArray, List.set_cons_zero, List.set_cons_succ]
              refine AnyG.takeP (i := 1) (v := ?_) rfl (by as_aux_lemma => kernel_rfl) (fun _ _ _ h => h) rfl ?_ ?_
              rotate_left
              · (intro w'; go_simp; try with_reducible rfl)
              try simp only [Act.put, List.getElem_toArray, List.getElem_cons_succ, List.getElem_cons_zero, List.setIfInBounds_toArray, List.set_cons_zero, List.set_cons_succ]
              refine AnyG.takeP (i := 2) (v := ?_) rfl (by as_aux_lemma => kernel_rfl) (fun _ _ _ h => h) rfl ?_ ?_
              rotate_left
              · (intro w'; go_simp; try with_reducible rfl)
              try simp only [Act.put, List.getElem_toArray, List.getElem_cons_succ, List.getElem_cons_zero, List.setIfInBounds_toArray, List.set_cons_zero, List.set_cons_succ]
              refine AnyG.takeP (i := 3) (v := ?_) rfl (by as_aux_lemma => kernel_rfl) (fun _ _ _ h => h) rfl ?_ ?_
              rotate_left
              · (intro w'; go_simp; try with_reducible rfl)
              try simp only [Act.put, List.getElem_toArray, List.getElem_cons_succ, List.getElem_cons_zero, List.setIfInBounds_toArray, List.set_cons_zero, List.set_cons_succ]
              refine AnyG.takeP (i := 4) (v := ?_) rfl (by as_aux_lemma => kernel_rfl) (fun _ _ _ h => h) rfl ?_ ?_
              rotate_left
              · (intro w'; go_simp; try with_reducible rfl)
              try simp only [Act.put, List.getElem_toArray, List.getElem_cons_succ, List.getElem_cons_zero, List.setIfInBounds_toArray, List.set_cons_zero, List.set_cons_succ]
              refine AnyG.takeP (i := 5) (v := ?_) rfl (by as_aux_lemma => kernel_rfl) (fun _ _ _ h => h) rfl ?_ ?_
              rotate_left
              · (intro w'; go_simp; try with_reducible rfl)
              try simp only [Act.put, List.getElem_toArray, List.getElem_cons_succ, List.getElem_cons_zero, List.setIfInBounds_toArray, List.set_cons_zero, List.set_cons_succ]
              refine AnyG.takeP (i := 7) (v := ?_) rfl (by as_aux_lemma => kernel_rfl) (fun _ _ _ h => h) rfl ?_ ?_
              rotate_left
              · (intro w'; go_simp; try with_reducible rfl)
              try simp only [Act.put, List.getElem_toArray, List.getElem_cons_succ, List.getElem_cons_zero, List.setIfInBounds_toArray, List.set_cons_zero, List.set_cons_succ]
              refine AnyG.takeP (i := 8) (v := ?_) rfl (by as_aux_lemma => kernel_rfl) (fun _ _ _ h => h) rfl ?_ ?_
              rotate_left
              · (intro w'; go_simp; try with_reducible rfl)
              try simp only [Act.put, List.getElem_toArray, List.getElem_cons_succ, List.getElem_cons_zero, List.setIfInBounds_toArray, List.set_cons_zero, List.set_cons_succ]
              refine AnyG.takeP (i := 9) (v := ?_) rfl (by as_aux_lemma => kernel_rfl) (fun _ _ _ h => h) rfl ?_ ?_
              rotate_left
              · (intro w'; go_simp; try with_reducible rfl)
              try simp only [Act.put, List.getElem_toArray, List.getElem_cons_succ, List.getElem_cons_zero, List.setIfInBounds_toArray, List.set_cons_zero, List.set_cons_succ]
              refine AnyG.takeP (i := 12) (v := ?_) rfl (by as_aux_lemma => kernel_rfl) (fun _ _ _ h => h) rfl ?_ ?_
              rotate_left
              · (intro w'; go_simp; try with_reducible rfl)
              try simp only [Act.put, List.getElem_toArray, List.getElem_cons_succ, List.getElem_cons_zero, List.setIfInBounds_toArray, List.set_cons_zero, List.set_cons_succ]
              refine AnyG.takeP (i := 13) (v := ?_) rfl (by as_aux_lemma => kernel_rfl) (fun _ _ _ h => h) rfl ?_ ?_
              rotate_left
              · (intro w'; go_simp; try with_reducible rfl)
              try simp only [Act.put, List.getElem_toArray, List.getElem_cons_succ, List.getElem_cons_zero, List.setIfInBounds_toArray, List.set_cons_zero, List.set_cons_succ]
              refine AnyG.takeP (i := 14) (v := ?_) rfl (by as_aux_lemma => kernel_rfl) (fun _ _ _ h => h) rfl ?_ ?_
              rotate_left
              · (intro w'; go_simp; try with_reducible rfl)
              try simp only [Act.put, List.getElem_toArray, List.getElem_cons_succ, List.getElem_cons_zero, List.setIfInBounds_toArray, List.set_cons_zero, List.set_cons_succ]
              refine AnyG.takeP (i := 15) (v := ?_) rfl (by as_aux_lemma => kernel_rfl) (fun _ _ _ h => h) rfl ?_ ?_
              rotate_left
              · (intro w'; go_simp; try with_reducible rfl)
              try simp only [Act.put, List.getElem_toArray, List.getElem_cons_succ, List.getElem_cons_zero, List.setIfInBounds_toArray, List.set_cons_zero, List.set_cons_succ]
              refine AnyG.takeP (i := 17) (v := ?_) rfl (by as_aux_lemma => kernel_rfl) (fun _ _ _ h => h) rfl ?_ ?_
              rotate_left
              · (intro w'; go_simp; try with_reducible rfl)
              try simp only [Act.put, List.getElem_toArray, List.getElem_cons_succ, List.getElem_cons_zero, List.setIfInBounds_toArray, List.set_cons_zero, List.set_cons_succ]
              refine AnyG.takeP (i := 18) (v := ?_) rfl (by as_aux_lemma => kernel_rfl) (fun _ _ _ h => h) rfl ?_ ?_
              rotate_left
              · (intro w'; go_simp; try with_reducible rfl)
              try simp only [Act.put, List.getElem_toArray, List.getElem_cons_succ, List.getElem_cons_zero, List.setIfInBounds_toArray, List.set_cons_zero, List.set_cons_succ]
              refine AnyG.takeP (i := 19) (v := ?_) rfl (by as_aux_lemma => kernel_rfl) (fun _ _ _ h => h) rfl ?_ ?_
              rotate_left
              · (intro w'; go_simp; try with_reducible rfl)
              try simp only [Act.put, List.getElem_toArray, List.getElem_cons_succ, List.getElem_cons_zero, List.setIfInBounds_toArray, List.set_cons_zero, List.set_cons_succ]
              refine AnyG.enter (fun w' : World => Below w50.heap.size w50 w') (fun i => i != 24) ?_
              have hS : (fun w' : World => Below w50.heap.size w50 w') (World.drew _) := (Below.refl _ _).drew
              refine AnyG.takeC (i := 6) (v := ?_) rfl (by as_aux_lemma => kernel_rfl) (fun _ _ _ h => h) rfl ?_ hS ?_
              rotate_left
              · (intro w' hSw; (try dsimp only at hSw); have p0 := cellC hSw d0; have p1 := cellC hSw d1; go_simp; try with_reducible rfl)
              try simp only [Act.put, List.getElem_toArray, List.getElem_cons_succ, List.getElem_cons_zero, List.setIfInBounds_toArray, List.set_cons_zero, List.set_cons_succ]
              refine AnyG.takeC (i := 10) (v := ?_) rfl (by as_aux_lemma => kernel_rfl) (fun _ _ _ h => h) rfl ?_ hS ?_
              rotate_left
              · (intro w' hSw; (try dsimp only at hSw); have p0 := cellC hSw g0; go_simp; try with_reducible rfl)
              try simp only [Act.put, List.getElem_toArray, List.getElem_cons_succ, List.getElem_cons_zero, List.setIfInBounds_toArray, List.set_cons_zero, List.set_cons_succ]
              refine AnyG.takeC (i := 11) (v := ?_) rfl (by as_aux_lemma => kernel_rfl) (fun _ _ _ h => h) rfl ?_ hS ?_
              rotate_left
              · (intro w' hSw; (try dsimp only at hSw); go_simp; try with_reducible rfl)
              try simp only [Act.put, List.getElem_toArray, List.getElem_cons_succ, List.getElem_cons_zero, List.setIfInBounds_toArray, List.set_cons_zero, List.set_cons_succ]
              refine AnyG.takeC (i := 16) (v := ?_) rfl (by as_aux_lemma => kernel_rfl) (fun _ _ _ h => h) rfl ?_ hS ?_
              rotate_left
              · (intro w' hSw; (try dsimp only at hSw); have p0 := cellC hSw d0; have p1 := cellC hSw d1; go_simp; try with_reducible rfl)
              try simp only [Act.put, List.getElem_toArray, List.getElem_cons_succ, List.getElem_cons_zero, List.setIfInBounds_toArray, List.set_cons_zero, List.set_cons_succ]
              refine AnyG.takeC (i := 20) (v := ?_) rfl (by as_aux_lemma => kernel_rfl) (fun _ _ _ h => h) rfl ?_ hS ?_
              rotate_left
              · (intro w' hSw; (try dsimp only at hSw); have p0 := cellC hSw g0; go_simp; try with_reducible rfl)
              try simp only [Act.put, List.getElem_toArray, List.getElem_cons_succ, List.getElem_cons_zero, List.setIfInBounds_toArray, List.set_cons_zero, List.set_cons_succ]
              refine AnyG.takeC (i := 21) (v := ?_) rfl (by as_aux_lemma => kernel_rfl) (fun _ _ _ h => h) rfl ?_ hS ?_
              rotate_left
              · (intro w' hSw; (try dsimp only at hSw); go_simp; try with_reducible rfl)
              try simp only [Act.put, List.getElem_toArray, List.getElem_cons_succ, List.getElem_cons_zero, List.setIfInBounds_toArray, List.set_cons_zero, List.set_cons_succ]
              refine AnyG.one (i := 22) (by as_aux_lemma => kernel_rfl) rfl rfl ?_
              go_simp
              refine (rng_any _ _ _).mono ?_
              rintro er y22 ⟨rfl, hb22⟩
              have hS22 := hS.trans (hb22.mono hS.size)
              refine Onward.on hS22 (fun hS2 => ?_)
              clear hS
              have hS := hS2
              clear hS2
              try simp only [Act.put, List.getElem_toArray, List.getElem_cons_succ, List.getElem_cons_zero, List.setIfInBounds_toArray, List.set_cons_zero, List.set_cons_succ]
              refine AnyG.takeC (i := 23) (v := ?_) rfl (by as_aux_lemma => kernel_rfl) (fun _ _ _ h => h) rfl ?_ hS ?_
              rotate_left
              · (intro w' hSw; (try dsimp only at hSw); go_simp; try with_reducible rfl)
              try simp only [Act.put, List.getElem_toArray, List.getElem_cons_succ, List.getElem_cons_zero, List.setIfInBounds_toArray, List.set_cons_zero, List.set_cons_succ]
              refine AnyG.one (i := 24) (by as_aux_lemma => kernel_rfl) rfl rfl ?_
              have X23 := X8.call hS
              have od23 := own_bel od hS
              obtain ⟨e0, e1, ef⟩ := due_cells od23 HD8.out.1 HGD.out
              go_simp
              clear e0 e1 ef
              refine Onward.last rfl ?_
              try simp only [Act.put, List.getElem_toArray, List.getElem_cons_succ, List.getElem_cons_zero, List.setIfInBounds_toArray, List.set_cons_zero, List.set_cons_succ]
              refine AnyG.done (by as_aux_lemma => kernel_rfl) ?_ _
              go_simp
              have HM1 := Lib.hid hM1
              have HM2 := Lib.hid hM2
              clear hM1 hM2
              have hst2 := due_store od23 HD8.out.1 hi8 M1 M2
              obtain ⟨Z, hZ⟩ : ∃ Z, (y22.setCell ⟨dq, i * 2, none⟩ (.int .i64 M1)).setCell ⟨dq, i * 2 + 1, none⟩ (.int .i64 M2) = Z := ⟨_, rfl⟩
              rw [hZ] at hst2
              have hgz : y22.grownBy Z (Value.slice (some ⟨dq, 0, none⟩) nd8 dc8).ownBlock := by rw [← hZ]; exact grownF_trans (grown_set _ _ _ _) (grown_set _ _ _ _)
              have XZ := X23.app hbq2 hgz hst2
              have oLZ := (own_bel oL8 hS).kept hgz (own_ne (own_bel oL8 hS) X23.od (by decide))
              rw [hZ]
              have HDZ := Lib.hid (show DueP (((AL.take k).map (truX v)).map fun t => salT v t s) LL (i + 1) (du8.set i (M1, M2)) ∧ (du8.set i (M1, M2)).length = nd8 by
                refine ⟨?_, by rw [List.length_set]; exact HD8.out.1⟩
                have e1 : M1 = min d.1 m := by rw [← HM1.out]; split <;> omega
                have e2 : M2 = max d.2 m := by rw [← HM2.out]; split <;> omega
                rw [e1, e2]
                by_cases e : nd = i
                · have hdu := HDU.out.2
                  have hd8 := HD8.out.2.1 e
                  have hi0 : i = du.length := by omega
                  have hgd := HGD.out
                  rw [hd8, hi0, List.getElem?_concat_length, Option.some.injEq] at hgd
                  have hd := HDU.out.1
                  have hg := HGL.out
                  rw [hi0] at hd hg
                  rw [hd8, hi0, ← hgd]
                  exact hd.new hg
                · have hd8 := HD8.out.2.2 e
                  have hgd := HGD.out
                  rw [hd8] at hgd ⊢
                  exact HDU.out.1.more hgd HGL.out)
              clear hZ hst2 hgz X23 od23 X8 oL8 od d0 d1 df g0 hS
              go_wp2_with fail
              go_roundw
              case rel => exact ⟨i + 1, nd8, dc8, _, _, rfl, by go_num, by omega, hn8, by omega, HDZ, XZ, oLZ⟩
              case measure => simp [intOf]; omega
          · obtain rfl : i = nl := by omega
            have HAS2 := Lib.hid (show AllS v s ((AL.take (k + 1)).map (truX v)) (P1, P2) (Q1, Q2) (Y1, Y2) du f1 c2 lb2 ∧ du.length = nd by
              refine ⟨?_, HDU.out.2⟩
              have h := HAS.out.1
              have hd := HDU.out.1
              rw [← HNL.out, ← HLL9.out] at hd
              have st := h.step (truX v l) (p' := (p1, p2)) (q' := (q1, q2)) (y' := (y1, y2)) (due' := du)
                (fun e => by rw [HBW.out]; exact (HPQ.out.1 (k0_of HNA.out hkn e)).1) (fun e => (HPQ.out.2 (k1_of e)).1)
                (fun e => by rw [HSN.out]; exact (HPQ.out.1 (k0_of HNA.out hkn e)).2.1) (fun e => (HPQ.out.2 (k1_of e)).2.1)
                (fun e => by rw [HBW.out, HSN.out]; exact (HPQ.out.1 (k0_of HNA.out hkn e)).2.2) (fun e => (HPQ.out.2 (k1_of e)).2.2) hd
              rw [HTK.out, List.map_append, List.map_singleton]
              rw [HBW.out, HSN.out, HLL9.out, HNL.out, HSS.out, HLB2.out, HC2.out] at st
              dsimp only at st
              have a1 : P1 = min p1 bw := by rw [← HP1.out]; split <;> omega
              have a2 : P2 = max p2 bw := by rw [← HP2.out]; split <;> omega
              have a3 : Q1 = min q1 sn := by rw [← HQ1.out]; split <;> omega
              have a4 : Q2 = max q2 sn := by rw [← HQ2.out]; split <;> omega
              have a5 : Y1 = min y1 (bw - sn) := by rw [← HY1.out]; split <;> omega
              have a6 : Y2 = max y2 (bw - sn) := by rw [← HY2.out]; split <;> omega
              rw [a1, a2, a3, a4, a5, a6, HF1.out]
              exact st)
            clear HDU oLi
            go_wp2_with fail
            go_roundw
            case rel => exact ⟨k + 1, nd, dc, f1, c2, DA, du, (P1, P2), (Q1, Q2), (Y1, Y2), lb2, by go_num, rfl, rfl, rfl, rfl, by omega, HAS2, XI⟩
            case measure => simp [intOf]; omega
end Go.Proofs.Ytfcpjkofbejleaa
