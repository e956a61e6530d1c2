/- ShipAll: what all truths say together. -/
import Derived.Test.YtfcpjkofbejleaaAlC
set_option linter.unusedSimpArgs false
set_option linter.unusedVariables false
namespace Go.Proofs.Ytfcpjkofbejleaa
open Go Go.RowKit
attribute [local go_sem] eq41
theorem sl_pre2 {w : World} {B : Nat} {G : Option Addr} {l : List (Int × Int)} (h : Sl w B 2 G (gnr l)) (m : Nat) : Sl w B 2 G (gnr (l.take m)) := by
  intro j r hr
  unfold gnr at hr
  rw [List.map_take] at hr
  by_cases hj : j < m
  · rw [List.getElem?_take_of_lt hj] at hr
    exact h j r hr
  · rw [List.getElem?_eq_none (by rw [List.length_take]; omega)] at hr
    cases hr
set_option maxRecDepth 100000 in
set_option maxHeartbeats 16000000 in
theorem shipAll_D (A : Option Addr) (n c : Nat) (L : List Int) (w : World) : (shipAll_A A n c L w).2.1 := by
  intro hn hA HL i3 hi3 hz3 hs3 iy3 i41 hi41 hz41 hs41 iy41 i27 hi27 hz27 hs27 iy27 j0 w1 g hg0 w3 v p HFW HOK HCK HLF HFT hln2 hsn2 V1 bO hgO V SA sc s HSL HST HLL HSS j1 j2 u44 u45 u46 u47 u48 u49 u50 u51 u52 u53 u54 u55 u56 u57 u58 u59 j3 j4 R j5 j6 j7 j8 j9 u9 u60 u61 u62 u63 u64 u65 u66 u67 u68 u69 u70 u71 u72 u73 u74 u75 u76 u77 u78 u79 u80 u81 u82 u83 u84 u85 u86 u87 u88 u89 u90 u91 u92 u93 u94 u95 u96 u97 u98 u99 nr RA rc kr HRL j10 j11 j12 w8 NA nac hB8 AL na hsm8 HNA HMEM LV B0 B1 S0 S1 vd OV n2 hol HB0 HB1 HS0 HS1 HVD HOV HN2 t1 t2 htb HTL HLV w9 Zw9 pk11 pk12 w10 Zw10 pk15 w11 Xgr1 cgr1 W gr1 k15 k12 k11 hBw hls hss hvv kv U9 bq hbq2 HBQ j13 j14 wr u28 u29 u30 u31 u32 u33 u34 u35 u136 u137 u138 u139 u140 u141 u142 u143 u144 u145 u146 u147 u148 u149 u150 u151 u152 u153 u154 u155 u156 u157 u158 u159 u160 u161 u162 u163 u164 u165 u166 u167 u168 u169 u170 u171 u172 u173 u174 u175 u176 u177 u178 u179 u180 u181 u182 u183 u184 u185 u186 u187 u188 u189 u190 u191 u192 u193 u194 u195 u196 u197 u198 u199 u200 u201 u202 u203 u204 u205 u206 u207 u208 u209 u210 u211 u212 u213 u214 u215 u216 u217 u218 u219 u220 u221 u222 u223 u224 u225 u226 u227 u228 u229 u230 u231 u232 u233 u234 u235 u236 u237 u238 u239 u240 u241 u242 u243 u244 u245 u246 u247 u248 u249 u250 u251 u252 u253 u254 u255 u256 u257 u258 u259 u260 u261 u262 u263 u264 u265 u266 u267 u268 u269 u270 u271 u272 u273 u274 u275 u276 u277 u278 u279 u280 u281 u282 u283 u284 u285 u286 u287 u288 u289 u290 u291 u292 u293 u294 u295 u296 u297 u298 u299 u300 u301 u302 u303 u304 u305 u306 u307 u308 u309 u310 u311 u312 u313 u314 u315 u316 u317 u318 u319 u320 u321 u322 u323 u324 k nd dc fw cnt DA due p0 q0 y0 lb hk HAS X hkn
  obtain rfl : k = na := by omega
  have has := HAS.out.1
  have htk : AL.take k = AL := by rw [← HNA.out]; exact List.take_length
  rw [htk] at has
  have hst := ckSt_ok HST.out
  have hX : ∀ t ∈ AL.map (truX v), TruOk v t := fun t ht => by
    obtain ⟨x, hx, rfl⟩ := List.mem_map.1 ht
    exact truX_ok ((HMEM.out x).1 hx)
  have hA : ∀ t, TruOk v t → t ∈ AL.map (truX v) := fun t ht => by
    obtain ⟨x, h1, h2⟩ := truX_all ht
    exact List.mem_map.2 ⟨x, (HMEM.out x).2 h1, h2⟩
  have hne : AL.map (truX v) ≠ [] := fun e => by
    have := hA _ (gT_ok hst.ok (f := fun p => p.1.t0) hst.len (fun c hc y => ⟨Int.le_refl _, (hst.ok.ls c hc).t01⟩) true)
    rw [e] at this
    simp at this
  obtain ⟨q1, q2, q3, q4, q5, q6⟩ := all_ends hst hX hA
  have e1 := q1 _ (has.p hne)
  have e2 := q2 _ (has.q hne)
  have e3 := q3 _ (has.y hne)
  have e4 := has.lev
  rw [q4] at e4
  obtain ⟨e5, e6⟩ := q5 _ has.few
  obtain ⟨e7, e8⟩ := e6 _ has.due
  rw [← has.cnt, List.length_map, HNA.out] at q6
  rw [HB0.out, HB1.out] at e1
  rw [HS0.out, HS1.out] at e2
  rw [HTL.out] at e3 e4
  rw [HLV.out] at e4
  rw [HOV.out] at e5 e8
  rw [HN2.out] at e5
  rw [HVD.out] at q6
  have hna0 : 0 < k := by
    rcases Nat.eq_zero_or_pos k with h | h
    · have := HNA.out
      rw [h] at this
      exact absurd (by rw [List.eq_nil_of_length_eq_zero this]; rfl) hne
    · exact h
  have hcl : cnt ≤ k := by
    have a := has.cnt
    have b := cntP_le v.ss.length ((AL.map (truX v)).map fun t => salT v t s)
    rw [List.length_map, List.length_map, HNA.out] at b
    omega
  have hdl := HAS.out.2
  rw [hdl] at e7
  subst e5
  have hvd3 : (cnt = 0 → vd = 2) ∧ (cnt ≠ 0 → cnt = k → vd = 1) ∧ (cnt ≠ 0 → cnt ≠ k → vd = 3) := by
    refine ⟨fun h => by rw [← q6, if_pos h], fun h1 h2 => by rw [← q6, if_neg h1, if_pos h2], fun h1 h2 => by rw [← q6, if_neg h1, if_neg h2]⟩
  have HV3 := Lib.hid hvd3
  subst e4
  obtain ⟨pa, pb⟩ := p0
  obtain ⟨qa, qb⟩ := q0
  obtain ⟨ya, yb⟩ := y0
  simp only [Prod.mk.injEq] at e1 e2 e3
  obtain ⟨rfl, rfl⟩ := e1
  obtain ⟨rfl, rfl⟩ := e2
  obtain ⟨rfl, rfl⟩ := e3
  have HE8 := Lib.hid e8
  have HDL := Lib.hid hdl
  clear has htk hst hX hA hne q1 q2 q3 q4 q5 q6 e6 e8 hvd3 hdl hk hkn
  have hkv := kv.call X.bel
  go_upto_if 328 with fail
  clear hkv
  obtain ⟨i1, hi1⟩ : ∃ x : Int, (if cnt = k then 1 else 3) = x := ⟨_, rfl⟩
  have HI1 := Lib.hid hi1
  clear hi1
  obtain ⟨wf, rfl⟩ : ∃ Z, Z = wr := ⟨_, rfl⟩
  go_cut [36] from 325 to 363 (fun v36 x => v36 = .int .i64 i1 ∧ x = wf)
  case first =>
    by_cases e : cnt = k
    · have eb : ((cnt : Int) == (k : Int)) = true := by rw [beq_iff_eq]; omega
      have eb2 : (cnt == k) = true := by rw [beq_iff_eq]; omega
      have HV : Hid (i1 = 1) := Lib.hid (by rw [← HI1.out, if_pos e])
      clear e
      go_wp2_with fail
      go_meet
      exact ⟨by rw [HV.out], rfl⟩
    · have eb : ((cnt : Int) == (k : Int)) = false := by rw [beq_eq_false_iff_ne]; omega
      have eb2 : (cnt == k) = false := by rw [beq_eq_false_iff_ne]; omega
      have HV : Hid (i1 = 3) := Lib.hid (by rw [← HI1.out, if_neg e])
      have eb3 : (cnt = k) = False := eq_false e
      clear e
      go_wp2_with fail
      go_meet
      exact ⟨by rw [HV.out], rfl⟩
  case rest =>
    obtain ⟨rfl, hwc⟩ := hcut
    rw [hwc]
    clear hwc
    go_upto_if 330 with fail
    go_cut [36] from 325 to 363 (fun v36 x => v36 = .int .i64 vd ∧ x = wf)
    case first =>
      by_cases e : cnt = 0
      · have eb : ((cnt : Int) == 0) = true := by rw [beq_iff_eq]; omega
        have eb2 : (cnt == 0) = true := by rw [beq_iff_eq]; omega
        have HV : Hid (vd = 2) := Lib.hid (HV3.out.1 e)
        clear e
        go_wp2_with fail
        go_meet
        exact ⟨by rw [HV.out], rfl⟩
      · have eb : ((cnt : Int) == 0) = false := by rw [beq_eq_false_iff_ne]; omega
        have eb2 : (cnt == 0) = false := by rw [beq_eq_false_iff_ne]; omega
        have HV : Hid (i1 = vd) := Lib.hid (by
          rw [← HI1.out]
          by_cases e2 : cnt = k
          · rw [if_pos e2, HV3.out.2.1 e e2]
          · rw [if_neg e2, HV3.out.2.2 e e2])
        have eb3 : (cnt = 0) = False := eq_false e
        clear e
        go_wp2_with fail
        go_meet
        exact ⟨by rw [HV.out], rfl⟩
    case rest =>
      obtain ⟨rfl, hwc⟩ := hcut
      rw [hwc]
      clear hwc
      have hk11 := k11.call X.bel
      have hk12 := k12.call X.bel
      have hk15 := k15.call X.bel
      have hgr := gr1.call X.bel
      have hBf := hBw.trans (X.bel.mono hBw.size)
      have hky : Bx wf (bq + 1 + 1) 41 #[.int .i64 _, .int .i64 _] := X.ky
      have hcap := own_capc X.od
      have hdu := sl_pre2 (own_gnr X.od HDL.out) fw
      rw [HE8.out] at hdu
      have hfd : fw ≤ dc := by omega
      have hfn : fw ≤ nd := by omega
      obtain ⟨a0, a1, af, az⟩ := hk11.two'
      obtain ⟨b0, b1, bf, bz⟩ := hk12.two'
      obtain ⟨c0, c1, cf, cz⟩ := hk15.two'
      obtain ⟨d0, d1, df, dz⟩ := X.kp.two'
      obtain ⟨e0, e1, ef, ez⟩ := X.kq.two'
      obtain ⟨f0, f1, ff, fz⟩ := hky.two'
      dsimp only at d0 d1 e0 e1 f0 f1
      go_wp2_with (first
        | (go_at_call 35; refine (equalRanges_any Xgr1 fw cgr1 DA fw dc OV OV _ (by omega) (by omega) HN2.out HN2.out hgr hdu).mono ?_; rintro e w99 ⟨rfl, hb99⟩; rw [show decide (OV = OV) = true by simp])
        | (go_at_call 15; refine (awake_any _).mono ?_; rintro e w98 ⟨rfl, hb98⟩)
        | fail)
      go_ret
      exact ⟨rfl, (hBf.trans (hb99.mono hBf.size)).trans (hb98.mono (Nat.le_trans hBf.size hb99.size))⟩
theorem shipAll_run (A : Option Addr) (n c : Nat) (L : List Int) (w : World) (hn : n ≤ 9000000000000000000) (hl : L.length = n) (hA : Sl w w.heap.size 1 A (ints L)) : Calls Try.prog 7 #[.slice A n c] w fun e w' => e = .returned (.bool true) ∧ Below w.heap.size w w' :=
  (shipAll_A A n c L w).2.2 ⟨(shipAll_B A n c L w).2 ⟨shipAll_C A n c L w⟩⟩ ⟨shipAll_D A n c L w⟩ hn hl hA
end Go.Proofs.Ytfcpjkofbejleaa
