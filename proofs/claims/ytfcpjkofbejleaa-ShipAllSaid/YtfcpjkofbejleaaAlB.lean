/- ShipAll: one truth more. -/
import Derived.Test.YtfcpjkofbejleaaAlA
import Derived.Test.YtfcpjkofbejleaaSltM
set_option linter.unusedSimpArgs false
set_option linter.unusedVariables false
namespace Go.Proofs.Ytfcpjkofbejleaa
open Go Go.RowKit
/-- A truth in the making: its box b behind w0, the ways and depths one's own. -/
structure TB (w0 : World) (b : Nat) (tv : Value) (ws : List Int) (WA : Option Addr) (wn wc : Nat) (DA : Option Addr) (dn dc : Nat) (vs : List Value) (x : World) : Prop where
  bel : Below w0.heap.size w0 x
  kb : Bx x b 62 #[tv, .slice WA wn wc, .slice DA dn dc]
  hb : w0.heap.size ≤ b
  ow : x.ownsRow w0.heap.size 3 1 (.slice WA wn wc) wn (inr ws).flatten
  od : x.ownsRow w0.heap.size 27 1 (.slice DA dn dc) dn vs
section
variable {w0 x x' : World} {b : Nat} {tv : Value} {ws : List Int} {WA : Option Addr} {wn wc : Nat} {DA : Option Addr} {dn dc : Nat} {vs : List Value}
theorem TB.call (h : TB w0 b tv ws WA wn wc DA dn dc vs x) (k : Below x.heap.size x x') : TB w0 b tv ws WA wn wc DA dn dc vs x' :=
  ⟨h.bel.trans (k.mono h.bel.size), h.kb.call k, h.hb, own_bel h.ow k, own_bel h.od k⟩
theorem TB.way (h : TB w0 b tv ws WA wn wc DA dn dc vs x) (k : x.grownBy x' (Value.slice WA wn wc).ownBlock) (o : x'.ownsRow w0.heap.size 3 1 (.slice WA wn wc) wn (inr ws).flatten) : TB w0 b tv ws WA wn wc DA dn dc vs x' :=
  ⟨h.bel.grown k h.bel.size (fun q e => (h.ow.lt q e).1), h.kb.grown k (own_bx h.ow h.kb (by decide)), h.hb, o, h.od.kept k (own_ne h.od h.ow (by decide))⟩
theorem TB.dep (h : TB w0 b tv ws WA wn wc DA dn dc vs x) (k : x.grownBy x' (Value.slice DA dn dc).ownBlock) (o : x'.ownsRow w0.heap.size 27 1 (.slice DA dn dc) dn vs) : TB w0 b tv ws WA wn wc DA dn dc vs x' :=
  ⟨h.bel.grown k h.bel.size (fun q e => (h.od.lt q e).1), h.kb.grown k (own_bx h.od h.kb (by decide)), h.hb, h.ow.kept k (own_ne h.ow h.od (by decide)), o⟩
theorem TB.fin {ws' : List Int} {WA' DA' : Option Addr} {wn' wc' dn' dc' : Nat} {vs' : List Value} (h : TB w0 b tv ws WA wn wc DA dn dc vs x) (ow : x.ownsRow w0.heap.size 3 1 (.slice WA' wn' wc') wn' (inr ws').flatten) (od : x.ownsRow w0.heap.size 27 1 (.slice DA' dn' dc') dn' vs') :
    TB w0 b tv ws' WA' wn' wc' DA' dn' dc' vs' ((x.setCell ⟨b, 1, none⟩ (.slice WA' wn' wc')).setCell ⟨b, 2, none⟩ (.slice DA' dn' dc')) := by
  have k1 := h.kb.set_ 1 (.slice WA' wn' wc')
  have k2 := k1.set_ 2 (.slice DA' dn' dc')
  simp only [List.setIfInBounds_toArray, List.set_cons_zero, List.set_cons_succ] at k1 k2
  have ow1 := own_set (o := 1) ow (own_bx ow h.kb (by decide)) (.slice WA' wn' wc')
  have od1 := own_set (o := 1) od (own_bx od h.kb (by decide)) (.slice WA' wn' wc')
  exact ⟨(h.bel.setCell h.hb _).setCell h.hb _, k2, h.hb, own_set ow1 (own_bx ow1 k1 (by decide)) _, own_set od1 (own_bx od1 k1 (by decide)) _⟩
end
/-- What is known of a truth in the making. -/
structure TP (w0 : World) (v : Vg) (l : List Int) (i nx xc : Nat) (rst ws : List Int) (ds : List (List Int)) (vs : List Value) : Prop where
  inr : InR (rgS (v.ss.drop i)) rst
  len : rst.length = nx
  cap : nx ≤ xc
  wl : ws.length = i
  dl : ds.length = i
  vl : vs.length = i
  cut : cutS v.ss (l.drop v.ls.length) = (ws ++ (cutS (v.ss.drop i) rst).1, ds ++ (cutS (v.ss.drop i) rst).2)
  row : ∀ (j : Nat) (u : Value) (r : List Int), vs[j]? = some u → ds[j]? = some r → ∃ G c, u = .slice G r.length c ∧ Sl w0 w0.heap.size 1 G (Go.Proofs.Ytfcpjkofbejleaa.inr r)
theorem TP.start {w0 : World} {v : Vg} {l : List Int} {nx xc : Nat} (h : InR (rgs v) l) (hn : (l.drop v.ls.length).length = nx) (hc : nx ≤ xc) : TP w0 v l 0 nx xc (l.drop v.ls.length) [] [] [] := by
  unfold rgs at h
  rw [inR_app, List.length_map] at h
  exact ⟨h.2, hn, hc, rfl, rfl, rfl, by simp, fun j u r h => by simp at h⟩
theorem TP.step {w0 : World} {v : Vg} {l : List Int} {i nx xc : Nat} {rst ws : List Int} {ds : List (List Int)} {vs : List Value} (h : TP w0 v l i nx xc rst ws ds vs) {b : Si} (hb : v.ss[i]? = some b) {G : Option Addr} {c : Nat} (hG : Sl w0 w0.heap.size 1 G (Go.Proofs.Ytfcpjkofbejleaa.inr ((rst.drop 1).take b.lv.length))) :
    ∃ n, rst[0]? = some n ∧ 1 + b.lv.length ≤ nx ∧ ((rst.drop 1).take b.lv.length).length = b.lv.length ∧ TP w0 v l (i + 1) (nx - (1 + b.lv.length)) (xc - (1 + b.lv.length)) (rst.drop (1 + b.lv.length)) (ws ++ [n]) (ds ++ [(rst.drop 1).take b.lv.length]) (vs ++ [.slice G b.lv.length c]) := by
  have hi := (List.getElem?_eq_some_iff.1 hb).1
  have hd : v.ss.drop i = b :: v.ss.drop (i + 1) := by
    rw [List.drop_eq_getElem_cons hi]
    have := (List.getElem?_eq_some_iff.1 hb).2
    rw [this]
  have hin := h.inr
  rw [hd] at hin
  unfold rgS at hin
  rw [List.map_cons, List.flatten_cons, inR_app] at hin
  simp only [List.length_cons, List.length_map] at hin
  obtain ⟨h1, h2⟩ := hin
  have hl1 := h1.len
  simp only [List.length_take, List.length_cons, List.length_map] at hl1
  have hlen := h.len
  have hcap := h.cap
  cases rst with
  | nil => simp at hl1
  | cons n r =>
    simp only [List.length_cons] at hl1 hlen
    have hm : ((r.take b.lv.length)).length = b.lv.length := by rw [List.length_take]; omega
    have hcut := h.cut
    rw [hd] at hcut
    have e1 : 1 + b.lv.length = b.lv.length + 1 := Nat.add_comm _ _
    have cc : cutS (b :: v.ss.drop (i + 1)) (n :: r) = (n :: (cutS (v.ss.drop (i + 1)) (r.drop b.lv.length)).1, r.take b.lv.length :: (cutS (v.ss.drop (i + 1)) (r.drop b.lv.length)).2) := by
      simp only [cutS, List.headD_cons, e1, List.drop_succ_cons, List.drop_zero]
    rw [cc] at hcut
    simp only [List.drop_succ_cons, List.drop_zero] at hG ⊢
    refine ⟨n, rfl, by omega, hm, ⟨?_, ?_, by omega, by simp [h.wl], by simp [h.dl], by simp [h.vl], ?_, fun j u q hu hq => ?_⟩⟩
    · rw [e1, List.drop_succ_cons]
      simpa [rgS] using h2
    · rw [e1, List.drop_succ_cons, List.length_drop]; omega
    · rw [hcut, e1, List.drop_succ_cons]
      simp
    · by_cases hj : j < vs.length
      · rw [List.getElem?_append_left hj] at hu
        rw [List.getElem?_append_left (by rw [h.dl, ← h.vl]; exact hj)] at hq
        exact h.row j u q hu hq
      · have hj2 : j < (vs ++ [Value.slice G b.lv.length c]).length := (List.getElem?_eq_some_iff.1 hu).1
        obtain rfl : j = vs.length := by simp at hj2; omega
        rw [List.getElem?_concat_length, Option.some.injEq] at hu
        rw [h.vl, ← h.dl, List.getElem?_concat_length, Option.some.injEq] at hq
        subst hu hq
        exact ⟨G, c, by rw [hm], hG⟩
theorem vacTP {w0 : World} {v : Vg} {l : List Int} {i nx xc : Nat} {rst ws : List Int} {ds : List (List Int)} {vs : List Value} (h : TP w0 v l i nx xc rst ws ds vs) {b : Si} (hb : v.ss[i]? = some b) : 1 + b.lv.length ≤ nx := by
  have hi := (List.getElem?_eq_some_iff.1 hb).1
  have hd : v.ss.drop i = b :: v.ss.drop (i + 1) := by
    rw [List.drop_eq_getElem_cons hi]
    have := (List.getElem?_eq_some_iff.1 hb).2
    rw [this]
  have hin := h.inr
  rw [hd] at hin
  unfold rgS at hin
  rw [List.map_cons, List.flatten_cons, inR_app] at hin
  have h1 := hin.1.len
  simp only [List.length_take, List.length_cons, List.length_map] at h1
  have := h.len
  omega
theorem TP.ls {w0 x : World} {b : Nat} {tv : Value} {v : Vg} {l : List Int} {i nx xc : Nat} {rst ws : List Int} {ds : List (List Int)} {vs : List Value} {WA DA : Option Addr} {wn wc dn dc : Nat} (h : TP w0 v l i nx xc rst ws ds vs) (k : TB w0 b tv ws WA wn wc DA dn dc vs x) : LsAt x x.heap.size DA ds := fun j r hj => by
  have hlt : j < vs.length := by have := (List.getElem?_eq_some_iff.1 hj).1; have := h.dl; have := h.vl; omega
  obtain ⟨G, c, e, hs⟩ := h.row j _ r (List.getElem?_eq_getElem hlt) hj
  obtain ⟨ad, e1, e2⟩ := own_cells k.od j _ (List.getElem?_eq_getElem hlt)
  refine ⟨ad, G, c, e1, ?_, by rw [e2, e], hs.call k.bel⟩
  have := World.block_lt_of_cell? _ _ e2
  rwa [add_block] at this
set_option maxRecDepth 100000 in
set_option maxHeartbeats 16000000 in
def shipAll_B (A : Option Addr) (n c : Nat) (L : List Int) (w : World) : (P : Prop) ×' (Later P → (shipAll_A A n c L w).1) := by
  refine PSigma.mk ?P ?g
  case g =>
    intro hTail3 hn hA HL i3 hi3 hz3 hs3 iy3 i41 hi41 hz41 hs41 iy41 i27 hi27 hz27 hs27 iy27 j0 w1 g hg0 w3 v p HFW HOK HCK HLF HFT hln2 hsn2 V1 bO hgO V SA sc s HSL HST HLL HSS j1 j2 u44 u45 u46 u47 u48 u49 u50 u51 u52 u53 u54 u55 u56 u57 u58 u59 j3 j4 R j5 j6 j7 j8 j9 u9 u60 u61 u62 u63 u64 u65 u66 u67 u68 u69 u70 u71 u72 u73 u74 u75 u76 u77 u78 u79 u80 u81 u82 u83 u84 u85 u86 u87 u88 u89 u90 u91 u92 u93 u94 u95 u96 u97 u98 u99 nr RA rc kr HRL j10 j11 j12 w8 NA nac hB8 AL na hsm8 HNA HMEM LV B0 B1 S0 S1 vd OV n2 hol HB0 HB1 HS0 HS1 HVD HOV HN2 t1 t2 htb HTL HLV w9 Zw9 pk11 pk12 w10 Zw10 pk15 w11 Xgr1 cgr1 W gr1 k15 k12 k11 hBw hls hss hvv kv U9 bq hbq2 HBQ j13 j14 wr u28 u29 u30 u31 u32 u33 u34 u35 u136 u137 u138 u139 u140 u141 u142 u143 u144 u145 u146 u147 u148 u149 u150 u151 u152 u153 u154 u155 u156 u157 u158 u159 u160 u161 u162 u163 u164 u165 u166 u167 u168 u169 u170 u171 u172 u173 u174 u175 u176 u177 u178 u179 u180 u181 u182 u183 u184 u185 u186 u187 u188 u189 u190 u191 u192 u193 u194 u195 u196 u197 u198 u199 u200 u201 u202 u203 u204 u205 u206 u207 u208 u209 u210 u211 u212 u213 u214 u215 u216 u217 u218 u219 u220 u221 u222 u223 u224 u225 u226 u227 u228 u229 u230 u231 u232 u233 u234 u235 u236 u237 u238 u239 u240 u241 u242 u243 u244 u245 u246 u247 u248 u249 u250 u251 u252 u253 u254 u255 u256 u257 u258 u259 u260 u261 u262 u263 u264 u265 u266 u267 u268 u269 u270 u271 u272 u273 u274 u275 u276 u277 u278 u279 u280 u281 u282 u283 u284 u285 u286 u287 u288 u289 u290 u291 u292 u293 u294 u295 u296 u297 u298 u299 u300 u301 u302 u303 u304 u305 u306 u307 u308 u309 u310 u311 u312 u313 u314 u315 u316 u317 u318 u319 u320 u321 u322 u323 u324 k nd dc fw cnt DA due p0 q0 y0 lb hk HAS X hkn
    have hkl : k < AL.length := by rw [HNA.out]; exact hkn
    have hin2 := (HMEM.out _).1 (List.getElem_mem hkl)
    have htk := List.take_succ_eq_append_getElem hkl
    obtain ⟨nd', G, gc, hNA, hndb, hcell, hgc, hG⟩ := hls k _ (List.getElem?_eq_getElem hkl)
    generalize AL[k] = l at *
    have hll : l.length = nr := by rw [hin2.len]; exact HRL.out
    have hxok := truX_ok hin2
    have hln1 : p.ln ≤ nr := by
      have a := HRL.out
      have b := HLL.out
      unfold rgs at a
      rw [List.length_append, List.length_map] at a
      omega
    have HLL2 := Lib.hid hll
    have HIN := Lib.hid hin2
    have HTK := Lib.hid htk
    have HXK := Lib.hid hxok
    rw [hll] at hcell hgc
    have kvr := kv.call X.bel
    have hcl := cellC X.bel hcell
    have hGr := hG.call X.bel
    have hbs := X.bel.size
    subst hNA
    have hlg : p.ln ≤ gc := by omega
    clear hll hin2 htk hkl hxok hcell hG
    go_wp2_with fail
    refine AnyG.startC (by kernel_rfl) ?_
    refine AnyG.takeP (i := 0) (v := ?_) rfl (by kernel_rfl) (fun _ _ _ h => h) rfl ?_ ?_
    rotate_left
    · (intro w'; go_simp; try with_reducible rfl)
    try simp only [Act.put, List.getElem_toArray, List.getElem_cons_succ, List.getElem_cons_zero, List.setIfInBounds_toArray, List.set_cons_zero, List.set_cons_succ]
    refine AnyG.takeP (i := 1) (v := ?_) rfl (by kernel_rfl) (fun _ _ _ h => h) rfl ?_ ?_
    rotate_left
    · (intro w'; go_simp; try with_reducible rfl)
    try simp only [Act.put, List.getElem_toArray, List.getElem_cons_succ, List.getElem_cons_zero, List.setIfInBounds_toArray, List.set_cons_zero, List.set_cons_succ]
    refine AnyG.takeP (i := 2) (v := ?_) rfl (by kernel_rfl) (fun _ _ _ h => h) rfl ?_ ?_
    rotate_left
    · (intro w'; go_simp; try with_reducible rfl)
    try simp only [Act.put, List.getElem_toArray, List.getElem_cons_succ, List.getElem_cons_zero, List.setIfInBounds_toArray, List.set_cons_zero, List.set_cons_succ]
    refine AnyG.takeP (i := 4) (v := ?_) rfl (by kernel_rfl) (fun _ _ _ h => h) rfl ?_ ?_
    rotate_left
    · (intro w'; go_simp; try with_reducible rfl)
    try simp only [Act.put, List.getElem_toArray, List.getElem_cons_succ, List.getElem_cons_zero, List.setIfInBounds_toArray, List.set_cons_zero, List.set_cons_succ]
    refine AnyG.enter (fun w' : World => Below wr.heap.size wr w') (fun i => i != 10) ?_
    have hS : (fun w' : World => Below wr.heap.size wr w') (World.drew _) := (Below.refl _ _).drew
    refine AnyG.takeC (i := 3) (v := ?_) rfl (by kernel_rfl) (fun _ _ _ h => h) rfl ?_ hS ?_
    rotate_left
    · (intro w' hSw; (try dsimp only at hSw); have p0 := cellC hSw hcl; go_simp; try with_reducible rfl)
    try simp only [Act.put, List.getElem_toArray, List.getElem_cons_succ, List.getElem_cons_zero, List.setIfInBounds_toArray, List.set_cons_zero, List.set_cons_succ]
    refine AnyG.takeC (i := 5) (v := ?_) rfl (by kernel_rfl) (fun _ _ _ h => h) rfl ?_ hS ?_
    rotate_left
    · (intro w' hSw; (try dsimp only at hSw); obtain ⟨x0, x1, x2, x3, x4, x5, x6, xf, xz⟩ := (kvr.call hSw).seven; go_simp; try with_reducible rfl)
    try simp only [Act.put, List.getElem_toArray, List.getElem_cons_succ, List.getElem_cons_zero, List.setIfInBounds_toArray, List.set_cons_zero, List.set_cons_succ]
    refine AnyG.takeC (i := 6) (v := ?_) rfl (by kernel_rfl) (fun _ _ _ h => h) rfl ?_ hS ?_
    rotate_left
    · (intro w' hSw; (try dsimp only at hSw); go_simp; try with_reducible rfl)
    try simp only [Act.put, List.getElem_toArray, List.getElem_cons_succ, List.getElem_cons_zero, List.setIfInBounds_toArray, List.set_cons_zero, List.set_cons_succ]
    refine AnyG.takeC (i := 7) (v := ?_) rfl (by kernel_rfl) (fun _ _ _ h => h) rfl ?_ hS ?_
    rotate_left
    · (intro w' hSw; (try dsimp only at hSw); go_simp; try with_reducible rfl)
    try simp only [Act.put, List.getElem_toArray, List.getElem_cons_succ, List.getElem_cons_zero, List.setIfInBounds_toArray, List.set_cons_zero, List.set_cons_succ]
    refine AnyG.takeC (i := 8) (v := ?_) rfl (by kernel_rfl) (fun _ _ _ h => h) rfl ?_ hS ?_
    rotate_left
    · (intro w' hSw; (try dsimp only at hSw); go_simp; try with_reducible rfl)
    try simp only [Act.put, List.getElem_toArray, List.getElem_cons_succ, List.getElem_cons_zero, List.setIfInBounds_toArray, List.set_cons_zero, List.set_cons_succ]
    refine AnyG.one (i := 9) (by kernel_rfl) rfl rfl ?_
    have hS9 : Below wr.heap.size wr (wr.alloc (.cells #[.slice none 0 0, .slice none 0 0, .slice none 0 0] 62)).drew := ((Below.refl wr.heap.size wr).alloc (Nat.le_refl _) _).drew
    go_simp
    refine Onward.on hS9 (fun hS2 => ?_)
    clear hS
    have hS := hS2
    clear hS2
    try simp only [Act.put, List.getElem_toArray, List.getElem_cons_succ, List.getElem_cons_zero, List.setIfInBounds_toArray, List.set_cons_zero, List.set_cons_succ]
    refine AnyG.one (i := 10) (by kernel_rfl) rfl rfl ?_
    go_simp
    refine Onward.last rfl ?_
    try simp only [Act.put, List.getElem_toArray, List.getElem_cons_succ, List.getElem_cons_zero, List.setIfInBounds_toArray, List.set_cons_zero, List.set_cons_succ]
    refine AnyG.done (by kernel_rfl) ?_ _
    go_simp
    obtain ⟨bt, hbt⟩ : ∃ x, wr.heap.size = x := ⟨_, rfl⟩
    have T29 : TB wr wr.heap.size (.slice G p.ln gc) [] none 0 0 none 0 0 [] (wr.alloc (.cells #[.slice G p.ln gc, .slice none 0 0, .slice none 0 0] 62)).drew :=
      ⟨((Below.refl wr.heap.size wr).alloc (Nat.le_refl _) _).drew, (Bx.new _ _ _).drew, Nat.le_refl _, World.ownsRow_nil _ _ _ _, World.ownsRow_nil _ _ _ _⟩
    obtain ⟨w29, hw29⟩ : ∃ x, (wr.alloc (.cells #[.slice G p.ln gc, .slice none 0 0, .slice none 0 0] 62)).drew = x := ⟨_, rfl⟩
    rw [hw29] at T29 ⊢
    clear hw29
    rw [hbt] at T29 ⊢
    have hbt0 : wr.heap.size ≤ bt := by omega
    clear hbt
    have hvv0 := hvv.call X.bel
    obtain ⟨w0, rfl⟩ : ∃ Z, Z = wr := ⟨_, rfl⟩
    have hcl9 := cellC T29.bel hcl
    have kv29 := kvr.call T29.bel
    have kv0 := kvr
    obtain ⟨GX, hGX⟩ : ∃ x, (if gc = p.ln then G else Option.map (fun x => x.add p.ln) G) = x := ⟨_, rfl⟩
    have hsGX := sl_tail (k := p.ln) hGr (by rw [HLL2.out]; exact hgc)
    rw [hGX] at hsGX
    have HTP := Lib.hid (TP.start (w0 := w0) (nx := nr - p.ln) (xc := gc - p.ln) HIN.out (by rw [List.length_drop, HLL2.out, HLL.out]) (by omega))
    have HGX := Lib.hid (show Sl w0 w0.heap.size 1 GX (inr (l.drop v.ls.length)) by rw [HLL.out]; exact hsGX)
    clear hS hS9 hsGX kvr
    go_wp2_with fail
    refine AnyG.startC (by kernel_rfl) ?_
    refine AnyG.takeP (i := 0) (v := ?_) rfl (by kernel_rfl) (fun _ _ _ h => h) rfl ?_ ?_
    rotate_left
    · (intro w'; go_simp; try with_reducible rfl)
    try simp only [Act.put, List.getElem_toArray, List.getElem_cons_succ, List.getElem_cons_zero, List.setIfInBounds_toArray, List.set_cons_zero, List.set_cons_succ]
    refine AnyG.takeP (i := 1) (v := ?_) rfl (by kernel_rfl) (fun _ _ _ h => h) rfl ?_ ?_
    rotate_left
    · (intro w'; go_simp; try with_reducible rfl)
    try simp only [Act.put, List.getElem_toArray, List.getElem_cons_succ, List.getElem_cons_zero, List.setIfInBounds_toArray, List.set_cons_zero, List.set_cons_succ]
    refine AnyG.takeP (i := 2) (v := ?_) rfl (by kernel_rfl) (fun _ _ _ h => h) rfl ?_ ?_
    rotate_left
    · (intro w'; go_simp; try with_reducible rfl)
    try simp only [Act.put, List.getElem_toArray, List.getElem_cons_succ, List.getElem_cons_zero, List.setIfInBounds_toArray, List.set_cons_zero, List.set_cons_succ]
    refine AnyG.takeP (i := 4) (v := ?_) rfl (by kernel_rfl) (fun _ _ _ h => h) rfl ?_ ?_
    rotate_left
    · (intro w'; go_simp; try with_reducible rfl)
    try simp only [Act.put, List.getElem_toArray, List.getElem_cons_succ, List.getElem_cons_zero, List.setIfInBounds_toArray, List.set_cons_zero, List.set_cons_succ]
    refine AnyG.enter (fun w' : World => Below w29.heap.size w29 w') (fun i => true) ?_
    have hS : (fun w' : World => Below w29.heap.size w29 w') (World.drew _) := (Below.refl _ _).drew
    refine AnyG.takeC (i := 3) (v := ?_) rfl (by kernel_rfl) (fun _ _ _ h => h) rfl ?_ hS ?_
    rotate_left
    · (intro w' hSw; (try dsimp only at hSw); have p0 := cellC hSw hcl9; go_simp; try with_reducible rfl)
    try simp only [Act.put, List.getElem_toArray, List.getElem_cons_succ, List.getElem_cons_zero, List.setIfInBounds_toArray, List.set_cons_zero, List.set_cons_succ]
    refine AnyG.takeC (i := 5) (v := ?_) rfl (by kernel_rfl) (fun _ _ _ h => h) rfl ?_ hS ?_
    rotate_left
    · (intro w' hSw; (try dsimp only at hSw); obtain ⟨x0, x1, x2, x3, x4, x5, x6, xf, xz⟩ := (kv29.call hSw).seven; go_simp; try with_reducible rfl)
    try simp only [Act.put, List.getElem_toArray, List.getElem_cons_succ, List.getElem_cons_zero, List.setIfInBounds_toArray, List.set_cons_zero, List.set_cons_succ]
    refine AnyG.takeC (i := 6) (v := ?_) rfl (by kernel_rfl) (fun _ _ _ h => h) rfl ?_ hS ?_
    rotate_left
    · (intro w' hSw; (try dsimp only at hSw); go_simp; try with_reducible rfl)
    try simp only [Act.put, List.getElem_toArray, List.getElem_cons_succ, List.getElem_cons_zero, List.setIfInBounds_toArray, List.set_cons_zero, List.set_cons_succ]
    refine AnyG.takeC (i := 7) (v := ?_) rfl (by kernel_rfl) (fun _ _ _ h => h) rfl ?_ hS ?_
    rotate_left
    · (intro w' hSw; (try dsimp only at hSw); go_simp; try with_reducible rfl)
    try simp only [Act.put, List.getElem_toArray, List.getElem_cons_succ, List.getElem_cons_zero, List.setIfInBounds_toArray, List.set_cons_zero, List.set_cons_succ]
    refine AnyG.takeC (i := 8) (v := ?_) rfl (by kernel_rfl) (fun _ _ _ h => h) rfl ?_ hS ?_
    rotate_left
    · (intro w' hSw; (try dsimp only at hSw); go_simp; try with_reducible rfl)
    try simp only [Act.put, List.getElem_toArray, List.getElem_cons_succ, List.getElem_cons_zero, List.setIfInBounds_toArray, List.set_cons_zero, List.set_cons_succ]
    refine AnyG.done (by kernel_rfl) ?_ _
    go_simp
    clear hGX hcl hcl9 kv29
    have T30 := T29.call ((Below.refl w29.heap.size w29).drew)
    go_wp2_with fail
    go_loopw [29, 30] (fun rv iv wx => ∃ (i nx xc wc dc9 : Nat) (XA WA DA9 : Option Addr) (rst ws : List Int) (ds : List (List Int)) (vs : List Value), rv = .slice XA nx xc ∧ iv = .int .i64 i ∧ i ≤ p.sn ∧ Hid (TP w0 v l i nx xc rst ws ds vs) ∧ Hid (Sl w0 w0.heap.size 1 XA (inr rst)) ∧ TB w0 bt (.slice G p.ln gc) ws WA i wc DA9 i dc9 vs wx) (fun _ iv _ => p.sn - (intOf iv).toNat)
    case atStart => exact ⟨0, nr - p.ln, gc - p.ln, 0, 0, GX, none, none, _, _, _, _, rfl, rfl, by omega, HTP, HGX, T30⟩
    case round =>
      clear T30 HTP HGX
      obtain ⟨i, nx, xc, wc, dc9, XA, WA, DA9, rst, ws, ds, vs, rfl, rfl, hi, HTP, HSX, TX⟩ := hrel
      obtain ⟨wx, rfl⟩ : ∃ Z, Z = wr := ⟨_, rfl⟩
      have kvx := kv0.call TX.bel
      by_cases hin : i < p.sn
      · have hil : i < v.ss.length := by rw [HSS.out]; exact hin
        obtain ⟨sad, GL, gcl, hSA2, hsb, s0, s1, s2, hgcl, hGL⟩ := hvv0.ss.at_ hil
        have hget := List.getElem?_eq_getElem hil
        have hfs := HFW.out.ss _ (List.getElem_mem hil)
        have hl1 := (HFW.out.sm.ss _ (List.getElem_mem hil)).2.2.2.1
        generalize v.ss[i] = b at *
        have hb2 := hfs.2.1
        have HGET := Lib.hid hget
        obtain ⟨gn, hgn⟩ : ∃ x, b.lv.length = x := ⟨_, rfl⟩
        have HGN := Lib.hid hgn
        rw [hgn] at s2 hgcl hb2 hl1
        have hr1 : 1 + gn ≤ nx := by rw [← hgn]; exact vacTP HTP.out hget
        have hxc := HTP.out.cap
        have hr0 : 0 < rst.length := by rw [HTP.out.len]; omega
        obtain ⟨xad, hXA, hxb, hc0⟩ := inr_at HSX.out hr0
        rw [hXA] at HSX ⊢
        have hs1 := sl_tail (k := 1) HSX.out (c := xc) (by rw [HTP.out.len]; exact hxc)
        rw [if_neg (show ¬ xc = 1 by omega), Option.map_some] at hs1
        obtain ⟨n0, hn0, _, hml, hTP2⟩ := HTP.out.step hget (G := some (xad.add 1)) (c := xc - 1) (sl_pre hs1 _)
        rw [List.getElem?_eq_getElem hr0, Option.some.injEq] at hn0
        rw [hn0, show xad.add 0 = xad by simp [Addr.add]] at hc0
        have hxa1 : xad.add 1 = ⟨xad.block, xad.off + 1, none⟩ := by unfold Addr.add; simp
        rw [hxa1] at hTP2
        obtain ⟨g1, hg1⟩ : ∃ x, 1 + gn = x := ⟨_, rfl⟩
        have hs2 := sl_tail (k := g1) HSX.out (c := xc) (by rw [HTP.out.len]; exact hxc)
        rw [hgn, hg1] at hTP2
        have hg1w : IntKind.i64.wrap (1 + (gn : Int)) = (g1 : Int) := by rw [IntWalk.i64_in _ (by omega)]; omega
        have hg2 : g1 - 1 = gn := by omega
        have hg3 : 1 ≤ g1 := by omega
        have hg3i : (1 : Int) ≤ (g1 : Int) := by omega
        have hg4 : g1 ≤ xc := by omega
        have hg5 : g1 ≤ nx := by omega
        have hx1 : (xc = 1) = False := eq_false (by omega)
        obtain ⟨RX, hRX⟩ : ∃ x, (if xc = g1 then some xad else some (xad.add g1)) = x := ⟨_, rfl⟩
        rw [Option.map_some, hRX] at hs2
        have HS2 := Lib.hid hs2
        have HTP2 := Lib.hid hTP2
        have hnx0 : 0 < nx := by omega
        have c0 := cellC TX.bel hc0
        have p2 := cellC TX.bel s2
        have hiw : IntKind.i64.wrap ((i : Int) + 1) = (i : Int) + 1 := IntWalk.i64_in _ (by omega)
        have HSA2 := Lib.hid hSA2
        obtain ⟨l0, l1, l2, l3, l4, l5, l6, lf', lz⟩ := kvx.seven
        rw [hSA2] at l5
        clear hil hget hfs hgn hXA hs1 hxa1 hs2 hn0 hml hTP2 hg1 hSA2 HSX hr0 HTP
        go_upto_region 35 with fail
        clear l0 l1 l2 l3 l4 l5 l6 lf' lz
        refine AnyG.startC (by kernel_rfl) ?_
        refine AnyG.takeP (i := 0) (v := ?_) rfl (by kernel_rfl) (fun _ _ _ h => h) rfl ?_ ?_
        rotate_left
        · (intro w'; go_simp; try with_reducible rfl)
        try simp only [Act.put, List.getElem_toArray, List.getElem_cons_succ, List.getElem_cons_zero, List.setIfInBounds_toArray, List.set_cons_zero, List.set_cons_succ]
        refine AnyG.takeP (i := 2) (v := ?_) rfl (by kernel_rfl) (fun _ _ _ h => h) rfl ?_ ?_
        rotate_left
        · (intro w'; go_simp; try with_reducible rfl)
        try simp only [Act.put, List.getElem_toArray, List.getElem_cons_succ, List.getElem_cons_zero, List.setIfInBounds_toArray, List.set_cons_zero, List.set_cons_succ]
        refine AnyG.takeP (i := 3) (v := ?_) rfl (by kernel_rfl) (fun _ _ _ h => h) rfl ?_ ?_
        rotate_left
        · (intro w'; go_simp; try with_reducible rfl)
        try simp only [Act.put, List.getElem_toArray, List.getElem_cons_succ, List.getElem_cons_zero, List.setIfInBounds_toArray, List.set_cons_zero, List.set_cons_succ]
        refine AnyG.takeP (i := 7) (v := ?_) rfl (by kernel_rfl) (fun _ _ _ h => h) rfl ?_ ?_
        rotate_left
        · (intro w'; go_simp; try with_reducible rfl)
        try simp only [Act.put, List.getElem_toArray, List.getElem_cons_succ, List.getElem_cons_zero, List.setIfInBounds_toArray, List.set_cons_zero, List.set_cons_succ]
        refine AnyG.takeP (i := 9) (v := ?_) rfl (by kernel_rfl) (fun _ _ _ h => h) rfl ?_ ?_
        rotate_left
        · (intro w'; go_simp; try with_reducible rfl)
        try simp only [Act.put, List.getElem_toArray, List.getElem_cons_succ, List.getElem_cons_zero, List.setIfInBounds_toArray, List.set_cons_zero, List.set_cons_succ]
        refine AnyG.takeP (i := 10) (v := ?_) rfl (by kernel_rfl) (fun _ _ _ h => h) rfl ?_ ?_
        rotate_left
        · (intro w'; go_simp; try with_reducible rfl)
        try simp only [Act.put, List.getElem_toArray, List.getElem_cons_succ, List.getElem_cons_zero, List.setIfInBounds_toArray, List.set_cons_zero, List.set_cons_succ]
        refine AnyG.takeP (i := 11) (v := ?_) rfl (by kernel_rfl) (fun _ _ _ h => h) rfl ?_ ?_
        rotate_left
        · (intro w'; go_simp; try with_reducible rfl)
        try simp only [Act.put, List.getElem_toArray, List.getElem_cons_succ, List.getElem_cons_zero, List.setIfInBounds_toArray, List.set_cons_zero, List.set_cons_succ]
        refine AnyG.takeP (i := 12) (v := ?_) rfl (by kernel_rfl) (fun _ _ _ h => h) rfl ?_ ?_
        rotate_left
        · (intro w'; go_simp; try with_reducible rfl)
        try simp only [Act.put, List.getElem_toArray, List.getElem_cons_succ, List.getElem_cons_zero, List.setIfInBounds_toArray, List.set_cons_zero, List.set_cons_succ]
        refine AnyG.enter (fun w' : World => TB w0 bt (.slice G p.ln gc) ws WA i wc DA9 i dc9 vs w') (fun i => i != 16 && i != 17 && i != 18) ?_
        have hS : (fun w' : World => TB w0 bt (.slice G p.ln gc) ws WA i wc DA9 i dc9 vs w') (wx.drew) := TX.call ((Below.refl wx.heap.size wx).drew)
        try dsimp only at hS
        obtain ⟨y0, hy0⟩ : ∃ y, wx.drew = y := ⟨_, rfl⟩
        rw [hy0] at hS ⊢
        clear hy0
        refine AnyG.takeC (i := 1) (v := ?_) rfl (by kernel_rfl) (fun _ _ _ h => h) rfl ?_ hS ?_
        rotate_left
        · (intro w' hSw; (try dsimp only at hSw); obtain ⟨x0, x1, x2, xf, xz⟩ := hSw.kb.three'; go_simp; try with_reducible rfl)
        try simp only [Act.put, List.getElem_toArray, List.getElem_cons_succ, List.getElem_cons_zero, List.setIfInBounds_toArray, List.set_cons_zero, List.set_cons_succ]
        refine AnyG.takeC (i := 4) (v := ?_) rfl (by kernel_rfl) (fun _ _ _ h => h) rfl ?_ hS ?_
        rotate_left
        · (intro w' hSw; (try dsimp only at hSw); have q0 := cellC (Below.refl _ _) c0; have q1 := cellC hSw.bel hc0; go_simp; try with_reducible rfl)
        try simp only [Act.put, List.getElem_toArray, List.getElem_cons_succ, List.getElem_cons_zero, List.setIfInBounds_toArray, List.set_cons_zero, List.set_cons_succ]
        refine AnyG.takeC (i := 8) (v := ?_) rfl (by kernel_rfl) (fun _ _ _ h => h) rfl ?_ hS ?_
        rotate_left
        · (intro w' hSw; (try dsimp only at hSw); obtain ⟨x0, x1, x2, xf, xz⟩ := hSw.kb.three'; go_simp; try with_reducible rfl)
        try simp only [Act.put, List.getElem_toArray, List.getElem_cons_succ, List.getElem_cons_zero, List.setIfInBounds_toArray, List.set_cons_zero, List.set_cons_succ]
        refine AnyG.all (rs := [5, 13]) (by kernel_rfl) (by simp) ?_
        intro ii hii
        simp only [List.mem_cons, List.not_mem_nil, or_false] at hii
        rcases hii with rfl | rfl
        · refine ⟨_, rfl, rfl, ?_⟩
          have kn5 := Bx.new y0 3 #[.int .i64 n0]
          go_simp
          have hT := hS.call (bel1 _ (.cells #[.int .i64 n0] 3))
          obtain ⟨z5, hy⟩ : ∃ x, y0.alloc (.cells #[.int .i64 n0] 3) = x := ⟨_, rfl⟩
          rw [hy] at kn5 hT ⊢
          obtain ⟨b5, hbq⟩ : ∃ p, y0.heap.size = p := ⟨_, rfl⟩
          rw [hbq] at kn5 ⊢
          clear hy hbq
          have hSn := hT
          clear hS
          refine Onward.on hSn (fun hS => ?_)
          try dsimp only at hS
          clear hSn
          try simp only [Act.put, List.getElem_toArray, List.getElem_cons_succ, List.getElem_cons_zero, List.setIfInBounds_toArray, List.set_cons_zero, List.set_cons_succ]
          refine AnyG.all (rs := [6, 13]) (by kernel_rfl) (by simp) ?_
          intro ii hii
          simp only [List.mem_cons, List.not_mem_nil, or_false] at hii
          rcases hii with rfl | rfl
          · refine ⟨_, rfl, rfl, ?_⟩
            refine wp_app2 (.tmp 174) (.tmp 178) 27 rfl w0.heap.size 3 i3 _ 1 8 Try.underlying27 hi3 hz3 hs3 iy3 rfl (by decide) (.slice WA i wc) i (inr ws).flatten (by simp [Act.eval]) hS.ow ⟨b5, 0, none⟩ 1 1 [.int .i64 n0] (by simp [Act.eval]) rfl (bx_news kn5) (by simp [Value.oneCell']) (by unfold maxLen; omega) (by omega) hS.bel.size ?_
            intro v6 z6 o6 g6 x6 r6
            obtain ⟨WA2, wc2, rfl⟩ := own_shape o6
            have hSn := hS.way g6 x6
            clear hS
            refine Onward.on hSn (fun hS => ?_)
            try dsimp only at hS
            clear hSn
            try simp only [Act.put, List.getElem_toArray, List.getElem_cons_succ, List.getElem_cons_zero, List.setIfInBounds_toArray, List.set_cons_zero, List.set_cons_succ]
            refine AnyG.takeC (i := 15) (v := ?_) rfl (by kernel_rfl) (fun _ _ _ h => h) rfl ?_ hS ?_
            rotate_left
            · (intro w' hSw; (try dsimp only at hSw); go_simp; try with_reducible rfl)
            try simp only [Act.put, List.getElem_toArray, List.getElem_cons_succ, List.getElem_cons_zero, List.setIfInBounds_toArray, List.set_cons_zero, List.set_cons_succ]
            refine AnyG.one (i := 13) (by kernel_rfl) rfl rfl ?_
            have kn13 := Bx.new z6 27 #[.slice (some ⟨xad.block, xad.off + 1, none⟩) gn (xc - 1)]
            go_simp
            replace o6 := o6.alloc (.cells #[.slice (some ⟨xad.block, xad.off + 1, none⟩) gn (xc - 1)] 27)
            have hT := hS.call (bel1 _ (.cells #[.slice (some ⟨xad.block, xad.off + 1, none⟩) gn (xc - 1)] 27))
            obtain ⟨z13, hy⟩ : ∃ x, z6.alloc (.cells #[.slice (some ⟨xad.block, xad.off + 1, none⟩) gn (xc - 1)] 27) = x := ⟨_, rfl⟩
            rw [hy] at o6 kn13 hT ⊢
            obtain ⟨b13, hbq⟩ : ∃ p, z6.heap.size = p := ⟨_, rfl⟩
            rw [hbq] at kn13 ⊢
            clear hy hbq
            have hSn := hT
            clear hS
            refine Onward.on hSn (fun hS => ?_)
            try dsimp only at hS
            clear hSn
            try simp only [Act.put, List.getElem_toArray, List.getElem_cons_succ, List.getElem_cons_zero, List.setIfInBounds_toArray, List.set_cons_zero, List.set_cons_succ]
            refine AnyG.one (i := 14) (by kernel_rfl) rfl rfl ?_
            refine wp_app2 (.tmp 181) (.tmp 186) 38 rfl w0.heap.size 27 i27 _ 1 24 Try.underlying38 hi27 hz27 hs27 iy27 rfl (by decide) (.slice DA9 i dc9) i vs (by simp [Act.eval]) hS.od ⟨b13, 0, none⟩ 1 1 [.slice (some ⟨xad.block, xad.off + 1, none⟩) gn (xc - 1)] (by simp [Act.eval]) rfl (bx_news kn13) (by simp [Value.oneCell']) (by unfold maxLen; omega) (by omega) hS.bel.size ?_
            intro v14 z14 o14 g14 x14 r14
            obtain ⟨DA2, dc2, rfl⟩ := own_shape o14
            replace o6 := o6.kept g14 (own_ne o6 hS.od (by decide))
            have hSn := hS.dep g14 x14
            clear hS
            refine Onward.on hSn (fun hS => ?_)
            try dsimp only at hS
            clear hSn
            try simp only [Act.put, List.getElem_toArray, List.getElem_cons_succ, List.getElem_cons_zero, List.setIfInBounds_toArray, List.set_cons_zero, List.set_cons_succ]
            refine AnyG.one (i := 16) (by kernel_rfl) rfl rfl ?_
            rw [← inr_snoc] at o6
            have TF := hS.fin o6 o14
            obtain ⟨x0, x1, x2, xf, xz⟩ := hS.kb.three'
            go_simp
            clear x0 x1 x2 xf xz
            refine Onward.last rfl ?_
            try simp only [Act.put, List.getElem_toArray, List.getElem_cons_succ, List.getElem_cons_zero, List.setIfInBounds_toArray, List.set_cons_zero, List.set_cons_succ]
            refine AnyG.one (i := 17) (by kernel_rfl) rfl rfl ?_
            go_simp
            refine Onward.last rfl ?_
            try simp only [Act.put, List.getElem_toArray, List.getElem_cons_succ, List.getElem_cons_zero, List.setIfInBounds_toArray, List.set_cons_zero, List.set_cons_succ]
            refine AnyG.one (i := 18) (by kernel_rfl) rfl rfl ?_
            obtain ⟨x0, x1, x2, xf, xz⟩ := hS.kb.three'
            go_simp
            clear x0 x1 x2 xf xz
            refine Onward.last rfl ?_
            try simp only [Act.put, List.getElem_toArray, List.getElem_cons_succ, List.getElem_cons_zero, List.setIfInBounds_toArray, List.set_cons_zero, List.set_cons_succ]
            refine AnyG.done (by kernel_rfl) ?_ _
            go_simp
            obtain ⟨Z, hZ⟩ : ∃ Z, (z14.setCell ⟨bt, 1, none⟩ (.slice WA2 (i + 1) wc2)).setCell ⟨bt, 2, none⟩ (.slice DA2 (i + 1) dc2) = Z := ⟨_, rfl⟩
            rw [hZ] at TF ⊢
            clear hZ hS o6 o14 g6 x6 r6 g14 x14 r14 TX kvx c0 p2 hc0
            go_wp2_with fail
            go_roundw
            case rel => exact ⟨i + 1, nx - g1, xc - g1, wc2, dc2, RX, WA2, DA2, _, _, _, _, rfl, by go_num, by omega, HTP2, HS2, TF⟩
            case measure => simp [intOf]; omega
          · refine ⟨_, rfl, rfl, ?_⟩
            have kn13 := Bx.new z5 27 #[.slice (some ⟨xad.block, xad.off + 1, none⟩) gn (xc - 1)]
            go_simp
            replace kn5 := kn5.alloc (.cells #[.slice (some ⟨xad.block, xad.off + 1, none⟩) gn (xc - 1)] 27)
            have hT := hS.call (bel1 _ (.cells #[.slice (some ⟨xad.block, xad.off + 1, none⟩) gn (xc - 1)] 27))
            obtain ⟨z13, hy⟩ : ∃ x, z5.alloc (.cells #[.slice (some ⟨xad.block, xad.off + 1, none⟩) gn (xc - 1)] 27) = x := ⟨_, rfl⟩
            rw [hy] at kn5 kn13 hT ⊢
            obtain ⟨b13, hbq⟩ : ∃ p, z5.heap.size = p := ⟨_, rfl⟩
            rw [hbq] at kn13 ⊢
            clear hy hbq
            have hSn := hT
            clear hS
            refine Onward.on hSn (fun hS => ?_)
            try dsimp only at hS
            clear hSn
            try simp only [Act.put, List.getElem_toArray, List.getElem_cons_succ, List.getElem_cons_zero, List.setIfInBounds_toArray, List.set_cons_zero, List.set_cons_succ]
            refine AnyG.one (i := 6) (by kernel_rfl) rfl rfl ?_
            refine wp_app2 (.tmp 174) (.tmp 178) 27 rfl w0.heap.size 3 i3 _ 1 8 Try.underlying27 hi3 hz3 hs3 iy3 rfl (by decide) (.slice WA i wc) i (inr ws).flatten (by simp [Act.eval]) hS.ow ⟨b5, 0, none⟩ 1 1 [.int .i64 n0] (by simp [Act.eval]) rfl (bx_news kn5) (by simp [Value.oneCell']) (by unfold maxLen; omega) (by omega) hS.bel.size ?_
            intro v6 z6 o6 g6 x6 r6
            obtain ⟨WA2, wc2, rfl⟩ := own_shape o6
            replace kn13 := kn13.grown g6 (own_bx hS.ow kn13 (by decide))
            have hSn := hS.way g6 x6
            clear hS
            refine Onward.on hSn (fun hS => ?_)
            try dsimp only at hS
            clear hSn
            try simp only [Act.put, List.getElem_toArray, List.getElem_cons_succ, List.getElem_cons_zero, List.setIfInBounds_toArray, List.set_cons_zero, List.set_cons_succ]
            refine AnyG.takeC (i := 15) (v := ?_) rfl (by kernel_rfl) (fun _ _ _ h => h) rfl ?_ hS ?_
            rotate_left
            · (intro w' hSw; (try dsimp only at hSw); go_simp; try with_reducible rfl)
            try simp only [Act.put, List.getElem_toArray, List.getElem_cons_succ, List.getElem_cons_zero, List.setIfInBounds_toArray, List.set_cons_zero, List.set_cons_succ]
            refine AnyG.one (i := 14) (by kernel_rfl) rfl rfl ?_
            refine wp_app2 (.tmp 181) (.tmp 186) 38 rfl w0.heap.size 27 i27 _ 1 24 Try.underlying38 hi27 hz27 hs27 iy27 rfl (by decide) (.slice DA9 i dc9) i vs (by simp [Act.eval]) hS.od ⟨b13, 0, none⟩ 1 1 [.slice (some ⟨xad.block, xad.off + 1, none⟩) gn (xc - 1)] (by simp [Act.eval]) rfl (bx_news kn13) (by simp [Value.oneCell']) (by unfold maxLen; omega) (by omega) hS.bel.size ?_
            intro v14 z14 o14 g14 x14 r14
            obtain ⟨DA2, dc2, rfl⟩ := own_shape o14
            replace o6 := o6.kept g14 (own_ne o6 hS.od (by decide))
            have hSn := hS.dep g14 x14
            clear hS
            refine Onward.on hSn (fun hS => ?_)
            try dsimp only at hS
            clear hSn
            try simp only [Act.put, List.getElem_toArray, List.getElem_cons_succ, List.getElem_cons_zero, List.setIfInBounds_toArray, List.set_cons_zero, List.set_cons_succ]
            refine AnyG.one (i := 16) (by kernel_rfl) rfl rfl ?_
            rw [← inr_snoc] at o6
            have TF := hS.fin o6 o14
            obtain ⟨x0, x1, x2, xf, xz⟩ := hS.kb.three'
            go_simp
            clear x0 x1 x2 xf xz
            refine Onward.last rfl ?_
            try simp only [Act.put, List.getElem_toArray, List.getElem_cons_succ, List.getElem_cons_zero, List.setIfInBounds_toArray, List.set_cons_zero, List.set_cons_succ]
            refine AnyG.one (i := 17) (by kernel_rfl) rfl rfl ?_
            go_simp
            refine Onward.last rfl ?_
            try simp only [Act.put, List.getElem_toArray, List.getElem_cons_succ, List.getElem_cons_zero, List.setIfInBounds_toArray, List.set_cons_zero, List.set_cons_succ]
            refine AnyG.one (i := 18) (by kernel_rfl) rfl rfl ?_
            obtain ⟨x0, x1, x2, xf, xz⟩ := hS.kb.three'
            go_simp
            clear x0 x1 x2 xf xz
            refine Onward.last rfl ?_
            try simp only [Act.put, List.getElem_toArray, List.getElem_cons_succ, List.getElem_cons_zero, List.setIfInBounds_toArray, List.set_cons_zero, List.set_cons_succ]
            refine AnyG.done (by kernel_rfl) ?_ _
            go_simp
            obtain ⟨Z, hZ⟩ : ∃ Z, (z14.setCell ⟨bt, 1, none⟩ (.slice WA2 (i + 1) wc2)).setCell ⟨bt, 2, none⟩ (.slice DA2 (i + 1) dc2) = Z := ⟨_, rfl⟩
            rw [hZ] at TF ⊢
            clear hZ hS o6 o14 g6 x6 r6 g14 x14 r14 TX kvx c0 p2 hc0
            go_wp2_with fail
            go_roundw
            case rel => exact ⟨i + 1, nx - g1, xc - g1, wc2, dc2, RX, WA2, DA2, _, _, _, _, rfl, by go_num, by omega, HTP2, HS2, TF⟩
            case measure => simp [intOf]; omega
        · refine ⟨_, rfl, rfl, ?_⟩
          have kn13 := Bx.new y0 27 #[.slice (some ⟨xad.block, xad.off + 1, none⟩) gn (xc - 1)]
          go_simp
          have hT := hS.call (bel1 _ (.cells #[.slice (some ⟨xad.block, xad.off + 1, none⟩) gn (xc - 1)] 27))
          obtain ⟨z13, hy⟩ : ∃ x, y0.alloc (.cells #[.slice (some ⟨xad.block, xad.off + 1, none⟩) gn (xc - 1)] 27) = x := ⟨_, rfl⟩
          rw [hy] at kn13 hT ⊢
          obtain ⟨b13, hbq⟩ : ∃ p, y0.heap.size = p := ⟨_, rfl⟩
          rw [hbq] at kn13 ⊢
          clear hy hbq
          have hSn := hT
          clear hS
          refine Onward.on hSn (fun hS => ?_)
          try dsimp only at hS
          clear hSn
          try simp only [Act.put, List.getElem_toArray, List.getElem_cons_succ, List.getElem_cons_zero, List.setIfInBounds_toArray, List.set_cons_zero, List.set_cons_succ]
          refine AnyG.one (i := 5) (by kernel_rfl) rfl rfl ?_
          have kn5 := Bx.new z13 3 #[.int .i64 n0]
          go_simp
          replace kn13 := kn13.alloc (.cells #[.int .i64 n0] 3)
          have hT := hS.call (bel1 _ (.cells #[.int .i64 n0] 3))
          obtain ⟨z5, hy⟩ : ∃ x, z13.alloc (.cells #[.int .i64 n0] 3) = x := ⟨_, rfl⟩
          rw [hy] at kn13 kn5 hT ⊢
          obtain ⟨b5, hbq⟩ : ∃ p, z13.heap.size = p := ⟨_, rfl⟩
          rw [hbq] at kn5 ⊢
          clear hy hbq
          have hSn := hT
          clear hS
          refine Onward.on hSn (fun hS => ?_)
          try dsimp only at hS
          clear hSn
          try simp only [Act.put, List.getElem_toArray, List.getElem_cons_succ, List.getElem_cons_zero, List.setIfInBounds_toArray, List.set_cons_zero, List.set_cons_succ]
          refine AnyG.one (i := 6) (by kernel_rfl) rfl rfl ?_
          refine wp_app2 (.tmp 174) (.tmp 178) 27 rfl w0.heap.size 3 i3 _ 1 8 Try.underlying27 hi3 hz3 hs3 iy3 rfl (by decide) (.slice WA i wc) i (inr ws).flatten (by simp [Act.eval]) hS.ow ⟨b5, 0, none⟩ 1 1 [.int .i64 n0] (by simp [Act.eval]) rfl (bx_news kn5) (by simp [Value.oneCell']) (by unfold maxLen; omega) (by omega) hS.bel.size ?_
          intro v6 z6 o6 g6 x6 r6
          obtain ⟨WA2, wc2, rfl⟩ := own_shape o6
          replace kn13 := kn13.grown g6 (own_bx hS.ow kn13 (by decide))
          have hSn := hS.way g6 x6
          clear hS
          refine Onward.on hSn (fun hS => ?_)
          try dsimp only at hS
          clear hSn
          try simp only [Act.put, List.getElem_toArray, List.getElem_cons_succ, List.getElem_cons_zero, List.setIfInBounds_toArray, List.set_cons_zero, List.set_cons_succ]
          refine AnyG.takeC (i := 15) (v := ?_) rfl (by kernel_rfl) (fun _ _ _ h => h) rfl ?_ hS ?_
          rotate_left
          · (intro w' hSw; (try dsimp only at hSw); go_simp; try with_reducible rfl)
          try simp only [Act.put, List.getElem_toArray, List.getElem_cons_succ, List.getElem_cons_zero, List.setIfInBounds_toArray, List.set_cons_zero, List.set_cons_succ]
          refine AnyG.one (i := 14) (by kernel_rfl) rfl rfl ?_
          refine wp_app2 (.tmp 181) (.tmp 186) 38 rfl w0.heap.size 27 i27 _ 1 24 Try.underlying38 hi27 hz27 hs27 iy27 rfl (by decide) (.slice DA9 i dc9) i vs (by simp [Act.eval]) hS.od ⟨b13, 0, none⟩ 1 1 [.slice (some ⟨xad.block, xad.off + 1, none⟩) gn (xc - 1)] (by simp [Act.eval]) rfl (bx_news kn13) (by simp [Value.oneCell']) (by unfold maxLen; omega) (by omega) hS.bel.size ?_
          intro v14 z14 o14 g14 x14 r14
          obtain ⟨DA2, dc2, rfl⟩ := own_shape o14
          replace o6 := o6.kept g14 (own_ne o6 hS.od (by decide))
          have hSn := hS.dep g14 x14
          clear hS
          refine Onward.on hSn (fun hS => ?_)
          try dsimp only at hS
          clear hSn
          try simp only [Act.put, List.getElem_toArray, List.getElem_cons_succ, List.getElem_cons_zero, List.setIfInBounds_toArray, List.set_cons_zero, List.set_cons_succ]
          refine AnyG.one (i := 16) (by kernel_rfl) rfl rfl ?_
          rw [← inr_snoc] at o6
          have TF := hS.fin o6 o14
          obtain ⟨x0, x1, x2, xf, xz⟩ := hS.kb.three'
          go_simp
          clear x0 x1 x2 xf xz
          refine Onward.last rfl ?_
          try simp only [Act.put, List.getElem_toArray, List.getElem_cons_succ, List.getElem_cons_zero, List.setIfInBounds_toArray, List.set_cons_zero, List.set_cons_succ]
          refine AnyG.one (i := 17) (by kernel_rfl) rfl rfl ?_
          go_simp
          refine Onward.last rfl ?_
          try simp only [Act.put, List.getElem_toArray, List.getElem_cons_succ, List.getElem_cons_zero, List.setIfInBounds_toArray, List.set_cons_zero, List.set_cons_succ]
          refine AnyG.one (i := 18) (by kernel_rfl) rfl rfl ?_
          obtain ⟨x0, x1, x2, xf, xz⟩ := hS.kb.three'
          go_simp
          clear x0 x1 x2 xf xz
          refine Onward.last rfl ?_
          try simp only [Act.put, List.getElem_toArray, List.getElem_cons_succ, List.getElem_cons_zero, List.setIfInBounds_toArray, List.set_cons_zero, List.set_cons_succ]
          refine AnyG.done (by kernel_rfl) ?_ _
          go_simp
          obtain ⟨Z, hZ⟩ : ∃ Z, (z14.setCell ⟨bt, 1, none⟩ (.slice WA2 (i + 1) wc2)).setCell ⟨bt, 2, none⟩ (.slice DA2 (i + 1) dc2) = Z := ⟨_, rfl⟩
          rw [hZ] at TF ⊢
          clear hZ hS o6 o14 g6 x6 r6 g14 x14 r14 TX kvx c0 p2 hc0
          go_wp2_with fail
          go_roundw
          case rel => exact ⟨i + 1, nx - g1, xc - g1, wc2, dc2, RX, WA2, DA2, _, _, _, _, rfl, by go_num, by omega, HTP2, HS2, TF⟩
          case measure => simp [intOf]; omega
      · obtain rfl : i = p.sn := by omega
        have htp := HTP.out
        have hcut := htp.cut
        rw [show v.ss.drop p.sn = [] by rw [← HSS.out]; exact List.drop_length] at hcut
        simp only [cutS, List.append_nil] at hcut
        have hx : truX v l = ⟨l.take v.ls.length, ws, ds⟩ := by unfold truX; rw [hcut]
        have hfac : FacAt wx wx.heap.size (truX v l) G WA DA9 := by
          rw [hx]
          exact ⟨sl_pre (hGr.call TX.bel) _, own_inr TX.ow htp.wl, htp.ls TX⟩
        have htl : (truX v l).ts.length = p.ln := by rw [hx]; show (l.take v.ls.length).length = p.ln; rw [List.length_take, HLL2.out, HLL.out]; omega
        have hwl : (truX v l).ws.length = p.sn := by rw [hx]; exact htp.wl
        have hdl : (truX v l).ds.length = p.sn := by rw [hx]; exact htp.dl
        have hvx := hvv0.call TX.bel
        have hBx := X.bel.trans (TX.bel.mono X.bel.size)
        have hsx := hss.call hBx
        have HTL9 := Lib.hid htl
        have HWL9 := Lib.hid hwl
        have HDL9 := Lib.hid hdl
        have kt := TX.kb
        clear htp hcut hx htl hwl hdl HTP HSX hi hin
        obtain ⟨l0, l1, l2, l3, l4, l5, l6, lf', lz⟩ := kvx.seven
        obtain ⟨m0, m1, m2, mf, mz⟩ := kt.three'
        go_upto_region 38 with (first
          | (go_at_call 39; refine (sailed_any v p (truX v l) s SA p.ln sc G p.ln gc WA p.sn wc DA9 p.sn dc9 _ (ckSt_ok HST.out) HXK.out HTL9.out HWL9.out HDL9.out HSL.out hvx hfac hsx).mono ?_; rintro e w37 ⟨⟨LA9, lc9, rfl, oL⟩, hb37⟩)
          | fail)
        clear l0 l1 l2 l3 l4 l5 l6 lf' lz m0 m1 m2 mf mz
        have hst := ckSt_ok HST.out
        have hbb := trB_in hst HXK.out
        have htt := trT_in hst HXK.out
        have hdb0 := deep_bd HOK.out (inH_held hst.inh) true (fun x hx => hx) (abd_six HOK.out s)
        have hdb1 := deep_bd HOK.out (inH_held hst.inh) false (fun x hx => hx) (abd_six HOK.out s)
        have hsl := salT_len HXK.out s
        rw [HSS.out] at hsl
        have hb9 := TX.bel.trans (hb37.mono TX.bel.size)
        have X9 := X.call hb9
        obtain ⟨bw, hbw⟩ : ∃ b, trB v (truX v l) s = b := ⟨_, rfl⟩
        obtain ⟨sn, hsn⟩ : ∃ b, trT v (truX v l) s = b := ⟨_, rfl⟩
        obtain ⟨LL, hLL⟩ : ∃ b, salT v (truX v l) s = b := ⟨_, rfl⟩
        rw [hLL] at hsl oL
        rw [hbw] at hbb
        rw [hsn] at htt
        rw [hbw, hsn, hLL]
        obtain ⟨nl, hnl⟩ : ∃ b, LL.length = b := ⟨_, rfl⟩
        rw [hnl] at hsl oL
        rw [hnl]
        have HBW := Lib.hid hbw
        have HSN := Lib.hid hsn
        have HLL9 := Lib.hid hLL
        have HNL := Lib.hid hnl
        have hbw2 : 0 ≤ bw ∧ bw ≤ 305000000 := by omega
        have hsn2' : 0 ≤ sn ∧ sn ≤ 305000000 := by omega
        have oL9 := own_down oL (Nat.le_trans X.bel.size TX.bel.size)
        have hxsz := X.bel.size
        clear hst hbb htt hdb0 hdb1 hbw hsn hLL hnl TX hb37 hb9 oL hfac hvx hBx hsx kt kvx kv0 hvv0 hGr X hbt0
        rename_i jj0 jj1 jj2 jj3 jj4 jj5 jj6 jj7 jj8 jj9 jj10 jj11 jj12 jj13 jj14 jj15 jj16 jj17 jj18 jj19 jj20 jj21 jj22 jj23 jj24 jj25 jj26 jj27 jj28 jj29 jj30 jj31 jj32 jj33 jj34 jj35 jj36 jj37 jj38 jj39 jj40 jj41 jj42 jj43 jj44 jj45 jj46
        revert hn hA HL i3 hi3 hz3 hs3 iy3 i41 hi41 hz41 hs41 iy41 i27 hi27 hz27 hs27 iy27 j0 w1 g hg0 w3 v p HFW HOK HCK HLF HFT hln2 hsn2 V1 bO hgO V SA sc s HSL HST HLL HSS j1 j2 u44 u45 u46 u47 u48 u49 u50 u51 u52 u53 u54 u55 u56 u57 u58 u59 j3 j4 R j5 j6 j7 j8 j9 u9 u60 u61 u62 u63 u64 u65 u66 u67 u68 u69 u70 u71 u72 u73 u74 u75 u76 u77 u78 u79 u80 u81 u82 u83 u84 u85 u86 u87 u88 u89 u90 u91 u92 u93 u94 u95 u96 u97 u98 u99 nr RA rc kr HRL j10 j11 j12 w8 nac hB8 AL na hsm8 HNA HMEM LV B0 B1 S0 S1 vd OV n2 hol HB0 HB1 HS0 HS1 HVD HOV HN2 t1 t2 htb HTL HLV w9 Zw9 pk11 pk12 w10 Zw10 pk15 w11 Xgr1 cgr1 W gr1 k15 k12 k11 hBw hss hvv kv U9 bq hbq2 HBQ j13 j14 u28 u29 u30 jj0 u32 u33 u34 u35 u136 u137 u138 u139 u140 u141 u142 u143 u144 u145 u146 u147 u148 u149 u150 u151 u152 u153 u154 u155 u156 u157 u158 jj1 jj2 jj3 jj4 jj5 jj6 jj7 jj8 jj9 jj10 jj11 jj12 jj13 jj14 jj15 jj16 jj17 jj18 jj19 jj20 jj21 jj22 jj23 jj24 jj25 jj26 jj27 jj28 jj29 jj30 jj31 jj32 jj33 jj34 jj35 u194 u195 u196 u197 u198 u199 u200 u201 u202 u203 u204 u205 u206 u207 u208 u209 u210 u211 u212 u213 u214 u215 u216 u217 u218 u219 u220 u221 u222 u223 u224 u225 u226 u227 u228 u229 u230 u231 u232 u233 u234 u235 u236 u237 u238 u239 u240 u241 u242 u243 u244 u245 u246 u247 u248 u249 u250 u251 u252 u253 u254 u255 u256 u257 u258 u259 u260 u261 u262 u263 u264 u265 u266 u267 u268 u269 u270 u271 u272 u273 u274 u275 u276 u277 u278 u279 u280 u281 u282 u283 u284 u285 u286 u287 u288 u289 u290 u291 u292 u293 u294 u295 u296 u297 u298 u299 u300 u301 u302 u303 u304 u305 u306 u307 u308 u309 u310 u311 u312 u313 u314 u315 u316 u317 u318 u319 u320 u321 u322 u323 u324 k nd dc fw cnt DA due p0 q0 y0 lb hk HAS hkn nd' G gc hndb l hgc hln1 HLL2 HIN HTK HXK hls hlg jj36 jj37 jj38 bt w29 w0 hbs T29 GX hS jj39 u31 u159 u160 u161 u162 u163 u164 u165 u166 u167 u168 u169 u170 u171 u172 u173 u174 u175 u176 u177 u178 u179 u180 u181 u182 u183 u184 u185 u186 u187 u188 u189 u190 u191 u192 u193 nx xc wc dc9 XA WA DA9 rst ws ds vs wx HTL9 HWL9 HDL9 jj40 jj41 jj42 w37 LA9 lc9 jj43 jj44 jj45 jj46 X9 bw sn LL nl hsl HBW HSN HLL9 HNL hbw2 hsn2' oL9 hxsz
        exact hTail3.out
end Go.Proofs.Ytfcpjkofbejleaa
