/- Mathematics of layer 7: all truths of a voyage, and what they say together. -/
import Derived.Test.YtfcpjkofbejleaaLi2M
set_option linter.unusedSimpArgs false
set_option linter.unusedVariables false
namespace Go.Proofs.Ytfcpjkofbejleaa
open Go Go.RowKit
/-! All truths of a voyage, and what they say together. -/
/-- Numbers that lie within ranges, one by one. -/
def InR : List (Int × Int) → List Int → Prop
  | [], [] => True
  | r :: R, n :: y => r.1 ≤ n ∧ n ≤ r.2 ∧ InR R y
  | _, _ => False
theorem InR.len : ∀ {R : List (Int × Int)} {y : List Int}, InR R y → y.length = R.length
  | [], [], _ => rfl
  | _ :: R, _ :: y, h => by simp [InR.len h.2.2]
  | [], _ :: _, h => h.elim
  | _ :: _, [], h => h.elim
theorem inR_app : ∀ {R1 R2 : List (Int × Int)} {x : List Int}, InR (R1 ++ R2) x ↔ InR R1 (x.take R1.length) ∧ InR R2 (x.drop R1.length)
  | [], R2, x => by simp [InR]
  | r :: R1, R2, [] => by simp [InR]
  | r :: R1, R2, n :: y => by
    have ih := inR_app (R1 := R1) (R2 := R2) (x := y)
    simp only [List.cons_append, List.length_cons, List.take_succ_cons, List.drop_succ_cons, InR]
    rw [ih]
    constructor
    · rintro ⟨a, b, c, d⟩; exact ⟨⟨a, b, c⟩, d⟩
    · rintro ⟨⟨a, b, c⟩, d⟩; exact ⟨a, b, c, d⟩
theorem inR_map {α : Type} {f : α → Int × Int} : ∀ {L : List α} {y : List Int}, InR (L.map f) y ↔ y.length = L.length ∧ ∀ (i : Nat) (c : α) (n : Int), L[i]? = some c → y[i]? = some n → (f c).1 ≤ n ∧ n ≤ (f c).2
  | [], [] => by simp [InR]
  | [], n :: y => by simp [InR]
  | c :: L, [] => by simp [InR]
  | c :: L, n :: y => by
    have ih := inR_map (f := f) (L := L) (y := y)
    simp only [List.map_cons, InR]
    rw [ih]
    constructor
    · rintro ⟨a, b, e, d⟩
      refine ⟨by simp [e], fun i c' m h1 h2 => ?_⟩
      cases i with
      | zero => simp at h1 h2; subst h1 h2; exact ⟨a, b⟩
      | succ i => exact d i c' m (by simpa using h1) (by simpa using h2)
    · rintro ⟨e, d⟩
      have h0 := d 0 c n rfl rfl
      exact ⟨h0.1, h0.2, by simpa using e, fun i c' m h1 h2 => d (i + 1) c' m (by simpa using h1) (by simpa using h2)⟩
def seqI (a b : Int) : List Int := (List.range (b + 1 - a).toNat).map fun k : Nat => a + (k : Int)
theorem seqI_mem {a b n : Int} : n ∈ seqI a b ↔ a ≤ n ∧ n ≤ b := by
  unfold seqI
  simp only [List.mem_map, List.mem_range]
  constructor
  · rintro ⟨k, h1, rfl⟩; omega
  · rintro ⟨h1, h2⟩; exact ⟨(n - a).toNat, by omega, by omega⟩
theorem seqI_len (a b : Int) : (seqI a b).length = (b + 1 - a).toNat := by simp [seqI]
/-- One number more, of each of a range. -/
def sprS (out : List (List Int)) (r : Int × Int) : List (List Int) := (out.map fun o => (seqI r.1 r.2).map fun n => o ++ [n]).flatten
/-- All lists with a number of each of some ranges. -/
def spr (R : List (Int × Int)) : List (List Int) := R.foldl sprS [[]]
theorem sprS_mem {out : List (List Int)} {r : Int × Int} {x : List Int} : x ∈ sprS out r ↔ ∃ o ∈ out, ∃ n, r.1 ≤ n ∧ n ≤ r.2 ∧ x = o ++ [n] := by
  unfold sprS
  simp only [List.mem_flatten, List.mem_map]
  constructor
  · rintro ⟨l, ⟨o, ho, rfl⟩, hx⟩
    obtain ⟨n, hn, rfl⟩ := List.mem_map.1 hx
    have := seqI_mem.1 hn
    exact ⟨o, ho, n, this.1, this.2, rfl⟩
  · rintro ⟨o, ho, n, h1, h2, rfl⟩
    exact ⟨_, ⟨o, ho, rfl⟩, List.mem_map.2 ⟨n, seqI_mem.2 ⟨h1, h2⟩, rfl⟩⟩
theorem spr_mem {R : List (Int × Int)} {x : List Int} : x ∈ spr R ↔ InR R x := by
  suffices ∀ (R : List (Int × Int)) (out : List (List Int)), x ∈ R.foldl sprS out ↔ ∃ o ∈ out, ∃ y, InR R y ∧ x = o ++ y by
    unfold spr
    rw [this]
    constructor
    · rintro ⟨o, ho, y, h1, rfl⟩
      simp only [List.mem_singleton] at ho
      subst ho
      simpa using h1
    · intro h; exact ⟨[], by simp, x, h, by simp⟩
  intro R
  induction R with
  | nil =>
    intro out
    constructor
    · intro h; exact ⟨x, h, [], trivial, by simp⟩
    · rintro ⟨o, ho, y, h1, rfl⟩
      cases y with
      | nil => simpa using ho
      | cons => exact h1.elim
  | cons r R ih =>
    intro out
    rw [List.foldl_cons, ih]
    constructor
    · rintro ⟨o, ho, y, h1, rfl⟩
      obtain ⟨o', h2, n, h3, h4, rfl⟩ := sprS_mem.1 ho
      exact ⟨o', h2, n :: y, ⟨h3, h4, h1⟩, by simp⟩
    · rintro ⟨o, ho, y, h1, rfl⟩
      cases y with
      | nil => exact h1.elim
      | cons n y => exact ⟨o ++ [n], sprS_mem.2 ⟨o, ho, n, h1.1, h1.2.1, rfl⟩, y, h1.2.2, by simp⟩
theorem sprS_len {out : List (List Int)} {r : Int × Int} (h : r.2 ≤ r.1 + 2) : (sprS out r).length ≤ 3 * out.length := by
  unfold sprS
  induction out with
  | nil => simp
  | cons o out ih =>
    simp only [List.map_cons, List.flatten_cons, List.length_append, List.length_map, List.length_cons]
    rw [seqI_len]
    omega
theorem spr_len {R : List (Int × Int)} (h : ∀ r ∈ R, r.2 ≤ r.1 + 2) : (spr R).length ≤ 3 ^ R.length := by
  suffices ∀ (R : List (Int × Int)) (out : List (List Int)), (∀ r ∈ R, r.2 ≤ r.1 + 2) → (R.foldl sprS out).length ≤ 3 ^ R.length * out.length by
    have := this R [[]] h
    simpa [spr] using this
  intro R
  induction R with
  | nil => intro out _; simp
  | cons r R ih =>
    intro out hR
    rw [List.foldl_cons]
    have a := ih (sprS out r) fun x hx => hR x (by simp [hx])
    have b := sprS_len (out := out) (hR r (by simp))
    have c := Nat.mul_le_mul_left (3 ^ R.length) b
    rw [List.length_cons, Nat.pow_succ, Nat.mul_assoc]
    exact Nat.le_trans a c
theorem spr_take (R : List (Int × Int)) {k : Nat} (hk : k < R.length) : spr (R.take (k + 1)) = sprS (spr (R.take k)) R[k] := by
  unfold spr
  rw [List.take_succ_eq_append_getElem hk, List.foldl_append]
  rfl
theorem InR.le {R : List (Int × Int)} {k : Nat} {y : List Int} (h : y ∈ spr (R.take k)) : y.length ≤ R.length := by
  have := (spr_mem.1 h).len
  rw [this, List.length_take]
  omega
/-- The ranges of a voyage. -/
def rgS (ss : List Si) : List (Int × Int) := (ss.map fun s => (s.t0, s.t1) :: s.lv.map fun l => (l.d0, l.d1)).flatten
def rgs (v : Vg) : List (Int × Int) := v.ls.map (fun c => (c.t0, c.t1)) ++ rgS v.ss
/-- What numbers say of sills. -/
def cutS : List Si → List Int → List Int × List (List Int)
  | [], _ => ([], [])
  | s :: ss, r => (r.headD 0 :: (cutS ss (r.drop (1 + s.lv.length))).1, (r.drop 1).take s.lv.length :: (cutS ss (r.drop (1 + s.lv.length))).2)
/-- The truth that numbers are. -/
def truX (v : Vg) (x : List Int) : Tru := ⟨x.take v.ls.length, (cutS v.ss (x.drop v.ls.length)).1, (cutS v.ss (x.drop v.ls.length)).2⟩
theorem cutS_ok : ∀ {ss : List Si} {r : List Int}, InR (rgS ss) r → (cutS ss r).1.length = ss.length ∧ (cutS ss r).2.length = ss.length ∧
    (∀ (i : Nat) (s : Si) (n : Int), ss[i]? = some s → (cutS ss r).1[i]? = some n → s.t0 ≤ n ∧ n ≤ s.t1) ∧
    ∀ (i : Nat) (s : Si) (q : List Int), ss[i]? = some s → (cutS ss r).2[i]? = some q → q.length = s.lv.length ∧ ∀ (k : Nat) (l : Lv) (n : Int), s.lv[k]? = some l → q[k]? = some n → l.d0 ≤ n ∧ n ≤ l.d1
  | [], r, _ => by simp [cutS]
  | s :: ss, r, h => by
    unfold rgS at h
    rw [List.map_cons, List.flatten_cons, inR_app] at h
    simp only [List.length_cons, List.length_map] at h
    obtain ⟨h1, h2⟩ := h
    cases r with
    | nil => simp [InR] at h1
    | cons n r =>
      simp only [List.take_succ_cons, List.drop_succ_cons, InR] at h1 h2
      obtain ⟨a, b, c⟩ := h1
      obtain ⟨i1, i2, i3, i4⟩ := cutS_ok (ss := ss) (r := r.drop s.lv.length) h2
      obtain ⟨c1, c2⟩ := inR_map.1 c
      unfold cutS
      rw [show 1 + s.lv.length = s.lv.length + 1 by omega]
      simp only [List.headD_cons, List.drop_succ_cons, List.drop_zero]
      refine ⟨by simp [i1], by simp [i2], fun i s' m e1 e2 => ?_, fun i s' q e1 e2 => ?_⟩
      · cases i with
        | zero => simp at e1 e2; subst e1 e2; exact ⟨a, b⟩
        | succ i => exact i3 i s' m (by simpa using e1) (by simpa using e2)
      · cases i with
        | zero => simp at e1 e2; subst e1 e2; exact ⟨c1, c2⟩
        | succ i => exact i4 i s' q (by simpa using e1) (by simpa using e2)
theorem truX_ok {v : Vg} {x : List Int} (h : InR (rgs v) x) : TruOk v (truX v x) := by
  unfold rgs at h
  rw [inR_app, List.length_map] at h
  obtain ⟨h1, h2⟩ := h
  obtain ⟨a, b⟩ := inR_map.1 h1
  obtain ⟨c1, c2, c3, c4⟩ := cutS_ok h2
  exact ⟨a, b, c1, c3, c2, c4⟩
/-- A truth as numbers. -/
def flS : List Int → List (List Int) → List Int
  | n :: ws, r :: ds => n :: (r ++ flS ws ds)
  | _, _ => []
theorem flS_ok : ∀ {ss : List Si} {ws : List Int} {ds : List (List Int)}, ws.length = ss.length → ds.length = ss.length →
    (∀ (i : Nat) (s : Si) (n : Int), ss[i]? = some s → ws[i]? = some n → s.t0 ≤ n ∧ n ≤ s.t1) →
    (∀ (i : Nat) (s : Si) (q : List Int), ss[i]? = some s → ds[i]? = some q → q.length = s.lv.length ∧ ∀ (k : Nat) (l : Lv) (n : Int), s.lv[k]? = some l → q[k]? = some n → l.d0 ≤ n ∧ n ≤ l.d1) →
    InR (rgS ss) (flS ws ds) ∧ cutS ss (flS ws ds) = (ws, ds)
  | [], [], [], _, _, _, _ => ⟨trivial, rfl⟩
  | [], _ :: _, _, h, _, _, _ => by simp at h
  | [], [], _ :: _, _, h, _, _ => by simp at h
  | _ :: _, [], _, h, _, _, _ => by simp at h
  | _ :: _, _ :: _, [], _, h, _, _ => by simp at h
  | s :: ss, n :: ws, r :: ds, h1, h2, h3, h4 => by
    obtain ⟨i1, i2⟩ := flS_ok (ss := ss) (ws := ws) (ds := ds) (by simpa using h1) (by simpa using h2) (fun i s' m a b => h3 (i + 1) s' m (by simpa using a) (by simpa using b)) (fun i s' q a b => h4 (i + 1) s' q (by simpa using a) (by simpa using b))
    have hn := h3 0 s n rfl rfl
    obtain ⟨hl, hr⟩ := h4 0 s r rfl rfl
    have e1 : (r ++ flS ws ds).take s.lv.length = r := by rw [← hl]; simp
    have e2 : (r ++ flS ws ds).drop s.lv.length = flS ws ds := by rw [← hl]; simp
    constructor
    · unfold rgS
      rw [List.map_cons, List.flatten_cons, inR_app]
      simp only [List.length_cons, List.length_map, flS, List.take_succ_cons, List.drop_succ_cons, InR]
      rw [e1, e2]
      exact ⟨⟨hn.1, hn.2, inR_map.2 ⟨hl, hr⟩⟩, i1⟩
    · simp only [cutS, flS]
      rw [show 1 + s.lv.length = s.lv.length + 1 by omega]
      simp only [List.headD_cons, List.drop_succ_cons, List.drop_zero]
      rw [e1, e2, i2]
theorem truX_all {v : Vg} {t : Tru} (h : TruOk v t) : ∃ x, InR (rgs v) x ∧ truX v x = t := by
  obtain ⟨a, b⟩ := flS_ok h.wl h.dl h.w h.d
  have e1 : (t.ts ++ flS t.ws t.ds).take v.ls.length = t.ts := by rw [← h.tl]; simp
  have e2 : (t.ts ++ flS t.ws t.ds).drop v.ls.length = flS t.ws t.ds := by rw [← h.tl]; simp
  refine ⟨t.ts ++ flS t.ws t.ds, ?_, ?_⟩
  · unfold rgs
    rw [inR_app, List.length_map, e1, e2]
    exact ⟨inR_map.2 ⟨h.tl, h.t⟩, a⟩
  · unfold truX
    rw [e1, e2, b]
/-! The truths at the ends. -/
def gT (v : Vg) (f : Cg × Int → Int) (s : List Int) (g : Bool) : Tru := ⟨(v.ls.zip s).map f, v.ss.map (fun s => way s g), v.ss.map fun s => s.lv.map fun l => if g then l.d1 else l.d0⟩
theorem gT_ok {v : Vg} (ho : v.Ok) {f : Cg × Int → Int} {s : List Int} (hl : s.length = v.ls.length) (hf : ∀ c ∈ v.ls, ∀ h, c.t0 ≤ f (c, h) ∧ f (c, h) ≤ c.t1) (g : Bool) : TruOk v (gT v f s g) := by
  refine ⟨by simp [gT, hl], fun i c n h1 h2 => ?_, by simp [gT], fun i x n h1 h2 => ?_, by simp [gT], fun i x r h1 h2 => ?_⟩
  · simp only [gT, List.getElem?_map, Option.map_eq_some_iff] at h2
    obtain ⟨p, h2, rfl⟩ := h2
    rw [List.getElem?_zip_eq_some] at h2
    rw [h1, Option.some.injEq] at h2
    obtain ⟨e, _⟩ := h2
    subst e
    exact hf p.1 (List.mem_of_getElem? h1) p.2
  · simp only [gT, List.getElem?_map, h1, Option.map_some, Option.some.injEq] at h2
    have o := ho.ss x (List.mem_of_getElem? h1)
    have := o.t01
    subst h2
    cases g <;> simp [way] <;> omega
  · simp only [gT, List.getElem?_map, h1, Option.map_some, Option.some.injEq] at h2
    subst h2
    have o := ho.ss x (List.mem_of_getElem? h1)
    refine ⟨by simp, fun k l n h3 h4 => ?_⟩
    simp only [List.getElem?_map, h3, Option.map_some, Option.some.injEq] at h4
    have := (o.lv l (List.mem_of_getElem? h3)).d01
    subst h4
    cases g <;> simp <;> omega
theorem trS_zip {f : Int → Hd → Int} {t : Cg × Int → Int} {hs : List Hd} : ∀ {ls : List Cg} {s : List Int}, (∀ h ∈ s, -1 ≤ h) → trS f hs (((ls.zip s).map t).zip s) = ((abd ls s).map fun p => f (t p) (hd hs p.2)).sum
  | [], s, _ => by simp [abd, trS]
  | c :: ls, [], _ => by simp [abd, trS]
  | c :: ls, x :: s, h => by
    have ih := trS_zip (f := f) (t := t) (hs := hs) (ls := ls) (s := s) fun y hy => h y (by simp [hy])
    have hx := h x (by simp)
    unfold trS abd at ih ⊢
    simp only [List.zip_cons_cons, List.map_cons, List.sum_cons]
    rw [ih]
    by_cases e : x = -1
    · rw [List.filter_cons_of_neg (by simpa using e), if_neg (by omega)]
      omega
    · rw [List.filter_cons_of_pos (by simpa using e), if_pos (by omega)]
      simp only [List.map_cons, List.sum_cons]
theorem gT_deep {v : Vg} {s : List Int} (h : StOk v s) (g : Bool) : trB v (gT v (fun p => ton g p.1) s g) s = deepB v (abd v.ls s) g ∧ trT v (gT v (fun p => ton g p.1) s g) s = deepS v (abd v.ls s) g := by
  have hi : ∀ y ∈ s, -1 ≤ y := fun y hy => (h.inh y hy).1
  unfold trB trT deepB deepS gT
  dsimp only
  rw [trS_zip hi, trS_zip hi]
  exact ⟨rfl, rfl⟩
theorem gT_sal {v : Vg} {s : List Int} (h : StOk v s) (g : Bool) : salT v (gT v (fun p => ton g p.1) s g) s = salM v (abd v.ls s) g := by
  obtain ⟨e1, e2⟩ := gT_deep h g
  unfold salT salM
  rw [slM_T, e1, e2]
  unfold needsM
  suffices truS v (gT v (fun p => ton g p.1) s g) = lkS v.ss g by rw [this]
  unfold truS lkS gT
  dsimp only
  generalize v.ss = ss
  induction ss with
  | nil => rfl
  | cons x ss ih =>
    simp only [List.map_cons, List.zip_cons_cons]
    rw [ih]
    congr 2
    unfold lvL
    generalize x.lv = L
    induction L with
    | nil => rfl
    | cons l L ih2 => simp only [List.map_cons, List.zip_cons_cons]; rw [ih2]
def tlt (hs : List Hd) (lo : Bool) (p : Cg × Int) : Int := if ((hd hs p.2).bw - (hd hs p.2).st < 0) = (lo = true) then p.1.t1 else p.1.t0
theorem tlt_in {hs : List Hd} {lo : Bool} {c : Cg} (h : c.t0 ≤ c.t1) (y : Int) : c.t0 ≤ tlt hs lo (c, y) ∧ tlt hs lo (c, y) ≤ c.t1 := by
  unfold tlt
  split
  · exact ⟨h, Int.le_refl _⟩
  · exact ⟨Int.le_refl _, h⟩
theorem gT_tilt {v : Vg} {s : List Int} (h : StOk v s) (lo : Bool) : trB v (gT v (tlt v.hs lo) s true) s - trT v (gT v (tlt v.hs lo) s true) s = if lo then (tiltP v.hs (abd v.ls s)).1 else (tiltP v.hs (abd v.ls s)).2 := by
  have hi : ∀ y ∈ s, -1 ≤ y := fun y hy => (h.inh y hy).1
  have e := trS_sub (fun n h => n * h.bw) (fun n h => n * h.st) v.hs (((v.ls.zip s).map (tlt v.hs lo)).zip s)
  rw [trS_zip (f := fun n h => n * h.bw - n * h.st) hi] at e
  have e2 : trB v (gT v (tlt v.hs lo) s true) s - trT v (gT v (tlt v.hs lo) s true) s = ((abd v.ls s).map fun p => tlt v.hs lo p * (hd v.hs p.2).bw - tlt v.hs lo p * (hd v.hs p.2).st).sum := by
    rw [← e]
    unfold trB trT gT
    dsimp only
    omega
  rw [e2]
  have key : ∀ p : Cg × Int, tlt v.hs lo p * (hd v.hs p.2).bw - tlt v.hs lo p * (hd v.hs p.2).st = if lo then (tms p.1.t0 p.1.t1 ((hd v.hs p.2).bw - (hd v.hs p.2).st)).1 else (tms p.1.t0 p.1.t1 ((hd v.hs p.2).bw - (hd v.hs p.2).st)).2 := fun p => by
    rw [← Int.mul_sub]
    unfold tlt tms
    by_cases hn : (hd v.hs p.2).bw - (hd v.hs p.2).st < 0
    · cases lo <;> simp [hn]
    · cases lo <;> simp [hn]
  simp only [key]
  unfold tiltP
  cases lo <;> rfl
/-! The least and the greatest, one after the other. -/
def IsMM (L : List Int) (p : Int × Int) : Prop := p.1 ∈ L ∧ p.2 ∈ L ∧ ∀ x ∈ L, p.1 ≤ x ∧ x ≤ p.2
theorem IsMM.one (b : Int) : IsMM [b] (b, b) := ⟨by simp, by simp, fun x hx => by simp at hx; subst hx; exact ⟨Int.le_refl _, Int.le_refl _⟩⟩
theorem IsMM.snoc {L : List Int} {p : Int × Int} (h : IsMM L p) (b : Int) : IsMM (L ++ [b]) (min p.1 b, max p.2 b) := by
  obtain ⟨h1, h2, h3⟩ := h
  refine ⟨?_, ?_, fun x hx => ?_⟩
  · dsimp only
    rcases Int.le_total p.1 b with h | h
    · rw [Int.min_eq_left h]; simp [h1]
    · rw [Int.min_eq_right h]; simp
  · dsimp only
    rcases Int.le_total b p.2 with h | h
    · rw [Int.max_eq_left h]; simp [h2]
    · rw [Int.max_eq_right h]; simp
  · rcases List.mem_append.1 hx with hx | hx
    · have := h3 x hx; dsimp only; omega
    · simp at hx; subst hx; dsimp only; omega
theorem IsMM.uniq {L : List Int} {p q : Int × Int} (h : IsMM L p) (k : IsMM L q) : p = q := by
  have a := h.2.2 _ k.1
  have b := h.2.2 _ k.2.1
  have c := k.2.2 _ h.1
  have d := k.2.2 _ h.2.1
  exact Prod.ext (by omega) (by omega)
/-- Behind the first one. -/
def MMs (L : List Int) (p : Int × Int) : Prop := L = [] ∨ IsMM L p
theorem MMs.first (b : Int) : IsMM ([] ++ [b]) (min b b, max b b) := by
  rw [Int.min_self, Int.max_self]; exact .one b
def col (Ls : List (List Int)) (i : Nat) : List Int := Ls.filterMap (fun l => l[i]?)
theorem col_snoc (Ls : List (List Int)) (l : List Int) (i : Nat) : col (Ls ++ [l]) i = col Ls i ++ (match l[i]? with | none => [] | some n => [n]) := by
  unfold col
  rw [List.filterMap_append]
  congr 1
  simp only [List.filterMap_cons, List.filterMap_nil]
  cases l[i]? <;> rfl
structure IsDue (Ls : List (List Int)) (due : List (Int × Int)) : Prop where
  len : ∀ i, i < due.length ↔ ∃ l ∈ Ls, i < l.length
  at_ : ∀ (i : Nat) (d : Int × Int), due[i]? = some d → IsMM (col Ls i) d
/-- The first j minutes of one more list are looked at. -/
structure DueP (Ls : List (List Int)) (l : List Int) (j : Nat) (due : List (Int × Int)) : Prop where
  len : ∀ i, i < due.length ↔ (∃ m ∈ Ls, i < m.length) ∨ i < j
  at_ : ∀ (i : Nat) (d : Int × Int), due[i]? = some d → if i < j then IsMM (col (Ls ++ [l]) i) d else IsMM (col Ls i) d
theorem IsDue.nil : IsDue [] [] := ⟨by simp, by simp⟩
theorem IsDue.start {Ls : List (List Int)} {due : List (Int × Int)} (h : IsDue Ls due) (l : List Int) : DueP Ls l 0 due :=
  ⟨fun i => by rw [h.len]; simp, fun i d hd => by rw [if_neg (by omega)]; exact h.at_ i d hd⟩
theorem DueP.done {Ls : List (List Int)} {l : List Int} {due : List (Int × Int)} (h : DueP Ls l l.length due) : IsDue (Ls ++ [l]) due := by
  refine ⟨fun i => ?_, fun i d hd => ?_⟩
  · rw [h.len]
    constructor
    · rintro (⟨m, hm, hi⟩ | hi)
      · exact ⟨m, by simp [hm], hi⟩
      · exact ⟨l, by simp, hi⟩
    · rintro ⟨m, hm, hi⟩
      rcases List.mem_append.1 hm with hm | hm
      · exact .inl ⟨m, hm, hi⟩
      · simp at hm; subst hm; exact .inr hi
  · have := h.at_ i d hd
    by_cases hi : i < l.length
    · rwa [if_pos hi] at this
    · rw [if_neg hi] at this
      rw [col_snoc, List.getElem?_eq_none (by omega)]
      simpa using this
theorem DueP.le {Ls : List (List Int)} {l : List Int} {j : Nat} {due : List (Int × Int)} (h : DueP Ls l j due) : j ≤ due.length := by
  rcases Nat.eq_zero_or_pos j with h0 | h0
  · omega
  · have := (h.len (j - 1)).2 (.inr (by omega)); omega
/-- A minute of a sill that none passed before. -/
theorem DueP.new {Ls : List (List Int)} {l : List Int} {due : List (Int × Int)} {n : Int} (h : DueP Ls l due.length due) (hn : l[due.length]? = some n) : DueP Ls l (due.length + 1) ((due ++ [(n, n)]).set due.length (min n n, max n n)) := by
  have hc : col Ls due.length = [] := by
    unfold col
    rw [List.filterMap_eq_nil_iff]
    intro m hm
    rw [List.getElem?_eq_none]
    rcases Nat.lt_or_ge due.length m.length with h1 | h1
    · have := (h.len due.length).2 (.inl ⟨m, hm, h1⟩); omega
    · exact h1
  refine ⟨fun i => ?_, fun i d hd => ?_⟩
  · rw [List.length_set, List.length_append, List.length_singleton]
    constructor
    · intro hi; exact .inr (by omega)
    · rintro (hi | hi)
      · have := (h.len i).2 (.inl hi); omega
      · omega
  · by_cases hi : i = due.length
    · subst hi
      rw [List.getElem?_set_self (by simp), Option.some.injEq] at hd
      subst hd
      rw [if_pos (by omega), col_snoc, hn, hc]
      exact MMs.first n
    · rw [List.getElem?_set_ne (Ne.symm hi)] at hd
      have hl := (List.getElem?_eq_some_iff.1 hd).1
      rw [List.length_append, List.length_singleton] at hl
      rw [List.getElem?_append_left (by omega)] at hd
      have := h.at_ i d hd
      rw [if_pos (by omega)] at this
      rw [if_pos (by omega)]
      exact this
theorem DueP.more {Ls : List (List Int)} {l : List Int} {j : Nat} {due : List (Int × Int)} {n : Int} {d : Int × Int} (h : DueP Ls l j due) (hd : due[j]? = some d) (hn : l[j]? = some n) : DueP Ls l (j + 1) (due.set j (min d.1 n, max d.2 n)) := by
  have hj := (List.getElem?_eq_some_iff.1 hd).1
  refine ⟨fun i => ?_, fun i e he => ?_⟩
  · rw [List.length_set, h.len]
    constructor
    · rintro (hi | hi)
      · exact .inl hi
      · exact .inr (by omega)
    · rintro (hi | hi)
      · exact .inl hi
      · by_cases e : i = j
        · subst e
          exact (h.len i).1 hj
        · exact .inr (by omega)
  · by_cases hi : i = j
    · subst hi
      rw [List.getElem?_set_self hj, Option.some.injEq] at he
      subst he
      have := h.at_ i d hd
      rw [if_neg (by omega)] at this
      rw [if_pos (by omega), col_snoc, hn]
      exact this.snoc n
    · rw [List.getElem?_set_ne (Ne.symm hi)] at he
      have := h.at_ i e he
      by_cases hij : i < j
      · rw [if_pos hij] at this
        rw [if_pos (by omega)]
        exact this
      · rw [if_neg hij] at this
        rw [if_neg (by omega)]
        exact this
def IsFew (n : Nat) (Ls : List (List Int)) (f : Nat) : Prop := f ≤ n ∧ (∀ l ∈ Ls, f ≤ l.length) ∧ (f = n ∨ ∃ l ∈ Ls, l.length = f)
theorem IsFew.nil (n : Nat) : IsFew n [] n := ⟨Nat.le_refl _, by simp, .inl rfl⟩
theorem IsFew.snoc {n f : Nat} {Ls : List (List Int)} (h : IsFew n Ls f) (l : List Int) : IsFew n (Ls ++ [l]) (min f l.length) := by
  obtain ⟨h1, h2, h3⟩ := h
  refine ⟨by omega, fun m hm => ?_, ?_⟩
  · rcases List.mem_append.1 hm with hm | hm
    · have := h2 m hm; omega
    · simp at hm; subst hm; omega
  · by_cases hl : f ≤ l.length
    · rw [Nat.min_eq_left hl]
      rcases h3 with h3 | ⟨m, hm, e⟩
      · exact .inl h3
      · exact .inr ⟨m, by simp [hm], e⟩
    · rw [Nat.min_eq_right (by omega)]
      exact .inr ⟨l, by simp, rfl⟩
/-- How many pass. -/
def cntP (n : Nat) (Ls : List (List Int)) : Nat := (Ls.filter fun l => decide (l.length = n)).length
theorem cntP_snoc (n : Nat) (Ls : List (List Int)) (l : List Int) : cntP n (Ls ++ [l]) = cntP n Ls + if l.length = n then 1 else 0 := by
  unfold cntP
  rw [List.filter_append, List.length_append]
  congr 1
  by_cases h : l.length = n
  · rw [List.filter_cons_of_pos (by simpa using h), if_pos h]; rfl
  · rw [List.filter_cons_of_neg (by simpa using h), if_neg h]; rfl
theorem cntP_le (n : Nat) (Ls : List (List Int)) : cntP n Ls ≤ Ls.length := List.length_filter_le _ _
/-- Always level enough in all truths so far. -/
def levA (tr : Int) (D : List Int) : Bool := D.all fun d => decide (d ≤ 1000 * tr) && decide (-d ≤ 1000 * tr)
theorem levA_snoc (tr : Int) (D : List Int) (d : Int) : levA tr (D ++ [d]) = (levA tr D && (decide (d ≤ 1000 * tr) && decide (-d ≤ 1000 * tr))) := by
  unfold levA
  rw [List.all_append]
  simp
/-- What all truths together say is just what is said. -/
theorem all_ends {v : Vg} {s : List Int} (h : StOk v s) {X : List Tru} (hX : ∀ t ∈ X, TruOk v t) (hA : ∀ t, TruOk v t → t ∈ X) :
    (∀ p, IsMM (X.map fun t => trB v t s) p → p = (deepB v (abd v.ls s) true, deepB v (abd v.ls s) false)) ∧
    (∀ p, IsMM (X.map fun t => trT v t s) p → p = (deepS v (abd v.ls s) true, deepS v (abd v.ls s) false)) ∧
    (∀ p, IsMM (X.map fun t => trB v t s - trT v t s) p → p = tiltP v.hs (abd v.ls s)) ∧
    levA v.tr (X.map fun t => trB v t s - trT v t s) = lvlOk v (tiltP v.hs (abd v.ls s)) ∧
    (∀ f, IsFew v.ss.length (X.map fun t => salT v t s) f → f = (overM v (abd v.ls s)).length ∧ ∀ due, IsDue (X.map fun t => salT v t s) due → f ≤ due.length ∧ due.take f = overM v (abd v.ls s)) ∧
    (if cntP v.ss.length (X.map fun t => salT v t s) = 0 then 2 else if cntP v.ss.length (X.map fun t => salT v t s) = X.length then 1 else 3) = verdM v.ss.length (salM v (abd v.ls s) true).length (salM v (abd v.ls s) false).length := by
  have hG : ∀ g, gT v (fun p => ton g p.1) s g ∈ X := fun g => hA _ (gT_ok h.ok h.len (fun c hc y => by
    have := (h.ok.ls c hc).t01
    cases g <;> simp [ton] <;> omega) g)
  have hL : ∀ lo, gT v (tlt v.hs lo) s true ∈ X := fun lo => hA _ (gT_ok h.ok h.len (fun c hc y => tlt_in (h.ok.ls c hc).t01 y) true)
  have m1 : IsMM (X.map fun t => trB v t s) (deepB v (abd v.ls s) true, deepB v (abd v.ls s) false) :=
    ⟨List.mem_map.2 ⟨_, hG true, (gT_deep h true).1⟩, List.mem_map.2 ⟨_, hG false, (gT_deep h false).1⟩, fun x hx => by
      obtain ⟨t, ht, rfl⟩ := List.mem_map.1 hx
      exact trB_in h (hX t ht)⟩
  have m2 : IsMM (X.map fun t => trT v t s) (deepS v (abd v.ls s) true, deepS v (abd v.ls s) false) :=
    ⟨List.mem_map.2 ⟨_, hG true, (gT_deep h true).2⟩, List.mem_map.2 ⟨_, hG false, (gT_deep h false).2⟩, fun x hx => by
      obtain ⟨t, ht, rfl⟩ := List.mem_map.1 hx
      exact trT_in h (hX t ht)⟩
  have m3 : IsMM (X.map fun t => trB v t s - trT v t s) (tiltP v.hs (abd v.ls s)) :=
    ⟨List.mem_map.2 ⟨_, hL true, by rw [gT_tilt h]; rfl⟩, List.mem_map.2 ⟨_, hL false, by rw [gT_tilt h]; rfl⟩, fun x hx => by
      obtain ⟨t, ht, rfl⟩ := List.mem_map.1 hx
      exact tilt_in h (hX t ht)⟩
  have hsal : ∀ t ∈ X, salT v t s ∈ X.map fun t => salT v t s := fun t ht => List.mem_map.2 ⟨t, ht, rfl⟩
  have hgd := hsal _ (hG true)
  have hbd := hsal _ (hG false)
  rw [gT_sal h] at hgd hbd
  have hk := sal_luck h.ok (inH_held h.inh)
  have hlen := overM_len h.ok (inH_held h.inh)
  have hn := salM_len v (abd v.ls s) true
  refine ⟨fun p hp => hp.uniq m1, fun p hp => hp.uniq m2, fun p hp => hp.uniq m3, ?_, fun f hf => ?_, ?_⟩
  · unfold levA lvlOk
    rw [Bool.eq_iff_iff, List.all_eq_true, decide_eq_true_eq]
    constructor
    · intro hl
      have a := hl _ m3.1
      have b := hl _ m3.2.1
      simp only [Bool.and_eq_true, decide_eq_true_eq] at a b
      omega
    · intro hl x hx
      have := m3.2.2 x hx
      simp only [Bool.and_eq_true, decide_eq_true_eq]
      omega
  · have hfe : f = (salM v (abd v.ls s) false).length := by
      have a := hf.2.1 _ hbd
      rcases hf.2.2 with e | ⟨l, hl, e⟩
      · have := hk.1; omega
      · obtain ⟨t, ht, rfl⟩ := List.mem_map.1 hl
        have := (salT_in h (hX t ht)).1.1
        omega
    refine ⟨by rw [hlen]; exact hfe, fun due hdu => ?_⟩
    have hfd : f ≤ due.length := by
      rcases Nat.eq_zero_or_pos f with h0 | h0
      · omega
      · have := (hdu.len (f - 1)).2 ⟨_, hbd, by omega⟩; omega
    refine ⟨hfd, List.ext_getElem? fun i => ?_⟩
    by_cases hi : i < f
    · have hdi : i < due.length := by omega
      rw [List.getElem?_take_of_lt hi, List.getElem?_eq_getElem hdi]
      have hm := hdu.at_ i _ (List.getElem?_eq_getElem hdi)
      have hib : i < (salM v (abd v.ls s) false).length := by omega
      have hig : i < (salM v (abd v.ls s) true).length := by have := hk.1; omega
      have hcol : ∀ l, l ∈ (X.map fun t => salT v t s) → ∀ n, l[i]? = some n → n ∈ col (X.map fun t => salT v t s) i := fun l hl n hn => List.mem_filterMap.2 ⟨l, hl, hn⟩
      have hmm : IsMM (col (X.map fun t => salT v t s) i) ((salM v (abd v.ls s) true)[i], (salM v (abd v.ls s) false)[i]) := by
        refine ⟨hcol _ hgd _ (List.getElem?_eq_getElem hig), hcol _ hbd _ (List.getElem?_eq_getElem hib), fun x hx => ?_⟩
        obtain ⟨l, hl, hx⟩ := List.mem_filterMap.1 hx
        obtain ⟨t, ht, rfl⟩ := List.mem_map.1 hl
        obtain ⟨⟨_, a⟩, _, b⟩ := salT_in h (hX t ht)
        obtain ⟨m, h1, h2⟩ := a i _ (List.getElem?_eq_getElem hib)
        obtain ⟨m', h3, h4⟩ := b i _ hx
        rw [hx, Option.some.injEq] at h1
        rw [List.getElem?_eq_getElem hig, Option.some.injEq] at h3
        dsimp only
        omega
      rw [hm.uniq hmm]
      symm
      unfold overM
      rw [List.getElem?_zip_eq_some]
      exact ⟨List.getElem?_eq_getElem hig, List.getElem?_eq_getElem hib⟩
    · rw [List.getElem?_eq_none (by rw [List.length_take]; omega), List.getElem?_eq_none (by rw [hlen]; omega)]
  · have hcnt : ∀ n, cntP n (X.map fun t => salT v t s) = 0 ↔ ∀ t ∈ X, (salT v t s).length ≠ n := fun n => by
      unfold cntP
      rw [List.length_eq_zero_iff, List.filter_eq_nil_iff]
      simp only [List.mem_map, decide_eq_true_eq]
      constructor
      · intro h t ht; exact h _ ⟨t, ht, rfl⟩
      · rintro h l ⟨t, ht, rfl⟩; exact h t ht
    have hall : cntP v.ss.length (X.map fun t => salT v t s) = X.length ↔ ∀ t ∈ X, (salT v t s).length = v.ss.length := by
      unfold cntP
      have e : X.length = (X.map fun t => salT v t s).length := by simp
      rw [e, List.length_filter_eq_length_iff]
      simp only [List.mem_map, decide_eq_true_eq]
      constructor
      · intro h t ht; exact h _ ⟨t, ht, rfl⟩
      · rintro h l ⟨t, ht, rfl⟩; exact h t ht
    have hg := gT_sal h true
    have hb := gT_sal h false
    unfold verdM
    by_cases c0 : (salM v (abd v.ls s) false).length = v.ss.length
    · rw [if_neg (fun hc => by
        have := (hcnt _).1 hc _ (hG false)
        rw [hb] at this
        exact this c0), if_pos (hall.2 fun t ht => by
        have := (salT_in h (hX t ht)).1.1
        have := salT_len (hX t ht) s
        omega), if_pos c0]
    · rw [if_neg c0]
      by_cases c1 : (salM v (abd v.ls s) true).length < v.ss.length
      · rw [if_pos ((hcnt _).2 fun t ht => by
          have := (salT_in h (hX t ht)).2.1
          omega), if_pos c1]
      · rw [if_neg (fun hc => by
          have := (hcnt _).1 hc _ (hG true)
          rw [hg] at this
          omega), if_neg (fun hc => by
          have := hall.1 hc _ (hG false)
          rw [hb] at this
          exact c0 this), if_neg c1]
end Go.Proofs.Ytfcpjkofbejleaa
