/- make and copy of rows whose elements have several cells. -/
import Derived.Test.YtmemcopfeabcgaaBox
import Derived.Laws.CopyOwn
import Derived.Laws.MakeOwn
set_option linter.unusedSimpArgs false
set_option linter.unusedVariables false
namespace Go.Proofs.Ytmemcopfeabcgaa
open Go Go.RowKit
section
variable {P : Program}
/-- copy(dst, src) that overwrites all of a row of the call's own. -/
theorem run_copy_all (w : World) (dT sT ty elem : TypeId) (s g n cap : Nat) (ad : Addr) (sLen sCap : Nat) (cur : Array Value) (t : TypeId) (cs : List Value)
    (hu : P.underlying dT = some (.slice elem)) (hsz : (P.info? elem).map (·.size) = some s) (hg : Bx w g t cur) (hcs : cs.length = n * s) (hcur : cur.size = n * s) (hle : n ≤ sLen)
    (hsrc : ∀ j v, cs[j]? = some v → w.cell? (ad.add j) = some v) (h1 : ∀ v ∈ cs, v.oneCell' = true) :
    (Builtin.copy_ #[dT, sT] ty #[.slice (some ⟨g, 0, none⟩) n cap, .slice (some ad) sLen sCap]).run P w = .ok (goInt n) (w.setRow g cs.toArray) := by
  have hl := run_loadCells_list (P := P) w ad cs hsrc
  have hst := run_storeCells_from (P := P) g t cs 0 cur w hg (by omega) h1
  simp only [List.take_zero, List.nil_append] at hst
  rw [hcs] at hl
  have hm : Nat.min sLen n = n := Nat.min_eq_right hle
  cases hq : P.info? elem with
  | none => simp [hq] at hsz
  | some i =>
    have hi : i.size = s := by simpa [hq] using hsz
    simp [Builtin.copy_, run_underlying hu, Builtin.lenOf, Builtin.firstCells, sizeOf, typeInfo, hq, hi, hm, hl, hst]
theorem wpList_copy_all {w : World} {ops : Array Oper} {rest : List Oper} {o : Oper} {a : Act} {Q : Exit → Act → World → Prop} (hgd : o.guard = none) (d x : Operand) (dT sT : TypeId)
    (ho : o.op = .call { callee := .builtin .copy, args := #[d, x], argTypes := #[dT, sT] }) (elem : TypeId) (s g n cap : Nat) (ad : Addr) (sLen sCap : Nat) (cur : Array Value) (t : TypeId) (cs : List Value)
    (hd : a.eval d = .slice (some ⟨g, 0, none⟩) n cap) (hx : a.eval x = .slice (some ad) sLen sCap)
    (hu : P.underlying dT = some (.slice elem)) (hsz : (P.info? elem).map (·.size) = some s) (hg : Bx w g t cur) (hcs : cs.length = n * s) (hcur : cur.size = n * s) (hle : n ≤ sLen)
    (hsrc : ∀ j v, cs[j]? = some v → w.cell? (ad.add j) = some v) (h1 : ∀ v ∈ cs, v.oneCell' = true)
    (h : wpList P ops Q rest (a.put o.dst (goInt n)) (w.setRow g cs.toArray)) : wpList P ops Q (o :: rest) a w := by
  refine wpList_plain hgd fun K hK => ?_
  have hrun := run_copy_all (P := P) w dT sT o.type elem s g n cap ad sLen sCap cur t cs hu hsz hg hcs hcur hle hsrc h1
  unfold Oper.wp
  simp [execOp, ho, resolve, invoke, builtin, hd, hx, hrun, Result.andThen]
  exact hK _ _ h
/-- make([]T, n) of elements of several cells. -/
theorem run_make_n (t e : TypeId) (i : TypeInfo) (z : Value) (ht : P.underlying t = some (.slice e)) (hi : P.info? e = some i) (hz : i.zero = some z) (n : Nat) (hb : (i.bytes : Int) * n ≤ 281474976710656) (hn : n ≤ 1000000) (w : World) :
    (Instr.makeSlice t (.int .i64 (n : Int)) (.int .i64 (n : Int))).run P w = .ok (.slice (some ⟨w.heap.size, 0, none⟩) n n) (w.alloc (.cells (madeCells z.cells (n * i.size)) e)) := by
  have h := run_make (P := P) w t e i z ht hi hz .i64 .i64 (n : Int) (n : Int) (by omega) (by omega) hb (by omega)
  simpa using h
end
/-- The rows of the first n ranges of f. -/
def zrows (f : Nat → Int × Int) (n : Nat) : List (List Value) := (List.range n).map fun i => [.int .i64 (f i).1, .int .i64 (f i).2]
theorem Sl.of_bx {w : World} {g t s : Nat} {cs : Array Value} {xs : List (List Value)} (h : Bx w g t cs) (hx : ∀ k r, xs[k]? = some r → ∀ j u, r[j]? = some u → cs[k * s + j]? = some u) : Sl w w.heap.size s (some ⟨g, 0, none⟩) xs := by
  intro k r hr
  refine ⟨_, rfl, h.lt, fun j u hu => ?_⟩
  rw [add_add]
  have e : (⟨g, 0, none⟩ : Addr).add (k * s + j) = ⟨g, k * s + j, none⟩ := by unfold Addr.add; split <;> simp_all
  rw [e, h.cell]
  exact hx k r hr j u hu
theorem zrows_cells {f : Nat → Int × Int} {n : Nat} (hn : n ≤ 14) : ∀ k r, (zrows f n)[k]? = some r → ∀ j u, r[j]? = some u → ((zarr f).toList.take (n * 2)).toArray[k * 2 + j]? = some u := by
  intro k r hr j u hu
  have hk : k < n := by
    have := (List.getElem?_eq_some_iff.1 hr).1
    simpa [zrows] using this
  have hr' : r = [.int .i64 (f k).1, .int .i64 (f k).2] := by
    simp [zrows, hk] at hr
    exact hr.symm
  subst hr'
  have hj : j < 2 := (List.getElem?_eq_some_iff.1 hu).1
  rw [List.getElem?_toArray, List.getElem?_take_of_lt (by omega), Array.getElem?_toList]
  match j, hj with
  | 0, _ => simpa using (zarr_fst f (by omega : k < 14)).trans (by simpa using hu)
  | 1, _ => simpa using (zarr_snd f (by omega : k < 14)).trans (by simpa using hu)
end Go.Proofs.Ytmemcopfeabcgaa
