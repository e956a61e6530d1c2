/- What a feed leaves, rows cut short, Part. -/
import Derived.Test.YtgbogdckmfencaaSlip
import Derived.Test.YtgbogdckmfencaaFiM
set_option linter.unusedSimpArgs false
set_option linter.unusedVariables false
namespace Go.Proofs.Ytgbogdckmfencaa
open Go Go.RowKit
theorem fd_cell {g : Nat} {w : World} (h : Fd g w) {a : Addr} {v : Value} (hc : w.cell? a = some v) (hv : ∀ x,v ≠ .int .u64 x) : a.block ≠ g:=by
 intro e
 obtain ⟨x,_,_,hx⟩:=h
 unfold Bx at hx
 unfold World.cell? at hc
 rw [e,hx] at hc
 dsimp only at hc
 split at hc
 ·cases hc
 ·match hq : a.off with
  | 0 => rw [hq] at hc; exact hv x (by simpa using hc.symm)
  | k + 1 => rw [hq] at hc; simp at hc
theorem Sl.ft {g s : Nat} {V w' : World} {B : Nat} {A : Option Addr} {xs : List (List Value)} (h : Sl V B s A xs) (hf : Fd g V) (k : V.grownBy w' (some g)) (hx : ∀ r ∈ xs,∀ u ∈ r,∀ x,u ≠ .int .u64 x) : Sl w' B s A xs:=fun i r hr => by
 obtain ⟨ad,h1,h2,h3⟩:=h i r hr
 exact ⟨ad,h1,h2,fun j u hu => k.cell (h3 j u hu) (by simpa using fd_cell hf (h3 j u hu) (hx r (List.mem_of_getElem? hr) u (List.mem_of_getElem? hu)))⟩
theorem ints_no (l : List Int) : ∀ r ∈ ints l,∀ u ∈ r,∀ x,u ≠ .int .u64 x:=by
 intro r hr u hu x h
 unfold ints at hr
 obtain ⟨a,_,rfl⟩:=List.mem_map.1 hr
 obtain rfl : u = .int .i64 a:=by simpa using hu
 simp at h
theorem evs_no (es : List Ev) : ∀ r ∈ es.map Ev.cells,∀ u ∈ r,∀ x,u ≠ .int .u64 x:=by
 intro r hr u hu x h
 obtain ⟨e,_,rfl⟩:=List.mem_map.1 hr
 subst h
 simp [Ev.cells] at hu
theorem own_evs2 {w : World} {b n c : Nat} {A : Option Addr} {es : List Ev} (h : w.ownsRow b 28 5 (.slice A n c) n (es.map Ev.cells).flatten) (hl : es.length = n) : EvsAt w w.heap.size A es:=by
 obtain ⟨A',c',he,hs⟩:=own_sl h (evs_len es) (by rw [List.length_map]; exact hl)
 simp only [Value.slice.injEq] at he
 rw [he.1]
 exact hs
end Go.Proofs.Ytgbogdckmfencaa
