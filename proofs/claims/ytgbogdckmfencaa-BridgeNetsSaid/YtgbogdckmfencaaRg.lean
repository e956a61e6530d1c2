/- The reference of layer 1: Loads, may, none. -/
import Derived.Test.YtgbogdckmfencaaRfM
set_option linter.unusedSimpArgs false
set_option linter.unusedVariables false
namespace Go.Proofs.Ytgbogdckmfencaa
open Go Go.RowKit
theorem agg2_eq {a b x y : Int} (h1 : a = x) (h2 : b = y) : Ending.returned (.agg #[.int .i64 a,.int .i64 b]) = Ending.returned (.agg #[.int .i64 x,.int .i64 y]):=by rw [h1,h2]
set_option maxRecDepth 100000 in
set_option maxHeartbeats 2000000 in
theorem refLoads_any (st z0 z1 : Int) (A : Option Addr) (n c : Nat) (es : List Ev) (i : Nat) (e : Ev) (z : Int) (w : World) (hl : es.length = n) (hn : n ≤ 14) (hA : EvsAt w w.heap.size A es) (he : es[i]? = some e) (ho : EvOk e) (hs1 : 1 ≤ st) (hs2 : st ≤ 100) (hz1 : -1000 ≤ z) (hz2 : z ≤ 1000) :
    Calls Try.prog 90 #[.agg #[.int .i64 st,.int .i64 z0,.int .i64 z1,.slice A n c],.int .i64 (i : Int),.int .i64 z] w fun r w' => r = .returned (.agg #[.int .i64 (ldRng st e z).1,.int .i64 (ldRng st e z).2]) ∧ Below w.heap.size w w':=by
  have hi : i < es.length:=(List.getElem?_eq_some_iff.1 he).1
  have hin : i < n:=by omega
  have hge : es[i] = e:=(List.getElem?_eq_some_iff.1 he).2
  have hE:=(EvsAt.alloc hA (Nat.le_refl _) (.cells #[.int .i64 st,.int .i64 z0,.int .i64 z1,.slice A n c] 26)).alloc (by simp) (.cells #[.int .i64 0,.int .i64 0] 23)
  obtain ⟨ad,rfl,hab,q0,q1,q2,q3,q4⟩:=hE.at_ hi
  rw [hge] at q0 q1 q2 q3 q4
  obtain ⟨kd,sh,ld,c0,c1⟩:=e
  obtain ⟨hkd,s1,s2,l1,l2,l3,-,-,-⟩:=ho
  dsimp only at *
  clear hl hi hge he hA hE
  have h0 : 0 ≤ st:=by omega
  have hB2:=((Below.refl w.heap.size w).alloc (Nat.le_refl _) (.cells #[.int .i64 st,.int .i64 z0,.int .i64 z1,.slice (some ad) n c] 26)).alloc (by simp) (.cells #[.int .i64 0,.int .i64 0] 23)
  have HB2:=Lib.hid hB2
  clear hB2
  rcases hkd with rfl | rfl | rfl
  · obtain rfl : ld = 0:=Classical.byContradiction fun h => by have:=l3 h; omega
    go_enter Try.func90,Try.ntmps90
    go_wp2_with fail
    all_goals first
      | (refine bodyPost_ret (v:=.agg #[.int .i64 (sh - st / 2 - z),.int .i64 (sh - st / 2 - z + st - 1)]) ?_ rfl ⟨agg2_eq ?_ ?_,?_⟩
         · (simp [results,Try.results90,go_sem]; done)
         · unfold ldRng ldLo; dsimp only; first | (simp; omega) | omega
         · unfold ldRng ldHi; dsimp only; first | (simp; omega) | omega
         · repeat (first | exact Below.refl _ _ | refine Below.alloc ?_ (by simp; try omega) _ | refine Below.setCell ?_ (by simp) _))
      | (refine bodyPost_ret (v:=.agg #[.int .i64 (sh - st / 2 - z),.int .i64 0]) ?_ rfl ⟨agg2_eq ?_ ?_,?_⟩
         · (simp [results,Try.results90,go_sem]; done)
         · unfold ldRng ldLo; dsimp only; first | (simp; omega) | omega
         · unfold ldRng ldHi; dsimp only; first | (simp; omega) | omega
         · repeat (first | exact Below.refl _ _ | refine Below.alloc ?_ (by simp; try omega) _ | refine Below.setCell ?_ (by simp) _))
      | (refine bodyPost_ret (v:=.agg #[.int .i64 0,.int .i64 (sh - st / 2 - z + st - 1)]) ?_ rfl ⟨agg2_eq ?_ ?_,?_⟩
         · (simp [results,Try.results90,go_sem]; done)
         · unfold ldRng ldLo; dsimp only; first | (simp; omega) | omega
         · unfold ldRng ldHi; dsimp only; first | (simp; omega) | omega
         · repeat (first | exact Below.refl _ _ | refine Below.alloc ?_ (by simp; try omega) _ | refine Below.setCell ?_ (by simp) _))
      | (refine bodyPost_ret (v:=.agg #[.int .i64 0,.int .i64 0]) ?_ rfl ⟨agg2_eq ?_ ?_,?_⟩
         · (simp [results,Try.results90,go_sem]; done)
         · unfold ldRng ldLo; dsimp only; first | (simp; omega) | omega
         · unfold ldRng ldHi; dsimp only; first | (simp; omega) | omega
         · repeat (first | exact Below.refl _ _ | refine Below.alloc ?_ (by simp; try omega) _ | refine Below.setCell ?_ (by simp) _))
  · go_enter Try.func90,Try.ntmps90
    go_wp2_with fail
    all_goals first
      | (refine bodyPost_ret (v:=.agg #[.int .i64 (sh - st / 2 - z),.int .i64 (sh - st / 2 - z + st - 1)]) ?_ rfl ⟨agg2_eq ?_ ?_,?_⟩
         · (simp [results,Try.results90,go_sem]; done)
         · unfold ldRng ldLo; dsimp only; first | (simp; omega) | omega
         · unfold ldRng ldHi; dsimp only; first | (simp; omega) | omega
         · repeat (first | exact Below.refl _ _ | refine Below.alloc ?_ (by simp; try omega) _ | refine Below.setCell ?_ (by simp) _))
      | (refine bodyPost_ret (v:=.agg #[.int .i64 (sh - st / 2 - z),.int .i64 ld]) ?_ rfl ⟨agg2_eq ?_ ?_,?_⟩
         · (simp [results,Try.results90,go_sem]; done)
         · unfold ldRng ldLo; dsimp only; first | (simp; omega) | omega
         · unfold ldRng ldHi; dsimp only; first | (simp; omega) | omega
         · repeat (first | exact Below.refl _ _ | refine Below.alloc ?_ (by simp; try omega) _ | refine Below.setCell ?_ (by simp) _))
      | (refine bodyPost_ret (v:=.agg #[.int .i64 ld,.int .i64 (sh - st / 2 - z + st - 1)]) ?_ rfl ⟨agg2_eq ?_ ?_,?_⟩
         · (simp [results,Try.results90,go_sem]; done)
         · unfold ldRng ldLo; dsimp only; first | (simp; omega) | omega
         · unfold ldRng ldHi; dsimp only; first | (simp; omega) | omega
         · repeat (first | exact Below.refl _ _ | refine Below.alloc ?_ (by simp; try omega) _ | refine Below.setCell ?_ (by simp) _))
      | (refine bodyPost_ret (v:=.agg #[.int .i64 ld,.int .i64 ld]) ?_ rfl ⟨agg2_eq ?_ ?_,?_⟩
         · (simp [results,Try.results90,go_sem]; done)
         · unfold ldRng ldLo; dsimp only; first | (simp; omega) | omega
         · unfold ldRng ldHi; dsimp only; first | (simp; omega) | omega
         · repeat (first | exact Below.refl _ _ | refine Below.alloc ?_ (by simp; try omega) _ | refine Below.setCell ?_ (by simp) _))
  · obtain rfl : ld = 0:=Classical.byContradiction fun h => by have:=l3 h; omega
    go_enter Try.func90,Try.ntmps90
    go_wp2_with fail
    all_goals first
      | (refine bodyPost_ret (v:=.agg #[.int .i64 (sh - st / 2 - z),.int .i64 (sh - st / 2 - z + st - 1)]) ?_ rfl ⟨agg2_eq ?_ ?_,?_⟩
         · (simp [results,Try.results90,go_sem]; done)
         · unfold ldRng ldLo; dsimp only; first | (simp; omega) | omega
         · unfold ldRng ldHi; dsimp only; first | (simp; omega) | omega
         · repeat (first | exact Below.refl _ _ | refine Below.alloc ?_ (by simp; try omega) _ | refine Below.setCell ?_ (by simp) _))
      | (refine bodyPost_ret (v:=.agg #[.int .i64 (sh - st / 2 - z),.int .i64 60000]) ?_ rfl ⟨agg2_eq ?_ ?_,?_⟩
         · (simp [results,Try.results90,go_sem]; done)
         · unfold ldRng ldLo; dsimp only; first | (simp; omega) | omega
         · unfold ldRng ldHi; dsimp only; first | (simp; omega) | omega
         · repeat (first | exact Below.refl _ _ | refine Below.alloc ?_ (by simp; try omega) _ | refine Below.setCell ?_ (by simp) _))
      | (refine bodyPost_ret (v:=.agg #[.int .i64 0,.int .i64 (sh - st / 2 - z + st - 1)]) ?_ rfl ⟨agg2_eq ?_ ?_,?_⟩
         · (simp [results,Try.results90,go_sem]; done)
         · unfold ldRng ldLo; dsimp only; first | (simp; omega) | omega
         · unfold ldRng ldHi; dsimp only; first | (simp; omega) | omega
         · repeat (first | exact Below.refl _ _ | refine Below.alloc ?_ (by simp; try omega) _ | refine Below.setCell ?_ (by simp) _))
      | (refine bodyPost_ret (v:=.agg #[.int .i64 0,.int .i64 60000]) ?_ rfl ⟨agg2_eq ?_ ?_,?_⟩
         · (simp [results,Try.results90,go_sem]; done)
         · unfold ldRng ldLo; dsimp only; first | (simp; omega) | omega
         · unfold ldRng ldHi; dsimp only; first | (simp; omega) | omega
         · repeat (first | exact Below.refl _ _ | refine Below.alloc ?_ (by simp; try omega) _ | refine Below.setCell ?_ (by simp) _))
end Go.Proofs.Ytgbogdckmfencaa
