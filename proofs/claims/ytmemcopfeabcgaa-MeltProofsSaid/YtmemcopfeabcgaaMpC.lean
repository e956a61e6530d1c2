/- MeltProofs: plain proofs, and whether a proof is right, are what the reference says, or the complaints are, for every order, price and proof, and whatever numbers are given. -/
import Derived.Test.YtmemcopfeabcgaaRows
import Derived.Test.YtmemcopfeabcgaaMp
import Derived.Test.YtmemcopfeabcgaaOh
import Derived.ProofKit
import Derived.SizedLaws
import Derived.Carry
set_option linter.unusedSimpArgs false
set_option linter.unusedVariables false
namespace Go.Proofs.Ytmemcopfeabcgaa.meltProofs
open Go Go.ChangeShapes Go.WideShapes Go.ChangeAt Go.RowKit
set_option maxHeartbeats 800000 in
set_option maxRecDepth 100000 in
theorem lifted (os : Os) (started : os.Started) (H : Type) (enc : TypeId × Value → H) :
  ReturnsInHanded {} Try.checked os 12 .any (Rows.meltProofsSpec.pre6 enc Try.prog Try.f12 Rows.meltProofsRow.domain false) (Rows.meltProofsSpec.post enc Try.prog Try.f12 false true false false):=by
 refine returnsInHanded_of_change_sized (C:=Try.checked) opened.own started (by kernel_rfl) Try.func12
  (ChangeSpec.witness6 (enc:=enc) (C:=Try.checked) false ⟨#[],#[.agg #[.slice none 0 0,.int .i64 0,.int .i64 0,.slice none 0 0],.int .i64 0,.slice none 0 0,.agg #[.int .i64 0,.int .i64 0,.int .i64 0],.int .i64 0,.slice none 0 0],[]⟩ 8 (by kernel_rfl) (by kernel_rfl) (by kernel_rfl) (by kernel_rfl)) ?_
 intro W base args ds gs before hval0 hW _ hsz0 _
 have hsz : (DataW.weightsEach Try.prog (Try.f12.params.toList ++ Rows.meltProofsSpec.plain.varTypes Try.prog) (ds ++ gs)).all (· ≤ reachBytes) = true:=hsz0
 clear hsz0
 have hval : ∀ (j : Nat) t v,Try.f12.params[j]? = some t → args[j]? = some v → Value.okWide Try.prog W .any base t v:=hval0
 have hW':=hW
 obtain ⟨p,q,hA0,hV,rfl,_,_⟩:=hW
 have hA : DataW.TrodAll enc Try.prog W 0 (fun _ => true) true Try.f12.params.toList args.toList ds p:=hA0
 rw [Try.params12] at hA hval hsz
 obtain ⟨v0,v1,v2,v3,v4,v5,d0,d1,d2,d3,d4,d5,p0,p1,p2,p3,p4,p5,rfl,rfl,hp,h0,h1,h2,h3,h4,h5⟩:=opened.six_open hA
 subst hp
 obtain ⟨rfl,rfl⟩:=trodVars_none hV
 obtain ⟨LA,ln,lc,BA,bn,bc,o,rfl,⟨hll,hln⟩,⟨hbl,hbn⟩,hO⟩:=opened.open_order (hval 0 27 v0 rfl rfl) h0
 obtain ⟨price,rfl,_⟩:=opened.open_num (hval 1 3 v1 rfl rfl) h1
 obtain ⟨PA,pl,pc,LP,rfl,hpl,_,hpc,hP⟩:=opened.open_bnds (hval 2 51 v2 rfl rfl) h2
 obtain ⟨r,rfl⟩:=opened.open_bnd (hval 3 69 v3 rfl rfl) h3
 obtain ⟨at_,rfl,ha0,ha1⟩:=opened.open_num (hval 4 3 v4 rfl rfl) h4
 obtain ⟨a0,len,cap,rfl⟩:=okWide_slice Try.underlying22 (hval 5 22 v5 rfl rfl)
 have hlk:=h5
 obtain ⟨fuel,hf⟩:=h5
 clear hA0 hval0
 simp only [List.append_nil,List.append_assoc] at hW'
 have hlt : ∀ x ∈ p0 ++ (p1 ++ (p2 ++ (p3 ++ (p4 ++ p5)))),x.block < W.heap.size:=fun x hx => by simpa using hW'.lt x (by simpa using hx)
 have hargs : ∀ (W' : World),Below W.heap.size W W' → DataW.TrodAll enc Try.prog W' 0 (fun b => decide (b < W.heap.size)) true [27,3,51,69,3,22] [.agg #[.slice LA ln lc,.int .i64 o.le,.int .i64 o.mo,.slice BA bn bc],.int .i64 price,.slice PA pl pc,.agg #[.int .i64 r.rs,.int .i64 r.at_,.int .i64 r.ct],.int .i64 at_,.slice a0 len cap] [d0,d1,d2,d3,d4,d5] (p0 ++ (p1 ++ (p2 ++ (p3 ++ (p4 ++ p5))))):=fun W' hn =>
  opened.six_mk (Below.trod opened.laidOut (by kernel_rfl) (of_decide_eq_true (by kernel_rfl)) h0 hn (fun x hx => hlt x (by simp [hx])))
   (Below.trod opened.laidOut (by kernel_rfl) (of_decide_eq_true (by kernel_rfl)) h1 hn (fun x hx => hlt x (by simp [hx])))
   (Below.trod opened.laidOut (by kernel_rfl) (of_decide_eq_true (by kernel_rfl)) h2 hn (fun x hx => hlt x (by simp [hx])))
   (Below.trod opened.laidOut (by kernel_rfl) (of_decide_eq_true (by kernel_rfl)) h3 hn (fun x hx => hlt x (by simp [hx])))
   (Below.trod opened.laidOut (by kernel_rfl) (of_decide_eq_true (by kernel_rfl)) h4 hn (fun x hx => hlt x (by simp [hx])))
   (Below.trod opened.laidOut (by kernel_rfl) (of_decide_eq_true (by kernel_rfl)) hlk hn (fun x hx => hlt x (by simp [hx])))
 rcases open_ints Try.underlying22 Try.underlying3 opened.cells3 hf with ⟨hcs,hx⟩ | ⟨a,len',cap',zs,hcs,_,hl,hm,hz,hx,hcell,hwz⟩
 ·simp [Value.cells] at hcs
  obtain ⟨rfl,rfl,rfl⟩:=hcs
  refine (meltProofs_run LA ln lc BA bn bc o price PA pl pc LP r at_ none 0 0 [] W hln hbn hll hbl hO hpl hpc hP ha0 ha1 (by omega) rfl (Sl.nil _ _ _ _)).mono fun e W' ⟨he,hnx⟩ => ?_
  subst he
  exact ⟨_,rfl,_,_,_,[],_,[],hW',trodAll_mk1 (shut_bool Try.underlying4 true),hargs _ hnx,rfl,hnx.frame _,fun h => by cases h⟩
 ·simp [Value.cells] at hcs
  obtain ⟨rfl,rfl,rfl⟩:=hcs
  simp only [Prod.mk.injEq] at hx
  obtain ⟨rfl,rfl⟩:=hx
  simp only [if_true] at hz
  have hreach : len * 8 ≤ 140737488351232:=by
   have:=sized_slice hsz (j:=5) (t:=22) (e:=3) rfl rfl Try.underlying22
   rw [opened.bytes3] at this
   simp only [lits,List.length_map,List.length_take,List.length_drop,reachBytes] at this
   omega
  obtain ⟨hlen,hsl⟩:=opened.row_sl (w:=W) (len:=len) (by omega) hcell
  refine (meltProofs_run LA ln lc BA bn bc o price PA pl pc LP r at_ (some a) len cap (zs.take len) W hln hbn hll hbl hO hpl hpc hP ha0 ha1 (by omega) hlen hsl).mono fun e W' ⟨he,hnx⟩ => ?_
  subst he
  exact ⟨_,rfl,_,_,_,[],_,[],hW',trodAll_mk1 (shut_bool Try.underlying4 true),hargs _ hnx,rfl,hnx.frame _,fun h => by cases h⟩
end Go.Proofs.Ytmemcopfeabcgaa.meltProofs
namespace Go.Proofs.Ytmemcopfeabcgaa
theorem meltProofs_holds : Rows.MeltProofsSaid :=
 OpenClaim.holds_of_wide 12 Try.f12 rfl rfl rfl rfl rfl rfl rfl ⟨rfl,rfl,rfl,rfl,rfl⟩ rfl rfl rfl rfl rfl (by kernel_rfl) Try.func12 (by kernel_rfl)
  (of_decide_eq_true (by kernel_rfl)) (by unfold Func.isWrapper; first | (rw [if_pos (by decide +kernel)]; kernel_rfl) | (rw [if_neg (by decide +kernel)]; exact ⟨rfl,rfl⟩))
  (fun os started H enc _ => meltProofs.lifted os started H enc)
end Go.Proofs.Ytmemcopfeabcgaa
