/- BridgeNets: which slips are valid, their net weights, and what is paid, are what the reference says, for all logs, slips, dirt and rows of numbers. -/
import Derived.Test.YtgbogdckmfencaaRows
import Derived.Test.YtgbogdckmfencaaNets
import Derived.Test.YtgbogdckmfencaaOpM
import Derived.ProofKit
import Derived.SizedLaws
import Derived.Carry
set_option linter.unusedSimpArgs false
set_option linter.unusedVariables false
namespace Go.Proofs.Ytgbogdckmfencaa.bridgeNets
open Go Go.ChangeShapes Go.WideShapes Go.ChangeAt Go.RowKit
set_option maxHeartbeats 800000 in
set_option maxRecDepth 100000 in
theorem lifted (os : Os) (started : os.Started) (H : Type) (enc : TypeId × Value → H) :
  ReturnsInHanded {} Try.checked os 4 .any (Rows.bridgeNetsSpec.pre6 enc Try.prog Try.f4 Rows.bridgeNetsRow.domain false) (Rows.bridgeNetsSpec.post enc Try.prog Try.f4 false true false false):=by
 refine returnsInHanded_of_change_sized (C:=Try.checked) opened.own started (by kernel_rfl) Try.func4
  (ChangeSpec.witness6 (enc:=enc) (C:=Try.checked) false ⟨#[],#[.agg #[.int .i64 0,.int .i64 0,.int .i64 0,.slice none 0 0],.agg #[.slice none 0 0,.slice none 0 0,.int .i64 0,.int .i64 0,.int .i64 0,.int .i64 0],.agg #[.int .i64 0,.int .i64 0],.slice none 0 0],[]⟩ 8 (by kernel_rfl) (by kernel_rfl) (by kernel_rfl) (by kernel_rfl)) ?_
 intro W base args ds gs before hval0 hW _ hsz0 _
 have hsz : (DataW.weightsEach Try.prog (Try.f4.params.toList ++ Rows.bridgeNetsSpec.plain.varTypes Try.prog) (ds ++ gs)).all (· ≤ reachBytes) = true:=hsz0
 clear hsz0
 have hval : ∀ (j : Nat) t v,Try.f4.params[j]? = some t → args[j]? = some v → Value.okWide Try.prog W .any base t v:=hval0
 have hW':=hW
 obtain ⟨p,q,hA0,hV,rfl,_,_⟩:=hW
 have hA : DataW.TrodAll enc Try.prog W 0 (fun _ => true) true Try.f4.params.toList args.toList ds p:=hA0
 rw [Try.params4] at hA hval hsz
 obtain ⟨v0,v1,v2,v3,d0,d1,d2,d3,p0,p1,p2,p3,rfl,rfl,hp,h0,h1,h2,h3⟩:=trodAll_four hA
 subst hp
 obtain ⟨rfl,rfl⟩:=trodVars_none hV
 obtain ⟨x0,x1,x2,XA,xn,xc,xs,rfl,hxl,hxn,hX⟩:=opened.open_log (hval 0 26 v0 rfl rfl) h0
 obtain ⟨SFA,sfn,sfc,SBA,sbn,sbc,sfs,sbs,sd0,sd1,SF,SB,rfl,⟨hsfl,hsfn,hSF⟩,hsbl,hsbn,hSB⟩:=opened.open_slip (hval 1 50 v1 rfl rfl) h1
 obtain ⟨q0,q1,rfl⟩:=opened.open_rng (hval 2 23 v2 rfl rfl) h2
 obtain ⟨a0,len,cap,rfl⟩:=okWide_slice Try.underlying29 (hval 3 29 v3 rfl rfl)
 have hlk:=h3
 obtain ⟨fuel,hf⟩:=h3
 clear hA0 hval0
 simp only [List.append_nil,List.append_assoc] at hW'
 have hlt : ∀ x ∈ p0 ++ (p1 ++ (p2 ++ p3)),x.block < W.heap.size:=fun x hx => by simpa using hW'.lt x hx
 have hargs0 : ∀ (W' : World),Below W.heap.size W W' → DataW.Trod enc Try.prog W' 0 (fun b => decide (b < W.heap.size)) true 26 (.agg #[.int .i64 x0,.int .i64 x1,.int .i64 x2,.slice XA xn xc]) d0 p0 :=
  fun W' hn => Below.trod opened.laidOut (by kernel_rfl) (of_decide_eq_true (by kernel_rfl)) h0 hn (fun x hx => hlt x (by simp [hx]))
 have hargs1 : ∀ (W' : World),Below W.heap.size W W' → DataW.Trod enc Try.prog W' 0 (fun b => decide (b < W.heap.size)) true 50 (.agg #[.slice SFA sfn sfc,.slice SBA sbn sbc,.int .i64 sfs,.int .i64 sbs,.int .i64 sd0,.int .i64 sd1]) d1 p1 :=
  fun W' hn => Below.trod opened.laidOut (by kernel_rfl) (of_decide_eq_true (by kernel_rfl)) h1 hn (fun x hx => hlt x (by simp [hx]))
 have hargs2 : ∀ (W' : World),Below W.heap.size W W' → DataW.Trod enc Try.prog W' 0 (fun b => decide (b < W.heap.size)) true 23 (.agg #[.int .i64 q0,.int .i64 q1]) d2 p2 :=
  fun W' hn => Below.trod opened.laidOut (by kernel_rfl) (of_decide_eq_true (by kernel_rfl)) h2 hn (fun x hx => hlt x (by simp [hx]))
 have hargs3 : ∀ (W' : World),Below W.heap.size W W' → DataW.Trod enc Try.prog W' 0 (fun b => decide (b < W.heap.size)) true 29 (.slice a0 len cap) d3 p3 :=
  fun W' hn => Below.trod opened.laidOut (by kernel_rfl) (of_decide_eq_true (by kernel_rfl)) hlk hn (fun x hx => hlt x (by simp [hx]))
 rcases open_ints Try.underlying29 Try.underlying3 opened.cells3 hf with ⟨hcs,hx⟩ | ⟨a,len',cap',zs,hcs,_,hl,hm,hz,hx,hcell,hwz⟩
 ·simp [Value.cells] at hcs
  obtain ⟨rfl,rfl,rfl⟩:=hcs
  refine (nets_run x0 x1 x2 XA xn xc xs SFA sfn sfc SBA sbn sbc sfs sbs sd0 sd1 SF SB q0 q1 none 0 0 [] W hxn hsfn hsbn hxl hsfl hsbl hX hSF hSB (by omega) rfl (Sl.nil _ _ _ _)).mono fun e W' ⟨he,hnx⟩ => ?_
  subst he
  exact ⟨_,rfl,_,_,_,[],_,[],hW',trodAll_mk1 (shut_bool Try.underlying4 true),trodAll_mk4 (hargs0 _ hnx) (hargs1 _ hnx) (hargs2 _ hnx) (hargs3 _ hnx),rfl,hnx.frame _,fun h => by cases h⟩
 ·simp [Value.cells] at hcs
  obtain ⟨rfl,rfl,rfl⟩:=hcs
  simp only [Prod.mk.injEq] at hx
  obtain ⟨rfl,rfl⟩:=hx
  simp only [if_true] at hz
  have hreach : len * 8 ≤ 140737488351232:=by
   have:=sized_slice hsz (j:=3) (t:=29) (e:=3) rfl rfl Try.underlying29
   rw [opened.bytes3] at this
   simp only [lits,List.length_map,List.length_take,List.length_drop,reachBytes] at this
   omega
  obtain ⟨hlen,hsl⟩:=opened.row_sl (w:=W) (len:=len) (by omega) hcell
  refine (nets_run x0 x1 x2 XA xn xc xs SFA sfn sfc SBA sbn sbc sfs sbs sd0 sd1 SF SB q0 q1 (some a) len cap (zs.take len) W hxn hsfn hsbn hxl hsfl hsbl hX hSF hSB (by omega) hlen hsl).mono fun e W' ⟨he,hnx⟩ => ?_
  subst he
  exact ⟨_,rfl,_,_,_,[],_,[],hW',trodAll_mk1 (shut_bool Try.underlying4 true),trodAll_mk4 (hargs0 _ hnx) (hargs1 _ hnx) (hargs2 _ hnx) (hargs3 _ hnx),rfl,hnx.frame _,fun h => by cases h⟩
end Go.Proofs.Ytgbogdckmfencaa.bridgeNets
namespace Go.Proofs.Ytgbogdckmfencaa
theorem bridgeNets_holds : Rows.BridgeNetsSaid :=
 OpenClaim.holds_of_wide 4 Try.f4 rfl rfl rfl rfl rfl rfl rfl ⟨rfl,rfl,rfl,rfl,rfl⟩ rfl rfl rfl rfl rfl (by kernel_rfl) Try.func4 (by kernel_rfl)
  (of_decide_eq_true (by kernel_rfl)) (by unfold Func.isWrapper; first | (rw [if_pos (by decide +kernel)]; kernel_rfl) | (rw [if_neg (by decide +kernel)]; exact ⟨rfl,rfl⟩))
  (fun os started H enc _ => bridgeNets.lifted os started H enc)
end Go.Proofs.Ytgbogdckmfencaa
