/- MeltBlends. -/
import Derived.Test.YtmemcopfeabcgaaRc
import Derived.Test.YtmemcopfeabcgaaEo
import Derived.Test.YtmemcopfeabcgaaHu
import Derived.Test.YtmemcopfeabcgaaOf
import Derived.Deep.DeepCutAuto
set_option linter.unusedSimpArgs false
set_option linter.unusedVariables false
namespace Go.Proofs.Ytmemcopfeabcgaa
open Go Go.RowKit
def wc (o : Od) (BL : List Int) : Int:=if ckBl o BL ≠ 0 then 0 else cst o (lf BL) o.bs.length
section
variable (LA : Option Addr) (ln lc : Nat) (BA : Option Addr) (bn bc : Nat) (o : Od) (SA : Option Addr) (n sc : Nat) (BL : List Int) (w : World)
end
theorem BinsOwn.up {w : World} {b b' : Nat} {rs : List (List Value)} {bs : List Bn} (h : BinsOwn w b rs bs) (hb : b' ≤ b) : BinsOwn w b' rs bs :=
 ⟨h.len,fun j r x h1 h2 => by obtain ⟨A,c,e,o⟩:=h.row j r x h1 h2; exact ⟨A,c,e,ownsRow_up o (fun q hq => Nat.le_trans hb (o.lt q hq).1)⟩⟩
theorem copy_put {w : World} {q B : Nat} {a0 a1 a2 a3 : Value} {XA : Option Addr} {ln xc : Nat} {YA : Option Addr} {bn yc : Nat} {o : Od} {rs : List (List Value)} (k : Bx w q 27 #[a0,a1,a2,a3]) (ox : w.ownsRow B 3 1 (.slice XA ln xc) ln (inr o.lm).flatten) (oy : w.ownsRow B 42 4 (.slice YA bn yc) bn rs.flatten) (bo : BinsOwn w B rs o.bs) (hl : o.lm.length = ln) (hb : o.bs.length = bn) :
  OrdAt ((((w.setCell ⟨q,0,none⟩ (.slice XA ln xc)).setCell ⟨q,1,none⟩ (.int .i64 o.le)).setCell ⟨q,2,none⟩ (.int .i64 o.mo)).setCell ⟨q,3,none⟩ (.slice YA bn yc)) ((((w.setCell ⟨q,0,none⟩ (.slice XA ln xc)).setCell ⟨q,1,none⟩ (.int .i64 o.le)).setCell ⟨q,2,none⟩ (.int .i64 o.mo)).setCell ⟨q,3,none⟩ (.slice YA bn yc)).heap.size XA YA o:=by
 have s1:=k.set_ 0 (.slice XA ln xc)
 have s2:=s1.set_ 1 (.int .i64 o.le)
 have s3:=s2.set_ 2 (.int .i64 o.mo)
 have ox4:=own_set (own_set (own_set (own_set ox (own_bx ox k (by decide)) (o:=0) (.slice XA ln xc)) (own_bx (own_set ox (own_bx ox k (by decide)) (o:=0) (.slice XA ln xc)) s1 (by decide)) (o:=1) (.int .i64 o.le)) (own_bx (own_set (own_set ox (own_bx ox k (by decide)) (o:=0) (.slice XA ln xc)) (own_bx (own_set ox (own_bx ox k (by decide)) (o:=0) (.slice XA ln xc)) s1 (by decide)) (o:=1) (.int .i64 o.le)) s2 (by decide)) (o:=2) (.int .i64 o.mo)) (own_bx (own_set (own_set (own_set ox (own_bx ox k (by decide)) (o:=0) (.slice XA ln xc)) (own_bx (own_set ox (own_bx ox k (by decide)) (o:=0) (.slice XA ln xc)) s1 (by decide)) (o:=1) (.int .i64 o.le)) (own_bx (own_set (own_set ox (own_bx ox k (by decide)) (o:=0) (.slice XA ln xc)) (own_bx (own_set ox (own_bx ox k (by decide)) (o:=0) (.slice XA ln xc)) s1 (by decide)) (o:=1) (.int .i64 o.le)) s2 (by decide)) (o:=2) (.int .i64 o.mo)) s3 (by decide)) (o:=3) (.slice YA bn yc)
 have o1:=own_set oy (own_bx oy k (by decide)) (o:=0) (.slice XA ln xc)
 have o2:=own_set o1 (own_bx o1 s1 (by decide)) (o:=1) (.int .i64 o.le)
 have o3:=own_set o2 (own_bx o2 s2 (by decide)) (o:=2) (.int .i64 o.mo)
 have oy4:=own_set o3 (own_bx o3 s3 (by decide)) (o:=3) (.slice YA bn yc)
 have bo4:=(((bo.set_ k (by decide) 0 (.slice XA ln xc)).set_ s1 (by decide) 1 (.int .i64 o.le)).set_ s2 (by decide) 2 (.int .i64 o.mo)).set_ s3 (by decide) 3 (.slice YA bn yc)
 exact ⟨own_inr ox4 hl,bo4.at_ oy4 hb⟩
end Go.Proofs.Ytmemcopfeabcgaa
