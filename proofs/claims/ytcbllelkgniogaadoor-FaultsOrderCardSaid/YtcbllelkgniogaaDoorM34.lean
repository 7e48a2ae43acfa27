/- The texts Fop. -/
import Derived.Test.YtcbllelkgniogaaDoorM33
import Derived.Test.YtcbllelkgniogaaDoorM22
import Derived.Test.YtcbllelkgniogaaDoorM21
namespace Go.Proofs.YtcbllelkgniogaaDoor
open Go.RowKit
section
variable {P:Program} {md:Region.Mode} {ops:Array Oper} {i:Nat} {a:Act} {w:World} {Q:Exit→Act→World→Prop} {o:Oper} {d:Tmp} {Y:Value→World→Prop}
theorem fop_call1{f:FuncId}{x0:Tmp}{ts:Array TypeId}{u0:Value}(ho:ops[i]? =some o)(hgd:o.guard=none)(hd:o.dst=some d)(hop:o.op=.call { callee:=.value (.func f),args:=#[.tmp x0],argTypes:=ts })(hen:∀args V,(callFunc f args).run P V=.ok (.enter f args) V)
 (hu0:a.eval (.tmp x0)=u0) (hc:Calls P f #[u0] w fun e w'=>∃v,e=.returned v∧Below w.heap.size w w'∧Y v w'):wpOp P ops Q i (fun a' w'=>∃v,a'=a.put (some d) v∧Below w.heap.size w w'∧Y v w') a w:=by
 refine wpOp_step ho fun K' hK=>?_
 have hw:Region.wanted o (yielded ops a.tmps)=true:=by simp[Region.wanted,hgd]
 rw[if_pos hw]
 unfold Oper.wp execOp
 have hx0:a.tmps[x0]?.getD undef=u0:=by rw[←hu0];simp[Act.eval]
 simp only[hop]
 simp[go_sem,resolve,invoke,hen,hd,hx0]
 with_reducible refine Calls.mono hc ?_
 rintro e w' ⟨v,rfl,hb,hy⟩
 exact hK _ _ ⟨v,rfl,hb,hy⟩
theorem fop_call2{f:FuncId}{x0 x1:Tmp}{ts:Array TypeId}{u0 u1:Value}(ho:ops[i]? =some o)(hgd:o.guard=none)(hd:o.dst=some d)(hop:o.op=.call { callee:=.value (.func f),args:=#[.tmp x0,.tmp x1],argTypes:=ts })(hen:∀args V,(callFunc f args).run P V=.ok (.enter f args) V)
 (hu0:a.eval (.tmp x0)=u0) (hu1:a.eval (.tmp x1)=u1) (hc:Calls P f #[u0,u1] w fun e w'=>∃v,e=.returned v∧Below w.heap.size w w'∧Y v w'):wpOp P ops Q i (fun a' w'=>∃v,a'=a.put (some d) v∧Below w.heap.size w w'∧Y v w') a w:=by
 refine wpOp_step ho fun K' hK=>?_
 have hw:Region.wanted o (yielded ops a.tmps)=true:=by simp[Region.wanted,hgd]
 rw[if_pos hw]
 unfold Oper.wp execOp
 have hx0:a.tmps[x0]?.getD undef=u0:=by rw[←hu0];simp[Act.eval]
 have hx1:a.tmps[x1]?.getD undef=u1:=by rw[←hu1];simp[Act.eval]
 simp only[hop]
 simp[go_sem,resolve,invoke,hen,hd,hx0,hx1]
 with_reducible refine Calls.mono hc ?_
 rintro e w' ⟨v,rfl,hb,hy⟩
 exact hK _ _ ⟨v,rfl,hb,hy⟩
end
theorem NxR.next{V W:World}{bn on n:Nat}{nx:Nat→List Int}(h:NxR V V.heap.size bn on n nx)(hb:BelW V W):NxR W W.heap.size bn on n nx:=by
 obtain⟨h1,h2⟩:=h
 have hz:=Below.size hb
 refine⟨by omega,fun i hi=>?_⟩
 obtain⟨A,c,h3,h4⟩:=h2 i hi
 exact⟨A,c,(Below.cell hb (p:=⟨bn,on+i,none⟩) h1).trans h3,(h4.below hb).more hz⟩
end Go.Proofs.YtcbllelkgniogaaDoor
