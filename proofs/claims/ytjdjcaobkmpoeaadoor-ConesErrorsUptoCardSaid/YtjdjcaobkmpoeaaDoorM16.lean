/- The texts Fop. -/
import Derived.Test.YtjdjcaobkmpoeaaDoorM02
import Derived.Test.YtjdjcaobkmpoeaaDoorM15
namespace Go.Proofs.YtjdjcaobkmpoeaaDoor
open Go.RowKit
section
variable {P:Program} {md:Region.Mode} {ops:Array Oper} {i:Nat} {a:Act} {w:World} {Q:Exit→Act→World→Prop} {o:Oper} {d:Tmp} {Y:Value→World→Prop}
theorem fop_call1{f:FuncId}{x0:Tmp}{ts:Array TypeId}{u0:Value}(ho:ops[i]? =some o)(hgd:o.guard=none)(hd:o.dst=some d)(hop:o.op=.call { callee:=.value (.func f),args:=#[.tmp x0],argTypes:=ts })(hen:∀args V,(callFunc f args).run P V=.ok (.enter f args) V)
 (hu0:a.eval (.tmp x0)=u0) (hc:Calls P f #[u0] w fun e w'=>∃v,e=.returned v∧Below w.heap.size w w'∧Y v w'):wpOp P ops Q i (fun a' w'=>∃v,a'=a.put (some d) v∧Below w.heap.size w w'∧Y v w') a w:=by
 refine wpOp_step ho fun K' hK=>?_
 have hw:Region.wanted o (yielded ops a.tmps)=true:=by simp[Region.wanted,hgd]
 rw[if_pos hw]
 unfold Oper.wp execOp
 have hx0:a.tmps[x0]?.getD undef=u0:=by rw[←hu0];simp[Act.eval]
 simp only[hop]
 simp[go_sem,resolve,invoke,hen,hd,hx0]
 with_reducible refine Calls.mono hc ?_
 rintro e w' ⟨v,rfl,hb,hy⟩
 exact hK _ _ ⟨v,rfl,hb,hy⟩
theorem fop_call2{f:FuncId}{x0 x1:Tmp}{ts:Array TypeId}{u0 u1:Value}(ho:ops[i]? =some o)(hgd:o.guard=none)(hd:o.dst=some d)(hop:o.op=.call { callee:=.value (.func f),args:=#[.tmp x0,.tmp x1],argTypes:=ts })(hen:∀args V,(callFunc f args).run P V=.ok (.enter f args) V)
 (hu0:a.eval (.tmp x0)=u0) (hu1:a.eval (.tmp x1)=u1) (hc:Calls P f #[u0,u1] w fun e w'=>∃v,e=.returned v∧Below w.heap.size w w'∧Y v w'):wpOp P ops Q i (fun a' w'=>∃v,a'=a.put (some d) v∧Below w.heap.size w w'∧Y v w') a w:=by
 refine wpOp_step ho fun K' hK=>?_
 have hw:Region.wanted o (yielded ops a.tmps)=true:=by simp[Region.wanted,hgd]
 rw[if_pos hw]
 unfold Oper.wp execOp
 have hx0:a.tmps[x0]?.getD undef=u0:=by rw[←hu0];simp[Act.eval]
 have hx1:a.tmps[x1]?.getD undef=u1:=by rw[←hu1];simp[Act.eval]
 simp only[hop]
 simp[go_sem,resolve,invoke,hen,hd,hx0,hx1]
 with_reducible refine Calls.mono hc ?_
 rintro e w' ⟨v,rfl,hb,hy⟩
 exact hK _ _ ⟨v,rfl,hb,hy⟩
theorem fop_move{x:Tmp}{u:Value}(ho:ops[i]? =some o)(hgd:o.guard=none)(hd:o.dst=some d)(hop:o.op=.move (.tmp x))(hu:a.eval (.tmp x)=u)(hy:Y u w):wpOp P ops Q i (fun a' w'=>∃v,a'=a.put (some d) v∧Below w.heap.size w w'∧Y v w') a w:=by
 refine wpOp_step ho fun K' hK=>?_
 have hw:Region.wanted o (yielded ops a.tmps)=true:=by simp[Region.wanted,hgd]
 rw[if_pos hw]
 have hk:=hK (a.put (some d) u) w ⟨u,rfl,Below.refl _ _,hy⟩
 unfold Oper.wp execOp
 have hx:a.tmps[x]?.getD undef=u:=by rw[←hu];simp[Act.eval]
 simp only[hop]
 simp[go_sem,hd,hx]
 exact hk
theorem fop_loadC{x:Tmp}{q:Nat}{v0 v1 v2 v3:Value}(hP:P= Tryd.prog)(ho:ops[i]? =some o)(hgd:o.guard=none)(hd:o.dst=some d)(hop:o.op=.load 27 (.tmp x))(hu:a.eval (.tmp x)=.pointer (some ⟨q,0,none⟩))(h0:w.cell? ⟨q,0,none⟩=some v0)(h1:w.cell? ⟨q,1,none⟩=some v1)(h2:w.cell? ⟨q,2,none⟩=some v2)(h3:w.cell? ⟨q,3,none⟩=some v3)
 (hy:Y (.agg #[v0,v1,v2,v3]) w):wpOp P ops Q i (fun a' w'=>∃v,a'=a.put (some d) v∧Below w.heap.size w w'∧Y v w') a w:=by
 refine wpOp_step ho fun K' hK=>?_
 have hw:Region.wanted o (yielded ops a.tmps)=true:=by simp[Region.wanted,hgd]
 rw[if_pos hw]
 subst hP
 have hk:=hK (a.put (some d) (.agg #[v0,v1,v2,v3])) w ⟨_,rfl,Below.refl _ _,hy⟩
 unfold Oper.wp execOp
 have hx:a.tmps[x]?.getD undef=.pointer (some ⟨q,0,none⟩):=by rw[←hu];simp[Act.eval]
 simp only[hop]
 simp[go_sem,hd,hx,h0,h1,h2,h3]
 exact hk
theorem fop_index{x y:Tmp}{b ob k:Nat}{m c:Nat}(hP:P= Tryd.prog)(ho:ops[i]? =some o)(hgd:o.guard=none)(hd:o.dst=some d)(hop:o.op=.indexAddr 25 (.tmp x) (.tmp y))(hu:a.eval (.tmp x)=.slice (some ⟨b,ob,none⟩) m c)(hv:a.eval (.tmp y)=.int .i64 (k:Int))(hk:k<m)(hy:Y (.pointer (some ⟨b,ob+k,none⟩)) w):wpOp P ops Q i (fun a' w'=>∃v,a'=a.put (some d) v∧Below w.heap.size w w'∧Y v w') a w:=by
 refine wpOp_step ho fun K' hK=>?_
 have hw:Region.wanted o (yielded ops a.tmps)=true:=by simp[Region.wanted,hgd]
 rw[if_pos hw]
 subst hP
 have hk2:=hK (a.put (some d) (.pointer (some ⟨b,ob+k,none⟩))) w ⟨_,rfl,Below.refl _ _,hy⟩
 unfold Oper.wp execOp
 have hx:a.tmps[x]?.getD undef=.slice (some ⟨b,ob,none⟩) m c:=by rw[←hu];simp[Act.eval]
 have hx2:a.tmps[y]?.getD undef=.int .i64 (k:Int):=by rw[←hv];simp[Act.eval]
 have hk3:(k:Int)<(m:Int):=by omega
 simp only[hop]
 simp[go_sem,hd,hx,hx2,hk3,hk]
 exact hk2
theorem fop_loadI{x:Tmp}{b ob:Nat}{z:Int}(hP:P= Tryd.prog)(ho:ops[i]? =some o)(hgd:o.guard=none)(hd:o.dst=some d)(hop:o.op=.load 3 (.tmp x))(hu:a.eval (.tmp x)=.pointer (some ⟨b,ob,none⟩))(h0:w.cell? ⟨b,ob,none⟩=some (.int .i64 z))(hy:Y (.int .i64 z) w):wpOp P ops Q i (fun a' w'=>∃v,a'=a.put (some d) v∧Below w.heap.size w w'∧Y v w') a w:=by
 refine wpOp_step ho fun K' hK=>?_
 have hw:Region.wanted o (yielded ops a.tmps)=true:=by simp[Region.wanted,hgd]
 rw[if_pos hw]
 subst hP
 have hk2:=hK (a.put (some d) (.int .i64 z)) w ⟨_,rfl,Below.refl _ _,hy⟩
 unfold Oper.wp execOp
 have hx:a.tmps[x]?.getD undef=.pointer (some ⟨b,ob,none⟩):=by rw[←hu];simp[Act.eval]
 simp only[hop]
 simp[go_sem,hd,hx,h0]
 exact hk2
theorem fop_allocB(hP:P= Tryd.prog)(ho:ops[i]? =some o)(hgd:o.guard=none)(hd:o.dst=some d)(hop:o.op=.alloc 41)(hy:∀w',Fr w' w.heap.size 41 [.slice none 0 0]→Y (.pointer (some ⟨w.heap.size,0,none⟩)) w'):wpOp P ops Q i (fun a' w'=>∃v,a'=a.put (some d) v∧Below w.heap.size w w'∧Y v w') a w:=by
 refine wpOp_step ho fun K' hK=>?_
 have hw:Region.wanted o (yielded ops a.tmps)=true:=by simp[Region.wanted,hgd]
 rw[if_pos hw]
 subst hP
 have hk:=hK (a.put (some d) (.pointer (some ⟨w.heap.size,0,none⟩))) (w.alloc (.cells #[.slice none 0 0] 41)) ⟨_,rfl,below_new (Below.refl _ _) _,hy _ (Fr.made _ _ _ rfl)⟩
 unfold Oper.wp execOp
 simp only[hop]
 simp[go_sem,hd]
 exact hk
theorem fop_allocR(hP:P= Tryd.prog)(ho:ops[i]? =some o)(hgd:o.guard=none)(hd:o.dst=some d)(hop:o.op=.alloc 58)(hy:∀w',Fr w' w.heap.size 58 [.slice none 0 0]→Y (.pointer (some ⟨w.heap.size,0,none⟩)) w'):wpOp P ops Q i (fun a' w'=>∃v,a'=a.put (some d) v∧Below w.heap.size w w'∧Y v w') a w:=by
 refine wpOp_step ho fun K' hK=>?_
 have hw:Region.wanted o (yielded ops a.tmps)=true:=by simp[Region.wanted,hgd]
 rw[if_pos hw]
 subst hP
 have hk:=hK (a.put (some d) (.pointer (some ⟨w.heap.size,0,none⟩))) (w.alloc (.cells #[.slice none 0 0] 58)) ⟨_,rfl,below_new (Below.refl _ _) _,hy _ (Fr.made _ _ _ rfl)⟩
 unfold Oper.wp execOp
 simp only[hop]
 simp[go_sem,hd]
 exact hk
theorem fop_build1{x:Tmp}{z:Int}(hP:P= Tryd.prog)(ho:ops[i]? =some o)(hgd:o.guard=none)(hd:o.dst=some d)(hop:o.op=.buildSlice 25 1 #[(0,.tmp x)])(hu:a.eval (.tmp x)=.int .i64 z)(hy:∀w',Fr w' w.heap.size 3 [.int .i64 z]→Y (.slice (some ⟨w.heap.size,0,none⟩) 1 1) w'):wpOp P ops Q i (fun a' w'=>∃v,a'=a.put (some d) v∧Below w.heap.size w w'∧Y v w') a w:=by
 refine wpOp_step ho fun K' hK=>?_
 have hw:Region.wanted o (yielded ops a.tmps)=true:=by simp[Region.wanted,hgd]
 rw[if_pos hw]
 subst hP
 have hk:=hK (a.put (some d) (.slice (some ⟨w.heap.size,0,none⟩) 1 1)) (w.alloc (.cells #[.int .i64 z] 3)) ⟨_,rfl,below_new (Below.refl _ _) _,hy _ (Fr.made _ _ _ rfl)⟩
 unfold Oper.wp execOp
 have hx:a.tmps[x]?.getD undef=.int .i64 z:=by rw[←hu];simp[Act.eval]
 simp only[hop]
 simp[go_sem,hd,hx]
 exact hk
end
theorem NxR.next{V W:World}{bn on n:Nat}{nx:Nat→List Int}(h:NxR V V.heap.size bn on n nx)(hb:BelW V W):NxR W W.heap.size bn on n nx:=by
 obtain⟨h1,h2⟩:=h
 have hz:=Below.size hb
 refine⟨by omega,fun i hi=>?_⟩
 obtain⟨A,c,h3,h4⟩:=h2 i hi
 exact⟨A,c,(Below.cell hb (p:=⟨bn,on+i,none⟩) h1).trans h3,(h4.below hb).more hz⟩
end Go.Proofs.YtjdjcaobkmpoeaaDoor
