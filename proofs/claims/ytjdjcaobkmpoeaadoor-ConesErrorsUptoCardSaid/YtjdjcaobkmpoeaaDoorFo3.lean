import Derived.Test.YtjdjcaobkmpoeaaDoorM36
namespace Go.Proofs.YtjdjcaobkmpoeaaDoor
open Go.RowKit
section
variable {P:Program} {ops:Array Oper} {Q:Exit→Act→World→Prop} {i:Nat} {o:Oper} {d:Tmp} {Y:Value→World→Prop} {a:Act} {w:World}
theorem wanted_no(h:o.guard=none):Region.wanted o (yielded ops a.tmps)=true:=by simp[Region.wanted,h]
theorem wanted_of{k:Nat}{b:Bool}{t:Tmp}(hg:o.guard=some (k,b))(ho:(ops[k]?).bind (·.dst)=some t)(ht:t<a.tmps.size)(hv:a.eval (.tmp t)=.bool b):Region.wanted o (yielded ops a.tmps)=true:=by
 have hx:a.tmps[t]? =some (.bool b):=by
  have h1:a.tmps[t]?.getD undef=.bool b:=by rw[←hv];simp[Act.eval]
  rw[Array.getElem?_eq_getElem ht]at h1 ⊢
  exact congrArg some h1
 simp[Region.wanted,hg,yielded,ho,hx]
theorem fog_call1{f:FuncId}{x0:Tmp}{ts:Array TypeId}{u0:Value}(ho:ops[i]? =some o)(hw:Region.wanted o (yielded ops a.tmps)=true)(hd:o.dst=some d)(hop:o.op=.call { callee:=.value (.func f),args:=#[.tmp x0],argTypes:=ts })(hen:∀args V,(callFunc f args).run P V=.ok (.enter f args) V)
 (hu0:a.eval (.tmp x0)=u0) (hc:Calls P f #[u0] w fun e w'=>∃v,e=.returned v∧Below w.heap.size w w'∧Y v w'):wpOp P ops Q i (fun a' w'=>∃v,a'=a.put (some d) v∧Below w.heap.size w w'∧Y v w') a w:=by
 refine wpOp_step ho fun K' hK=>?_
 rw[if_pos hw]
 unfold Oper.wp execOp
 have hx0:a.tmps[x0]?.getD undef=u0:=by rw[←hu0];simp[Act.eval]
 simp only[hop]
 simp[go_sem,resolve,invoke,hen,hd,hx0]
 with_reducible refine Calls.mono hc ?_
 rintro e w' ⟨v,rfl,hb,hy⟩
 exact hK _ _ ⟨v,rfl,hb,hy⟩
theorem fog_call2{f:FuncId}{x0 x1:Tmp}{ts:Array TypeId}{u0 u1:Value}(ho:ops[i]? =some o)(hw:Region.wanted o (yielded ops a.tmps)=true)(hd:o.dst=some d)(hop:o.op=.call { callee:=.value (.func f),args:=#[.tmp x0,.tmp x1],argTypes:=ts })(hen:∀args V,(callFunc f args).run P V=.ok (.enter f args) V)
 (hu0:a.eval (.tmp x0)=u0) (hu1:a.eval (.tmp x1)=u1) (hc:Calls P f #[u0,u1] w fun e w'=>∃v,e=.returned v∧Below w.heap.size w w'∧Y v w'):wpOp P ops Q i (fun a' w'=>∃v,a'=a.put (some d) v∧Below w.heap.size w w'∧Y v w') a w:=by
 refine wpOp_step ho fun K' hK=>?_
 rw[if_pos hw]
 unfold Oper.wp execOp
 have hx0:a.tmps[x0]?.getD undef=u0:=by rw[←hu0];simp[Act.eval]
 have hx1:a.tmps[x1]?.getD undef=u1:=by rw[←hu1];simp[Act.eval]
 simp only[hop]
 simp[go_sem,resolve,invoke,hen,hd,hx0,hx1]
 with_reducible refine Calls.mono hc ?_
 rintro e w' ⟨v,rfl,hb,hy⟩
 exact hK _ _ ⟨v,rfl,hb,hy⟩
theorem fog_move{x:Tmp}{u:Value}(ho:ops[i]? =some o)(hw:Region.wanted o (yielded ops a.tmps)=true)(hd:o.dst=some d)(hop:o.op=.move (.tmp x))(hu:a.eval (.tmp x)=u)(hy:Y u w):wpOp P ops Q i (fun a' w'=>∃v,a'=a.put (some d) v∧Below w.heap.size w w'∧Y v w') a w:=by
 refine wpOp_step ho fun K' hK=>?_
 rw[if_pos hw]
 have hk:=hK (a.put (some d) u) w ⟨u,rfl,Below.refl _ _,hy⟩
 unfold Oper.wp execOp
 have hx:a.tmps[x]?.getD undef=u:=by rw[←hu];simp[Act.eval]
 simp only[hop]
 simp[go_sem,hd,hx]
 exact hk
theorem fog_loadC{x:Tmp}{q:Nat}{v0 v1 v2 v3:Value}(hP:P= Tryd.prog)(ho:ops[i]? =some o)(hw:Region.wanted o (yielded ops a.tmps)=true)(hd:o.dst=some d)(hop:o.op=.load 27 (.tmp x))(hu:a.eval (.tmp x)=.pointer (some ⟨q,0,none⟩))(h0:w.cell? ⟨q,0,none⟩=some v0)(h1:w.cell? ⟨q,1,none⟩=some v1)(h2:w.cell? ⟨q,2,none⟩=some v2)(h3:w.cell? ⟨q,3,none⟩=some v3)
 (hy:Y (.agg #[v0,v1,v2,v3]) w):wpOp P ops Q i (fun a' w'=>∃v,a'=a.put (some d) v∧Below w.heap.size w w'∧Y v w') a w:=by
 refine wpOp_step ho fun K' hK=>?_
 rw[if_pos hw]
 subst hP
 have hk:=hK (a.put (some d) (.agg #[v0,v1,v2,v3])) w ⟨_,rfl,Below.refl _ _,hy⟩
 unfold Oper.wp execOp
 have hx:a.tmps[x]?.getD undef=.pointer (some ⟨q,0,none⟩):=by rw[←hu];simp[Act.eval]
 simp only[hop]
 simp[go_sem,hd,hx,h0,h1,h2,h3]
 exact hk
theorem fog_neqE{x y:Tmp}{z:Int}(hP:P= Tryd.prog)(ho:ops[i]? =some o)(hw:Region.wanted o (yielded ops a.tmps)=true)(hd:o.dst=some d)(hop:o.op=.binOp .neq 31 (.tmp x) (.tmp y) 31)(hu:a.eval (.tmp x)=.int .i64 z)(hv:a.eval (.tmp y)=.int .i64 z)(hy:Y (.bool false) w):wpOp P ops Q i (fun a' w'=>∃v,a'=a.put (some d) v∧Below w.heap.size w w'∧Y v w') a w:=by
 refine wpOp_step ho fun K' hK=>?_
 rw[if_pos hw]
 subst hP
 have hk2:=hK (a.put (some d) (.bool false)) w ⟨_,rfl,Below.refl _ _,hy⟩
 unfold Oper.wp execOp
 have hx0:a.tmps[x]?.getD undef=.int .i64 z:=by rw[←hu];simp[Act.eval]
 have hx1:a.tmps[y]?.getD undef=.int .i64 z:=by rw[←hv];simp[Act.eval]
 simp only[hop]
 simp[go_sem,hd,hx0,hx1]
 exact hk2
theorem fog_pickT{x y:Tmp}{u:Value}(hP:P= Tryd.prog)(ho:ops[i]? =some o)(hw:Region.wanted o (yielded ops a.tmps)=true)(hd:o.dst=some d)(hop:o.op=.pick (.tmp x) (.const (.bool true)) (.tmp y))(hu:a.eval (.tmp x)=.bool false)(hv:a.eval (.tmp y)=u)(hy:Y u w):wpOp P ops Q i (fun a' w'=>∃v,a'=a.put (some d) v∧Below w.heap.size w w'∧Y v w') a w:=by
 refine wpOp_step ho fun K' hK=>?_
 rw[if_pos hw]
 subst hP
 have hk2:=hK (a.put (some d) (u)) w ⟨_,rfl,Below.refl _ _,hy⟩
 unfold Oper.wp execOp
 have hx0:a.tmps[x]?.getD undef=.bool false:=by rw[←hu];simp[Act.eval]
 have hx1:a.tmps[y]?.getD undef=u:=by rw[←hv];simp[Act.eval]
 simp only[hop]
 simp[go_sem,hd,hx0,hx1]
 exact hk2
end
end Go.Proofs.YtjdjcaobkmpoeaaDoor
