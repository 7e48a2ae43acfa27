import Derived.Test.YtckgnoopjapknaaDoorLb5
import Derived.Test.YtckgnoopjapknaaDoorM21
namespace Go.Proofs.YtckgnoopjapknaaDoor
open Go.RowKit
theorem ord5_to{L:List Int}{n:Nat}(hL:∀i:Nat,i<n→0≤lat L i∧lat L i<(n:Int)):Ord5 L n (ordTo L n n):=
 ord5_of ⟨ordTo L n n,by simp[rng],ordTo_full hL,Nat.le_refl _,ordTo_sorted L n n,fun x hx=>by
  obtain⟨j,rfl,hj,-⟩:=ordTo_mem.1 hx
  exact⟨by omega,by omega⟩⟩ hL
section
variable {P:Program} {ops:Array Oper} {Q:Exit→Act→World→Prop} {i:Nat} {o:Oper} {d:Tmp} {Y:Value→World→Prop} {a:Act} {w:World}
theorem fop_fieldC{x:Tmp}{q:Nat}(hP:P= Tryd.prog)(ho:ops[i]? =some o)(hgd:o.guard=none)(hd:o.dst=some d)(hop:o.op=.fieldAddr 27 (.tmp x) 0)(hu:a.eval (.tmp x)=.pointer (some ⟨q,0,none⟩))(hy:Y (.pointer (some ⟨q,0,none⟩)) w):wpOp P ops Q i (fun a' w'=>∃v,a'=a.put (some d) v∧Below w.heap.size w w'∧Y v w') a w:=by
 refine wpOp_step ho fun K' hK=>?_
 have hw:Region.wanted o (yielded ops a.tmps)=true:=by simp[Region.wanted,hgd]
 rw[if_pos hw]
 subst hP
 have hk2:=hK (a.put (some d) (.pointer (some ⟨q,0,none⟩))) (w) ⟨_,rfl,Below.refl _ _,hy⟩
 unfold Oper.wp execOp
 have hx0:a.tmps[x]?.getD undef=.pointer (some ⟨q,0,none⟩):=by rw[←hu];simp[Act.eval]
 simp only[hop]
 simp[go_sem,hd,hx0]
 exact hk2
theorem fop_fieldN{x:Tmp}{q:Nat}(hP:P= Tryd.prog)(ho:ops[i]? =some o)(hgd:o.guard=none)(hd:o.dst=some d)(hop:o.op=.fieldAddr 64 (.tmp x) 1)(hu:a.eval (.tmp x)=.pointer (some ⟨q,0,none⟩))(hy:Y (.pointer (some ⟨q,1,none⟩)) w):wpOp P ops Q i (fun a' w'=>∃v,a'=a.put (some d) v∧Below w.heap.size w w'∧Y v w') a w:=by
 refine wpOp_step ho fun K' hK=>?_
 have hw:Region.wanted o (yielded ops a.tmps)=true:=by simp[Region.wanted,hgd]
 rw[if_pos hw]
 subst hP
 have hk2:=hK (a.put (some d) (.pointer (some ⟨q,1,none⟩))) (w) ⟨_,rfl,Below.refl _ _,hy⟩
 unfold Oper.wp execOp
 have hx0:a.tmps[x]?.getD undef=.pointer (some ⟨q,0,none⟩):=by rw[←hu];simp[Act.eval]
 simp only[hop]
 simp[go_sem,hd,hx0]
 exact hk2
theorem fop_loadNs{x:Tmp}{b ob m c:Nat}{A:Option Addr}(hP:P= Tryd.prog)(ho:ops[i]? =some o)(hgd:o.guard=none)(hd:o.dst=some d)(hop:o.op=.load 22 (.tmp x))(hu:a.eval (.tmp x)=.pointer (some ⟨b,ob,none⟩))(h0:w.cell? ⟨b,ob,none⟩=some (.slice A m c))(hy:Y (.slice A m c) w):wpOp P ops Q i (fun a' w'=>∃v,a'=a.put (some d) v∧Below w.heap.size w w'∧Y v w') a w:=by
 refine wpOp_step ho fun K' hK=>?_
 have hw:Region.wanted o (yielded ops a.tmps)=true:=by simp[Region.wanted,hgd]
 rw[if_pos hw]
 subst hP
 have hk2:=hK (a.put (some d) (.slice A m c)) (w) ⟨_,rfl,Below.refl _ _,hy⟩
 unfold Oper.wp execOp
 have hx0:a.tmps[x]?.getD undef=.pointer (some ⟨b,ob,none⟩):=by rw[←hu];simp[Act.eval]
 simp only[hop]
 simp[go_sem,hd,hx0,h0]
 exact hk2
theorem fop_loadIs{x:Tmp}{b ob m c:Nat}{A:Option Addr}(hP:P= Tryd.prog)(ho:ops[i]? =some o)(hgd:o.guard=none)(hd:o.dst=some d)(hop:o.op=.load 25 (.tmp x))(hu:a.eval (.tmp x)=.pointer (some ⟨b,ob,none⟩))(h0:w.cell? ⟨b,ob,none⟩=some (.slice A m c))(hy:Y (.slice A m c) w):wpOp P ops Q i (fun a' w'=>∃v,a'=a.put (some d) v∧Below w.heap.size w w'∧Y v w') a w:=by
 refine wpOp_step ho fun K' hK=>?_
 have hw:Region.wanted o (yielded ops a.tmps)=true:=by simp[Region.wanted,hgd]
 rw[if_pos hw]
 subst hP
 have hk2:=hK (a.put (some d) (.slice A m c)) (w) ⟨_,rfl,Below.refl _ _,hy⟩
 unfold Oper.wp execOp
 have hx0:a.tmps[x]?.getD undef=.pointer (some ⟨b,ob,none⟩):=by rw[←hu];simp[Act.eval]
 simp only[hop]
 simp[go_sem,hd,hx0,h0]
 exact hk2
theorem fop_indexN{x y:Tmp}{b ob k:Nat}{m c:Nat}(hP:P= Tryd.prog)(ho:ops[i]? =some o)(hgd:o.guard=none)(hd:o.dst=some d)(hop:o.op=.indexAddr 22 (.tmp x) (.tmp y))(hu:a.eval (.tmp x)=.slice (some ⟨b,ob,none⟩) m c)(hv:a.eval (.tmp y)=.int .i64 (k:Int))(hk:k<m)(hy:Y (.pointer (some ⟨b,ob+k*4,none⟩)) w):wpOp P ops Q i (fun a' w'=>∃v,a'=a.put (some d) v∧Below w.heap.size w w'∧Y v w') a w:=by
 refine wpOp_step ho fun K' hK=>?_
 have hw:Region.wanted o (yielded ops a.tmps)=true:=by simp[Region.wanted,hgd]
 rw[if_pos hw]
 subst hP
 have hk2:=hK (a.put (some d) (.pointer (some ⟨b,ob+k*4,none⟩))) (w) ⟨_,rfl,Below.refl _ _,hy⟩
 unfold Oper.wp execOp
 have hx0:a.tmps[x]?.getD undef=.slice (some ⟨b,ob,none⟩) m c:=by rw[←hu];simp[Act.eval]
 have hx1:a.tmps[y]?.getD undef=.int .i64 (k:Int):=by rw[←hv];simp[Act.eval]
 have hk3:(k:Int)<(m:Int):=by omega
 simp only[hop]
 simp[go_sem,hd,hx0,hx1,hk3,hk]
 exact hk2
theorem fop_loadN{x:Tmp}{b ob:Nat}{v0 v1 v2 v3:Value}(hP:P= Tryd.prog)(ho:ops[i]? =some o)(hgd:o.guard=none)(hd:o.dst=some d)(hop:o.op=.load 64 (.tmp x))(hu:a.eval (.tmp x)=.pointer (some ⟨b,ob,none⟩))(h0:w.cell? ⟨b,ob,none⟩=some v0)(h1:w.cell? ⟨b,ob+1,none⟩=some v1)(h2:w.cell? ⟨b,ob+2,none⟩=some v2)(h3:w.cell? ⟨b,ob+3,none⟩=some v3)(hy:Y (.agg #[v0,v1,v2,v3]) w):wpOp P ops Q i (fun a' w'=>∃v,a'=a.put (some d) v∧Below w.heap.size w w'∧Y v w') a w:=by
 refine wpOp_step ho fun K' hK=>?_
 have hw:Region.wanted o (yielded ops a.tmps)=true:=by simp[Region.wanted,hgd]
 rw[if_pos hw]
 subst hP
 have hk2:=hK (a.put (some d) (.agg #[v0,v1,v2,v3])) (w) ⟨_,rfl,Below.refl _ _,hy⟩
 unfold Oper.wp execOp
 have hx0:a.tmps[x]?.getD undef=.pointer (some ⟨b,ob,none⟩):=by rw[←hu];simp[Act.eval]
 simp only[hop]
 simp[go_sem,hd,hx0,h0,h1,h2,h3]
 exact hk2
theorem fop_allocN(hP:P= Tryd.prog)(ho:ops[i]? =some o)(hgd:o.guard=none)(hd:o.dst=some d)(hop:o.op=.alloc 64)(hy:∀w',Fr w' w.heap.size 64 [.int .u8 0,.slice none 0 0,.int .i64 0,.int .i64 0]→Y (.pointer (some ⟨w.heap.size,0,none⟩)) w'):wpOp P ops Q i (fun a' w'=>∃v,a'=a.put (some d) v∧Below w.heap.size w w'∧Y v w') a w:=by
 refine wpOp_step ho fun K' hK=>?_
 have hw:Region.wanted o (yielded ops a.tmps)=true:=by simp[Region.wanted,hgd]
 rw[if_pos hw]
 subst hP
 have hk2:=hK (a.put (some d) (.pointer (some ⟨w.heap.size,0,none⟩))) (w.alloc (.cells #[.int .u8 0,.slice none 0 0,.int .i64 0,.int .i64 0] 64)) ⟨_,rfl,below_new (Below.refl _ _) _,hy _ (Fr.made _ _ _ rfl)⟩
 unfold Oper.wp execOp
 simp only[hop]
 simp[go_sem,hd]
 exact hk2
theorem fop_addI{x y:Tmp}{z1 z2:Int}(hP:P= Tryd.prog)(ho:ops[i]? =some o)(hgd:o.guard=none)(hd:o.dst=some d)(hop:o.op=.binOp .add 3 (.tmp x) (.tmp y) 3)(hu:a.eval (.tmp x)=.int .i64 z1)(hv:a.eval (.tmp y)=.int .i64 z2)(hz:0≤z1+z2∧z1+z2<9223372036854775808)(hy:Y (.int .i64 (z1+z2)) w):wpOp P ops Q i (fun a' w'=>∃v,a'=a.put (some d) v∧Below w.heap.size w w'∧Y v w') a w:=by
 refine wpOp_step ho fun K' hK=>?_
 have hw:Region.wanted o (yielded ops a.tmps)=true:=by simp[Region.wanted,hgd]
 rw[if_pos hw]
 subst hP
 have hk2:=hK (a.put (some d) (.int .i64 (z1+z2))) (w) ⟨_,rfl,Below.refl _ _,hy⟩
 unfold Oper.wp execOp
 have hx0:a.tmps[x]?.getD undef=.int .i64 z1:=by rw[←hu];simp[Act.eval]
 have hx1:a.tmps[y]?.getD undef=.int .i64 z2:=by rw[←hv];simp[Act.eval]
 simp only[hop]
 simp[go_sem,hd,hx0,hx1]
 rw[(IntKind.wrap_i64 _).trans (show _=z1+z2 by omega)]
 exact hk2
end
end Go.Proofs.YtckgnoopjapknaaDoor
