/- The texts Lq5. -/
import Derived.Test.YtckgnoopjapknaaDoorM32
import Derived.Test.YtckgnoopjapknaaDoorM41
import Derived.Test.YtckgnoopjapknaaDoorM18
import Derived.Test.YtckgnoopjapknaaDoorM37
namespace Go.Proofs.YtckgnoopjapknaaDoor
open Go.RowKit
theorem take_any{l:List Int}{j:Nat}{s:Int}(hj:j<l.length):(l.take (j+1)).any (fun y=>y==s)=((l.take j).any (fun y=>y==s)||(l.getD j 0==s)):=by
 rw[List.take_succ_eq_append_getElem hj,List.any_append,List.getD_eq_getElem?_getD,List.getElem?_eq_getElem hj]
 simp
theorem ck_zero{c:Ck}{n:Nat}{L l:List Int}(G:G5 c n L)(hl:Inr n l):ckI c l=0:=by
 unfold ckI
 rw[if_pos G.ok,if_neg]
 intro h
 unfold anyP at h
 obtain⟨x,hx,h2⟩:=List.any_eq_true.1 h
 have h3:isIdx n x=true:=idx_nod.2 (hl x hx)
 unfold badI at h2
 rw[G.len,h3]at h2
 cases h2
theorem memB_inr(R:List Bool)(n:Nat):Inr n (memB R n):=fun x hx=>by
 obtain⟨j,hj,rfl,-⟩:=mem_memB.1 hx
 exact⟨by omega,by omega⟩
theorem memB_le(R:List Bool)(n:Nat):(memB R n).length≤n:=by
 unfold memB
 rw[List.length_map]
 exact Nat.le_trans (List.length_filter_le _ _) (by simp)
theorem fr_is{w:World}{g:Nat}{l:List Int}(h:Fr w g 3 (l.map (Value.int .i64)))(hm:l.length≤maxLen):Is w w.heap.size (.slice (some ⟨g,0,none⟩) l.length l.length) l:=(h.row hm).is hm
section
variable {c:Ck} {L:List Int} {A0 A1 A2 A3:Option Addr} {n n1 n2 n3 c0 c1 c2 c3:Nat}
theorem fanin_g(G:G5 c n L)(W:World)(hT:Tabs W)(hc:Cir W W.heap.size (.agg #[.slice A0 n c0,.slice A1 n1 c1,.slice A2 n2 c2,.slice A3 n3 c3]) c)(s:Value)(l:List Int)(hs:Is W W.heap.size s l)(hl:Inr n l):
 Calls Tryd.prog 14 #[.agg #[.slice A0 n c0,.slice A1 n1 c1,.slice A2 n2 c2,.slice A3 n3 c3],s] W (ConePost (fun j=>dep c.nodes (j:Int)) n l W):=
 fanin_ok c l s A0 A1 A2 A3 n n1 n2 n3 c0 c1 c2 c3 W hT hc hs (ck_zero G hl) hl G.depi (Nat.le_trans G.few (by decide))
theorem fanout_g(G:G5 c n L)(W:World)(hT:Tabs W)(hc:Cir W W.heap.size (.agg #[.slice A0 n c0,.slice A1 n1 c1,.slice A2 n2 c2,.slice A3 n3 c3]) c)(s:Value)(l:List Int)(hs:Is W W.heap.size s l)(hl:Inr n l):
 Calls Tryd.prog 15 #[.agg #[.slice A0 n c0,.slice A1 n1 c1,.slice A2 n2 c2,.slice A3 n3 c3],s] W (ConePost (rdL c.nodes) n l W):=
 fanout_ok c l s A0 A1 A2 A3 n n1 n2 n3 c0 c1 c2 c3 W hT hc hs (ck_zero G hl) hl G.inr' (Nat.le_trans G.few (by decide)) G.np
end
section
variable {P:Program} {ops:Array Oper} {Q:Exit→Act→World→Prop} {i:Nat} {o:Oper} {d:Tmp} {Y:Value→World→Prop} {a:Act} {w:World}
theorem fop_assign{x:Tmp}{u:Value}(ho:ops[i]? =some o)(hgd:o.guard=none)(hd:o.dst=some d)(hop:o.op=.assign (.tmp x))(hu:a.eval (.tmp x)=u)(hy:Y u w):wpOp P ops Q i (fun a' w'=>∃v,a'=a.put (some d) v∧Below w.heap.size w w'∧Y v w') a w:=by
 refine wpOp_step ho fun K' hK=>?_
 have hw:Region.wanted o (yielded ops a.tmps)=true:=by simp[Region.wanted,hgd]
 rw[if_pos hw]
 have hk:=hK (a.put (some d) u) w ⟨u,rfl,Below.refl _ _,hy⟩
 unfold Oper.wp execOp
 have hx:a.tmps[x]?.getD undef=u:=by rw[←hu];simp[Act.eval]
 simp only[hop]
 simp[go_sem,hd,hx]
 exact hk
theorem fop_extract{x:Tmp}{us:Array Value}{u:Value}{k:Nat}(ho:ops[i]? =some o)(hgd:o.guard=none)(hd:o.dst=some d)(hop:o.op=.extract (.tmp x) k)(hu:a.eval (.tmp x)=.tuple us)(hk:us[k]? =some u)(hy:Y u w):wpOp P ops Q i (fun a' w'=>∃v,a'=a.put (some d) v∧Below w.heap.size w w'∧Y v w') a w:=by
 refine wpOp_step ho fun K' hK=>?_
 have hw:Region.wanted o (yielded ops a.tmps)=true:=by simp[Region.wanted,hgd]
 rw[if_pos hw]
 have hk2:=hK (a.put (some d) u) w ⟨u,rfl,Below.refl _ _,hy⟩
 unfold Oper.wp execOp
 have hx:a.tmps[x]?.getD undef=.tuple us:=by rw[←hu];simp[Act.eval]
 simp only[hop]
 simp[go_sem,hd,hx,hk]
 exact hk2
end
end Go.Proofs.YtckgnoopjapknaaDoor
