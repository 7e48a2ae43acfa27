import Derived.Test.YtjdjcaobkmpoeaaDoorPbk
import Derived.Test.YtjdjcaobkmpoeaaDoorM36
namespace Go.Proofs.YtjdjcaobkmpoeaaDoor
open Go.ChangeShapes Go.WideShapes Go.ChangeAt Go.RowKit
section
variable {H:Type} {enc:TypeId×Value→H} {W:World} {base:Nat} {sp:Nat→Bool} {held:Bool}
theorem sl_len{fuel:Nat}{t e:TypeId}{v:Value}{A:Option Addr}{n c:Nat}{x:DataW H×List MemPlace}(ht: Tryd.prog.underlying t=some (.slice e))(h:DataW.trod enc Tryd.prog W base sp held fuel t [v]=some x)(hi:v=.slice A n c):n≤Rows.uptoBulk x.1:=by
 subst hi
 rcases Go.Deep.open_slice ht h with⟨e,-⟩| ⟨a,len,cap,m,k,D,Pl,e,-,-,-,-,rfl,-⟩
 ·simp only[List.cons.injEq,Value.slice.injEq,and_true]at e
  omega
 ·simp only[List.cons.injEq,Value.slice.injEq,and_true]at e
  have h1:=bulkAll_len ((List.range len).map D)
  rw[List.length_map,List.length_range]at h1
  show n≤Rows.uptoBulk (.slice _ _)
  rw[bulk_slice]
  omega
theorem arr_len{α:Type}{d:α}{sz:Nat}{R:World→Nat→Nat→Nat→α→Prop}{fuel:Nat}{t e:TypeId}{v:Value}{l:List α}{x:DataW H×List MemPlace}(ht: Tryd.prog.underlying t=some (.slice e))(h:DataW.trod enc Tryd.prog W base sp held fuel t [v]=some x)(hi:Arr d sz R W W.heap.size v l):l.length≤Rows.uptoBulk x.1:=by
 obtain⟨A,b,o,c,rfl,-⟩:=hi
 exact sl_len ht h rfl
set_option maxRecDepth 100000 in
theorem mems_in{N fuel:Nat}{cs:List Value}{x:DataW H×List MemPlace}(hN:Rows.uptoBulk x.1≤N)(h:DataW.trod enc Tryd.prog W base sp held fuel 24 cs=some x):∃v l,cs=[v]∧Ms W W.heap.size v l∧∀k,k<l.length→(l.getD k default).addr.length≤N∧(l.getD k default).data.length≤N:=by
 obtain⟨v,l,rfl,ha⟩:=arr_in (α:=Mm) (d:=default) (R:=fun w B b p q=>MmAt w B b p q∧q.addr.length≤N∧q.data.length≤N) Tryd.underlying24 c_mm (by decide) (fun b p cs' y n h3 hc ht hb=>by
  obtain⟨y0,y1,y2,n',hy,-,h0,h1,h2⟩:=Go.Deep.trod_struct3 Tryd.underlying72 ht
  match cs',h3 with
  |[u0,u1,u2],_=>
   rw[c_is]at h0 h1
   rw[c_int]at h2
   obtain⟨s,l,e0,hi⟩:=ints_of h0
   obtain⟨s',l',e1,hi'⟩:=ints_of h1
   obtain⟨m,e2,-,-⟩:=DataW.trod_int Tryd.underlying3 h2
   simp at e0 e1 e2
   subst e0 e1 e2
   have hb0:Rows.uptoBulk y0.1≤N∧Rows.uptoBulk y1.1≤N:=by
    rw[hy]at hb
    have hb2:Rows.uptoBulk (.agg [y0.1,y1.1,y2.1])≤N:=hb
    rw[bulk_agg]at hb2
    have k0:=bulkAll_mem (d:=y0.1) (l:=[y0.1,y1.1,y2.1]) (by simp)
    have k1:=bulkAll_mem (d:=y1.1) (l:=[y0.1,y1.1,y2.1]) (by simp)
    omega
   have hl:l.length≤N:=Nat.le_trans (ints_len (v:=u0) (by simpa using h0) hi) hb0.1
   have hl':l'.length≤N:=Nat.le_trans (ints_len (v:=u1) (by simpa using h1) hi') hb0.2
   have q0:=hc 0 (by decide)
   have q1:=hc 1 (by decide)
   have q2:=hc 2 (by decide)
   exact⟨⟨l,l',m⟩,⟨u0,u1,q0,q1,q2,hi,hi'⟩,hl,hl'⟩) hN h
 refine⟨v,l,rfl,?_,?_⟩
 ·obtain⟨A,b,o,c,h1,h2,h3,h4,h5⟩:=ha
  exact⟨A,b,o,c,h1,h2,h3,h4,fun k hk=>⟨(h5 k hk).1,(h5 k hk).2.1⟩⟩
 ·obtain⟨A,b,o,c,h1,h2,h3,h4,h5⟩:=ha
  exact fun k hk=>(h5 k hk).2.2
set_option maxRecDepth 100000 in
theorem open_circuit_all{N b0:Nat}{r:Reach}{v:Value}{d:DataW H}{p:List MemPlace}(hN:Rows.uptoBulk d≤N)(hv:Value.okWide Tryd.prog W r b0 27 v)(h:DataW.Trod enc Tryd.prog W base sp held 27 v d p):
 ∃c:Ck,Cir W W.heap.size v c∧(∀k,k<c.nodes.length→(c.nodes.getD k default).ins.length≤N)∧c.names.length≤N∧c.mems.length≤N∧c.outs.length≤N∧∀k,k<c.mems.length→(c.mems.getD k default).addr.length≤N∧(c.mems.getD k default).data.length≤N:=by
 obtain⟨v0,v1,v2,v3,y0,y1,y2,y3,n,rfl,hd,-,h0,h1,h2,h3⟩:=Joins.open_agg4 Tryd.underlying27 (by kernel_rfl) c_ct hv h
 have hall:Rows.uptoBulkAll [y0.1,y1.1,y2.1,y3.1]≤N:=by
  refine Nat.le_trans ?_ hN
  rw[hd,bulk_agg];omega
 have b0':=Nat.le_trans (bulkAll_mem (d:=y0.1) (l:=[y0.1,y1.1,y2.1,y3.1]) (by simp)) hall
 have b1':=Nat.le_trans (bulkAll_mem (d:=y1.1) (l:=[y0.1,y1.1,y2.1,y3.1]) (by simp)) hall
 have b2':=Nat.le_trans (bulkAll_mem (d:=y2.1) (l:=[y0.1,y1.1,y2.1,y3.1]) (by simp)) hall
 have b3':=Nat.le_trans (bulkAll_mem (d:=y3.1) (l:=[y0.1,y1.1,y2.1,y3.1]) (by simp)) hall
 obtain⟨_,l0,e0,k0,hk⟩:=nodes_in b0' h0
 obtain⟨_,l1,e1,k1⟩:=strs_of h1
 obtain⟨_,l2,e2,k2,hm⟩:=mems_in b2' h2
 obtain⟨_,l3,e3,k3⟩:=ints_of h3
 simp at e0 e1 e2 e3
 subst e0 e1 e2 e3
 exact⟨⟨l0,l1,l2,l3⟩,⟨_,_,_,_,rfl,k0,k1,k2,k3⟩,hk,Nat.le_trans (arr_len Tryd.underlying23 (by simpa using h1) k1) b1',Nat.le_trans (arr_len Tryd.underlying24 (by simpa using h2) k2) b2',Nat.le_trans (ints_len (by simpa using h3) k3) b3',hm⟩
theorem c_i2: Tryd.prog.cellsOf 28=2:=by kernel_rfl
set_option maxRecDepth 100000 in
theorem i2_of{fuel:Nat}{c0 c1:Value}{x:DataW H×List MemPlace}(h:DataW.trod enc Tryd.prog W base sp held fuel 28 [c0,c1]=some x):∃a b:Int,c0=.int .i64 a∧c1=.int .i64 b:=by
 obtain⟨xs,m,-,-,-,hn,hel⟩:=DataW.trod_array Tryd.underlying28 h
 match xs,hn with
 |[x0,x1],_=>
  have e0:=hel 0 (by decide)
  have e1:=hel 1 (by decide)
  rw[c_int]at e0 e1
  obtain⟨a,ea,-,-⟩:=DataW.trod_int Tryd.underlying3 (show DataW.trod _ _ _ _ _ _ _ _ [c0]=some x0 from e0)
  obtain⟨b,eb,-,-⟩:=DataW.trod_int Tryd.underlying3 (show DataW.trod _ _ _ _ _ _ _ _ [c1]=some x1 from e1)
  simp at ea eb
  exact⟨a,b,ea,eb⟩
set_option maxRecDepth 100000 in
theorem open_i2{b0:Nat}{r:Reach}{v:Value}{d:DataW H}{p:List MemPlace}(hv:Value.okWide Tryd.prog W r b0 28 v)(h:DataW.Trod enc Tryd.prog W base sp held 28 v d p):
 ∃a b:Int,v=.agg #[.int .i64 a,.int .i64 b]:=by
 simp only[Value.okWide,Tryd.underlying28]at hv
 obtain⟨cs,rfl,hsz,-⟩:=hv
 obtain⟨c0,c1,rfl⟩:∃c0 c1,cs= #[c0,c1]:=by
  obtain⟨l⟩:=cs
  match l,hsz.trans c_i2 with
  |[c0,c1],_=>exact⟨c0,c1,rfl⟩
 obtain⟨fuel,hf⟩:=h
 obtain⟨a,b,rfl,rfl⟩:=i2_of (show DataW.trod _ _ _ _ _ _ _ _ [c0,c1]=some _ from hf)
 exact⟨a,b,rfl⟩
end
end Go.Proofs.YtjdjcaobkmpoeaaDoor
