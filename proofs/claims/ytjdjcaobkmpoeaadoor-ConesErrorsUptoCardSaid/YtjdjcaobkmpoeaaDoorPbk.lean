import Derived.Test.YtjdjcaobkmpoeaaDoorM36
namespace Go.Proofs.YtjdjcaobkmpoeaaDoor
open Go.ChangeShapes Go.WideShapes Go.ChangeAt Go.RowKit
section
variable {H:Type}
theorem bulk_pos(d:DataW H):1≤Rows.uptoBulk d:=by
 cases d with
 |lit l=>cases l<;>simp[Rows.uptoBulk]
 |_=>simp[Rows.uptoBulk]
theorem bulkAll_len:∀l:List (DataW H),l.length≤Rows.uptoBulkAll l
 |[]=>Nat.zero_le _
 |d::l=>by
  have h1:=bulk_pos d
  have h2:=bulkAll_len l
  rw[Rows.uptoBulkAll,List.length_cons];omega
theorem bulkAll_mem{d:DataW H} :∀ {l:List (DataW H)},d∈l→Rows.uptoBulk d≤Rows.uptoBulkAll l
 |e::l,h=>by
  rw[Rows.uptoBulkAll]
  rcases List.mem_cons.1 h with rfl|h
  ·omega
  ·have:=bulkAll_mem h
   omega
theorem bulk_agg(l:List (DataW H)):Rows.uptoBulk (.agg l)=Rows.uptoBulkAll l+1:=by rw[Rows.uptoBulk]
theorem bulk_slice(l s:List (DataW H)):Rows.uptoBulk (.slice l s)=Rows.uptoBulkAll l+Rows.uptoBulkAll s+1:=by rw[Rows.uptoBulk]
end
section
variable {H:Type} {enc:TypeId×Value→H} {W:World} {base:Nat} {sp:Nat→Bool} {held:Bool}
theorem ints_len{fuel:Nat}{v:Value}{l:List Int}{x:DataW H×List MemPlace}(h:DataW.trod enc Tryd.prog W base sp held fuel 25 [v]=some x)(hi:Is W W.heap.size v l):l.length≤Rows.uptoBulk x.1:=by
 obtain⟨A,b,o,c,rfl,-⟩:=hi
 rcases Go.Deep.open_slice Tryd.underlying25 h with⟨e,-⟩| ⟨a,len,cap,m,n,D,Pl,e,-,-,-,-,rfl,-⟩
 ·simp only[List.cons.injEq,Value.slice.injEq,and_true]at e
  omega
 ·simp only[List.cons.injEq,Value.slice.injEq,and_true]at e
  have h1:=bulkAll_len ((List.range len).map D)
  rw[List.length_map,List.length_range]at h1
  show l.length≤Rows.uptoBulk (.slice _ _)
  rw[bulk_slice]
  omega
theorem arr_in{α:Type} [Inhabited α] {d:α}{sz N:Nat}{R:World→Nat→Nat→Nat→α→Prop}{t e:TypeId}{fuel:Nat}{cs:List Value}{x:DataW H×List MemPlace}(ht: Tryd.prog.underlying t=some (.slice e))(hsz: Tryd.prog.cellsOf e=sz)(hpos:0<sz)
 (hel:∀b p cs' y n,cs'.length=sz→(∀j,j<sz→W.cell? ⟨b,p+j,none⟩=cs'[j]?)→DataW.trod enc Tryd.prog W base sp held n e cs'=some y→Rows.uptoBulk y.1≤N→∃a:α,R W W.heap.size b p a)
 (hN:Rows.uptoBulk x.1≤N)
 (h:DataW.trod enc Tryd.prog W base sp held fuel t cs=some x):∃v l,cs=[v]∧Arr d sz R W W.heap.size v l:=by
 rcases Go.Deep.open_slice ht h with⟨rfl,-⟩| ⟨a,len,cap,m,n,D,Pl,rfl,-,hl,hm,hmm,rfl,hx⟩
 ·exact⟨_,[],rfl,Arr.nil _ _ _ _ _⟩
 ·have hlm:len≤m:=by rw[hmm];split<;>omega
  have hD:∀i,i<len→Rows.uptoBulk (D i)≤N:=fun i hi=>by
   refine Nat.le_trans (bulkAll_mem (l:=(List.range len).map D) (List.mem_map.2 ⟨i,List.mem_range.2 hi,rfl⟩)) (Nat.le_trans ?_ hN)
   show _≤Rows.uptoBulk (.slice _ _)
   rw[bulk_slice];omega
  rw[hsz]at hx
  by_cases h0:0<len
  ·have hsp:a.spot=none:=by
    obtain⟨cs',h1,-⟩:=hx 0 (by omega)
    obtain⟨-,h3,h4⟩:=World.cells?_some h1
    have:=h4 0 hpos
    rw[List.getElem?_eq_getElem (by omega)]at this
    simpa [Addr.add]using World.cell?_spot this
   obtain⟨b,o,spot⟩:=a
   obtain rfl:spot=none:=hsp
   have hk:∀i,i<len→∃q:α,b<W.heap.size∧R W W.heap.size b (o+i*sz) q:=fun i hi=>by
    obtain⟨cs',h1,h2⟩:=hx i (by omega)
    obtain⟨-,h3,h4⟩:=World.cells?_some h1
    have hc:∀j,j<sz→W.cell? ⟨b,o+i*sz+j,none⟩=cs'[j]? :=fun j hj=>by
     have:=h4 j hj
     rw[Go.WideShapes.add_plain,Go.WideShapes.add_plain]at this
     exact this
    obtain⟨q,hq⟩:=hel b (o+i*sz) cs' _ _ h3 hc h2 (hD i hi)
    refine⟨q,?_,hq⟩
    have:=hc 0 hpos
    rw[List.getElem?_eq_getElem (by omega)]at this
    exact cell_lt this
   obtain⟨f,hf⟩:=Go.Deep.choose_lt hk
   refine⟨_,(List.range len).map f,rfl,some ⟨b,o,none⟩,b,o,cap,by simp,fun _=>rfl,by simpa using hl,by simp;omega,fun k hk'=>?_⟩
   have hkl:k<len:=by simpa using hk'
   have e:((List.range len).map f).getD k d=f k:=by simp[hkl,List.getD_eq_getElem?_getD]
   rw[e]
   exact hf k hkl
  ·obtain rfl:len=0:=by omega
   exact⟨_,[],rfl,some a,0,0,cap,rfl,fun h=>absurd h (by simp),by simp,by simp,fun k hk=>absurd hk (by simp)⟩
set_option maxRecDepth 100000 in
theorem nodes_in{N fuel:Nat}{cs:List Value}{x:DataW H×List MemPlace}(hN:Rows.uptoBulk x.1≤N)(h:DataW.trod enc Tryd.prog W base sp held fuel 22 cs=some x):∃v l,cs=[v]∧Ns W W.heap.size v l∧∀k,k<l.length→(l.getD k default).ins.length≤N:=by
 obtain⟨v,l,rfl,ha⟩:=arr_in (α:=Nd) (d:=default) (R:=fun w B b p q=>NdAt w B b p q∧q.ins.length≤N) Tryd.underlying22 c_nd (by decide) (fun b p cs' y n h3 hc ht hb=>by
  obtain⟨y0,y1,y2,y3,n',hy,-,h0,h1,h2,h3'⟩:=Joins.trod_struct4 Tryd.underlying57 ht
  match cs',h3 with
  |[u0,u1,u2,u3],_=>
   rw[c_kd]at h0
   rw[c_is]at h1
   rw[c_int]at h2 h3'
   obtain⟨k,e0,-,wk⟩:=DataW.trod_int Tryd.underlying55 h0
   obtain⟨s,l,e1,hi⟩:=ints_of h1
   obtain⟨m,e2,-,-⟩:=DataW.trod_int Tryd.underlying3 h2
   obtain⟨t,e3,-,-⟩:=DataW.trod_int Tryd.underlying3 h3'
   simp at e0 e1 e2 e3
   subst e0 e1 e2 e3
   have hl:l.length≤N:=by
    have h5:l.length≤Rows.uptoBulk y1.1:=ints_len (v:=u1) (by simpa using h1) hi
    refine Nat.le_trans h5 (Nat.le_trans ?_ hb)
    rw[hy]
    show _≤Rows.uptoBulk (.agg [y0.1,y1.1,y2.1,y3.1])
    rw[bulk_agg]
    have:=bulkAll_mem (d:=y1.1) (l:=[y0.1,y1.1,y2.1,y3.1]) (by simp)
    omega
   have q0:=hc 0 (by decide)
   have q1:=hc 1 (by decide)
   have q2:=hc 2 (by decide)
   have q3:=hc 3 (by decide)
   exact⟨⟨k,l,m,t⟩,⟨u1,q0,q1,q2,q3,hi,(bounds_u8 wk).1,(bounds_u8 wk).2⟩,hl⟩) hN h
 refine⟨v,l,rfl,?_,?_⟩
 ·obtain⟨A,b,o,c,h1,h2,h3,h4,h5⟩:=ha
  exact⟨A,b,o,c,h1,h2,h3,h4,fun k hk=>⟨(h5 k hk).1,(h5 k hk).2.1⟩⟩
 ·obtain⟨A,b,o,c,h1,h2,h3,h4,h5⟩:=ha
  exact fun k hk=>(h5 k hk).2.2
end
end Go.Proofs.YtjdjcaobkmpoeaaDoor
