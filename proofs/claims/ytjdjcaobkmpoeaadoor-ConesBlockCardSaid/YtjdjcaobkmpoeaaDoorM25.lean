/- The texts Ofv. -/
import Derived.Test.YtjdjcaobkmpoeaaDoorM24
import Derived.Test.YtjdjcaobkmpoeaaDoorM10
namespace Go.Proofs.YtjdjcaobkmpoeaaDoor
open Go.RowKit
theorem ofTo_mem{nodes:List Nd}{kl:List Int}{k:Nat}{x:Int}(h:x∈ofTo nodes kl k):∃i:Nat,x=(i:Int)∧i<k∧isK kl (nodes.getD i default).kind=true:=by
 unfold ofTo at h
 obtain⟨i,hi,rfl⟩:=List.mem_map.1 h
 obtain⟨h1,h2⟩:=List.mem_filter.1 hi
 exact⟨i,rfl,List.mem_range.1 h1,h2⟩
theorem ints_mem{l:List Int}{k:Nat}(h:k<l.length):l.getD k 0∈l:=by
 rw[List.getD_eq_getElem?_getD,List.getElem?_eq_getElem h];exact List.getElem_mem h
theorem tris_at{nodes:List Nd}{k:Nat}(h:k<(trisOf nodes).length):∃i:Nat,(trisOf nodes).getD k 0=(i:Int)∧i<nodes.length∧(nodes.getD i default).kind=12:=by
 obtain⟨i,h1,h2,h3⟩:=ofTo_mem (ints_mem h)
 rw[isK_12]at h3
 exact⟨i,h1,h2,by simpa using h3⟩
structure Gate(nodes:List Nd)(nd:Nd):Prop where
 lo:1≤nd.kind
 hi:nd.kind≤13
 wid:Proofs.YtjdjcaobkmpoeaaDoor.lo nd.kind≤nd.ins.length∧(nd.ins.length:Int)≤Proofs.YtjdjcaobkmpoeaaDoor.hi nd.kind
 ins:∀y∈nd.ins,∃i:Nat,y=(i:Int)∧i<nodes.length
 bus:nd.kind=13→∀y∈nd.ins,(nodes.getD y.toNat default).kind=12
 mem:nd.mem=0
 bit:nd.bit=0
theorem gate_good(bus:Bool)(g:Gx)(hg:Gok g)(nodes:List Nd)(h0:0<nodes.length):Gate nodes (gateN bus g nodes):=by
 obtain⟨gk,g0,g1,g2⟩:=g
 obtain⟨⟨hk0,hk1⟩,⟨h00,h01⟩,-,-⟩:=hg
 dsimp only at hk0 hk1 h00 h01
 obtain⟨ka,hka,hkal⟩:=ix_lt g0 h0
 obtain⟨kb,hkb,hkbl⟩:=ix_lt g1 h0
 obtain⟨kd,hkd,hkdl⟩:=ix_lt g2 h0
 have hr:=kindG_ge bus gk
 unfold ix at hka hkb hkd
 by_cases h6:kindG bus gk<6
 ·have hc:kindG bus gk=0∨kindG bus gk=1∨kindG bus gk=2∨kindG bus gk=3∨kindG bus gk=4∨kindG bus gk=5:=by omega
  by_cases h128:128≤gk
  ·rw[gateN_lt3 rfl h6 h128 hka hkb hkd]
   refine⟨by dsimp only;omega,by dsimp only;omega,?_,?_,(fun h=>by dsimp only at h;omega),rfl,rfl⟩
   ·dsimp only
    rcases hc with h|h|h|h|h|h<;>rw[h]<;>simp only[List.length_cons,List.length_nil]<;>exact⟨by decide,by decide⟩
   ·intro y hy
    simp only[List.mem_cons,List.not_mem_nil,or_false]at hy
    rcases hy with rfl|rfl|rfl
    ·exact⟨ka,rfl,hkal⟩
    ·exact⟨kb,rfl,hkbl⟩
    ·exact⟨kd,rfl,hkdl⟩
  ·rw[gateN_lt rfl h6 h128 hka hkb]
   refine⟨by dsimp only;omega,by dsimp only;omega,?_,?_,(fun h=>by dsimp only at h;omega),rfl,rfl⟩
   ·dsimp only
    rcases hc with h|h|h|h|h|h<;>rw[h]<;>simp only[List.length_cons,List.length_nil]<;>exact⟨by decide,by decide⟩
   ·intro y hy
    simp only[List.mem_cons,List.not_mem_nil,or_false]at hy
    rcases hy with rfl|rfl
    ·exact⟨ka,rfl,hkal⟩
    ·exact⟨kb,rfl,hkbl⟩
 ·by_cases h7:kindG bus gk=6
  ·rw[gateN_not rfl h6 h7 hka]
   refine⟨(by dsimp only;first|decide|omega),(by dsimp only;first|decide|omega),⟨(by dsimp only;simp only[List.length_cons,List.length_nil];decide),(by dsimp only;simp only[List.length_cons,List.length_nil];decide)⟩,?_,(fun h=>by dsimp only at h;omega),rfl,rfl⟩
   intro y hy
   obtain rfl:=List.mem_singleton.1 hy
   exact⟨ka,rfl,hkal⟩
  ·by_cases h8:kindG bus gk=7
   ·rw[gateN_mux rfl h6 h7 h8 hka hkb hkd]
    refine⟨(by dsimp only;first|decide|omega),(by dsimp only;first|decide|omega),⟨(by dsimp only;simp only[List.length_cons,List.length_nil];decide),(by dsimp only;simp only[List.length_cons,List.length_nil];decide)⟩,?_,(fun h=>by dsimp only at h;omega),rfl,rfl⟩
    intro y hy
    simp only[List.mem_cons,List.not_mem_nil,or_false]at hy
    rcases hy with rfl|rfl|rfl
    ·exact⟨ka,rfl,hkal⟩
    ·exact⟨kb,rfl,hkbl⟩
    ·exact⟨kd,rfl,hkdl⟩
   ·by_cases h9:kindG bus gk=9∨kindG bus gk=10
    ·rw[gateN_tri rfl h9 hka hkb]
     refine⟨(by dsimp only;first|decide|omega),(by dsimp only;first|decide|omega),⟨(by dsimp only;simp only[List.length_cons,List.length_nil];decide),(by dsimp only;simp only[List.length_cons,List.length_nil];decide)⟩,?_,(fun h=>by dsimp only at h;omega),rfl,rfl⟩
     intro y hy
     simp only[List.mem_cons,List.not_mem_nil,or_false]at hy
     rcases hy with rfl|rfl
     ·exact⟨ka,rfl,hkal⟩
     ·exact⟨kb,rfl,hkbl⟩
    ·by_cases h10:10<kindG bus gk∧0<(trisOf nodes).length
     ·obtain⟨kt,hkt,hktl⟩:=ix_lt g0 h10.2
      unfold ix at hkt
      obtain⟨i,e1,e2,e3⟩:=tris_at hktl
      by_cases h1:1<(trisOf nodes).length
      ·obtain⟨ku,hku,hkul⟩:=ix_lt ((kt:Int)+1) h10.2
       unfold ix at hku
       obtain⟨j,f1,f2,f3⟩:=tris_at hkul
       rw[gateN_bus2 h10.1 rfl h1 hkt hku rfl rfl,e1,f1]
       refine⟨(by dsimp only;first|decide|omega),(by dsimp only;first|decide|omega),⟨(by dsimp only;simp only[List.length_cons,List.length_nil];decide),(by dsimp only;simp only[List.length_cons,List.length_nil];decide)⟩,?_,fun _=>?_,rfl,rfl⟩
       ·intro y hy
        simp only[List.mem_cons,List.not_mem_nil,or_false]at hy
        rcases hy with rfl|rfl
        ·exact⟨i,rfl,e2⟩
        ·exact⟨j,rfl,f2⟩
       ·intro y hy
        simp only[List.mem_cons,List.not_mem_nil,or_false]at hy
        rcases hy with rfl|rfl
        ·exact e3
        ·exact f3
      ·rw[gateN_bus1 h10.1 rfl h10.2 h1 hkt rfl,e1]
       refine⟨(by dsimp only;first|decide|omega),(by dsimp only;first|decide|omega),⟨(by dsimp only;simp only[List.length_cons,List.length_nil];decide),(by dsimp only;simp only[List.length_cons,List.length_nil];decide)⟩,?_,fun _=>?_,rfl,rfl⟩
       ·intro y hy
        obtain rfl:=List.mem_singleton.1 hy
        exact⟨i,rfl,e2⟩
       ·intro y hy
        obtain rfl:=List.mem_singleton.1 hy
        exact e3
     ·by_cases h240:240<gk
      ·rw[gateN_const h6 h7 h8 (fun h=>h9 (.inl h)) (fun h=>h9 (.inr h)) h10 h240]
       have hc:g0%2=0∨g0%2=1:=by omega
       refine⟨by dsimp only;omega,by dsimp only;omega,?_,(fun y hy=>absurd hy (List.not_mem_nil)),(fun h=>by dsimp only at h;omega),rfl,rfl⟩
       dsimp only
       rcases hc with h|h<;>rw[h]<;>simp only[List.length_cons,List.length_nil]<;>exact⟨by decide,by decide⟩
      ·rw[gateN_buf rfl h6 h7 h8 (fun h=>h9 (.inl h)) (fun h=>h9 (.inr h)) h10 h240 hka]
       refine⟨(by dsimp only;first|decide|omega),(by dsimp only;first|decide|omega),⟨(by dsimp only;simp only[List.length_cons,List.length_nil];decide),(by dsimp only;simp only[List.length_cons,List.length_nil];decide)⟩,?_,(fun h=>by dsimp only at h;omega),rfl,rfl⟩
       intro y hy
       obtain rfl:=List.mem_singleton.1 hy
       exact⟨ka,rfl,hkal⟩
theorem gatesTo_pre(x:Cx)(k:Nat){j:Nat}(hj:j<(gatesTo x k).length):∀d,(gatesTo x (k+d)).getD j default=(gatesTo x k).getD j default
 |0=>rfl
 |d+1=>by
  have h1:=gatesTo_len x k
  have h2:=gatesTo_len x (k+d)
  rw[←Nat.add_assoc,gatesTo,getD_append_left' _ _ _ _ (by omega),gatesTo_pre x k hj d]
theorem gatesTo_at(x:Cx){k m:Nat}(hk:k<m):(gatesTo x m).getD ((baseN x).length+k) default=gateN x.bus (x.gates.getD k default) (gatesTo x k):=by
 have h1:=gatesTo_len x k
 have h2:=gatesTo_len x (k+1)
 have h:=gatesTo_pre x (k+1) (j:=(baseN x).length+k) (by omega) (m-(k+1))
 rw[show k+1+(m-(k+1))=m by omega]at h
 rw[h,gatesTo,getD_snoc' _ _ _ _ (by omega),if_pos h1.symm]
theorem dffTo_other(x:Cx){j:Nat} :∀k,k≤dffsN x→(j<firstN x∨firstN x+k≤j)→(dffTo x k).getD j default=(gatesTo x (gatesN x)).getD j default
 |0,_,_=>rfl
 |k+1,hk,hj=>by
  have h:=sizeN_le x
  rw[dffTo,getD_set' _ _ _ _ _ (by rw[dffTo_len];omega),if_neg (by omega),dffTo_other x k (by omega) (by omega)]
theorem dffTo_done(x:Cx){j:Nat} :∀k,j<k→k≤dffsN x→(dffTo x k).getD (firstN x+j) default=dffN (ix (dataN x j) (sizeN x))
 |k+1,hj,hk=>by
  have h:=sizeN_le x
  rw[dffTo,getD_set' _ _ _ _ _ (by rw[dffTo_len];omega)]
  by_cases e:j=k
  ·subst e;rw[if_pos rfl];rfl
  ·rw[if_neg (by omega)]
   exact dffTo_done x k (by omega) (by omega)
theorem node_cases(x:Cx)(hx:Cok x)(j:Nat)(hj:j<sizeN x):
 (j<firstN x∧(nodesN x).getD j default=inputN)∨(∃d,(nodesN x).getD j default=dffN (ix d (sizeN x)))∨(x.mem=true∧((nodesN x).getD j default=⟨15,[],0,0⟩∨(nodesN x).getD j default=⟨15,[],0,1⟩))∨
   ∃k g,k<gatesN x∧j=(gatesTo x k).length∧Gok g∧(nodesN x).getD j default=gateN x.bus g (gatesTo x k):=by
 have hb:=baseN_len x
 have hg:=gatesTo_len x (gatesN x)
 have hs:sizeN x=(gatesTo x (gatesN x)).length:=rfl
 have hgn:gatesN x≤x.gates.length:=by unfold gatesN;omega
 by_cases h1:j<firstN x
 ·refine .inl ⟨h1,?_⟩
  unfold nodesN
  rw[dffTo_other x _ (Nat.le_refl _) (.inl h1),gatesTo_base x j (by omega)]
  unfold baseN
  rw[List.append_assoc,getD_append_left' _ _ _ _ (by simpa using h1)]
  simp[List.getD_eq_getElem?_getD,h1]
 ·by_cases h2:j<firstN x+dffsN x
  ·refine .inr (.inl ⟨dataN x (j-firstN x),?_⟩)
   have h:=dffTo_done x (j:=j-firstN x) (dffsN x) (by omega) (Nat.le_refl _)
   rw[show firstN x+(j-firstN x)=j by omega]at h
   exact h
  ·have h3:(nodesN x).getD j default=(gatesTo x (gatesN x)).getD j default:=dffTo_other x _ (Nat.le_refl _) (.inr (by omega))
   by_cases h4:j<(baseN x).length
   ·refine .inr (.inr (.inl ?_))
    rw[h3,gatesTo_base x j h4]
    cases hm:x.mem
    ·rw[hm]at hb;simp at hb;omega
    ·refine⟨rfl,?_⟩
     rw[hm]at hb
     simp at hb
     have e:baseN x=(List.replicate (firstN x) inputN++List.replicate (dffsN x) (dffN 0))++[⟨15,[],0,0⟩,⟨15,[],0,1⟩]:=by unfold baseN;rw[hm,if_pos rfl]
     rw[e,List.getD_eq_getElem?_getD,List.getElem?_append_right (by simp;omega)]
     have hc:j-(firstN x+dffsN x)=0∨j-(firstN x+dffsN x)=1:=by omega
     rcases hc with hc|hc
     ·left;simp[hc]
     ·right;simp[hc]
   ·refine .inr (.inr (.inr ⟨j-(baseN x).length,x.gates.getD (j-(baseN x).length) default,by omega,?_,hx.gates _ (by omega),?_⟩))
    ·rw[gatesTo_len];omega
    ·rw[h3]
     have h:=gatesTo_at x (k:=j-(baseN x).length) (m:=gatesN x) (by omega)
     rw[show (baseN x).length+(j-(baseN x).length)=j by omega]at h
     exact h
theorem kind_same(x:Cx)(j:Nat)(hj:j<sizeN x):((nodesN x).getD j default).kind=((gatesTo x (gatesN x)).getD j default).kind:=by
 by_cases h:j<firstN x∨firstN x+dffsN x≤j
 ·unfold nodesN;rw[dffTo_other x _ (Nat.le_refl _) h]
 ·have h1:=dffTo_done x (j:=j-firstN x) (dffsN x) (by omega) (Nat.le_refl _)
  have h2:=dffTo_at x (j-firstN x) (by omega) 0 (Nat.zero_le _)
  rw[show firstN x+(j-firstN x)=j by omega]at h1 h2
  rw[show nodesN x=dffTo x (dffsN x) from rfl,h1,show gatesTo x (gatesN x)=dffTo x 0 from rfl,h2];rfl
theorem ix_in(a:Int){n:Nat}(h:0<n):0≤ix a n∧ix a n<(n:Int):=by
 obtain⟨k,h1,h2⟩:=ix_lt a h
 omega
theorem ofC_node(x:Cx)(hx:Cok x)(j:Nat)(hj:j<sizeN x):nodeErr (ofC x) ((nodesN x).getD j default)=0:=by
 have hz:=sizeN_le x
 have hlen:(ofC x).nodes.length=sizeN x:=ofC_len x
 unfold nodeErr
 rcases node_cases x hx j hj with⟨-,h⟩| ⟨d,h⟩| ⟨hm,h⟩| ⟨k,g,hk,hjk,hg,h⟩
 ·rw[h];rfl
 ·have hi:=ix_in d (n:=sizeN x) (by omega)
  rw[h]
  have ha:areIdx (ofC x).nodes.length (dffN (ix d (sizeN x))).ins=true:=areIdx_iff.2 (by
   intro y hy
   obtain rfl:=List.mem_singleton.1 hy
   rw[hlen];exact hi)
  rw[ha]
  rfl
 ·have e:(ofC x).mems=memsN x:=rfl
  have e2:memsN x=[⟨[ix x.p0 (sizeN x)],[ix x.p1 (sizeN x),ix x.p2 (sizeN x)],ix x.p3 (sizeN x)⟩]:=by unfold memsN;rw[if_pos hm]
  rcases h with h|h
  ·rw[h];unfold placeOk;rw[e,e2];rfl
  ·rw[h];unfold placeOk;rw[e,e2];rfl
 ·have h0:0<(gatesTo x k).length:=by rw[gatesTo_len,baseN_len];have:=firstN_le x;omega
  have G:=gate_good x.bus g hg (gatesTo x k) h0
  rw[h]
  have ha:areIdx (ofC x).nodes.length (gateN x.bus g (gatesTo x k)).ins=true:=areIdx_iff.2 (by
   intro y hy
   obtain⟨i,rfl,hi⟩:=G.ins y hy
   rw[hlen];omega)
  have hb:¬((gateN x.bus g (gatesTo x k)).kind=13∧anyP (notTri (ofC x)) (gateN x.bus g (gatesTo x k)).ins=true):=by
   rintro⟨h13,hany⟩
   obtain⟨y,hy,hn⟩:=List.any_eq_true.1 hany
   obtain⟨i,rfl,hi⟩:=G.ins y hy
   have hk2:=G.bus h13 _ hy
   rw[Int.toNat_natCast]at hk2
   have h3:=gatesTo_pre x k hi (gatesN x-k)
   rw[show k+(gatesN x-k)=gatesN x by omega]at h3
   have h4:=kind_same x i (by omega)
   rw[h3,hk2]at h4
   unfold notTri at hn
   rw[Int.toNat_natCast,show (ofC x).nodes=nodesN x from rfl,h4]at hn
   cases hn
  have hp:placeOk (ofC x) (gateN x.bus g (gatesTo x k))=true:=by
   unfold placeOk
   have:=G.hi
   rw[if_neg (by omega),G.mem,G.bit];rfl
  have h1:=G.lo
  have h2:=G.hi
  have h3:=G.wid
  rw[if_neg (by omega),if_neg (by omega),if_neg (by omega),ha,if_neg (by decide),if_neg hb,hp]
  rfl
theorem names_ok:∀n:Nat,n≤16→namesOk ((List.range n).map nameB)=true:=by
 intro n hn
 have hc:n=0∨n=1∨n=2∨n=3∨n=4∨n=5∨n=6∨n=7∨n=8∨n=9∨n=10∨n=11∨n=12∨n=13∨n=14∨n=15∨n=16:=by omega
 rcases hc with rfl|rfl|rfl|rfl|rfl|rfl|rfl|rfl|rfl|rfl|rfl|rfl|rfl|rfl|rfl|rfl|rfl<;>decide+kernel
def lvTo(nodes:List Nd):Nat→List Int
 |0=>[]
 |k+1=>lvTo nodes k++[levf (lvTo nodes k) (dep nodes k)]
theorem lvTo_len(nodes:List Nd):∀k,(lvTo nodes k).length=k
 |0=>rfl
 |k+1=>by rw[lvTo,List.length_append,lvTo_len nodes k];rfl
theorem lvTo_pre(nodes:List Nd)(k:Nat){x:Int}(hx:x.toNat<k):∀d,lat (lvTo nodes (k+d)) x=lat (lvTo nodes k) x
 |0=>rfl
 |d+1=>by
  have h:=lvTo_len nodes (k+d)
  rw[←Nat.add_assoc,lvTo]
  unfold lat
  rw[getD_append_left' _ _ _ _ (by omega)]
  exact lvTo_pre nodes k hx d
theorem lvl_of{nodes:List Nd}(h:∀i:Nat,i<nodes.length→∀y∈dep nodes i,y.toNat<i):∃L,Lvl nodes L:=by
 refine⟨lvTo nodes nodes.length,lvTo_len _ _,fun i hi=>?_⟩
 have h1:=lvTo_pre nodes (i+1) (x:=(i:Int)) (by simp) (nodes.length-(i+1))
 rw[show i+1+(nodes.length-(i+1))=nodes.length by omega]at h1
 have h2:lat (lvTo nodes (i+1)) (i:Int)=levf (lvTo nodes i) (dep nodes i):=by
  unfold lat
  rw[lvTo,Int.toNat_natCast,getD_snoc' _ _ _ _ (by rw[lvTo_len];omega),if_pos (lvTo_len nodes i).symm]
 rw[h1,h2]
 refine levf_congr fun y hy=>?_
 have h3:=lvTo_pre nodes i (h i hi y hy) (nodes.length-i)
 rw[show i+(nodes.length-i)=nodes.length by omega]at h3
 exact h3.symm
theorem ofC_lvl(x:Cx)(hx:Cok x):∃L,Lvl (nodesN x) L:=by
 refine lvl_of fun i hi y hy=>?_
 rw[show (nodesN x).length=sizeN x from dffTo_len x _]at hi
 unfold dep depsOf at hy
 rw[Int.toNat_natCast]at hy
 rcases node_cases x hx i hi with⟨-,h⟩| ⟨d,h⟩| ⟨-,h|h⟩| ⟨k,g,hk,hik,hg,h⟩
 ·rw[h]at hy;cases hy
 ·rw[h,show cmb (dffN (ix d (sizeN x))).kind=false from rfl]at hy;cases hy
 ·rw[h]at hy;cases hy
 ·rw[h]at hy;cases hy
 ·rw[h]at hy
  split at hy
  ·obtain⟨j,rfl,hj⟩:=(gate_good x.bus g hg (gatesTo x k) (by rw[gatesTo_len,baseN_len];have:=firstN_le x;omega)).ins y hy
   rw[Int.toNat_natCast];omega
  ·cases hy
theorem ofC_shape(x:Cx)(hx:Cok x):shapeErr (ofC x)=0:=by
 have hz:=sizeN_le x
 have hlen:(ofC x).nodes.length=sizeN x:=ofC_len x
 have hnm:(ofC x).names.length=sizeN x:=by simp[ofC]
 have hml:(ofC x).mems.length≤1:=by show (memsN x).length≤1;unfold memsN;split<;>simp
 have hol:(ofC x).outs.length≤4:=by
  show (outsTo x (outsN x)++_).length≤4
  rw[List.length_append,outsTo_len]
  have:outsN x≤3:=by unfold outsN;omega
  simp;omega
 have h1:firstE (nodeErr (ofC x)) (ofC x).nodes=0:=firstE_none default _ _ fun j hj=>ofC_node x hx j (by rw[hlen]at hj;exact hj)
 have h2:namesOk (ofC x).names=true:=names_ok _ (by omega)
 have h3:firstE (memErr (ofC x)) (ofC x).mems=0:=by
  show firstE (memErr (ofC x)) (memsN x)=0
  unfold memsN
  split
  ·have p0:=ix_in x.p0 (n:=sizeN x) (by omega)
   have p1:=ix_in x.p1 (n:=sizeN x) (by omega)
   have p2:=ix_in x.p2 (n:=sizeN x) (by omega)
   have p3:=ix_in x.p3 (n:=sizeN x) (by omega)
   unfold firstE
   rw[if_pos]
   ·rfl
   ·unfold memErr
    rw[if_neg (by simp),if_neg]
    rw[hlen]
    rintro (h|h|h)
    ·rw[isIdx_iff.2 p3]at h;cases h
    ·rw[areIdx_iff.2 (fun y hy=>by obtain rfl:=List.mem_singleton.1 hy;exact p0)]at h;cases h
    ·rw[areIdx_iff.2 (fun y hy=>by simp only[List.mem_cons,List.not_mem_nil,or_false]at hy;rcases hy with rfl|rfl;exact p1;exact p2)]at h;cases h
  ·rfl
 have h4:areIdx (ofC x).nodes.length (ofC x).outs=true:=areIdx_iff.2 (by
  intro y hy
  rw[hlen]
  rcases List.mem_append.1 (show y∈outsTo x (outsN x)++[(sizeN x:Int)-1] from hy) with h|h
  ·unfold outsTo at h
   obtain⟨i,-,rfl⟩:=List.mem_map.1 h
   exact ix_in _ (by omega)
  ·obtain rfl:=List.mem_singleton.1 h
   omega)
 unfold shapeErr
 rw[if_neg (by omega),if_neg (by omega),h1,if_neg (by decide),h2,if_neg (by decide),h3,if_neg (by decide),h4]
 rfl
theorem ofC_ok(x:Cx)(hx:Cok x):chkErr (ofC x)=0:=by
 unfold chkErr
 rw[if_neg (by rw[ofC_shape x hx];decide),if_pos (show ∃L,Lvl (ofC x).nodes L from ofC_lvl x hx)]
end Go.Proofs.YtjdjcaobkmpoeaaDoor
