/- The texts Ofs Ofv. -/
import Derived.Test.YtcbllelkgniogaaDoorM22
import Derived.Test.YtcbllelkgniogaaDoorM23
import Derived.Test.YtcbllelkgniogaaDoorM24
import Derived.Test.YtcbllelkgniogaaDoorM13
namespace Go.Proofs.YtcbllelkgniogaaDoor
open Go.RowKit
def GAt(w:World)(_B b p:Nat)(g:Gx):Prop:=w.cell? ⟨b,p,none⟩=some (.int .u8 g.kind)∧w.cell? ⟨b,p+1,none⟩=some (.int .u8 g.i0)∧w.cell? ⟨b,p+2,none⟩=some (.int .u8 g.i1)∧w.cell? ⟨b,p+3,none⟩=some (.int .u8 g.i2)
theorem stays_g:Stays GAt:=fun w w' B B' b p x hb hB ⟨h0,h1,h2,h3⟩ hk=>⟨(hk ⟨b,p,none⟩ hb).trans h0,(hk ⟨b,p+1,none⟩ hb).trans h1,(hk ⟨b,p+2,none⟩ hb).trans h2,(hk ⟨b,p+3,none⟩ hb).trans h3⟩
def Gs(w:World)(B:Nat)(v:Value)(l:List Gx):Prop:=Arr default 4 GAt w B v l
theorem Gs.below{w w':World}{B:Nat}{v:Value}{l:List Gx}(h:Gs w B v l)(hb:Below B w w'):Gs w' B v l:=Arr.keep stays_g h (Nat.le_refl _) fun _ hp=>hb.cell hp
def xCs(x:Cx)(sG sO:Value):List Value:=[.int .u8 x.inN,.int .u8 x.dffs,.int .u8 x.d0,.int .u8 x.d1,.bool x.bus,.bool x.mem,.int .u8 x.p0,.int .u8 x.p1,.int .u8 x.p2,.int .u8 x.p3,sG,sO]
def nil4:List Value:=[.slice none 0 0,.slice none 0 0,.slice none 0 0,.slice none 0 0]
structure OW(xs:List Value)(w:World)(q1 q2 q3 T:Nat)(sN sS sM sO:Value)(wr:World):Prop where
 bel:Below w.heap.size w wr
 low:T≤wr.heap.size
 e1:w.heap.size≤q1
 e2:q1<q2
 e3:q2<q3
 eT:q3<T
 fx:Fr wr q1 27 xs
 fr:Fr wr q2 39 nil4
 fc:Fr wr q3 39 [sN,sS,sM,sO]
section
variable {xs:List Value} {w wr w1 w2:World} {q1 q2 q3 T:Nat} {sN sS sM sO u:Value}
theorem OW.next(h:OW xs w q1 q2 q3 T sN sS sM sO wr)(hb:Below wr.heap.size wr w1):OW xs w q1 q2 q3 T sN sS sM sO w1:=
 ⟨joinB h.bel hb,Nat.le_trans h.low hb.size,h.e1,h.e2,h.e3,h.eT,h.fx.below hb,h.fr.below hb,h.fc.below hb⟩
theorem Fr.grown{g:Nat}{t:TypeId}{cs:List Value}{R:Option Nat}(h:Fr wr g t cs)(hg:wr.grownBy w1 R)(hR:R≠some g):Fr w1 g t cs:=
 (hg.block g h.lt (fun e=>hR e.symm)).trans h
theorem OW.grown{R:Option Nat}(h:OW xs w q1 q2 q3 T sN sS sM sO wr)(hg:wr.grownBy w1 R)(hR:∀q,R=some q→T≤q):OW xs w q1 q2 q3 T sN sS sM sO w1:=by
 have a1:=h.e1;have a2:=h.e2;have a3:=h.e3;have a4:=h.eT
 refine⟨Below.grown h.bel hg (Below.size h.bel) (fun q hq=>?_),Nat.le_trans h.low hg.size,a1,a2,a3,a4,h.fx.grown hg ?_,h.fr.grown hg ?_,h.fc.grown hg ?_⟩
 ·have:=hR q hq;omega
 ·intro e;have:=hR _ e;omega
 ·intro e;have:=hR _ e;omega
 ·intro e;have:=hR _ e;omega
theorem OW.set(h:OW xs w q1 q2 q3 T sN sS sM sO wr)(j:Nat)(v:Value){sN' sS' sM' sO':Value}(e:[sN,sS,sM,sO].set j v=[sN',sS',sM',sO']):OW xs w q1 q2 q3 T sN' sS' sM' sO' (wr.setCell ⟨q3,j,none⟩ v):=by
 have a1:=h.e1;have a2:=h.e2;have a3:=h.e3;have a4:=h.eT
 exact⟨Below.setCell h.bel (by show w.heap.size≤q3;omega) v,by simpa using h.low,a1,a2,a3,a4,h.fx.other (a:=⟨q3,j,none⟩) (by show q3≠q1;omega) v,h.fr.other (a:=⟨q3,j,none⟩) (by show q3≠q2;omega) v,by rw[←e];exact h.fc.set j v⟩
theorem OW.drewN(h:OW xs w q1 q2 q3 T sN sS sM sO wr)(n:Nat):OW xs w q1 q2 q3 T sN sS sM sO (wr.drewN n):=h.next (below_drewN (Below.refl _ _) n)
theorem OW.cells(h:OW xs w q1 q2 q3 T sN sS sM sO wr):wr.cell? ⟨q3,0,none⟩=some sN∧wr.cell? ⟨q3,1,none⟩=some sS∧wr.cell? ⟨q3,2,none⟩=some sM∧wr.cell? ⟨q3,3,none⟩=some sO∧
 wr.frozen? ⟨q3,0,none⟩=false∧wr.frozen? ⟨q3,1,none⟩=false∧wr.frozen? ⟨q3,2,none⟩=false∧wr.frozen? ⟨q3,3,none⟩=false∧q3<wr.heap.size∧¬q3=wr.heap.size:=
 ⟨h.fc.cell 0,h.fc.cell 1,h.fc.cell 2,h.fc.cell 3,h.fc.frozen 0,h.fc.frozen 1,h.fc.frozen 2,h.fc.frozen 3,h.fc.lt,by have:=h.fc.lt;omega⟩
theorem OW.args{x:Cx}{sG sA:Value}(h:OW (xCs x sG sA) w q1 q2 q3 T sN sS sM sO wr):wr.cell? ⟨q1,0,none⟩=some (.int .u8 x.inN)∧wr.cell? ⟨q1,1,none⟩=some (.int .u8 x.dffs)∧wr.cell? ⟨q1,5,none⟩=some (.bool x.mem)∧wr.cell? ⟨q1,10,none⟩=some sG∧wr.cell? ⟨q1,11,none⟩=some sA∧q1<wr.heap.size∧¬q1=wr.heap.size:=
 ⟨h.fx.cell 0,h.fx.cell 1,h.fx.cell 5,h.fx.cell 10,h.fx.cell 11,h.fx.lt,by have:=h.fx.lt;omega⟩
theorem push_nodes{o:Obj}{l:List Nd}{ss:List Value}{nd:Nd}{s v':Value}(h:OW xs w q1 q2 q3 T sN sS sM sO wr)(hr:NR wr T sN l ss)(hs:InG wr T sN.ownBlock s nd.ins)
 (hown:w2.ownsRow T 53 4 v' (l.length+1) (ndCs l ss++[.int .u8 nd.kind,s,.int .i64 nd.mem,.int .i64 nd.bit])) (hgr:(wr.alloc o).grownBy w2 sN.ownBlock) (hloc:v'.ownBlock=sN.ownBlock∨v'.ownBlock=some (wr.alloc o).heap.size):
 OW xs w q1 q2 q3 T sN sS sM sO w2∧NR w2 T v' (l++[nd]) (ss++[s]):=
 ⟨(h.next ((Below.refl _ _).alloc (Nat.le_refl _) o)).grown hgr (fun q hq=>(World.ownsRow.lt hr.row q hq).1),(hr.keep (Kp.alloc _ _ _ _)).push (hs.keep (Kp.alloc _ _ _ _) fun _ _ h=>h) hown hgr hloc⟩
end
theorem OW.drew{xs:List Value}{w wr:World}{q1 q2 q3 T:Nat}{sN sS sM sO:Value}(h:OW xs w q1 q2 q3 T sN sS sM sO wr):OW xs w q1 q2 q3 T sN sS sM sO wr.drew:=h.next (Below.refl _ _).drew
theorem OW.al{xs:List Value}{w wr:World}{q1 q2 q3 T:Nat}{sN sS sM sO:Value}(h:OW xs w q1 q2 q3 T sN sS sM sO wr)(o:Obj):OW xs w q1 q2 q3 T sN sS sM sO (wr.alloc o):=h.next ((Below.refl _ _).alloc (Nat.le_refl _) o)
theorem OW.srow{xs:List Value}{w wr:World}{q1 q2 q3 T g:Nat}{sN sS sM sO:Value}(h:OW xs w q1 q2 q3 T sN sS sM sO wr)(hg:T≤g)(j:Nat)(v:Value):OW xs w q1 q2 q3 T sN sS sM sO (wr.setCell ⟨g,j,none⟩ v):=
 h.grown (grown_set wr g j v) (fun q e=>by simp only[Option.some.injEq]at e;omega)
theorem gateN_kind(bus:Bool)(g:Gx)(nodes:List Nd)(hg:Gok g):0≤(gateN bus g nodes).kind∧(gateN bus g nodes).kind≤15:=by
 have h:=kindG_ge bus g.kind
 have h0:=hg.2.1
 unfold U8 at h0
 unfold gateN
 repeat' split
 all_goals (dsimp only;omega)
theorem baseN_kind(x:Cx):∀nd∈baseN x,0≤nd.kind∧nd.kind≤15:=by
 intro nd hnd
 unfold baseN at hnd
 rw[List.mem_append,List.mem_append]at hnd
 rcases hnd with (h|h)|h
 ·rw[(List.mem_replicate.1 h).2];decide
 ·rw[(List.mem_replicate.1 h).2];decide
 ·split at h
  ·simp at h;rcases h with rfl|rfl<;>decide
  ·simp at h
theorem gatesTo_kind(x:Cx)(hx:Cok x):∀k,k≤x.gates.length→∀nd∈gatesTo x k,0≤nd.kind∧nd.kind≤15
 |0,_=>baseN_kind x
 |k+1,hk=>by
  intro nd hnd
  rw[gatesTo,List.mem_append]at hnd
  rcases hnd with h|h
  ·exact gatesTo_kind x hx k (by omega) nd h
  ·rw[List.mem_singleton.1 h];exact gateN_kind _ _ _ (hx.gates k (by omega))
theorem getD_append_left'{α:Type}(d:α)(l l':List α)(k:Nat)(h:k<l.length):(l++l').getD k d=l.getD k d:=by simp[List.getD_eq_getElem?_getD,List.getElem?_append_left h]
theorem baseN_dff(x:Cx)(k:Nat)(hk:k<dffsN x):(baseN x).getD (firstN x+k) default=dffN 0:=by
 unfold baseN
 rw[getD_append_left' _ _ _ _ (by simp;omega),List.getD_eq_getElem?_getD,List.getElem?_append_right (by simp)]
 simp[hk]
theorem gatesTo_base(x:Cx)(j:Nat)(hj:j<(baseN x).length):∀k,(gatesTo x k).getD j default=(baseN x).getD j default
 |0=>rfl
 |k+1=>by
  rw[gatesTo,getD_append_left' _ _ _ _ (by rw[gatesTo_len];omega),gatesTo_base x j hj k]
theorem dffTo_at(x:Cx)(j:Nat)(hj:j<dffsN x):∀k,k≤j→(dffTo x k).getD (firstN x+j) default=dffN 0
 |0,_=>by
  have h:=baseN_len x
  show (gatesTo x (gatesN x)).getD _ _=_
  rw[gatesTo_base x _ (by rw[h];omega),baseN_dff x j hj]
 |k+1,hk=>by
  have h:=sizeN_le x
  rw[dffTo,getD_set' _ _ _ _ _ (by rw[dffTo_len];omega),if_neg (by omega),dffTo_at x j hj k (by omega)]
theorem dffTo_kind(x:Cx)(k:Nat)(hk:k<dffsN x)(i:Nat)(hi:i=firstN x+k):(14:Int)=((dffTo x k).getD i default).kind∧(0:Int)=((dffTo x k).getD i default).mem∧(0:Int)=((dffTo x k).getD i default).bit:=by
 subst hi
 rw[dffTo_at x k hk k (Nat.le_refl _)]
 exact⟨rfl,rfl,rfl⟩
theorem gate_c(x:Cx)(hx:Cok x)(k:Nat)(hk:k<x.gates.length)(hk8:k<8)(sG sA:Value){xs:List Value}{w wr W:World}{q1 q2 q3 T n c:Nat}{A:Option Addr}{sS sM sO:Value}{ss:List Value}{G:Nd}{g:Gx}(hgx:g=x.gates.getD k default)(hG:G=gateN x.bus g (gatesTo x k))(hn:(gatesTo x k).length=n)
 (how:OW xs w q1 q2 q3 T (.slice A n c) sS sM sO wr) (hnr:NR wr T (.slice A n c) (gatesTo x k) ss) (hb:Below wr.heap.size wr W):
 Calls Tryd.prog 31 #[.agg #[.int .u8 x.inN,.int .u8 x.dffs,.int .u8 x.d0,.int .u8 x.d1,.bool x.bus,.bool x.mem,.int .u8 x.p0,.int .u8 x.p1,.int .u8 x.p2,.int .u8 x.p3,sG,sA],.agg #[.int .u8 g.kind,.int .u8 g.i0,.int .u8 g.i1,.int .u8 g.i2],.slice A n c] W
  fun e w'=>(∃A' m cc,e=.returned (.agg #[.int .u8 G.kind,.slice A' m cc,.int .i64 G.mem,.int .i64 G.bit])∧InG w' T (Value.slice A n c).ownBlock (.slice A' m cc) G.ins)∧Below wr.heap.size wr w':=by
 subst hn hG hgx
 have hlen:=gatesTo_len x k
 have hbl:=baseN_len x
 have h1:=firstN_le x
 have h2:=dffsN_le x
 have hns:=hnr.reads (fun j hj=>by
  have:=gatesTo_kind x hx k (by omega) ((gatesTo x k).getD j default) (getD_mem_nd hj)
  omega)
 have hm2:(if x.mem=true then 2 else 0)≤2:=by split<;>omega
 refine (gate_any x.bus _ (hx.gates k hk) (gatesTo x k) _ _ _ _ _ _ _ _ _ _ _ A c W wr.heap.size hb.size (hns.below hb) (by omega) (by omega)).mono fun e w' ⟨⟨A',cc,h3,h4,h5⟩,h6⟩=>?_
 refine⟨⟨A',_,cc,h3,A',cc,rfl,h4,fun _ a ha=>?_⟩,joinB hb h6⟩
 have h7:=h5 a ha
 have h8:=hb.size
 have h9:=how.low
 refine⟨by omega,fun e=>?_⟩
 have:=(World.ownsRow.lt hnr.row _ e).2
 omega
theorem own_at{v:Value}{g9 H n c:Nat}(h:v.ownBlock=some g9∨g9=H):(Value.slice (some ⟨g9,0,none⟩) n c).ownBlock=v.ownBlock∨(Value.slice (some ⟨g9,0,none⟩) n c).ownBlock=some H:=by
 rcases h with h|h
 ·exact .inl h.symm
 ·exact .inr (by rw[←h];rfl)
theorem own_len{w:World}{T:Nat}{e:TypeId}{sz:Nat}{v:Value}{n m:Nat}{xs:List Value}(h:n=m)(hr:w.ownsRow T e sz v (m+1) xs):w.ownsRow T e sz v (n+1) xs:=by rw[h];exact hr
theorem outsTo_succ(x:Cx)(k:Nat):outsTo x (k+1)=outsTo x k++[ix (x.outs.getD k 0) (sizeN x)]:=by simp[outsTo,List.range_succ]
theorem outsTo_len(x:Cx)(k:Nat):(outsTo x k).length=k:=by simp[outsTo]
theorem stk_al'{w:World}{T k:Nat}{v:Value}{l:List Int}(h:Stk w T v l)(hk:l.length=k)(o:Obj):(w.alloc o).ownsRow T 3 1 v k (l.map (Value.int .i64)):=by
 subst hk;exact World.ownsRow.alloc h o
theorem stk_al{w:World}{T k:Nat}{v:Value}{l:List Int}(h:Stk w T v l)(hk:l.length=k)(o:Obj):(w.alloc o).drew.ownsRow T 3 1 v k (l.map (Value.int .i64)):=stk_al' h hk o
theorem stk_of{w:World}{T k:Nat}{v:Value}{l l':List Int}{y:Int}(e:l'=l++[y])(hk:l.length=k)(h:w.ownsRow T 3 1 v (k+1) (l.map (Value.int .i64)++[.int .i64 y])):Stk w T v l':=by
 subst e hk
 unfold Stk
 rw[List.length_append,List.map_append]
 exact h
def nameV(k:Nat):List Value:=(List.range k).map fun i=>Value.string (nameB i)
theorem nameV_succ(k:Nat):nameV (k+1)=nameV k++[.string (nameB k)]:=by simp[nameV,List.range_succ]
theorem dffTo_kinds(x:Cx)(hx:Cok x):∀k,∀nd∈dffTo x k,0≤nd.kind∧nd.kind≤15
 |0=>gatesTo_kind x hx _ (by unfold gatesN;omega)
 |k+1=>by
  intro nd hnd
  rw[dffTo]at hnd
  rcases List.mem_or_eq_of_mem_set hnd with h|rfl
  ·exact dffTo_kinds x hx k nd h
  ·exact⟨show (0:Int)≤14 by decide,show (14:Int)≤15 by decide⟩
theorem ss_of{w:World}{T k:Nat}{v:Value}(h:w.ownsRow T 9 1 v k (nameV k)):Ss w w.heap.size v ((List.range k).map nameB):=by
 rcases id h.2 with⟨rfl,hn⟩| ⟨g,cap,cur,rfl,hb,hg,hle,hm,-⟩
 ·subst hn;exact Arr.nil _ _ _ _ _
 ·refine⟨_,g,0,cap,by simp,fun _=>rfl,by simpa using hle,by simpa using Nat.le_trans hle hm,fun j hj=>⟨(Array.getElem?_eq_some_iff.1 hg).1,?_⟩⟩
  have hj':j<k:=by simpa using hj
  have e:((List.range k).map nameB).getD j ByteArray.empty=nameB j:=by simp[hj',List.getD_eq_getElem?_getD]
  rw[e]
  refine⟨?_,by show 3≤maxLen;unfold maxLen;omega⟩
  rw[Nat.zero_add,h.cellAt _ (by omega),Nat.mul_one]
  simp[nameV,hj']
theorem of_fin{x:Cx}(hx:Cok x){V1 wF:World}{T T2 H:Nat}{sN sS sM sO:Value}{ss:List Value}(hn:NR V1 T sN (nodesN x) ss)(hnm:V1.ownsRow T2 9 1 sS (sizeN x) (nameV (sizeN x)))(hT2:T≤T2)(hM:Ms wF wF.heap.size sM (memsN x))
 (ho:Stk wF H sO (outsTo x (outsN x)++[(sizeN x:Int)-1])) (hk:Kp T none V1 wF):Cir wF wF.heap.size (.agg #[sN,sS,sM,sO]) (ofC x):=by
 have hz:=sizeN_le x
 refine⟨_,_,_,_,rfl,(hn.keep hk).reads (fun k hk'=>?_),ss_of (own_kp hnm hT2 hk (Classical.em _)),hM,?_⟩
 ·have h:=dffTo_kinds x hx (dffsN x) ((nodesN x).getD k default) (getD_mem_nd hk')
  omega
 ·refine ho.all ?_
  rw[List.length_append,outsTo_len]
  have:outsN x≤3:=by unfold outsN;omega
  simp[maxLen];omega
theorem info_node:(Tryd.prog.info? 53).map (fun i=>(i.zero,i.size,i.bytes))=some (some (.agg #[.int .u8 0,.slice none 0 0,.int .i64 0,.int .i64 0]),4,48):=by kernel_rfl
theorem rep_succ(k:Nat)(x:Nd):List.replicate k x++[x]=List.replicate (k+1) x:=by rw[List.replicate_succ']
theorem four_new(w:World)(a b c d:Value)(t:TypeId){n:Nat}(hn:n=w.heap.size):∀(j:Nat) (x:Value),[a,b,c,d][j]? =some x→(w.alloc (.cells #[a,b,c,d] t)).cell? ((⟨n,0,none⟩:Addr).add j)=some x:=by
 subst hn
 intro j x hj
 have hadd:(⟨w.heap.size,0,none⟩:Addr).add j=⟨w.heap.size,j,none⟩:=by unfold Addr.add;split<;>simp_all
 rw[hadd,World.cell?_alloc_at _ _ _ _ rfl]
 simpa using hj
theorem eight_new(w:World)(a b c d e f g h:Value)(t:TypeId){n:Nat}(hn:n=w.heap.size):∀(j:Nat) (x:Value),[a,b,c,d,e,f,g,h][j]? =some x→(w.alloc (.cells #[a,b,c,d,e,f,g,h] t)).cell? ((⟨n,0,none⟩:Addr).add j)=some x:=by
 subst hn
 intro j x hj
 have hadd:(⟨w.heap.size,0,none⟩:Addr).add j=⟨w.heap.size,j,none⟩:=by unfold Addr.add;split<;>simp_all
 rw[hadd,World.cell?_alloc_at _ _ _ _ rfl]
 simpa using hj
theorem push_two{xs:List Value}{w wr w2:World}{q1 q2 q3 T n:Nat}{sN sS sM sO:Value}{o:Obj}{l:List Nd}{ss:List Value}{v':Value}(h:OW xs w q1 q2 q3 T sN sS sM sO wr)(hr:NR wr T sN l ss)(hn:l.length=n)
 (hown:w2.ownsRow T 53 4 v' (n+2) (ndCs l ss++[.int .u8 15,.slice none 0 0,.int .i64 0,.int .i64 0,.int .u8 15,.slice none 0 0,.int .i64 0,.int .i64 1])) (hgr:(wr.alloc o).grownBy w2 sN.ownBlock) (hloc:v'.ownBlock=sN.ownBlock∨v'.ownBlock=some (wr.alloc o).heap.size):
 OW xs w q1 q2 q3 T sN sS sM sO w2∧NR w2 T v' (l++[⟨15,[],0,0⟩,⟨15,[],0,1⟩]) (ss++[.slice none 0 0,.slice none 0 0]):=by
 subst hn
 refine⟨(h.next ((Below.refl _ _).alloc (Nat.le_refl _) o)).grown hgr (fun q hq=>(World.ownsRow.lt hr.row q hq).1),(hr.keep (Kp.alloc _ _ _ _)).app rfl (fun k hk=>?_) hown hgr hloc⟩
 have hk2:k=0∨k=1:=by simp at hk;omega
 rcases hk2 with rfl|rfl
 ·exact InG.nil _ _ _
 ·exact InG.nil _ _ _
theorem ofTo_mem{nodes:List Nd}{kl:List Int}{k:Nat}{x:Int}(h:x∈ofTo nodes kl k):∃i:Nat,x=(i:Int)∧i<k∧isK kl (nodes.getD i default).kind=true:=by
 unfold ofTo at h
 obtain⟨i,hi,rfl⟩:=List.mem_map.1 h
 obtain⟨h1,h2⟩:=List.mem_filter.1 hi
 exact⟨i,rfl,List.mem_range.1 h1,h2⟩
theorem ints_mem{l:List Int}{k:Nat}(h:k<l.length):l.getD k 0∈l:=by
 rw[List.getD_eq_getElem?_getD,List.getElem?_eq_getElem h];exact List.getElem_mem h
theorem tris_at{nodes:List Nd}{k:Nat}(h:k<(trisOf nodes).length):∃i:Nat,(trisOf nodes).getD k 0=(i:Int)∧i<nodes.length∧(nodes.getD i default).kind=12:=by
 obtain⟨i,h1,h2,h3⟩:=ofTo_mem (ints_mem h)
 rw[isK_12]at h3
 exact⟨i,h1,h2,by simpa using h3⟩
structure Gate(nodes:List Nd)(nd:Nd):Prop where
 lo:1≤nd.kind
 hi:nd.kind≤13
 wid:Proofs.YtcbllelkgniogaaDoor.lo nd.kind≤nd.ins.length∧(nd.ins.length:Int)≤Proofs.YtcbllelkgniogaaDoor.hi nd.kind
 ins:∀y∈nd.ins,∃i:Nat,y=(i:Int)∧i<nodes.length
 bus:nd.kind=13→∀y∈nd.ins,(nodes.getD y.toNat default).kind=12
 mem:nd.mem=0
 bit:nd.bit=0
theorem gate_good(bus:Bool)(g:Gx)(hg:Gok g)(nodes:List Nd)(h0:0<nodes.length):Gate nodes (gateN bus g nodes):=by
 obtain⟨gk,g0,g1,g2⟩:=g
 obtain⟨⟨hk0,hk1⟩,⟨h00,h01⟩,-,-⟩:=hg
 dsimp only at hk0 hk1 h00 h01
 obtain⟨ka,hka,hkal⟩:=ix_lt g0 h0
 obtain⟨kb,hkb,hkbl⟩:=ix_lt g1 h0
 obtain⟨kd,hkd,hkdl⟩:=ix_lt g2 h0
 have hr:=kindG_ge bus gk
 unfold ix at hka hkb hkd
 by_cases h6:kindG bus gk<6
 ·have hc:kindG bus gk=0∨kindG bus gk=1∨kindG bus gk=2∨kindG bus gk=3∨kindG bus gk=4∨kindG bus gk=5:=by omega
  by_cases h128:128≤gk
  ·rw[gateN_lt3 rfl h6 h128 hka hkb hkd]
   refine⟨by dsimp only;omega,by dsimp only;omega,?_,?_,(fun h=>by dsimp only at h;omega),rfl,rfl⟩
   ·dsimp only
    rcases hc with h|h|h|h|h|h<;>rw[h]<;>simp only[List.length_cons,List.length_nil]<;>exact⟨by decide,by decide⟩
   ·intro y hy
    simp only[List.mem_cons,List.not_mem_nil,or_false]at hy
    rcases hy with rfl|rfl|rfl
    ·exact⟨ka,rfl,hkal⟩
    ·exact⟨kb,rfl,hkbl⟩
    ·exact⟨kd,rfl,hkdl⟩
  ·rw[gateN_lt rfl h6 h128 hka hkb]
   refine⟨by dsimp only;omega,by dsimp only;omega,?_,?_,(fun h=>by dsimp only at h;omega),rfl,rfl⟩
   ·dsimp only
    rcases hc with h|h|h|h|h|h<;>rw[h]<;>simp only[List.length_cons,List.length_nil]<;>exact⟨by decide,by decide⟩
   ·intro y hy
    simp only[List.mem_cons,List.not_mem_nil,or_false]at hy
    rcases hy with rfl|rfl
    ·exact⟨ka,rfl,hkal⟩
    ·exact⟨kb,rfl,hkbl⟩
 ·by_cases h7:kindG bus gk=6
  ·rw[gateN_not rfl h6 h7 hka]
   refine⟨(by dsimp only;first|decide|omega),(by dsimp only;first|decide|omega),⟨(by dsimp only;simp only[List.length_cons,List.length_nil];decide),(by dsimp only;simp only[List.length_cons,List.length_nil];decide)⟩,?_,(fun h=>by dsimp only at h;omega),rfl,rfl⟩
   intro y hy
   obtain rfl:=List.mem_singleton.1 hy
   exact⟨ka,rfl,hkal⟩
  ·by_cases h8:kindG bus gk=7
   ·rw[gateN_mux rfl h6 h7 h8 hka hkb hkd]
    refine⟨(by dsimp only;first|decide|omega),(by dsimp only;first|decide|omega),⟨(by dsimp only;simp only[List.length_cons,List.length_nil];decide),(by dsimp only;simp only[List.length_cons,List.length_nil];decide)⟩,?_,(fun h=>by dsimp only at h;omega),rfl,rfl⟩
    intro y hy
    simp only[List.mem_cons,List.not_mem_nil,or_false]at hy
    rcases hy with rfl|rfl|rfl
    ·exact⟨ka,rfl,hkal⟩
    ·exact⟨kb,rfl,hkbl⟩
    ·exact⟨kd,rfl,hkdl⟩
   ·by_cases h9:kindG bus gk=9∨kindG bus gk=10
    ·rw[gateN_tri rfl h9 hka hkb]
     refine⟨(by dsimp only;first|decide|omega),(by dsimp only;first|decide|omega),⟨(by dsimp only;simp only[List.length_cons,List.length_nil];decide),(by dsimp only;simp only[List.length_cons,List.length_nil];decide)⟩,?_,(fun h=>by dsimp only at h;omega),rfl,rfl⟩
     intro y hy
     simp only[List.mem_cons,List.not_mem_nil,or_false]at hy
     rcases hy with rfl|rfl
     ·exact⟨ka,rfl,hkal⟩
     ·exact⟨kb,rfl,hkbl⟩
    ·by_cases h10:10<kindG bus gk∧0<(trisOf nodes).length
     ·obtain⟨kt,hkt,hktl⟩:=ix_lt g0 h10.2
      unfold ix at hkt
      obtain⟨i,e1,e2,e3⟩:=tris_at hktl
      by_cases h1:1<(trisOf nodes).length
      ·obtain⟨ku,hku,hkul⟩:=ix_lt ((kt:Int)+1) h10.2
       unfold ix at hku
       obtain⟨j,f1,f2,f3⟩:=tris_at hkul
       rw[gateN_bus2 h10.1 rfl h1 hkt hku rfl rfl,e1,f1]
       refine⟨(by dsimp only;first|decide|omega),(by dsimp only;first|decide|omega),⟨(by dsimp only;simp only[List.length_cons,List.length_nil];decide),(by dsimp only;simp only[List.length_cons,List.length_nil];decide)⟩,?_,fun _=>?_,rfl,rfl⟩
       ·intro y hy
        simp only[List.mem_cons,List.not_mem_nil,or_false]at hy
        rcases hy with rfl|rfl
        ·exact⟨i,rfl,e2⟩
        ·exact⟨j,rfl,f2⟩
       ·intro y hy
        simp only[List.mem_cons,List.not_mem_nil,or_false]at hy
        rcases hy with rfl|rfl
        ·exact e3
        ·exact f3
      ·rw[gateN_bus1 h10.1 rfl h10.2 h1 hkt rfl,e1]
       refine⟨(by dsimp only;first|decide|omega),(by dsimp only;first|decide|omega),⟨(by dsimp only;simp only[List.length_cons,List.length_nil];decide),(by dsimp only;simp only[List.length_cons,List.length_nil];decide)⟩,?_,fun _=>?_,rfl,rfl⟩
       ·intro y hy
        obtain rfl:=List.mem_singleton.1 hy
        exact⟨i,rfl,e2⟩
       ·intro y hy
        obtain rfl:=List.mem_singleton.1 hy
        exact e3
     ·by_cases h240:240<gk
      ·rw[gateN_const h6 h7 h8 (fun h=>h9 (.inl h)) (fun h=>h9 (.inr h)) h10 h240]
       have hc:g0%2=0∨g0%2=1:=by omega
       refine⟨by dsimp only;omega,by dsimp only;omega,?_,(fun y hy=>absurd hy (List.not_mem_nil)),(fun h=>by dsimp only at h;omega),rfl,rfl⟩
       dsimp only
       rcases hc with h|h<;>rw[h]<;>simp only[List.length_cons,List.length_nil]<;>exact⟨by decide,by decide⟩
      ·rw[gateN_buf rfl h6 h7 h8 (fun h=>h9 (.inl h)) (fun h=>h9 (.inr h)) h10 h240 hka]
       refine⟨(by dsimp only;first|decide|omega),(by dsimp only;first|decide|omega),⟨(by dsimp only;simp only[List.length_cons,List.length_nil];decide),(by dsimp only;simp only[List.length_cons,List.length_nil];decide)⟩,?_,(fun h=>by dsimp only at h;omega),rfl,rfl⟩
       intro y hy
       obtain rfl:=List.mem_singleton.1 hy
       exact⟨ka,rfl,hkal⟩
theorem gatesTo_pre(x:Cx)(k:Nat){j:Nat}(hj:j<(gatesTo x k).length):∀d,(gatesTo x (k+d)).getD j default=(gatesTo x k).getD j default
 |0=>rfl
 |d+1=>by
  have h1:=gatesTo_len x k
  have h2:=gatesTo_len x (k+d)
  rw[←Nat.add_assoc,gatesTo,getD_append_left' _ _ _ _ (by omega),gatesTo_pre x k hj d]
theorem gatesTo_at(x:Cx){k m:Nat}(hk:k<m):(gatesTo x m).getD ((baseN x).length+k) default=gateN x.bus (x.gates.getD k default) (gatesTo x k):=by
 have h1:=gatesTo_len x k
 have h2:=gatesTo_len x (k+1)
 have h:=gatesTo_pre x (k+1) (j:=(baseN x).length+k) (by omega) (m-(k+1))
 rw[show k+1+(m-(k+1))=m by omega]at h
 rw[h,gatesTo,getD_snoc' _ _ _ _ (by omega),if_pos h1.symm]
theorem dffTo_other(x:Cx){j:Nat} :∀k,k≤dffsN x→(j<firstN x∨firstN x+k≤j)→(dffTo x k).getD j default=(gatesTo x (gatesN x)).getD j default
 |0,_,_=>rfl
 |k+1,hk,hj=>by
  have h:=sizeN_le x
  rw[dffTo,getD_set' _ _ _ _ _ (by rw[dffTo_len];omega),if_neg (by omega),dffTo_other x k (by omega) (by omega)]
theorem dffTo_done(x:Cx){j:Nat} :∀k,j<k→k≤dffsN x→(dffTo x k).getD (firstN x+j) default=dffN (ix (dataN x j) (sizeN x))
 |k+1,hj,hk=>by
  have h:=sizeN_le x
  rw[dffTo,getD_set' _ _ _ _ _ (by rw[dffTo_len];omega)]
  by_cases e:j=k
  ·subst e;rw[if_pos rfl];rfl
  ·rw[if_neg (by omega)]
   exact dffTo_done x k (by omega) (by omega)
theorem node_cases(x:Cx)(hx:Cok x)(j:Nat)(hj:j<sizeN x):
 (j<firstN x∧(nodesN x).getD j default=inputN)∨(∃d,(nodesN x).getD j default=dffN (ix d (sizeN x)))∨(x.mem=true∧((nodesN x).getD j default=⟨15,[],0,0⟩∨(nodesN x).getD j default=⟨15,[],0,1⟩))∨
   ∃k g,k<gatesN x∧j=(gatesTo x k).length∧Gok g∧(nodesN x).getD j default=gateN x.bus g (gatesTo x k):=by
 have hb:=baseN_len x
 have hg:=gatesTo_len x (gatesN x)
 have hs:sizeN x=(gatesTo x (gatesN x)).length:=rfl
 have hgn:gatesN x≤x.gates.length:=by unfold gatesN;omega
 by_cases h1:j<firstN x
 ·refine .inl ⟨h1,?_⟩
  unfold nodesN
  rw[dffTo_other x _ (Nat.le_refl _) (.inl h1),gatesTo_base x j (by omega)]
  unfold baseN
  rw[List.append_assoc,getD_append_left' _ _ _ _ (by simpa using h1)]
  simp[List.getD_eq_getElem?_getD,h1]
 ·by_cases h2:j<firstN x+dffsN x
  ·refine .inr (.inl ⟨dataN x (j-firstN x),?_⟩)
   have h:=dffTo_done x (j:=j-firstN x) (dffsN x) (by omega) (Nat.le_refl _)
   rw[show firstN x+(j-firstN x)=j by omega]at h
   exact h
  ·have h3:(nodesN x).getD j default=(gatesTo x (gatesN x)).getD j default:=dffTo_other x _ (Nat.le_refl _) (.inr (by omega))
   by_cases h4:j<(baseN x).length
   ·refine .inr (.inr (.inl ?_))
    rw[h3,gatesTo_base x j h4]
    cases hm:x.mem
    ·rw[hm]at hb;simp at hb;omega
    ·refine⟨rfl,?_⟩
     rw[hm]at hb
     simp at hb
     have e:baseN x=(List.replicate (firstN x) inputN++List.replicate (dffsN x) (dffN 0))++[⟨15,[],0,0⟩,⟨15,[],0,1⟩]:=by unfold baseN;rw[hm,if_pos rfl]
     rw[e,List.getD_eq_getElem?_getD,List.getElem?_append_right (by simp;omega)]
     have hc:j-(firstN x+dffsN x)=0∨j-(firstN x+dffsN x)=1:=by omega
     rcases hc with hc|hc
     ·left;simp[hc]
     ·right;simp[hc]
   ·refine .inr (.inr (.inr ⟨j-(baseN x).length,x.gates.getD (j-(baseN x).length) default,by omega,?_,hx.gates _ (by omega),?_⟩))
    ·rw[gatesTo_len];omega
    ·rw[h3]
     have h:=gatesTo_at x (k:=j-(baseN x).length) (m:=gatesN x) (by omega)
     rw[show (baseN x).length+(j-(baseN x).length)=j by omega]at h
     exact h
theorem kind_same(x:Cx)(j:Nat)(hj:j<sizeN x):((nodesN x).getD j default).kind=((gatesTo x (gatesN x)).getD j default).kind:=by
 by_cases h:j<firstN x∨firstN x+dffsN x≤j
 ·unfold nodesN;rw[dffTo_other x _ (Nat.le_refl _) h]
 ·have h1:=dffTo_done x (j:=j-firstN x) (dffsN x) (by omega) (Nat.le_refl _)
  have h2:=dffTo_at x (j-firstN x) (by omega) 0 (Nat.zero_le _)
  rw[show firstN x+(j-firstN x)=j by omega]at h1 h2
  rw[show nodesN x=dffTo x (dffsN x) from rfl,h1,show gatesTo x (gatesN x)=dffTo x 0 from rfl,h2];rfl
theorem ix_in(a:Int){n:Nat}(h:0<n):0≤ix a n∧ix a n<(n:Int):=by
 obtain⟨k,h1,h2⟩:=ix_lt a h
 omega
theorem ofC_node(x:Cx)(hx:Cok x)(j:Nat)(hj:j<sizeN x):nodeErr (ofC x) ((nodesN x).getD j default)=0:=by
 have hz:=sizeN_le x
 have hlen:(ofC x).nodes.length=sizeN x:=ofC_len x
 unfold nodeErr
 rcases node_cases x hx j hj with⟨-,h⟩| ⟨d,h⟩| ⟨hm,h⟩| ⟨k,g,hk,hjk,hg,h⟩
 ·rw[h];rfl
 ·have hi:=ix_in d (n:=sizeN x) (by omega)
  rw[h]
  have ha:areIdx (ofC x).nodes.length (dffN (ix d (sizeN x))).ins=true:=areIdx_iff.2 (by
   intro y hy
   obtain rfl:=List.mem_singleton.1 hy
   rw[hlen];exact hi)
  rw[ha]
  rfl
 ·have e:(ofC x).mems=memsN x:=rfl
  have e2:memsN x=[⟨[ix x.p0 (sizeN x)],[ix x.p1 (sizeN x),ix x.p2 (sizeN x)],ix x.p3 (sizeN x)⟩]:=by unfold memsN;rw[if_pos hm]
  rcases h with h|h
  ·rw[h];unfold placeOk;rw[e,e2];rfl
  ·rw[h];unfold placeOk;rw[e,e2];rfl
 ·have h0:0<(gatesTo x k).length:=by rw[gatesTo_len,baseN_len];have:=firstN_le x;omega
  have G:=gate_good x.bus g hg (gatesTo x k) h0
  rw[h]
  have ha:areIdx (ofC x).nodes.length (gateN x.bus g (gatesTo x k)).ins=true:=areIdx_iff.2 (by
   intro y hy
   obtain⟨i,rfl,hi⟩:=G.ins y hy
   rw[hlen];omega)
  have hb:¬((gateN x.bus g (gatesTo x k)).kind=13∧anyP (notTri (ofC x)) (gateN x.bus g (gatesTo x k)).ins=true):=by
   rintro⟨h13,hany⟩
   obtain⟨y,hy,hn⟩:=List.any_eq_true.1 hany
   obtain⟨i,rfl,hi⟩:=G.ins y hy
   have hk2:=G.bus h13 _ hy
   rw[Int.toNat_natCast]at hk2
   have h3:=gatesTo_pre x k hi (gatesN x-k)
   rw[show k+(gatesN x-k)=gatesN x by omega]at h3
   have h4:=kind_same x i (by omega)
   rw[h3,hk2]at h4
   unfold notTri at hn
   rw[Int.toNat_natCast,show (ofC x).nodes=nodesN x from rfl,h4]at hn
   cases hn
  have hp:placeOk (ofC x) (gateN x.bus g (gatesTo x k))=true:=by
   unfold placeOk
   have:=G.hi
   rw[if_neg (by omega),G.mem,G.bit];rfl
  have h1:=G.lo
  have h2:=G.hi
  have h3:=G.wid
  rw[if_neg (by omega),if_neg (by omega),if_neg (by omega),ha,if_neg (by decide),if_neg hb,hp]
  rfl
theorem names_ok:∀n:Nat,n≤16→namesOk ((List.range n).map nameB)=true:=by
 intro n hn
 have hc:n=0∨n=1∨n=2∨n=3∨n=4∨n=5∨n=6∨n=7∨n=8∨n=9∨n=10∨n=11∨n=12∨n=13∨n=14∨n=15∨n=16:=by omega
 rcases hc with rfl|rfl|rfl|rfl|rfl|rfl|rfl|rfl|rfl|rfl|rfl|rfl|rfl|rfl|rfl|rfl|rfl<;>decide+kernel
def lvTo(nodes:List Nd):Nat→List Int
 |0=>[]
 |k+1=>lvTo nodes k++[levf (lvTo nodes k) (dep nodes k)]
theorem lvTo_len(nodes:List Nd):∀k,(lvTo nodes k).length=k
 |0=>rfl
 |k+1=>by rw[lvTo,List.length_append,lvTo_len nodes k];rfl
theorem lvTo_pre(nodes:List Nd)(k:Nat){x:Int}(hx:x.toNat<k):∀d,lat (lvTo nodes (k+d)) x=lat (lvTo nodes k) x
 |0=>rfl
 |d+1=>by
  have h:=lvTo_len nodes (k+d)
  rw[←Nat.add_assoc,lvTo]
  unfold lat
  rw[getD_append_left' _ _ _ _ (by omega)]
  exact lvTo_pre nodes k hx d
theorem lvl_of{nodes:List Nd}(h:∀i:Nat,i<nodes.length→∀y∈dep nodes i,y.toNat<i):∃L,Lvl nodes L:=by
 refine⟨lvTo nodes nodes.length,lvTo_len _ _,fun i hi=>?_⟩
 have h1:=lvTo_pre nodes (i+1) (x:=(i:Int)) (by simp) (nodes.length-(i+1))
 rw[show i+1+(nodes.length-(i+1))=nodes.length by omega]at h1
 have h2:lat (lvTo nodes (i+1)) (i:Int)=levf (lvTo nodes i) (dep nodes i):=by
  unfold lat
  rw[lvTo,Int.toNat_natCast,getD_snoc' _ _ _ _ (by rw[lvTo_len];omega),if_pos (lvTo_len nodes i).symm]
 rw[h1,h2]
 refine levf_congr fun y hy=>?_
 have h3:=lvTo_pre nodes i (h i hi y hy) (nodes.length-i)
 rw[show i+(nodes.length-i)=nodes.length by omega]at h3
 exact h3.symm
theorem ofC_lvl(x:Cx)(hx:Cok x):∃L,Lvl (nodesN x) L:=by
 refine lvl_of fun i hi y hy=>?_
 rw[show (nodesN x).length=sizeN x from dffTo_len x _]at hi
 unfold dep depsOf at hy
 rw[Int.toNat_natCast]at hy
 rcases node_cases x hx i hi with⟨-,h⟩| ⟨d,h⟩| ⟨-,h|h⟩| ⟨k,g,hk,hik,hg,h⟩
 ·rw[h]at hy;cases hy
 ·rw[h,show cmb (dffN (ix d (sizeN x))).kind=false from rfl]at hy;cases hy
 ·rw[h]at hy;cases hy
 ·rw[h]at hy;cases hy
 ·rw[h]at hy
  split at hy
  ·obtain⟨j,rfl,hj⟩:=(gate_good x.bus g hg (gatesTo x k) (by rw[gatesTo_len,baseN_len];have:=firstN_le x;omega)).ins y hy
   rw[Int.toNat_natCast];omega
  ·cases hy
theorem ofC_shape(x:Cx)(hx:Cok x):shapeErr (ofC x)=0:=by
 have hz:=sizeN_le x
 have hlen:(ofC x).nodes.length=sizeN x:=ofC_len x
 have hnm:(ofC x).names.length=sizeN x:=by simp[ofC]
 have hml:(ofC x).mems.length≤1:=by show (memsN x).length≤1;unfold memsN;split<;>simp
 have hol:(ofC x).outs.length≤4:=by
  show (outsTo x (outsN x)++_).length≤4
  rw[List.length_append,outsTo_len]
  have:outsN x≤3:=by unfold outsN;omega
  simp;omega
 have h1:firstE (nodeErr (ofC x)) (ofC x).nodes=0:=firstE_none default _ _ fun j hj=>ofC_node x hx j (by rw[hlen]at hj;exact hj)
 have h2:namesOk (ofC x).names=true:=names_ok _ (by omega)
 have h3:firstE (memErr (ofC x)) (ofC x).mems=0:=by
  show firstE (memErr (ofC x)) (memsN x)=0
  unfold memsN
  split
  ·have p0:=ix_in x.p0 (n:=sizeN x) (by omega)
   have p1:=ix_in x.p1 (n:=sizeN x) (by omega)
   have p2:=ix_in x.p2 (n:=sizeN x) (by omega)
   have p3:=ix_in x.p3 (n:=sizeN x) (by omega)
   unfold firstE
   rw[if_pos]
   ·rfl
   ·unfold memErr
    rw[if_neg (by simp),if_neg]
    rw[hlen]
    rintro (h|h|h)
    ·rw[isIdx_iff.2 p3]at h;cases h
    ·rw[areIdx_iff.2 (fun y hy=>by obtain rfl:=List.mem_singleton.1 hy;exact p0)]at h;cases h
    ·rw[areIdx_iff.2 (fun y hy=>by simp only[List.mem_cons,List.not_mem_nil,or_false]at hy;rcases hy with rfl|rfl;exact p1;exact p2)]at h;cases h
  ·rfl
 have h4:areIdx (ofC x).nodes.length (ofC x).outs=true:=areIdx_iff.2 (by
  intro y hy
  rw[hlen]
  rcases List.mem_append.1 (show y∈outsTo x (outsN x)++[(sizeN x:Int)-1] from hy) with h|h
  ·unfold outsTo at h
   obtain⟨i,-,rfl⟩:=List.mem_map.1 h
   exact ix_in _ (by omega)
  ·obtain rfl:=List.mem_singleton.1 h
   omega)
 unfold shapeErr
 rw[if_neg (by omega),if_neg (by omega),h1,if_neg (by decide),h2,if_neg (by decide),h3,if_neg (by decide),h4]
 rfl
theorem ofC_ok(x:Cx)(hx:Cok x):chkErr (ofC x)=0:=by
 unfold chkErr
 rw[if_neg (by rw[ofC_shape x hx];decide),if_pos (show ∃L,Lvl (ofC x).nodes L from ofC_lvl x hx)]
end Go.Proofs.YtcbllelkgniogaaDoor
