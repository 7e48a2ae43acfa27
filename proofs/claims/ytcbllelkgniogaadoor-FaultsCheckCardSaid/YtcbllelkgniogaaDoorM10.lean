/- The texts Fq1 Ofk Fnp Fan. -/
import Derived.Test.YtcbllelkgniogaaDoorM09
import Derived.Sort.CutIn
import Derived.Deep.LoopGhost
namespace Go.Proofs.YtcbllelkgniogaaDoor
open Go.RowKit
attribute [local go_sem] Oper.semAt_some
def encL(l:Int×Int):Array Value:=#[.agg #[.int .i64 l.1,.int .i64 l.2]]
set_option maxHeartbeats 1000000 in
theorem lines_any(A0 A1 A2 A3:Option Addr)(n n1 n2 n3 c0 c1 c2 c3:Nat)(w:World):
 Calls Tryd.prog 24 #[.agg #[.slice A0 n c0,.slice A1 n1 c1,.slice A2 n2 c2,.slice A3 n3 c3]] w fun e w'=>e=.returned (.func (.func 42) #[] #[.pointer (some ⟨w.heap.size,0,none⟩)])∧Fr w' w.heap.size 39 [.slice A0 n c0,.slice A1 n1 c1,.slice A2 n2 c2,.slice A3 n3 c3]∧BelW w w':=by
 go_enter Tryd.func24,Tryd.ntmps24
 go_wp2
 go_ret
 exact⟨rfl,Fr.made _ _ _ rfl,below_new (Below.refl _ _) _⟩
set_option maxRecDepth 100000 in
set_option maxHeartbeats 4000000 in
theorem lines_in(F:Fence)(u B q b o n n1 n2 n3 c0 c1 c2 c3 l:Nat)(A0 A1 A2 A3:Option Addr)(ts:List TypeId)(nodes:List Nd)(h42:F.fn 42)(hro:F.round=none)(hu:1≤u)(hTC:39 ∉ ts)(hTN:53 ∉ ts)(hn:nodes.length=n)(hA0:0<n→A0=some ⟨b,o,none⟩)(hnm:n≤1000000)(J:Nat→World→Prop)
 (hst:∀k V V',J k V→Below V.heap.size V V'→J k V')
 (hY:∀k x V,(lnsN nodes n)[k]? =some x→J k V→YieldAt F (u-1) Tryd.prog l (encL x) V fun e V'=>e=.returned (.bool true)∧J (k+1) V'∧Kr B ts V V'∧KeepsFrom B V V')
 (W:World) (hq:Fr W q 39 [.slice A0 n c0,.slice A1 n1 c1,.slice A2 n2 c2,.slice A3 n3 c3]) (hbB:0<n→b<B)
 (hc:∀k,k<n→(nodes.getD k default).ins.length≤1000000∧∃A4 c4,W.cell? ⟨b,o+k*4,none⟩=some (.int .u8 (nodes.getD k default).kind)∧W.cell? ⟨b,o+k*4+1,none⟩=some (.slice A4 (nodes.getD k default).ins.length c4)∧W.cell? ⟨b,o+k*4+2,none⟩=some (.int .i64 (nodes.getD k default).mem)∧W.cell? ⟨b,o+k*4+3,none⟩=some (.int .i64 (nodes.getD k default).bit)) (h0:J 0 W):
 CallsIn F u Tryd.prog 42 #[.func (.yield l) #[] #[],.pointer (some ⟨q,0,none⟩)] W fun e W'=>(∃v,e=.returned v)∧J (lnsN nodes n).length W':=by
 refine callsIn_of_wp Tryd.func42 rfl h42 ?_ hro
 simp only[Tryd.ntmps42,List.size_toArray,List.length_cons,List.length_nil,Nat.reduceAdd,Nat.reduceSub,Array.replicate_succ,Array.replicate_zero,List.push_toArray,List.append_toArray,List.nil_append,List.cons_append]
 have HR:=Lib.hid (Kr.rel B ts)
 have HY:=Lib.hid hY
 have HST:=Lib.hid hst
 have x0:W.cell? ⟨q,0,none⟩=some (.slice A0 n c0):=hq.cell 0
 have HCN:Hid (∀V,Kr B ts W V→∀k,k<n→∃A4 c4,V.cell? ⟨b,o+k*4,none⟩=some (.int .u8 (nodes.getD k default).kind)∧V.cell? ⟨b,o+k*4+1,none⟩=some (.slice A4 (nodes.getD k default).ins.length c4)∧V.cell? ⟨b,o+k*4+2,none⟩=some (.int .i64 (nodes.getD k default).mem)∧V.cell? ⟨b,o+k*4+3,none⟩=some (.int .i64 (nodes.getD k default).bit)):=Lib.hid fun V h k hk=>by
  obtain⟨-,A4,c4,h1,h2,h3,h4⟩:=hc k hk
  exact⟨A4,c4,h.cell (hbB (by omega)) h1,h.cell (hbB (by omega)) h2,h.cell (hbB (by omega)) h3,h.cell (hbB (by omega)) h4⟩
 have HNL:Hid (∀k,k<n→(nodes.getD k default).ins.length≤1000000):=Lib.hid fun k hk=>(hc k hk).1
 have HA0:=Lib.hid hA0
 have HJ0:=Lib.hid h0
 clear hY hst hc hA0 h0 hq hbB
 gi_wp2
 gi_loopw [9] (fun i wr=>∃k:Nat,k≤n∧i=.int .i64 (k:Int)∧Hid (J (lnsC nodes k) wr)∧Hid (Kr B ts W wr)) (fun i _=>n-(intOf i).toNat)
 case atStart=>exact⟨0,Nat.zero_le _,rfl,HJ0,Lib.hid ((Kr.rel B ts).below (Below.refl _ _))⟩
 case round=>
  clear HJ0 x0
  obtain⟨k,hk,rfl,HJ,HKW⟩:=hrel
  by_cases hlt:k<n
  ·have hk2:(k:Int)<(n:Int):=by omega
   obtain rfl:=HA0.out (by omega)
   obtain⟨A4,c4,m0,m1,m2,m3⟩:=HCN.out wr HKW.out k hlt
   have hnl:=HNL.out k hlt
   have HAT:Hid (∀p,p<(nodes.getD k default).ins.length+1→(lnsN nodes n)[lnsC nodes k+p]? =some ((k:Int),(p:Int)-1)):=Lib.hid fun p hp=>lnsN_at nodes hlt hp
   have HSC:=Lib.hid (lnsC_succ nodes k)
   obtain⟨ni,HNI⟩:=named (nodes.getD k default).ins.length
   rw[←HNI.out]at m1 hnl HAT HSC
   obtain⟨mm,HMM⟩:=named (nodes.getD k default).mem
   rw[←HMM.out]at m2
   obtain⟨bt,HBT⟩:=named (nodes.getD k default).bit
   rw[←HBT.out]at m3
   obtain⟨kd,HKD⟩:=named (nodes.getD k default).kind
   rw[←HKD.out]at m0
   clear HMM HBT HKD
   obtain⟨W2,HW2⟩:=named (wr.alloc (.cells #[.int .u8 kd,.slice A4 ni c4,.int .i64 mm,.int .i64 bt] 53))
   have hnew:Below wr.heap.size wr W2:=by rw[HW2.out];exact below_new (Below.refl _ _) _
   have hfv:Fr W2 wr.heap.size 53 [.int .u8 kd,.slice A4 ni c4,.int .i64 mm,.int .i64 bt]:=by rw[HW2.out];exact Fr.made _ _ _ rfl
   obtain⟨v,HV⟩:=named wr.heap.size
   rw[←HV.out]at hfv
   have HFV:=Lib.hid hfv
   have HJ2:Hid (J (lnsC nodes k) W2):=Lib.hid (HST.out _ _ _ HJ.out hnew)
   have HK2:Hid (Kr B ts W W2):=Lib.hid (HR.out.trans HKW.out (HR.out.below hnew))
   have HV2:=Lib.hid HV.out
   clear hnew hfv HV
   gi_upto_region 3 with fail
   rw[←HW2.out,←HV2.out]
   clear m0 m1 m2 m3 HV2 HW2 HJ HKW
   gi_wp2
   gi_loopw [5] (fun pv wr=>∃p:Nat,p≤ni+1∧pv=.int .i64 ((p:Int)-1)∧Hid (J (lnsC nodes k+p) wr)∧Hid (Kr B ts W wr)∧Hid (Fr wr v 53 [.int .u8 kd,.slice A4 ni c4,.int .i64 mm,.int .i64 bt])) (fun pv _=>(ni+1)-(intOf pv+1).toNat)
   case atStart=>exact⟨0,Nat.zero_le _,by go_num,HJ2,HK2,HFV⟩
   case round=>
    clear HJ2 HK2 HFV
    obtain⟨p,hp,rfl,HJ,HKW,HF⟩:=hrel
    have y1:wr.cell? ⟨v,1,none⟩=some (.slice A4 ni c4):=HF.out.cell 1
    by_cases hpl:p<ni+1
    ·have hp2:(p:Int)-1<(ni:Int):=by omega
     have HYK:Hid (YieldAt F (u-1) Tryd.prog l #[.agg #[.int .i64 (k:Int),.int .i64 ((p:Int)-1)]] wr fun e V'=>e=.returned (.bool true)∧J (lnsC nodes k+p+1) V'∧Kr B ts wr V'∧KeepsFrom B wr V'):=Lib.hid (HY.out _ _ wr (HAT.out p hpl) HJ.out)
     obtain⟨fn,tmps,assign,body,hy,hR⟩:=HYK.out
     clear HYK
     gi_wp2
     refine hR.mono ?_
     rintro e W3 ⟨rfl,hJ3,hk3,-⟩
     have HJ3:=Lib.hid hJ3
     have HK3:=Lib.hid hk3
     clear hy hR hJ3 hk3 y1
     gi_wp2
     go_roundw
     case rel=>exact⟨p+1,by omega,by go_num,HJ3,Lib.hid (HR.out.trans HKW.out HK3.out),Lib.hid (HK3.out.row HF.out hTN)⟩
     case measure=>simp[intOf];omega
    ·have hp2:¬(p:Int)-1<(ni:Int):=by omega
     have HJ3:Hid (J (lnsC nodes (k+1)) wr):=Lib.hid (by rw[HSC.out,show ni+1=p by omega];exact HJ.out)
     gi_wp2
     go_roundw
     case rel=>exact⟨k+1,by omega,by go_num,HJ3,HKW⟩
     case measure=>simp[intOf];omega
  ·obtain rfl:n=k:=by omega
   gi_wp2
   go_end0
   exact⟨⟨_,rfl⟩,HJ.out⟩
def U8At(w:World)(_B b p:Nat)(x:Int):Prop:=w.cell? ⟨b,p,none⟩=some (.int .u8 x)
theorem stays_u8:Stays U8At:=fun w w' B B' b p x hb hB h hk=>(hk ⟨b,p,none⟩ hb).trans h
def Ks(w:World)(B:Nat)(v:Value)(l:List Int):Prop:=Arr 0 1 U8At w B v l
theorem Ks.below{w w':World}{B:Nat}{v:Value}{l:List Int}(h:Ks w B v l)(hb:Below B w w'):Ks w' B v l:=Arr.keep stays_u8 h (Nat.le_refl _) fun _ hp=>hb.cell hp
theorem Ks.opens{w:World}{B:Nat}{v:Value}{l:List Int}(h:Ks w B v l):∃A b o c,v=.slice A l.length c∧(0<l.length→A=some ⟨b,o,none⟩)∧l.length≤c∧l.length≤maxLen∧∀k,k<l.length→b<B∧w.cell? ⟨b,o+k,none⟩=some (.int .u8 (l.getD k 0)):=by
 obtain⟨A,b,o,c,h1,h2,h3,h4,h5⟩:=h
 exact⟨A,b,o,c,h1,h2,h3,h4,fun k hk=>⟨(h5 k hk).1,by have:=(h5 k hk).2;rw[Nat.mul_one]at this;exact this⟩⟩
def isK(kl:List Int)(x:Int):Bool:=anyP (fun y=>x==y) kl
def ofTo(nodes:List Nd)(kl:List Int)(k:Nat):List Int:=List.map (fun i:Nat=>(i:Int)) (List.filter (fun i=>isK kl (nodes.getD i default).kind) (List.range k))
theorem ofTo_succ(nodes:List Nd)(kl:List Int)(k:Nat):ofTo nodes kl (k+1)=ofTo nodes kl k++(if isK kl (nodes.getD k default).kind=true then [(k:Int)] else []):=by
 unfold ofTo
 rw[List.range_succ,List.filter_append,List.map_append]
 congr 1
 cases h:isK kl (nodes.getD k default).kind<;>(simp only[List.filter_cons,List.filter_nil,h];rfl)
theorem ofTo_len(nodes:List Nd)(kl:List Int)(k:Nat):(ofTo nodes kl k).length≤k:=by
 unfold ofTo
 rw[List.length_map]
 have:=List.length_filter_le (fun i=>isK kl (nodes.getD i default).kind) (List.range k)
 simpa using this
theorem push_own{w wo w1:World}{g:Nat}{sv v':Value}{st:List Int}{x:Int}{o:Obj}(hg:g≤wo.heap.size)(hb:Below g w wo)(hstk:Stk wo g sv st)
 (hown:w1.ownsRow g 3 1 v' (st.length+1) (st.map (Value.int .i64)++[.int .i64 x])) (hgr:(wo.alloc o).grownBy w1 sv.ownBlock):Below g w w1∧Stk w1 g v' (st++[x]):=by
 have hq:∀q,sv.ownBlock=some q→g≤q:=fun q h=>(World.ownsRow.lt hstk q h).1
 refine⟨(hb.alloc hg o).grown hgr (by simp;omega) hq,?_⟩
 unfold Stk
 rw[List.length_append,List.map_append]
 exact hown
theorem Stk.reads{w:World}{g c:Nat}{A:Option Addr}{l:List Int}(h:Stk w g (.slice A l.length c) l)(k:Nat)(hk:l.length≤k)(hkm:l.length≤maxLen):Is w w.heap.size (.slice A l.length k) l:=by
 obtain⟨A',c',e,-,-,hq⟩:=h.form
 simp only[Value.slice.injEq,true_and]at e
 obtain⟨rfl,rfl⟩:=e
 by_cases h0:0<l.length
 ·obtain⟨q,rfl,-,hlt⟩:=hq h0
  refine⟨_,q,0,k,rfl,fun _=>rfl,hk,hkm,fun j hj=>⟨hlt,?_⟩⟩
  show World.cell? _ _=_
  rw[Nat.zero_add,Nat.mul_one]
  exact h.cell hj
 ·exact⟨A,0,0,k,rfl,fun h=>absurd h h0,hk,hkm,fun j hj=>absurd hj (by omega)⟩
theorem Stk.shape{w:World}{g:Nat}{v:Value}{l:List Int}(h:Stk w g v l):∃A c,v=.slice A l.length c∧l.length≤c∧c≤maxLen∧((A=none∧l.length=0∧c=0)∨∃a:Addr,A=some a):=by
 rcases h.2 with⟨rfl,hn⟩| ⟨g,cap,cur,rfl,hb,hg,hle,hm,-⟩
 ·exact⟨none,0,by rw[hn],by omega,by simp,.inl ⟨rfl,hn,rfl⟩⟩
 ·exact⟨_,cap,rfl,hle,hm,.inr ⟨_,rfl⟩⟩
def OfPost(l:List Int)(w:World)(e:Ending)(w':World):Prop:=∃A,e=.returned (.slice A l.length l.length)∧Is w' w'.heap.size (.slice A l.length l.length) l∧Below w.heap.size w w'
theorem Ks.one(w:World)(x:Int)(t:TypeId){n:Nat}(hn:n=w.heap.size):Ks (w.alloc (.cells #[.int .u8 x] t)) (w.alloc (.cells #[.int .u8 x] t)).heap.size (.slice (some ⟨n,0,none⟩) 1 1) [x]:=by
 subst hn
 refine⟨_,w.heap.size,0,1,rfl,fun _=>rfl,by simp,by simp[maxLen],fun k hk=>?_⟩
 have hk0:k=0:=by simpa using hk
 subst hk0
 refine⟨by simp,?_⟩
 show World.cell? _ _=_
 rw[World.cell?_alloc_at _ _ _ _ rfl];rfl
theorem OfPost.from{l:List Int}{w0 w:World}{P:Program}{f:FuncId}{args:Array Value}(h:Calls P f args w (OfPost l w))(hb:Below w0.heap.size w0 w):Calls P f args w (OfPost l w0):=
 h.mono fun _ _ ⟨A,he,hi,h'⟩=>⟨A,he,hi,joinB hb h'⟩
def fan(l:List (Int×Int×Int))(j:Nat):List (Int×Int):=(l.filter fun q=>q.1==(j:Int)).map (·.2)
def lnC(l:List (Int×Int)):List Value:=l.flatMap fun q=>[.int .i64 q.1,.int .i64 q.2]
theorem lnC_snoc(l:List (Int×Int))(x y:Int):lnC (l++[(x,y)])=lnC l++[.int .i64 x,.int .i64 y]:=by simp[lnC]
theorem lnC_get:∀(l:List (Int×Int)) (k:Nat),k<l.length→(lnC l)[k*2]? =some (.int .i64 (l.getD k (0,0)).1)∧(lnC l)[k*2+1]? =some (.int .i64 (l.getD k (0,0)).2)
 |[],k,h=>absurd h (by simp)
 |q::r,0,h=>by simp[lnC]
 |q::r,k+1,h=>by
   have hr:=lnC_get r k (by simpa using h)
   have e:lnC (q::r)=[.int .i64 q.1,.int .i64 q.2]++lnC r:=rfl
   rw[e,show (k+1)*2=k*2+2 by omega,show k*2+2+1=(k*2+1)+2 by omega]
   rw[List.getElem?_append_right (by simp),List.getElem?_append_right (by simp)]
   simpa using hr
def vat(Vs:List Value)(j:Nat):Value:=Vs.getD j (.slice none 0 0)
theorem vat_set(Vs:List Value)(j k:Nat)(v:Value)(hj:j<Vs.length):vat (Vs.set j v) k=if k=j then v else vat Vs k:=by
 unfold vat
 rw[List.getD_eq_getElem?_getD,List.getD_eq_getElem?_getD,List.getElem?_set]
 by_cases h:j=k
 ·subst h;simp[hj]
 ·rw[if_neg h,if_neg (fun e=>h e.symm)]
structure FS(n g:Nat)(Vs:List Value)(F:Nat→List (Int×Int))(w:World):Prop where
 top:w.ownsRow g 45 1 (.slice (some ⟨g,0,none⟩) n n) n Vs
 row:∀j,j<n→w.ownsRow (g+1) 30 2 (vat Vs j) (F j).length (lnC (F j))
 dis:∀i j,i<n→j<n→i≠j→(vat Vs i).ownBlock=none∨(vat Vs i).ownBlock≠(vat Vs j).ownBlock
theorem FS.len{n g:Nat}{Vs:List Value}{F:Nat→List (Int×Int)}{w:World}(h:FS n g Vs F w):Vs.length=n:=by
 have:=h.top.1;omega
theorem FS.lt{n g:Nat}{Vs:List Value}{F:Nat→List (Int×Int)}{w:World}(h:FS n g Vs F w):g<w.heap.size:=(World.ownsRow.lt h.top g rfl).2
theorem FS.below{n g:Nat}{Vs:List Value}{F:Nat→List (Int×Int)}{w w':World}(h:FS n g Vs F w)(hb:Below w.heap.size w w'):FS n g Vs F w':=by
 have hg:w.grownBy w' none:=⟨hb.os,hb.tape,hb.output,hb.size,fun i hi _=>hb.block i hi⟩
 refine⟨h.top.kept hg (.inr (by simp[Value.ownBlock])),fun j hj=>(h.row j hj).kept hg ?_,h.dis⟩
 rcases (vat Vs j).ownBlock with _|q
 ·exact .inl rfl
 ·exact .inr (by simp)
theorem FS.cell{n g:Nat}{Vs:List Value}{F:Nat→List (Int×Int)}{w:World}(h:FS n g Vs F w){j:Nat}(hj:j<n):w.cell? ⟨g,j,none⟩=some (vat Vs j):=by
 rw[h.top.cellAt j (by omega),vat,List.getD_eq_getElem?_getD,List.getElem?_eq_getElem (by rw[h.len];exact hj)]
 rfl
theorem FS.shape{n g:Nat}{Vs:List Value}{F:Nat→List (Int×Int)}{w:World}(h:FS n g Vs F w){j:Nat}(hj:j<n):
 ∃A c,vat Vs j=.slice A (F j).length c∧(F j).length≤c∧c≤maxLen∧((A=none∧(F j).length=0∧c=0)∨∃b,A=some ⟨b,0,none⟩∧g<b∧b<w.heap.size):=by
 have hlt:=World.ownsRow.lt (h.row j hj)
 rcases (h.row j hj).2 with⟨e,hn⟩| ⟨q,cap,cur,e,hb,hg,hle,hm,-⟩
 ·exact⟨none,0,by rw[e,hn],by omega,by simp,.inl ⟨rfl,hn,rfl⟩⟩
 ·exact⟨_,cap,e,hle,hm,.inr ⟨q,rfl,hb,(hlt q (by rw[e];rfl)).2⟩⟩
theorem FS.push{n g:Nat}{Vs:List Value}{F:Nat→List (Int×Int)}{w w1:World}{j:Nat}{v':Value}{x y:Int}(h:FS n g Vs F w)(hj:j<n)
 (hown:w1.ownsRow (g+1) 30 2 v' ((F j).length+1) (lnC (F j)++[.int .i64 x,.int .i64 y])) (hgr:w.grownBy w1 (vat Vs j).ownBlock)
 (hat:v'.ownBlock=(vat Vs j).ownBlock∨v'.ownBlock=some w.heap.size):
 FS n g (Vs.set j v') (fun k=>if k=j then F k++[(x,y)] else F k) (w1.setCell ⟨g,j,none⟩ v'):=by
 have hlen:=h.len
 have hjq:∀q,(vat Vs j).ownBlock=some q→g+1≤q:=fun q e=>(World.ownsRow.lt (h.row j hj) q e).1
 have ht:=h.top.kept hgr (.inr fun e=>by have:=hjq g e.symm;omega)
 have hs:=ht.stored j v'
 have hv:∀q,v'.ownBlock=some q→g+1≤q:=fun q e=>(World.ownsRow.lt hown q e).1
 have hgo:∀ {v:Value},(∀q,v.ownBlock=some q→g+1≤q)→v.ownBlock=none∨v.ownBlock≠some g:=fun {v} hq=>by
  rcases ho:v.ownBlock with _|q
  ·exact .inl rfl
  ·refine .inr fun e=>?_
   have:=hq q ho
   simp only[Option.some.injEq]at e
   omega
 refine⟨hs.1,fun k hk=>?_,fun a b ha hb hab=>?_⟩
 ·rw[vat_set _ _ _ _ (by omega)]
  by_cases hkj:k=j
  ·subst hkj
   simp only[if_true]
   rw[List.length_append,lnC_snoc]
   exact hown.kept hs.2 (hgo hv)
  ·rw[if_neg hkj]
   simp only[if_neg hkj]
   refine ((h.row k hk).kept hgr (h.dis k j hk hj hkj)).kept hs.2 (hgo ?_)
   exact fun q e=>(World.ownsRow.lt (h.row k hk) q e).1
 ·rw[vat_set _ _ _ _ (by omega),vat_set _ _ _ _ (by omega)]
  have hz:∀k,k<n→∀q,(vat Vs k).ownBlock=some q→q<w.heap.size:=fun k hk q e=>(World.ownsRow.lt (h.row k hk) q e).2
  by_cases haj:a=j
  ·rw[if_pos haj,if_neg (by omega)]
   rcases hat with e|e
   ·rw[e,←haj];exact h.dis a b ha hb hab
   ·refine .inr fun e'=>?_
    rw[e]at e'
    have:=hz b hb _ e'.symm
    omega
  ·rw[if_neg haj]
   by_cases hbj:b=j
   ·rw[if_pos hbj]
    rcases hat with e|e
    ·rw[e,←hbj];exact h.dis a b ha hb hab
    ·rcases ho:(vat Vs a).ownBlock with _|q
     ·exact .inl rfl
     ·refine .inr fun e'=>?_
      rw[e]at e'
      have:=hz a ha q ho
      simp only[Option.some.injEq]at e'
      omega
   ·rw[if_neg hbj];exact h.dis a b ha hb hab
theorem FS.grown{n g B:Nat}{Vs:List Value}{F:Nat→List (Int×Int)}{w0 w w1:World}{j:Nat}(h:FS n g Vs F w)(hj:j<n)(hb:Below B w0 w)(hB:B≤g)(hgr:w.grownBy w1 (vat Vs j).ownBlock)(v':Value):
 Below B w0 (w1.setCell ⟨g,j,none⟩ v'):=
 (hb.grown hgr (by have:=h.lt;omega) (fun q e=>by have:=(World.ownsRow.lt (h.row j hj) q e).1;omega)).setCell hB _
theorem FS.congr{n g:Nat}{Vs:List Value}{F F':Nat→List (Int×Int)}{w:World}(h:FS n g Vs F w)(e:∀j,j<n→F j=F' j):FS n g Vs F' w:=
 ⟨h.top,fun j hj=>by rw[←e j hj];exact h.row j hj,h.dis⟩
def clipV:Value→Value
 | .slice A n _=>.slice A n n
 |v=>v
def clipTo(Vs:List Value)(n k:Nat):List Value:=(List.range n).map fun j=>if j<k then clipV (vat Vs j) else vat Vs j
theorem clipTo_get(Vs:List Value)(n k j:Nat)(h:j<n):(clipTo Vs n k)[j]? =some (if j<k then clipV (vat Vs j) else vat Vs j):=by
 simp[clipTo,h]
def LnAt(w:World)(_B b p:Nat)(x:Int×Int):Prop:=w.cell? ⟨b,p,none⟩=some (.int .i64 x.1)∧w.cell? ⟨b,p+1,none⟩=some (.int .i64 x.2)
theorem stays_ln:Stays LnAt:=fun w w' B B' b p x hb hB h hk=>⟨(hk ⟨b,p,none⟩ hb).trans h.1,(hk ⟨b,p+1,none⟩ hb).trans h.2⟩
def Lns(w:World)(B:Nat)(v:Value)(l:List (Int×Int)):Prop:=Arr (0,0) 2 LnAt w B v l
def LnsAt(w:World)(B b p:Nat)(l:List (Int×Int)):Prop:=∃A,w.cell? ⟨b,p,none⟩=some (.slice A l.length l.length)∧Lns w B (.slice A l.length l.length) l
theorem stays_lns:Stays LnsAt:=fun w w' B B' b p x hb hB ⟨s,h,k⟩ hk=>⟨s,(hk ⟨b,p,none⟩ hb).trans h,Arr.keep stays_ln k hB hk⟩
def Fos(w:World)(B:Nat)(v:Value)(l:List (List (Int×Int))):Prop:=Arr [] 1 LnsAt w B v l
theorem Fos.keep{w w':World}{B B':Nat}{v:Value}{l:List (List (Int×Int))}(h:Fos w B v l)(hB:B≤B')(hk:∀q:Addr,q.block<B→w'.cell? q=w.cell? q):Fos w' B' v l:=Arr.keep stays_lns h hB hk
theorem clip_reads{w:World}{g:Nat}{v:Value}{l:List (Int×Int)}(h:w.ownsRow g 30 2 v l.length (lnC l)):Lns w w.heap.size (clipV v) l:=by
 have hlt:=World.ownsRow.lt h
 rcases id h.2 with⟨rfl,hn⟩| ⟨q,cap,cur,rfl,hb,hg,hle,hm,-⟩
 ·refine⟨none,0,0,0,?_,fun h=>by omega,by omega,by simp[hn],fun k hk=>by omega⟩
  rw[hn];rfl
 ·refine⟨some ⟨q,0,none⟩,q,0,l.length,rfl,fun _=>rfl,Nat.le_refl _,Nat.le_trans hle hm,fun k hk=>⟨(hlt q rfl).2,?_⟩⟩
  have hc:=lnC_get l k hk
  refine⟨?_,?_⟩
  ·rw[h.cellAt _ (by omega),Nat.zero_add];exact hc.1
  ·rw[h.cellAt _ (by omega),Nat.zero_add];exact hc.2
theorem clip_form{w:World}{g:Nat}{v:Value}{l:List (Int×Int)}(h:w.ownsRow g 30 2 v l.length (lnC l)):∃A,clipV v=.slice A l.length l.length:=by
 rcases id h.2 with⟨rfl,hn⟩| ⟨q,cap,cur,rfl,hb,hg,hle,hm,-⟩
 ·exact⟨none,by rw[hn];rfl⟩
 ·exact⟨some ⟨q,0,none⟩,rfl⟩
theorem FS.reads{n g:Nat}{Vs:List Value}{F:Nat→List (Int×Int)}{w':World}(hn:n≤maxLen)
 (hr:∀j,j<n→w'.ownsRow (g+1) 30 2 (vat Vs j) (F j).length (lnC (F j))) (ht:w'.ownsRow g 45 1 (.slice (some ⟨g,0,none⟩) n n) n (clipTo Vs n n)):
 Fos w' w'.heap.size (.slice (some ⟨g,0,none⟩) n n) ((List.range n).map F):=by
 refine⟨some ⟨g,0,none⟩,g,0,n,by simp,fun _=>rfl,by simp,by simpa using hn,fun k hk=>⟨(World.ownsRow.lt ht g rfl).2,?_⟩⟩
 have hk':k<n:=by simpa using hk
 have e:((List.range n).map F).getD k []=F k:=by simp[hk',List.getD_eq_getElem?_getD]
 rw[e]
 obtain⟨A,hA⟩:=clip_form (hr k hk')
 refine⟨A,?_,?_⟩
 ·rw[Nat.zero_add,Nat.mul_one,ht.cellAt _ (by omega),clipTo_get _ _ _ _ hk',if_pos hk',hA]
 ·rw[←hA]
  exact clip_reads (hr k hk')
set_option maxHeartbeats 400000 in
theorem clipL_any(A:Option Addr)(n c:Nat)(w:World)(hA:(A=none∧n=0∧c=0)∨∃a:Addr,A=some a)(hn:n≤c)(hc:c≤maxLen):
 Calls Tryd.prog 22 #[.slice A n c] w fun e w'=>e=.returned (.slice A n n)∧w=w':=by
 unfold maxLen at hc
 rcases hA with⟨rfl,rfl,rfl⟩| ⟨a,rfl⟩
 ·go_enter Tryd.func22,Tryd.ntmps22
  go_wp2
  go_ret
  exact⟨rfl,rfl⟩
 ·go_enter Tryd.func22,Tryd.ntmps22
  go_wp2
  go_ret
  exact⟨rfl,rfl⟩
theorem info_line:(Tryd.prog.info? 30).map (fun i=>(i.zero,i.size,i.bytes))=some (some (.agg #[.int .i64 0,.int .i64 0]),2,16):=by kernel_rfl
theorem two_new(w:World)(u v:Value)(t:TypeId):∀(j:Nat) (x:Value),[u,v][j]? =some x→(w.alloc (.cells #[u,v] t)).cell? ((⟨w.heap.size,0,none⟩:Addr).add j)=some x:=by
 intro j x hj
 match j,hj with
 |0,hj=>
  rw[show (⟨w.heap.size,0,none⟩:Addr).add 0=⟨w.heap.size,0,none⟩ from rfl,World.cell?_alloc_at _ _ _ _ rfl]
  simpa using hj
 |1,hj=>
  rw[show (⟨w.heap.size,0,none⟩:Addr).add 1=⟨w.heap.size,1,none⟩ from rfl,World.cell?_alloc_at _ _ _ _ rfl]
  simpa using hj
 |j+2,hj=>simp at hj
theorem FS.start{w:World}{g n:Nat}(h:w.ownsRow g 45 1 (.slice (some ⟨g,0,none⟩) n n) n (fillL (fun _=>.slice none 0 0) (.slice none 0 0) n 0)):
 FS n g (fillL (fun _=>.slice none 0 0) (.slice none 0 0) n 0) (fan []) w:=by
 have e:∀j,vat (fillL (fun _=>.slice none 0 0) (.slice none 0 0) n 0) j=.slice none 0 0:=fun j=>by
  unfold vat
  rw[List.getD_eq_getElem?_getD]
  by_cases hj:j<n
  ·rw[fillL_get _ _ _ _ _ hj];simp
  ·rw[List.getElem?_eq_none (by rw[fillL_len];omega)];rfl
 refine⟨h,fun j hj=>?_,fun i j _ _ _=>.inl (by rw[e];rfl)⟩
 rw[e]
 exact World.ownsRow_nil w _ _ _
theorem own_form{w:World}{base:Nat}{e:TypeId}{size:Nat}{v:Value}{n:Nat}{xs:List Value}(h:w.ownsRow base e size v n xs):∃A c,v=.slice A n c:=by
 rcases h.2 with⟨rfl,hn⟩| ⟨g,cap,cur,rfl,-⟩
 ·exact⟨none,0,by rw[hn]⟩
 ·exact⟨_,cap,rfl⟩
end Go.Proofs.YtcbllelkgniogaaDoor
