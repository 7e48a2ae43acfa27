/- The texts Fq1 Ofk. -/
import Derived.Test.YtcbllelkgniogaaDoorM11
import Derived.Test.YtcbllelkgniogaaDoorM10
import Derived.Sort.CutIn
namespace Go.Proofs.YtcbllelkgniogaaDoor
open Go.RowKit
attribute [local go_sem] Oper.semAt_some
def encL(l:Int×Int):Array Value:=#[.agg #[.int .i64 l.1,.int .i64 l.2]]
set_option maxHeartbeats 1000000 in
theorem lines_any(A0 A1 A2 A3:Option Addr)(n n1 n2 n3 c0 c1 c2 c3:Nat)(w:World):
 Calls Tryd.prog 24 #[.agg #[.slice A0 n c0,.slice A1 n1 c1,.slice A2 n2 c2,.slice A3 n3 c3]] w fun e w'=>e=.returned (.func (.func 42) #[] #[.pointer (some ⟨w.heap.size,0,none⟩)])∧Fr w' w.heap.size 39 [.slice A0 n c0,.slice A1 n1 c1,.slice A2 n2 c2,.slice A3 n3 c3]∧BelW w w':=by
 go_enter Tryd.func24,Tryd.ntmps24
 go_wp2
 go_ret
 exact⟨rfl,Fr.made _ _ _ rfl,below_new (Below.refl _ _) _⟩
set_option maxRecDepth 100000 in
set_option maxHeartbeats 4000000 in
theorem lines_in(F:Fence)(u B q b o n n1 n2 n3 c0 c1 c2 c3 l:Nat)(A0 A1 A2 A3:Option Addr)(ts:List TypeId)(nodes:List Nd)(h42:F.fn 42)(hro:F.round=none)(hu:1≤u)(hTC:39 ∉ ts)(hTN:53 ∉ ts)(hn:nodes.length=n)(hA0:0<n→A0=some ⟨b,o,none⟩)(hnm:n≤1000000)(J:Nat→World→Prop)
 (hst:∀k V V',J k V→Below V.heap.size V V'→J k V')
 (hY:∀k x V,(lnsN nodes n)[k]? =some x→J k V→YieldAt F (u-1) Tryd.prog l (encL x) V fun e V'=>e=.returned (.bool true)∧J (k+1) V'∧Kr B ts V V'∧KeepsFrom B V V')
 (W:World) (hq:Fr W q 39 [.slice A0 n c0,.slice A1 n1 c1,.slice A2 n2 c2,.slice A3 n3 c3]) (hbB:0<n→b<B)
 (hc:∀k,k<n→(nodes.getD k default).ins.length≤1000000∧∃A4 c4,W.cell? ⟨b,o+k*4,none⟩=some (.int .u8 (nodes.getD k default).kind)∧W.cell? ⟨b,o+k*4+1,none⟩=some (.slice A4 (nodes.getD k default).ins.length c4)∧W.cell? ⟨b,o+k*4+2,none⟩=some (.int .i64 (nodes.getD k default).mem)∧W.cell? ⟨b,o+k*4+3,none⟩=some (.int .i64 (nodes.getD k default).bit)) (h0:J 0 W):
 CallsIn F u Tryd.prog 42 #[.func (.yield l) #[] #[],.pointer (some ⟨q,0,none⟩)] W fun e W'=>(∃v,e=.returned v)∧J (lnsN nodes n).length W':=by
 refine callsIn_of_wp Tryd.func42 rfl h42 ?_ hro
 simp only[Tryd.ntmps42,List.size_toArray,List.length_cons,List.length_nil,Nat.reduceAdd,Nat.reduceSub,Array.replicate_succ,Array.replicate_zero,List.push_toArray,List.append_toArray,List.nil_append,List.cons_append]
 have HR:=Lib.hid (Kr.rel B ts)
 have HY:=Lib.hid hY
 have HST:=Lib.hid hst
 have x0:W.cell? ⟨q,0,none⟩=some (.slice A0 n c0):=hq.cell 0
 have HCN:Hid (∀V,Kr B ts W V→∀k,k<n→∃A4 c4,V.cell? ⟨b,o+k*4,none⟩=some (.int .u8 (nodes.getD k default).kind)∧V.cell? ⟨b,o+k*4+1,none⟩=some (.slice A4 (nodes.getD k default).ins.length c4)∧V.cell? ⟨b,o+k*4+2,none⟩=some (.int .i64 (nodes.getD k default).mem)∧V.cell? ⟨b,o+k*4+3,none⟩=some (.int .i64 (nodes.getD k default).bit)):=Lib.hid fun V h k hk=>by
  obtain⟨-,A4,c4,h1,h2,h3,h4⟩:=hc k hk
  exact⟨A4,c4,h.cell (hbB (by omega)) h1,h.cell (hbB (by omega)) h2,h.cell (hbB (by omega)) h3,h.cell (hbB (by omega)) h4⟩
 have HNL:Hid (∀k,k<n→(nodes.getD k default).ins.length≤1000000):=Lib.hid fun k hk=>(hc k hk).1
 have HA0:=Lib.hid hA0
 have HJ0:=Lib.hid h0
 clear hY hst hc hA0 h0 hq hbB
 gi_wp2
 gi_loopw [9] (fun i wr=>∃k:Nat,k≤n∧i=.int .i64 (k:Int)∧Hid (J (lnsC nodes k) wr)∧Hid (Kr B ts W wr)) (fun i _=>n-(intOf i).toNat)
 case atStart=>exact⟨0,Nat.zero_le _,rfl,HJ0,Lib.hid ((Kr.rel B ts).below (Below.refl _ _))⟩
 case round=>
  clear HJ0 x0
  obtain⟨k,hk,rfl,HJ,HKW⟩:=hrel
  by_cases hlt:k<n
  ·have hk2:(k:Int)<(n:Int):=by omega
   obtain rfl:=HA0.out (by omega)
   obtain⟨A4,c4,m0,m1,m2,m3⟩:=HCN.out wr HKW.out k hlt
   have hnl:=HNL.out k hlt
   have HAT:Hid (∀p,p<(nodes.getD k default).ins.length+1→(lnsN nodes n)[lnsC nodes k+p]? =some ((k:Int),(p:Int)-1)):=Lib.hid fun p hp=>lnsN_at nodes hlt hp
   have HSC:=Lib.hid (lnsC_succ nodes k)
   obtain⟨ni,HNI⟩:=named (nodes.getD k default).ins.length
   rw[←HNI.out]at m1 hnl HAT HSC
   obtain⟨mm,HMM⟩:=named (nodes.getD k default).mem
   rw[←HMM.out]at m2
   obtain⟨bt,HBT⟩:=named (nodes.getD k default).bit
   rw[←HBT.out]at m3
   obtain⟨kd,HKD⟩:=named (nodes.getD k default).kind
   rw[←HKD.out]at m0
   clear HMM HBT HKD
   obtain⟨W2,HW2⟩:=named (wr.alloc (.cells #[.int .u8 kd,.slice A4 ni c4,.int .i64 mm,.int .i64 bt] 53))
   have hnew:Below wr.heap.size wr W2:=by rw[HW2.out];exact below_new (Below.refl _ _) _
   have hfv:Fr W2 wr.heap.size 53 [.int .u8 kd,.slice A4 ni c4,.int .i64 mm,.int .i64 bt]:=by rw[HW2.out];exact Fr.made _ _ _ rfl
   obtain⟨v,HV⟩:=named wr.heap.size
   rw[←HV.out]at hfv
   have HFV:=Lib.hid hfv
   have HJ2:Hid (J (lnsC nodes k) W2):=Lib.hid (HST.out _ _ _ HJ.out hnew)
   have HK2:Hid (Kr B ts W W2):=Lib.hid (HR.out.trans HKW.out (HR.out.below hnew))
   have HV2:=Lib.hid HV.out
   clear hnew hfv HV
   gi_upto_region 3 with fail
   rw[←HW2.out,←HV2.out]
   clear m0 m1 m2 m3 HV2 HW2 HJ HKW
   gi_wp2
   gi_loopw [5] (fun pv wr=>∃p:Nat,p≤ni+1∧pv=.int .i64 ((p:Int)-1)∧Hid (J (lnsC nodes k+p) wr)∧Hid (Kr B ts W wr)∧Hid (Fr wr v 53 [.int .u8 kd,.slice A4 ni c4,.int .i64 mm,.int .i64 bt])) (fun pv _=>(ni+1)-(intOf pv+1).toNat)
   case atStart=>exact⟨0,Nat.zero_le _,by go_num,HJ2,HK2,HFV⟩
   case round=>
    clear HJ2 HK2 HFV
    obtain⟨p,hp,rfl,HJ,HKW,HF⟩:=hrel
    have y1:wr.cell? ⟨v,1,none⟩=some (.slice A4 ni c4):=HF.out.cell 1
    by_cases hpl:p<ni+1
    ·have hp2:(p:Int)-1<(ni:Int):=by omega
     have HYK:Hid (YieldAt F (u-1) Tryd.prog l #[.agg #[.int .i64 (k:Int),.int .i64 ((p:Int)-1)]] wr fun e V'=>e=.returned (.bool true)∧J (lnsC nodes k+p+1) V'∧Kr B ts wr V'∧KeepsFrom B wr V'):=Lib.hid (HY.out _ _ wr (HAT.out p hpl) HJ.out)
     obtain⟨fn,tmps,assign,body,hy,hR⟩:=HYK.out
     clear HYK
     gi_wp2
     refine hR.mono ?_
     rintro e W3 ⟨rfl,hJ3,hk3,-⟩
     have HJ3:=Lib.hid hJ3
     have HK3:=Lib.hid hk3
     clear hy hR hJ3 hk3 y1
     gi_wp2
     go_roundw
     case rel=>exact⟨p+1,by omega,by go_num,HJ3,Lib.hid (HR.out.trans HKW.out HK3.out),Lib.hid (HK3.out.row HF.out hTN)⟩
     case measure=>simp[intOf];omega
    ·have hp2:¬(p:Int)-1<(ni:Int):=by omega
     have HJ3:Hid (J (lnsC nodes (k+1)) wr):=Lib.hid (by rw[HSC.out,show ni+1=p by omega];exact HJ.out)
     gi_wp2
     go_roundw
     case rel=>exact⟨k+1,by omega,by go_num,HJ3,HKW⟩
     case measure=>simp[intOf];omega
  ·obtain rfl:n=k:=by omega
   gi_wp2
   go_end0
   exact⟨⟨_,rfl⟩,HJ.out⟩
def U8At(w:World)(_B b p:Nat)(x:Int):Prop:=w.cell? ⟨b,p,none⟩=some (.int .u8 x)
theorem stays_u8:Stays U8At:=fun w w' B B' b p x hb hB h hk=>(hk ⟨b,p,none⟩ hb).trans h
def Ks(w:World)(B:Nat)(v:Value)(l:List Int):Prop:=Arr 0 1 U8At w B v l
theorem Ks.below{w w':World}{B:Nat}{v:Value}{l:List Int}(h:Ks w B v l)(hb:Below B w w'):Ks w' B v l:=Arr.keep stays_u8 h (Nat.le_refl _) fun _ hp=>hb.cell hp
theorem Ks.opens{w:World}{B:Nat}{v:Value}{l:List Int}(h:Ks w B v l):∃A b o c,v=.slice A l.length c∧(0<l.length→A=some ⟨b,o,none⟩)∧l.length≤c∧l.length≤maxLen∧∀k,k<l.length→b<B∧w.cell? ⟨b,o+k,none⟩=some (.int .u8 (l.getD k 0)):=by
 obtain⟨A,b,o,c,h1,h2,h3,h4,h5⟩:=h
 exact⟨A,b,o,c,h1,h2,h3,h4,fun k hk=>⟨(h5 k hk).1,by have:=(h5 k hk).2;rw[Nat.mul_one]at this;exact this⟩⟩
theorem Stk.reads{w:World}{g c:Nat}{A:Option Addr}{l:List Int}(h:Stk w g (.slice A l.length c) l)(k:Nat)(hk:l.length≤k)(hkm:l.length≤maxLen):Is w w.heap.size (.slice A l.length k) l:=by
 obtain⟨A',c',e,-,-,hq⟩:=h.form
 simp only[Value.slice.injEq,true_and]at e
 obtain⟨rfl,rfl⟩:=e
 by_cases h0:0<l.length
 ·obtain⟨q,rfl,-,hlt⟩:=hq h0
  refine⟨_,q,0,k,rfl,fun _=>rfl,hk,hkm,fun j hj=>⟨hlt,?_⟩⟩
  show World.cell? _ _=_
  rw[Nat.zero_add,Nat.mul_one]
  exact h.cell hj
 ·exact⟨A,0,0,k,rfl,fun h=>absurd h h0,hk,hkm,fun j hj=>absurd hj (by omega)⟩
theorem Stk.shape{w:World}{g:Nat}{v:Value}{l:List Int}(h:Stk w g v l):∃A c,v=.slice A l.length c∧l.length≤c∧c≤maxLen∧((A=none∧l.length=0∧c=0)∨∃a:Addr,A=some a):=by
 rcases h.2 with⟨rfl,hn⟩| ⟨g,cap,cur,rfl,hb,hg,hle,hm,-⟩
 ·exact⟨none,0,by rw[hn],by omega,by simp,.inl ⟨rfl,hn,rfl⟩⟩
 ·exact⟨_,cap,rfl,hle,hm,.inr ⟨_,rfl⟩⟩
def OfPost(l:List Int)(w:World)(e:Ending)(w':World):Prop:=∃A,e=.returned (.slice A l.length l.length)∧Is w' w'.heap.size (.slice A l.length l.length) l∧Below w.heap.size w w'
theorem Ks.one(w:World)(x:Int)(t:TypeId){n:Nat}(hn:n=w.heap.size):Ks (w.alloc (.cells #[.int .u8 x] t)) (w.alloc (.cells #[.int .u8 x] t)).heap.size (.slice (some ⟨n,0,none⟩) 1 1) [x]:=by
 subst hn
 refine⟨_,w.heap.size,0,1,rfl,fun _=>rfl,by simp,by simp[maxLen],fun k hk=>?_⟩
 have hk0:k=0:=by simpa using hk
 subst hk0
 refine⟨by simp,?_⟩
 show World.cell? _ _=_
 rw[World.cell?_alloc_at _ _ _ _ rfl];rfl
theorem OfPost.from{l:List Int}{w0 w:World}{P:Program}{f:FuncId}{args:Array Value}(h:Calls P f args w (OfPost l w))(hb:Below w0.heap.size w0 w):Calls P f args w (OfPost l w0):=
 h.mono fun _ _ ⟨A,he,hi,h'⟩=>⟨A,he,hi,joinB hb h'⟩
end Go.Proofs.YtcbllelkgniogaaDoor
