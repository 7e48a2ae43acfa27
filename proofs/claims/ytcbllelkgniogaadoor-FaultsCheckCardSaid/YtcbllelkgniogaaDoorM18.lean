/- The texts Kdr Kob Kfi Kbk Rlw Hel Rgb. -/
import Derived.Test.YtcbllelkgniogaaDoorM17
import Derived.Test.YtcbllelkgniogaaDoorM15
import Derived.Test.YtcbllelkgniogaaDoorM09
import Derived.Test.YtcbllelkgniogaaDoorM01
import Derived.Deep.AppendLies
import Derived.Deep.Upon
import Derived.Laws.MakeOwn
import Derived.OrdersHeld
import Derived.Deep.RegionHeld
import Derived.OrdersIn
import Derived.RangeFuncCalls
namespace Go.Proofs.YtcbllelkgniogaaDoor
open Go.RowKit
def SRw(w:World)(g n:Nat)(vs:List Value):Prop:=w.ownsRow g 37 1 (.slice (some ⟨g,0,none⟩) n n) n vs
theorem SRw.below{w w':World}{g n:Nat}{vs:List Value}(h:SRw w g n vs)(hb:Below w.heap.size w w'):SRw w' g n vs:=
 World.ownsRow.kept h (row:=none) ⟨hb.os,hb.tape,hb.output,hb.size,fun i hi _=>hb.block i hi⟩ (.inr (by simp[Value.ownBlock]))
theorem SRw.lt{w:World}{g n:Nat}{vs:List Value}(h:SRw w g n vs):g<w.heap.size:=(World.ownsRow.lt h g rfl).2
theorem SRw.len{w:World}{g n:Nat}{vs:List Value}(h:SRw w g n vs):vs.length=n:=by have:=h.1;rwa [Nat.mul_one]at this
theorem Is.nil0(w:World)(B:Nat):Is w B (.slice none 0 0) []:=⟨none,0,0,0,rfl,fun h=>absurd h (by decide),Nat.le_refl _,by decide,fun k hk=>absurd hk (Nat.not_lt_zero k)⟩
def DrvS(nodes:List Nd)(w:World)(n k:Nat)(vs:List Value):Prop:=∀j,j<n→(j<k→∃A c,vs[j]? =some (.slice A (dep nodes (j:Int)).length c)∧Is w w.heap.size (.slice A (dep nodes (j:Int)).length c) (dep nodes (j:Int)))∧(k≤j→vs[j]? =some (.slice none 0 0))
theorem DrvS.skip{nodes:List Nd}{w:World}{n k:Nat}{vs:List Value}(h:DrvS nodes w n k vs)(hk:dep nodes (k:Int)=[]):DrvS nodes w n (k+1) vs:=fun j hj=>by
 refine⟨fun hjk=>?_,fun hjk=>(h j hj).2 (by omega)⟩
 by_cases e:j=k
 ·subst e
  have h2:=(h j hj).2 (Nat.le_refl _)
  rw[hk]
  exact⟨_,_,h2,Is.nil0 w _⟩
 ·exact (h j hj).1 (by omega)
theorem DrvS.put{nodes:List Nd}{w:World}{n k:Nat}{vs:List Value}(h:DrvS nodes w n k vs)(hl:vs.length=n)(hk:k<n){A:Option Addr}{m c:Nat}(hm:m=(dep nodes (k:Int)).length)(hs:Is w w.heap.size (.slice A m c) (dep nodes (k:Int))):DrvS nodes w n (k+1) (vs.set k (.slice A m c)):=fun j hj=>by
 subst hm
 refine⟨fun hjk=>?_,fun hjk=>?_⟩
 ·by_cases e:j=k
  ·subst e
   exact⟨A,c,by rw[List.getElem?_set,if_pos rfl,if_pos (by omega)],hs⟩
  ·obtain⟨A',c',e1,e2⟩:=(h j hj).1 (by omega)
   exact⟨A',c',by rw[List.getElem?_set,if_neg (fun e'=>e e'.symm)];exact e1,e2⟩
 ·rw[List.getElem?_set,if_neg (by omega)]
  exact (h j hj).2 (by omega)
theorem grown_of{w w':World}(h:BelW w w')(r:Option Nat):w.grownBy w' r:=⟨h.os,h.tape,h.output,h.size,fun i hi _=>h.block i hi⟩
theorem own_frB{w:World}{base:Nat}{e:TypeId}{size g n:Nat}{xs:List Value}(h:w.ownsRow base e size (.slice (some ⟨g,0,none⟩) n n) n xs):Fr w g e xs:=by
 obtain⟨h1,h2⟩:=h
 rcases h2 with⟨e',-⟩| ⟨g',cap,cur,e',hb,hg,hle,hm,hs,ht⟩
 ·cases e'
 ·simp only[Value.slice.injEq,Option.some.injEq,Addr.mk.injEq,and_true,true_and]at e'
  obtain⟨rfl,rfl⟩:=e'
  have hc:cur=xs.toArray:=by
   apply Array.ext'
   rw[←ht,List.take_of_length_le (by rw[Array.length_toList];omega)]
  rw[hc]at hg
  exact hg
theorem BRow.not_int{w:World}{g j:Nat}{l:List Bool}{x:Int}(h:BRow w g l):w.cell? ⟨g,j,none⟩≠some (.int .i64 x):=fun e=>by
 have h1:=(own_frB h).cell j
 rw[e,List.getElem?_map]at h1
 cases h2:l[j]? with
 |none=>rw[h2]at h1;cases h1
 |some y=>rw[h2]at h1;simp at h1
theorem Is.apart{w w':World}{g:Nat}{R:List Bool}{v:Value}{l:List Int}(h:Is w w.heap.size v l)(hR:BRow w g R)(hg:w.grownBy w' (some g)):Is w' w'.heap.size v l:=by
 obtain⟨A,b,o,c,e,hA,h1,h2,hc⟩:=h
 refine⟨A,b,o,c,e,hA,h1,h2,fun k hk=>?_⟩
 obtain⟨hb,hx⟩:=hc k hk
 have hx':w.cell? ⟨b,o+k*1,none⟩=some (.int .i64 (l.getD k 0)):=hx
 have hne:b≠g:=fun e=>by subst e;exact hR.not_int hx'
 exact⟨Nat.lt_of_lt_of_le hb hg.size,hg.cell hx' fun e=>hne (by simpa using e)⟩
structure FI(n g B:Nat)(Vs:List Value)(F:Nat→List Int)(w:World):Prop where
 lo:g<B
 top:w.ownsRow g 37 1 (.slice (some ⟨g,0,none⟩) n n) n Vs
 row:∀j,j<n→w.ownsRow B 3 1 (vat Vs j) (F j).length ((F j).map (Value.int .i64))
 dis:∀i j,i<n→j<n→i≠j→(vat Vs i).ownBlock=none∨(vat Vs i).ownBlock≠(vat Vs j).ownBlock
theorem FI.len{n g B:Nat}{Vs:List Value}{F:Nat→List Int}{w:World}(h:FI n g B Vs F w):Vs.length=n:=by
 have:=h.top.1;omega
theorem FI.lt{n g B:Nat}{Vs:List Value}{F:Nat→List Int}{w:World}(h:FI n g B Vs F w):g<w.heap.size:=(World.ownsRow.lt h.top g rfl).2
theorem FI.below{n g B:Nat}{Vs:List Value}{F:Nat→List Int}{w w':World}(h:FI n g B Vs F w)(hb:Below w.heap.size w w'):FI n g B Vs F w':=by
 have hg:w.grownBy w' none:=⟨hb.os,hb.tape,hb.output,hb.size,fun i hi _=>hb.block i hi⟩
 refine⟨h.lo,h.top.kept hg (.inr (by simp[Value.ownBlock])),fun j hj=>(h.row j hj).kept hg ?_,h.dis⟩
 rcases (vat Vs j).ownBlock with _|q
 ·exact .inl rfl
 ·exact .inr (by simp)
theorem FI.cell{n g B:Nat}{Vs:List Value}{F:Nat→List Int}{w:World}(h:FI n g B Vs F w){j:Nat}(hj:j<n):w.cell? ⟨g,j,none⟩=some (vat Vs j):=by
 rw[h.top.cellAt j (by omega),vat,List.getD_eq_getElem?_getD,List.getElem?_eq_getElem (by rw[h.len];exact hj)]
 rfl
theorem FI.shape{n g B:Nat}{Vs:List Value}{F:Nat→List Int}{w:World}(h:FI n g B Vs F w){j:Nat}(hj:j<n):
 ∃A c,vat Vs j=.slice A (F j).length c∧(F j).length≤c∧c≤maxLen∧((A=none∧(F j).length=0∧c=0)∨∃b,A=some ⟨b,0,none⟩∧B≤b∧b<w.heap.size):=by
 have hlt:=World.ownsRow.lt (h.row j hj)
 rcases (h.row j hj).2 with⟨e,hn⟩| ⟨q,cap,cur,e,hb,hg,hle,hm,-⟩
 ·exact⟨none,0,by rw[e,hn],by omega,by simp,.inl ⟨rfl,hn,rfl⟩⟩
 ·exact⟨_,cap,e,hle,hm,.inr ⟨q,rfl,hb,(hlt q (by rw[e];rfl)).2⟩⟩
theorem FI.push{n g B:Nat}{Vs:List Value}{F:Nat→List Int}{w w1:World}{j:Nat}{v':Value}{x:Int}(h:FI n g B Vs F w)(hj:j<n)
 (hown:w1.ownsRow B 3 1 v' ((F j).length+1) ((F j).map (Value.int .i64)++[.int .i64 x])) (hgr:w.grownBy w1 (vat Vs j).ownBlock)
 (hat:v'.ownBlock=(vat Vs j).ownBlock∨v'.ownBlock=some w.heap.size):
 FI n g B (Vs.set j v') (fun k=>if k=j then F k++[x] else F k) (w1.setCell ⟨g,j,none⟩ v'):=by
 have hlen:=h.len
 have hlo:=h.lo
 have hjq:∀q,(vat Vs j).ownBlock=some q→B≤q:=fun q e=>(World.ownsRow.lt (h.row j hj) q e).1
 have ht:=h.top.kept hgr (.inr fun e=>by have:=hjq g e.symm;omega)
 have hs:=ht.stored j v'
 have hv:∀q,v'.ownBlock=some q→B≤q:=fun q e=>(World.ownsRow.lt hown q e).1
 have hgo:∀ {v:Value},(∀q,v.ownBlock=some q→B≤q)→v.ownBlock=none∨v.ownBlock≠some g:=fun {v} hq=>by
  rcases ho:v.ownBlock with _|q
  ·exact .inl rfl
  ·refine .inr fun e=>?_
   have:=hq q ho
   simp only[Option.some.injEq]at e
   omega
 refine⟨h.lo,hs.1,fun k hk=>?_,fun a b ha hb hab=>?_⟩
 ·rw[vat_set _ _ _ _ (by omega)]
  by_cases hkj:k=j
  ·subst hkj
   simp only[if_true]
   rw[List.length_append,List.map_append]
   exact hown.kept hs.2 (hgo hv)
  ·rw[if_neg hkj]
   simp only[if_neg hkj]
   refine ((h.row k hk).kept hgr (h.dis k j hk hj hkj)).kept hs.2 (hgo ?_)
   exact fun q e=>(World.ownsRow.lt (h.row k hk) q e).1
 ·rw[vat_set _ _ _ _ (by omega),vat_set _ _ _ _ (by omega)]
  have hz:∀k,k<n→∀q,(vat Vs k).ownBlock=some q→q<w.heap.size:=fun k hk q e=>(World.ownsRow.lt (h.row k hk) q e).2
  by_cases haj:a=j
  ·rw[if_pos haj,if_neg (by omega)]
   rcases hat with e|e
   ·rw[e,←haj];exact h.dis a b ha hb hab
   ·refine .inr fun e'=>?_
    rw[e]at e'
    have:=hz b hb _ e'.symm
    omega
  ·rw[if_neg haj]
   by_cases hbj:b=j
   ·rw[if_pos hbj]
    rcases hat with e|e
    ·rw[e,←hbj];exact h.dis a b ha hb hab
    ·rcases ho:(vat Vs a).ownBlock with _|q
     ·exact .inl rfl
     ·refine .inr fun e'=>?_
      rw[e]at e'
      have:=hz a ha q ho
      simp only[Option.some.injEq]at e'
      omega
   ·rw[if_neg hbj];exact h.dis a b ha hb hab
theorem FI.grown{n g B:Nat}{Vs:List Value}{F:Nat→List Int}{w0 w w1:World}{j:Nat}(h:FI n g B Vs F w)(hj:j<n)(hb:w0.grownBy w (some g))(hB:w0.heap.size≤B)(hgr:w.grownBy w1 (vat Vs j).ownBlock)(v':Value):
 w0.grownBy (w1.setCell ⟨g,j,none⟩ v') (some g):=by
 have hjq:∀q,(vat Vs j).ownBlock=some q→B≤q:=fun q e=>(World.ownsRow.lt (h.row j hj) q e).1
 refine World.grownBy.trans ⟨hgr.os.trans hb.os,hgr.tape.trans hb.tape,hgr.output.trans hb.output,Nat.le_trans hb.size hgr.size,fun i hi hne=>(hgr.block i (Nat.lt_of_lt_of_le hi hb.size) fun e=>?_).trans (hb.block i hi hne)⟩ (grown_set _ _ _ _)
 have:=hjq i e.symm
 omega
theorem FI.congr{n g B:Nat}{Vs:List Value}{F F':Nat→List Int}{w:World}(h:FI n g B Vs F w)(e:∀j,j<n→F j=F' j):FI n g B Vs F' w:=
 ⟨h.lo,h.top,fun j hj=>by rw[←e j hj];exact h.row j hj,h.dis⟩
theorem FI.start{w:World}{g n B:Nat}(hlo:g<B)(h:w.ownsRow g 37 1 (.slice (some ⟨g,0,none⟩) n n) n (List.replicate n (.slice none 0 0))):FI n g B (List.replicate n (.slice none 0 0)) (fun _=>[]) w:=by
 have e:∀j,vat (List.replicate n (.slice none 0 0)) j=.slice none 0 0:=fun j=>by
  unfold vat
  rw[List.getD_eq_getElem?_getD,List.getElem?_replicate]
  split<;>rfl
 refine⟨hlo,h,fun j hj=>?_,fun i j _ _ _=>.inl (by rw[e];rfl)⟩
 rw[e]
 exact World.ownsRow_nil w _ _ _
theorem FI.own{n g B:Nat}{Vs:List Value}{F:Nat→List Int}{w:World}(h:FI n g B Vs F w){j:Nat}(hj:j<n):w.ownsRow B 3 1 (vat Vs j) (F j).length ((F j).map (Value.int .i64)):=h.row j hj
theorem FI.reads{n g B:Nat}{Vs:List Value}{F:Nat→List Int}{w:World}(h:FI n g B Vs F w)(hm:∀j,j<n→(F j).length≤maxLen):NxR w w.heap.size g 0 n F:=by
 refine⟨h.lt,fun j hj=>?_⟩
 have hc:=h.cell hj
 rw[Nat.zero_add]
 rcases (h.row j hj).2 with⟨e,hn⟩| ⟨q,cap,cur,e,hb,hg,hle,hm2,-⟩
 ·have hF:F j=[]:=List.eq_nil_of_length_eq_zero hn
  rw[e]at hc
  exact⟨none,0,by rw[hF];exact hc,by rw[hF];exact Is.nil0 _ _⟩
 ·rw[e]at hc
  refine⟨_,cap,hc,⟨_,q,0,cap,rfl,fun _=>rfl,hle,hm j hj,fun k hk=>⟨(Array.getElem?_eq_some_iff.1 hg).1,?_⟩⟩⟩
  have h1:=h.row j hj
  rw[e]at h1
  show w.cell? ⟨q,0+k*1,none⟩=_
  rw[Nat.zero_add,Nat.mul_one,World.ownsRow.cellAt h1 k (by omega),List.getElem?_map,List.getElem?_eq_getElem hk,List.getD_eq_getElem?_getD,List.getElem?_eq_getElem hk]
  rfl
attribute [local go_sem] Oper.semAt_some
set_option maxRecDepth 100000 in
set_option maxHeartbeats 2000000 in
theorem back_in(F:Fence)(n:Nat)(h73:F.fn 77)(hro:F.round=none)(hn:1≤n)(l Bs B gx b off len cap:Nat)(A:Option Addr)(xs:List Int)(hlen:len≤1000000000)(hA:0<len→A=some ⟨b,off,none⟩)(hb:0<len→b<B∧b≠gx)(hbs:Bs<B∧Bs≠gx)(J:Nat→World→Prop)
 (hY:∀(k j:Nat) (W:World),len=k+1+j→J k W→YieldAt F (n-1) Tryd.prog l #[.int .i64 (j:Int),.int .i64 (xs.getD j 0)] W fun e W'=>e=.returned (.bool true)∧J (k+1) W'∧Kx B gx W W')
 (W:World) (hBs:W.cell? ⟨Bs,0,none⟩=some (.slice A len cap)) (hc:∀j,j<len→W.cell? ⟨b,off+j,none⟩=some (.int .i64 (xs.getD j 0))) (h0:J 0 W):
 CallsIn F n Tryd.prog 77 #[.func (.yield l) #[] #[],.pointer (some ⟨Bs,0,none⟩)] W fun e W'=>(∃v,e=.returned v)∧J len W':=by
 refine callsIn_of_wp Tryd.func77 rfl h73 ?_ hro
 simp only[Tryd.ntmps77,List.size_toArray,List.length_cons,List.length_nil,Nat.reduceAdd,Nat.reduceSub,Array.replicate_succ,Array.replicate_zero,List.push_toArray,List.append_toArray,List.nil_append,List.cons_append]
 gi_wp2
 gi_loopw [3] (fun i wr=>∃k:Nat,k≤len∧i=.int .i64 ((len:Int)-1-(k:Int))∧J k wr∧Kx B gx W wr) (fun i _=>(intOf i+1).toNat)
 case atStart=>exact⟨0,Nat.zero_le _,by go_num,h0,Kx.refl _ _ _⟩
 case round=>
  obtain⟨k,hk,rfl,hJs,hnx⟩:=hrel
  by_cases hlt:k<len
  ·obtain⟨j,hj⟩:∃j,len=k+1+j:=⟨len-k-1,by omega⟩
   have e1:(len:Int)-1-(k:Int)=(j:Int):=by omega
   have e2:(len:Int)-1-((k+1:Nat):Int)=(j:Int)-1:=by omega
   have hjl:j<len:=by omega
   have hj2:(j:Int)<(len:Int):=by omega
   have hj3:(0:Int)≤(j:Int):=by omega
   obtain rfl:=hA (by omega)
   have hx0:wr.cell? ⟨Bs,0,none⟩=some (.slice (some ⟨b,off,none⟩) len cap):=(hnx.cell (p:=⟨Bs,0,none⟩) hbs.1 hbs.2).trans hBs
   have hx1:wr.cell? ⟨b,off+j,none⟩=some (.int .i64 (xs.getD j 0)):=(hnx.cell (p:=⟨b,off+j,none⟩) (hb (by omega)).1 (hb (by omega)).2).trans (hc j hjl)
   have HY:=Lib.hid (hY k j wr hj hJs)
   have HE2:=Lib.hid e2
   obtain⟨x,HX⟩:=named (xs.getD j 0)
   rw[←HX.out]at hx1 HY
   obtain⟨fn,tmps,assign,body,hy,hR⟩:=HY.out
   rw[e1]
   clear hc hBs h0 hY HX HY e1 e2 hj
   gi_wp2
   refine hR.mono ?_
   rintro e W3 ⟨rfl,hJ3,hk3⟩
   gi_wp2
   go_roundw
   case rel=>exact⟨k+1,by omega,by rw[HE2.out],hJ3,hnx.trans hk3⟩
   case measure=>simp[intOf]
  ·obtain rfl:len=k:=by omega
   have e1:(len:Int)-1-(len:Int)= -1:=by omega
   rw[e1]
   gi_wp2
   go_end0
   exact⟨⟨_,rfl⟩,hJs⟩
def backL(xs:List Int):List (Nat×Int):=(List.range xs.length).reverse.map fun j=>(j,xs.getD j 0)
theorem backL_len(xs:List Int):(backL xs).length=xs.length:=by simp[backL]
theorem backL_at(xs:List Int){k j:Nat}(h:xs.length=k+1+j):(backL xs)[k]? =some (j,xs.getD j 0):=by
 unfold backL
 rw[List.getElem?_map,List.getElem?_reverse (by simp;omega),List.length_range,show xs.length-1-k=j by omega,List.getElem?_range (by omega)]
 rfl
theorem back_seq(F:Fence)(n:Nat)(h73:F.fn 77)(hro:F.round=none)(hn:1≤n)(Bs B gx:Nat)(A:Option Addr)(b off cap:Nat)(xs:List Int)(w:World)(hA:0<xs.length→A=some ⟨b,off,none⟩)(hb:0<xs.length→b<B∧b≠gx)(hc:∀j,j<xs.length→w.cell? ⟨b,off+j,none⟩=some (.int .i64 (xs.getD j 0)))(hx:xs.length≤1000000)(hB:B≤w.heap.size)(hbs:Bs<B∧Bs≠gx)(hBs:w.cell? ⟨Bs,0,none⟩=some (.slice A xs.length cap)):
 SeqAll F n Tryd.prog 77 #[.pointer (some ⟨Bs,0,none⟩)] (fun p:Nat×Int=>#[.int .i64 (p.1:Int),.int .i64 p.2]) B gx (backL xs) w:=by
 intro l J W hbe hY h0
 rw[backL_len]
 exact back_in F n h73 hro hn l Bs B gx b off xs.length cap A xs (by omega) hA hb hbs J
  (fun k j V hk hJ=>hY k (j,xs.getD j 0) V (backL_at xs hk) hJ) W ((hbe.cell (p:=⟨Bs,0,none⟩) (by have:=hbs.1;show Bs<_;omega)).trans hBs)
  (fun j hj=>(hbe.cell (p:=⟨b,off+j,none⟩) (by have:=(hb (by omega)).1;show b<_;omega)).trans (hc j hj)) h0
set_option maxHeartbeats 1000000 in
theorem backward_any(A:Option Addr)(n c:Nat)(w:World):
 Calls Tryd.prog 62 #[.slice A n c] w fun e w'=>e=.returned (.func (.func 77) #[] #[.pointer (some ⟨w.heap.size,0,none⟩)])∧w'.cell? ⟨w.heap.size,0,none⟩=some (.slice A n c)∧w.heap.size<w'.heap.size∧BelW w w':=by
 go_enter Tryd.func62,Tryd.ntmps62
 go_wp2
 go_ret
 have hf:Fr (w.alloc (.cells #[.slice A n c] 37)) w.heap.size 37 [.slice A n c]:=Fr.made _ _ _ rfl
 exact⟨rfl,hf.cell 0,by simp,below_new (Below.refl _ _) _⟩
def unitF(n a:Nat):Nat→List Nat
 |0=>List.replicate n 0
 |k+1=>(unitF n a k).set (a+k) (2^k)
theorem unitF_len(n a k:Nat):(unitF n a k).length=n:=by
 induction k with
 |zero=>simp[unitF]
 |succ k ih=>simp[unitF,ih]
def usN(us:List Nat)(i x:Nat):List Nat:=us.set i (us.getD i 0|||us.getD x 0)
def usI(rd:Nat→List Nat)(us:List Nat)(i:Nat):Nat→List Nat
 |0=>us
 |m+1=>usN (usI rd us i m) i ((rd i).getD m 0)
def usO(rd:Nat→List Nat)(us:List Nat)(ord:List Nat):Nat→List Nat
 |0=>us
 |j+1=>usI rd (usO rd us ord j) (ord.getD j 0) (rd (ord.getD j 0)).length
def udI(rd:Nat→List Nat)(ud:List Nat)(i:Nat):Nat→List Nat
 |0=>ud
 |m+1=>usN (udI rd ud i m) ((rd i).getD m 0) i
def udO(rd:Nat→List Nat)(ud:List Nat)(ord:List Nat)(n:Nat):Nat→List Nat
 |0=>ud
 |k+1=>udI rd (udO rd ud ord n k) (ord.getD (n-1-k) 0) (rd (ord.getD (n-1-k) 0)).length
inductive Rch (rd:Nat→List Nat):Nat→Nat→Prop
 |refl (a:Nat):Rch rd a a
 |step {a x b:Nat} :x∈rd a→Rch rd x b→Rch rd a b
theorem Rch.iff{rd:Nat→List Nat}{a b:Nat} :Rch rd a b↔a=b∨∃x∈rd a,Rch rd x b:=by
 constructor
 ·rintro (_| ⟨h,g⟩)
  ·exact .inl rfl
  ·exact .inr ⟨_,h,g⟩
 ·rintro (rfl| ⟨x,h,g⟩)
  ·exact .refl _
  ·exact .step h g
theorem Rch.snoc{rd:Nat→List Nat}{a b x:Nat}(h:Rch rd a b)(hx:x∈rd b):Rch rd a x:=by
 induction h with
 |refl a=>exact .step hx (.refl _)
 |step h _ ih=>exact .step h (ih hx)
theorem Rch.iff_last{rd:Nat→List Nat}{a b:Nat} :Rch rd a b↔a=b∨∃x,Rch rd a x∧b∈rd x:=by
 constructor
 ·intro h
  induction h with
  |refl a=>exact .inl rfl
  |step h _ ih=>
   rcases ih with rfl| ⟨x,h1,h2⟩
   ·exact .inr ⟨_,.refl _,h⟩
   ·exact .inr ⟨x,.step h h1,h2⟩
 ·rintro (rfl| ⟨x,h1,h2⟩)
  ·exact .refl _
  ·exact h1.snoc h2
theorem getD_setF(us:List Nat)(i j x:Nat):(us.set i x).getD j 0=if i=j∧j<us.length then x else us.getD j 0:=by
 simp only[List.getD_eq_getElem?_getD,List.getElem?_set]
 by_cases h:i=j
 ·subst h
  by_cases h2:i<us.length
  ·simp[h2]
  ·simp[h2]
 ·simp[h]
theorem usN_len(us:List Nat)(i x:Nat):(usN us i x).length=us.length:=by simp[usN]
theorem usI_len(rd:Nat→List Nat)(us:List Nat)(i m:Nat):(usI rd us i m).length=us.length:=by
 induction m with
 |zero=>rfl
 |succ m ih=>simp[usI,usN_len,ih]
theorem udI_len(rd:Nat→List Nat)(us:List Nat)(i m:Nat):(udI rd us i m).length=us.length:=by
 induction m with
 |zero=>rfl
 |succ m ih=>simp[udI,usN_len,ih]
theorem usO_len(rd:Nat→List Nat)(us ord:List Nat)(j:Nat):(usO rd us ord j).length=us.length:=by
 induction j with
 |zero=>rfl
 |succ j ih=>simp[usO,usI_len,ih]
theorem udO_len(rd:Nat→List Nat)(us ord:List Nat)(n j:Nat):(udO rd us ord n j).length=us.length:=by
 induction j with
 |zero=>rfl
 |succ j ih=>simp[udO,udI_len,ih]
theorem unitF_bit{n a m:Nat}(h:a+m≤n)(i t:Nat):((unitF n a m).getD i 0).testBit t=(decide (t<m)&&decide (i=a+t)):=by
 induction m with
 |zero=>
  have e:(List.replicate n 0).getD i 0=0:=by simp only[List.getD_eq_getElem?_getD,List.getElem?_replicate];split<;>rfl
  rw[unitF,e,Nat.zero_testBit]
  simp
 |succ m ih=>
  rw[unitF,getD_setF,unitF_len]
  by_cases h1:a+m=i∧i<n
  ·rw[if_pos h1,Nat.testBit_two_pow]
   have e:i=a+m:=h1.1.symm
   by_cases h2:m=t
   ·subst h2;simp[e]
   ·have:¬i=a+t:=by omega
    simp[h2,this]
  ·rw[if_neg h1,ih (by omega)]
   by_cases h2:t=m
   ·subst h2
    have:¬i=a+t:=by omega
    simp[this]
   ·have:(t<m+1)=(t<m):=by apply propext;omega
    simp[this]
theorem usI_bit{rd:Nat→List Nat}{us:List Nat}{i:Nat}(hi:i<us.length)(hni:∀x∈rd i,x≠i)(j t:Nat):∀m,m≤(rd i).length→(((usI rd us i m).getD j 0).testBit t=true↔(us.getD j 0).testBit t=true∨(j=i∧∃q,q<m∧(us.getD ((rd i).getD q 0) 0).testBit t=true)):=by
 intro m
 induction m generalizing j with
 |zero=>intro _;simp[usI]
 |succ m ih=>
  intro hm
  have hx:(rd i).getD m 0≠i:=hni _ (by
   rw[List.getD_eq_getElem?_getD,List.getElem?_eq_getElem (by omega)]
   exact List.getElem_mem _)
  rw[usI,usN,getD_setF,usI_len]
  by_cases h1:i=j∧j<us.length
  ·obtain⟨rfl,-⟩:=h1
   rw[if_pos ⟨rfl,hi⟩,Nat.testBit_or,Bool.or_eq_true,ih i (by omega),ih _ (by omega)]
   constructor
   ·rintro ((h| ⟨-,q,hq,h⟩)|(h| ⟨e,-⟩))
    ·exact .inl h
    ·exact .inr ⟨rfl,q,by omega,h⟩
    ·exact .inr ⟨rfl,m,by omega,h⟩
    ·exact absurd e hx
   ·rintro (h| ⟨-,q,hq,h⟩)
    ·exact .inl (.inl h)
    ·rcases Nat.lt_succ_iff_lt_or_eq.1 hq with h2|rfl
     ·exact .inl (.inr ⟨rfl,q,h2,h⟩)
     ·exact .inr (.inl h)
  ·rw[if_neg h1,ih _ (by omega)]
   have hne:j≠i:=fun e=>h1 ⟨e.symm,e▸hi⟩
   simp[hne]
theorem udI_bit{rd:Nat→List Nat}{us:List Nat}{i:Nat}(hr:∀x∈rd i,x<us.length)(hni:∀x∈rd i,x≠i)(j t:Nat):∀m,m≤(rd i).length→(((udI rd us i m).getD j 0).testBit t=true↔(us.getD j 0).testBit t=true∨((∃q,q<m∧(rd i).getD q 0=j)∧(us.getD i 0).testBit t=true)):=by
 intro m
 induction m generalizing j with
 |zero=>intro _;simp[udI]
 |succ m ih=>
  intro hm
  have hmem:(rd i).getD m 0∈rd i:=by
   rw[List.getD_eq_getElem?_getD,List.getElem?_eq_getElem (by omega)]
   exact List.getElem_mem _
  have hx:=hni _ hmem
  have hxl:=hr _ hmem
  have hnn:¬∃q,q<m∧(rd i).getD q 0=i:=by
   rintro⟨q,hq,e⟩
   refine hni ((rd i).getD q 0) ?_ e
   rw[List.getD_eq_getElem?_getD,List.getElem?_eq_getElem (by omega)]
   exact List.getElem_mem _
  rw[udI,usN,getD_setF,udI_len]
  by_cases h1:(rd i).getD m 0=j∧j<us.length
  ·rw[if_pos h1,Nat.testBit_or,Bool.or_eq_true,ih _ (by omega),ih _ (by omega)]
   obtain⟨rfl,-⟩:=h1
   constructor
   ·rintro ((h| ⟨⟨q,hq,e⟩,h⟩)|(h| ⟨h,-⟩))
    ·exact .inl h
    ·exact .inr ⟨⟨q,by omega,e⟩,h⟩
    ·exact .inr ⟨⟨m,by omega,rfl⟩,h⟩
    ·exact absurd h hnn
   ·rintro (h| ⟨-,h⟩)
    ·exact .inl (.inl h)
    ·exact .inr (.inl h)
  ·rw[if_neg h1,ih _ (by omega)]
   have hne:(rd i).getD m 0≠j:=fun e=>h1 ⟨e,e▸hxl⟩
   constructor
   ·rintro (h| ⟨⟨q,hq,e⟩,h⟩)
    ·exact .inl h
    ·exact .inr ⟨⟨q,by omega,e⟩,h⟩
   ·rintro (h| ⟨⟨q,hq,e⟩,h⟩)
    ·exact .inl h
    ·rcases Nat.lt_succ_iff_lt_or_eq.1 hq with h2|rfl
     ·exact .inr ⟨⟨q,h2,e⟩,h⟩
     ·exact absurd e hne
structure OrdF(rd:Nat→List Nat)(n:Nat)(ord:List Nat):Prop where
 len:ord.length=n
 lt:∀j,j<n→ord.getD j 0<n
 inj:∀j k,j<n→k<n→ord.getD j 0=ord.getD k 0→j=k
 onto:∀i,i<n→∃j,j<n∧ord.getD j 0=i
 rdlt:∀i,i<n→∀x∈rd i,x<n
 up:∀j k,j<n→k<n→ord.getD k 0∈rd (ord.getD j 0)→k<j
theorem mem_getD{l:List Nat}{x:Nat} :x∈l↔∃q,q<l.length∧l.getD q 0=x:=by
 constructor
 ·intro h
  obtain⟨q,hq,e⟩:=List.mem_iff_getElem.1 h
  exact⟨q,hq,by rw[List.getD_eq_getElem?_getD,List.getElem?_eq_getElem hq];exact e⟩
 ·rintro⟨q,hq,rfl⟩
  rw[List.getD_eq_getElem?_getD,List.getElem?_eq_getElem hq]
  exact List.getElem_mem _
theorem OrdF.irr{rd:Nat→List Nat}{n:Nat}{ord:List Nat}(h:OrdF rd n ord){i:Nat}(hi:i<n):∀x∈rd i,x≠i:=by
 rintro x hx rfl
 obtain⟨j,hj,e⟩:=h.onto x hi
 rw[←e]at hx
 exact Nat.lt_irrefl _ (h.up j j hj hj hx)
theorem uses_bit{rd:Nat→List Nat}{n a m:Nat}{ord:List Nat}(h:OrdF rd n ord)(ham:a+m≤n)(t:Nat)(ht:t<m):
 ∀j,j≤n→∀k,k<n→(((usO rd (unitF n a m) ord j).getD (ord.getD k 0) 0).testBit t=true↔if k<j then Rch rd (ord.getD k 0) (a+t) else ord.getD k 0=a+t):=by
 intro j
 induction j with
 |zero=>
  intro _ k hk
  rw[usO,unitF_bit ham]
  simp only[ht,decide_true,Bool.true_and,decide_eq_true_eq,Nat.not_lt_zero,if_false]
 |succ j ih=>
  intro hj k hk
  have hjn:j<n:=by omega
  rw[usO,usI_bit (by rw[usO_len,unitF_len];exact h.lt j hjn) (h.irr (h.lt j hjn)) _ _ _ (Nat.le_refl _),ih (by omega) k hk]
  by_cases hkj:k=j
  ·subst hkj
   rw[if_neg (Nat.lt_irrefl _),if_pos (Nat.lt_succ_self _),Rch.iff]
   refine or_congr Iff.rfl ?_
   constructor
   ·rintro⟨-,q,hq,hb⟩
    refine⟨(rd (ord.getD k 0)).getD q 0,mem_getD.2 ⟨q,hq,rfl⟩,?_⟩
    have hm:(rd (ord.getD k 0)).getD q 0∈rd (ord.getD k 0):=mem_getD.2 ⟨q,hq,rfl⟩
    obtain⟨y,hy,e⟩:=h.onto _ (h.rdlt _ (h.lt k hk) _ hm)
    rw[←e]at hb hm ⊢
    have hyk:=h.up k y hk hy hm
    have:=(ih (by omega) y hy).1 hb
    rwa [if_pos hyk]at this
   ·rintro⟨x,hm,hr⟩
    obtain⟨q,hq,e2⟩:=mem_getD.1 hm
    obtain⟨y,hy,e⟩:=h.onto x (h.rdlt _ (h.lt k hk) _ hm)
    refine⟨rfl,q,hq,?_⟩
    rw[e2,←e]
    rw[←e]at hm hr
    have hyk:=h.up k y hk hy hm
    exact (ih (by omega) y hy).2 (by rwa [if_pos hyk])
  ·have hne:ord.getD k 0≠ord.getD j 0:=fun e=>hkj (h.inj k j hk hjn e)
   have e:(k<j+1)=(k<j):=by apply propext;omega
   simp only[e,hne,false_and,or_false]
theorem used_bit{rd:Nat→List Nat}{n a m:Nat}{ord:List Nat}(h:OrdF rd n ord)(ham:a+m≤n)(t:Nat)(ht:t<m):
 ∀j,j≤n→∀x,x<n→(((udO rd (unitF n a m) ord n j).getD x 0).testBit t=true↔a+t=x∨∃k,n-j≤k∧k<n∧x∈rd (ord.getD k 0)∧Rch rd (a+t) (ord.getD k 0)):=by
 intro j
 induction j with
 |zero=>
  intro _ x hx
  simp only[udO,unitF_bit ham,ht,decide_true,Bool.true_and,decide_eq_true_eq]
  constructor
  ·intro e;exact .inl e.symm
  ·rintro (e| ⟨k,h1,h2,-⟩)
   ·exact e.symm
   ·omega
 |succ j ih=>
  intro hj x hx
  obtain⟨p,hp⟩:∃p,p=n-1-j:=⟨_,rfl⟩
  have hpn:p<n:=by omega
  rw[udO,←hp,udI_bit (fun x hx=>by rw[udO_len,unitF_len];exact h.rdlt _ (h.lt p hpn) x hx) (h.irr (h.lt p hpn)) _ _ _ (Nat.le_refl _),ih (by omega) x hx,ih (by omega) _ (h.lt p hpn),←mem_getD]
  have hR:(a+t=ord.getD p 0∨∃k,n-j≤k∧k<n∧ord.getD p 0∈rd (ord.getD k 0)∧Rch rd (a+t) (ord.getD k 0))↔Rch rd (a+t) (ord.getD p 0):=by
   constructor
   ·rintro (e| ⟨k,-,-,h1,h2⟩)
    ·rw[e];exact .refl _
    ·exact h2.snoc h1
   ·intro hr
    rcases Rch.iff_last.1 hr with e| ⟨y,h1,h2⟩
    ·exact .inl e
    ·have hyn:y<n:=by
      clear h2 hr
      have:∀ {u v:Nat},Rch rd u v→u<n→v<n:=by
       intro u v h3
       induction h3 with
       |refl a=>exact id
       |step g _ ih=>exact fun hu=>ih (h.rdlt _ hu _ g)
      exact this h1 (by omega)
     obtain⟨k,hk,rfl⟩:=h.onto y hyn
     have:=h.up k p hk hpn h2
     exact .inr ⟨k,by omega,hk,h2,h1⟩
  rw[hR]
  clear hR
  constructor
  ·rintro ((e| ⟨k,h1,h2,h3,h4⟩)| ⟨h1,h2⟩)
   ·exact .inl e
   ·exact .inr ⟨k,by omega,h2,h3,h4⟩
   ·exact .inr ⟨p,by omega,hpn,h1,h2⟩
  ·rintro (e| ⟨k,h1,h2,h3,h4⟩)
   ·exact .inl (.inl e)
   ·by_cases hk:k=p
    ·subst hk;exact .inr ⟨h3,h4⟩
    ·exact .inl (.inr ⟨k,by omega,h2,h3,h4⟩)
def usF(us ud:List Nat):Nat→List Nat
 |0=>us
 |k+1=>(usF us ud k).set k ((usF us ud k).getD k 0|||ud.getD k 0)
theorem usF_len(us ud:List Nat)(k:Nat):(usF us ud k).length=us.length:=by
 induction k with
 |zero=>rfl
 |succ k ih=>simp[usF,ih]
theorem usF_at(us ud:List Nat):∀k,k≤us.length→∀i,i<us.length→(usF us ud k).getD i 0=if i<k then us.getD i 0|||ud.getD i 0 else us.getD i 0:=by
 intro k
 induction k with
 |zero=>intro _ i _;simp[usF]
 |succ k ih=>
  intro hk i hi
  rw[usF,getD_setF,usF_len]
  by_cases h:k=i
  ·subst h
   rw[if_pos ⟨rfl,hi⟩,ih (by omega) k hi,if_neg (Nat.lt_irrefl _),if_pos (Nat.lt_succ_self _)]
  ·rw[if_neg (fun e=>h e.1),ih (by omega) i hi]
   have:(i<k+1)=(i<k):=by apply propext;omega
   simp only[this]
def relW(rd:Nat→List Nat)(ord:List Nat)(n a e:Nat):List Nat:=
 usF (usO rd (unitF n a (e-a)) ord n) (udO rd (unitF n a (e-a)) ord n n) n
theorem relW_len(rd:Nat→List Nat)(ord:List Nat)(n a e:Nat):(relW rd ord n a e).length=n:=by
 rw[relW,usF_len,usO_len,unitF_len]
theorem relW_bit{rd:Nat→List Nat}{n a e:Nat}{ord:List Nat}(h:OrdF rd n ord)(hae:a≤e)(hen:e≤n)(t:Nat)(ht:a+t<e)(x:Nat)(hx:x<n):
 ((relW rd ord n a e).getD x 0).testBit t=true↔Rch rd x (a+t)∨Rch rd (a+t) x:=by
 obtain⟨k,hk,rfl⟩:=h.onto x hx
 have h1:=uses_bit h (show a+(e-a)≤n by omega) t (by omega) n (Nat.le_refl _) k hk
 rw[if_pos hk]at h1
 have h2:=used_bit h (show a+(e-a)≤n by omega) t (by omega) n (Nat.le_refl _) _ hx
 rw[relW,usF_at _ _ _ (by rw[usO_len,unitF_len];exact Nat.le_refl _) _ (by rw[usO_len,unitF_len];exact hx),if_pos hx,Nat.testBit_or,Bool.or_eq_true,h1,h2]
 refine or_congr Iff.rfl ?_
 rw[Rch.iff_last]
 refine or_congr Iff.rfl ?_
 constructor
 ·rintro⟨k,-,-,g1,g2⟩;exact⟨_,g2,g1⟩
 ·rintro⟨y,g1,g2⟩
  have hyn:y<n:=by
   have:∀ {u v:Nat},Rch rd u v→u<n→v<n:=by
    intro u v h3
    induction h3 with
    |refl a=>exact id
    |step g _ ih=>exact fun hu=>ih (h.rdlt _ hu _ g)
   exact this g1 (by omega)
  obtain⟨k,hk,rfl⟩:=h.onto y hyn
  exact⟨k,by omega,hk,g2,g1⟩
theorem lm_set{m:Nat}{us:List Nat}(h:∀i,us.getD i 0<2^m)(i x:Nat)(hx:x<2^m)(j:Nat):(us.set i x).getD j 0<2^m:=by
 rw[getD_setF]
 split
 ·exact hx
 ·exact h j
theorem lm_unitF(n a:Nat){k m:Nat}(hk:k≤m):∀j,(unitF n a k).getD j 0<2^m:=by
 induction k with
 |zero=>
  intro j
  have e:(List.replicate n 0).getD j 0=0:=by simp only[List.getD_eq_getElem?_getD,List.getElem?_replicate];split<;>rfl
  rw[unitF,e]
  exact Nat.two_pow_pos m
 |succ k ih=>exact lm_set (ih (by omega)) _ _ (Nat.pow_lt_pow_right (by decide) (by omega))
theorem lm_usN{m:Nat}{us:List Nat}(h:∀i,us.getD i 0<2^m)(i x:Nat):∀j,(usN us i x).getD j 0<2^m:=
 lm_set h _ _ (Nat.or_lt_two_pow (h i) (h x))
theorem lm_usI{m:Nat}{rd:Nat→List Nat}{us:List Nat}(h:∀i,us.getD i 0<2^m)(i k:Nat):∀j,(usI rd us i k).getD j 0<2^m:=by
 induction k with
 |zero=>exact h
 |succ k ih=>exact lm_usN ih _ _
theorem lm_udI{m:Nat}{rd:Nat→List Nat}{us:List Nat}(h:∀i,us.getD i 0<2^m)(i k:Nat):∀j,(udI rd us i k).getD j 0<2^m:=by
 induction k with
 |zero=>exact h
 |succ k ih=>exact lm_usN ih _ _
theorem lm_usO{m:Nat}{rd:Nat→List Nat}{us ord:List Nat}(h:∀i,us.getD i 0<2^m)(k:Nat):∀j,(usO rd us ord k).getD j 0<2^m:=by
 induction k with
 |zero=>exact h
 |succ k ih=>exact lm_usI ih _ _
theorem lm_udO{m n:Nat}{rd:Nat→List Nat}{us ord:List Nat}(h:∀i,us.getD i 0<2^m)(k:Nat):∀j,(udO rd us ord n k).getD j 0<2^m:=by
 induction k with
 |zero=>exact h
 |succ k ih=>exact lm_udI ih _ _
theorem lm_usF{m:Nat}{us ud:List Nat}(h:∀i,us.getD i 0<2^m)(h2:∀i,ud.getD i 0<2^m)(k:Nat):∀j,(usF us ud k).getD j 0<2^m:=by
 induction k with
 |zero=>exact h
 |succ k ih=>exact lm_set ih _ _ (Nat.or_lt_two_pow (ih k) (h2 k))
theorem relW_lt(rd:Nat→List Nat)(ord:List Nat)(n a e j:Nat):(relW rd ord n a e).getD j 0<2^(e-a):=
 lm_usF (lm_usO (lm_unitF n a (Nat.le_refl _)) _) (lm_udO (lm_unitF n a (Nat.le_refl _)) _) _ _
theorem relW_one{rd:Nat→List Nat}{n a:Nat}{ord:List Nat}(h:OrdF rd n ord)(ha:a<n)(x:Nat)(hx:x<n):
 (relW rd ord n a (a+1)).getD x 0≠0↔Rch rd x a∨Rch rd a x:=by
 have h1:=relW_bit h (a:=a) (e:=a+1) (by omega) (by omega) 0 (by omega) x hx
 have h2:=relW_lt rd ord n a (a+1) x
 rw[show a+1-a=1 by omega]at h2
 generalize (relW rd ord n a (a+1)).getD x 0=v at h1 h2
 rw[Nat.add_zero]at h1
 rw[←h1]
 obtain rfl|rfl:v=0∨v=1:=by omega
 ·decide
 ·decide
section
variable {P:Program} {ops:Array Oper} {Q:Exit→Act→World→Prop} {md:Region.Mode} {S:World→Prop} {t:Nat}
def AnyX(P:Program)(md:Region.Mode)(ops:Array Oper)(Q:Exit→Act→World→Prop)(S:World→Prop)(t:Nat):Nat→Array Bool→Act→World→Prop
 |0,listed,a,w=>Region.ready md ops listed=[]∧Q .normal a w
 |f+1,listed,a,w=>(Region.ready md ops listed=[]→Q .normal a w)∧∀i∈Region.ready md ops listed,wpOp P ops Q i (fun a' w'=>(i≠t→S w')∧AnyX P md ops Q S t f (listed.setIfInBounds i true) a' w') a w
theorem AnyX.any:∀ {f:Nat} {listed:Array Bool} {a:Act} {w:World},AnyX P md ops Q S t f listed a w→wpAny P md ops Q f listed a w
 |0,_,_,_,h=>h
 |_+1,_,_,_,h=>⟨h.1,fun i hi=>wpOp_mono (fun _ _ h'=>AnyX.any h'.2) (h.2 i hi)⟩
theorem AnyX.start{id:Nat}{a:Act}{w:World}(hm:P.follows .mixedOrders=true)(h:AnyX P .any ops Q S t ops.size (Array.replicate ops.size false) a w.drew):(Code.region id ops true).wp P Q a w:=
 wp_region_any hm h.any
theorem not_ready{ot:Oper}{i:Nat}{l:Array Bool}(ho:ops[t]? =some ot)(hw:ot.after.any (fun e=>e.on==i&&Region.binds md e)=true)(hl:l.getD i true=false):t ∉ Region.ready md ops l:=fun hr=>by
 obtain⟨-,o',ho',hall⟩:=mem_ready.1 hr
 obtain rfl:=Option.some.inj (ho.symm.trans ho')
 obtain⟨e,he,hb⟩:=Array.any_eq_true'.1 hw
 rw[Bool.and_eq_true,beq_iff_eq]at hb
 have h1:=hall e he hb.2
 rw[hb.1]at h1
 rcases Nat.lt_or_ge i l.size with h|h
 ·simp[Array.getD,h]at hl h1
  rw[hl]at h1;cases h1
 ·simp[Array.getD,Nat.not_lt.2 h]at hl
theorem AnyX.first{i:Nat}{oi:Oper}{v:Value}(hi:ops[i]? =some oi)(hsel:∀(j:Nat) (o:Oper) cs b,ops[j]? =some o→o.op≠ .select cs b)(hQ:∀c a w,Q (.panic c) (a.put oi.dst v) w→Q (.panic c) a w)
 (ht:∀l:Array Bool,l.getD i true=false→t ∉ Region.ready md ops l):∀(f:Nat) (listed:Array Bool) (a:Act) (w:World),
   (∀j oj,ops[j]? =some oj→j≠i→listed.getD j true=false→(∀e∈oj.after,Region.binds md e=true→e.on≠i)→oi.apart ops oj=true)→
   i∈Region.ready md ops listed→YieldsIf P ops S oi v a→S w→AnyX P md ops Q S t f (listed.setIfInBounds i true) (a.put oi.dst v) w→AnyX P md ops Q S t (f+1) listed a w:=by
 intro f
 induction f with
 |zero=>
  intro listed a w _ hr hy hS H
  refine⟨fun h=>absurd (h▸hr) (by simp),fun j hj=>?_⟩
  by_cases e:j=i
  ·subst e;exact hy.wpOp hi hS ⟨fun _=>hS,H⟩
  ·exact absurd (H.1▸ready_mono hj e) (by simp)
 |succ f ih=>
  intro listed a w hfree hr hy hS H
  refine⟨fun h=>absurd (h▸hr) (by simp),fun j hj=>?_⟩
  by_cases e:j=i
  ·subst e;exact hy.wpOp hi hS ⟨fun _=>hS,H⟩
  ·obtain⟨hju,oj,hoj,hall⟩:=mem_ready.1 hj
   have hiu:=(mem_ready.1 hr).1
   have hjt:j≠t:=fun h=>ht listed hiu (h▸hj)
   have hno:∀x∈oj.after,Region.binds md x=true→x.on≠i:=fun x hx hb he=>by
    have h1:=hall x hx hb
    rw[he]at h1
    rcases Nat.lt_or_ge i listed.size with h'|h'
    ·simp[h']at hiu h1;rw[hiu]at h1;cases h1
    ·simp[Array.getElem?_eq_none h']at h1
   have step:=wpOp_putIf hoj (hfree j oj hoj e hju hno) (fun cs b=>hsel i oi cs b hi) (fun cs b=>hsel j oj cs b hoj) hQ hy (H.2 j (ready_mono hj e))
   refine wpOp_mono (fun a' w' hh=>⟨fun _=>hh.2.1 hjt,ih _ a' w' (fun k ok hk hki hun hn=>hfree k ok hk hki ?_ hn) (ready_mono hr (Ne.symm e)) hh.1 (hh.2.1 hjt) ?_⟩) step
   ·by_cases hjk:j=k
    ·subst hjk;exact hju
    ·rw[getD_set_ne true hjk]at hun;exact hun
   ·rw[Array.setIfInBounds_comm _ _ e]
    exact hh.2.2
theorem AnyX.take{i:Nat}{oi ot:Oper}{v:Value}{f:Nat}{listed:Array Bool}{a:Act}{w:World}(hi:ops[i]? =some oi)(ho:ops[t]? =some ot)(hw:ot.after.any (fun e=>e.on==i&&Region.binds md e)=true)
 (hs:Region.noSelect ops=true) (hf:Region.free md ops listed i=true) (hr:(Region.ready md ops listed).contains i=true)
 (hQ:∀c a w,Q (.panic c) (a.put oi.dst v) w→Q (.panic c) a w) (hy:YieldsIf P ops S oi v a) (hS:S w)
 (h:AnyX P md ops Q S t f (listed.setIfInBounds i true) (a.put oi.dst v) w):AnyX P md ops Q S t (f+1) listed a w:=
 AnyX.first hi (Region.noSelect_spec hs) hQ (fun _ hl=>not_ready ho hw hl) f listed a w (Region.free_spec hi hf) (by simpa using hr) hy hS h
theorem AnyX.one{i:Nat}{o:Oper}{f:Nat}{listed:Array Bool}{a:Act}{w:World}(hr:Region.ready md ops listed=[i])(ho:ops[i]? =some o)
 (h:∀K':Act→World→Prop,(∀a' w',(i≠t→S w')→AnyX P md ops Q S t f (listed.setIfInBounds i true) a' w'→K' a' w')→if Region.wanted o (yielded ops a.tmps)=true then Oper.wp P o a w K' Q else K' (a.put o.dst undef) w):AnyX P md ops Q S t (f+1) listed a w:=by
 refine⟨fun h0=>absurd (hr.symm.trans h0) (by simp),fun j hj=>?_⟩
 rw[hr]at hj
 obtain rfl:=List.mem_singleton.1 hj
 exact wpOp_step ho (fun K' hK=>h K' fun a' w' h1 h2=>hK a' w' ⟨h1,h2⟩)
theorem AnyX.done{listed:Array Bool}{a:Act}{w:World}(hr:Region.ready md ops listed=[])(h:Q .normal a w):∀f,AnyX P md ops Q S t f listed a w
 |0=>⟨hr,h⟩
 |_+1=>⟨fun _=>h,by rw[hr];simp⟩
end
section
variable {P:Program} {ops:Array Oper} {Q:Exit→Act→World→Prop} {md:Region.Mode} {S:World→Prop} {t l n:Nat}
def noDefer(ops:Array Oper):Bool:=ops.all fun o=>match o.op with| .defer _=>false|_=>true
theorem noDefer_at{i:Nat}{o:Oper}(h:noDefer ops=true)(hi:ops[i]? =some o):∀c,o.op≠ .defer c:=fun c hc=>by
 unfold noDefer at h
 obtain⟨hlt,he⟩:=Array.getElem?_eq_some_iff.1 hi
 have:=Array.all_eq_true.1 h i hlt
 rw[he,hc]at this
 cases this
theorem opIn_of{o:Oper}{a:Act}{w:World}{K:Act→World→Prop}(hd:∀c,o.op≠ .defer c)(h:Oper.wp P o a w K Q):Oper.wpIn (Fence.wide.inRound l) n P o a w K Q:=by
 refine⟨fun _ _=>trivial,?_⟩
 rw[Oper.semAt_eq _ _ _ hd]
 unfold Oper.wp at h
 generalize (execOp a.eval o).run P w=r at*
 cases r with
 |ok x w'=>
  cases x<;>simp only[Oper.upon,Oper.uponIn]at h ⊢
  case value v=>exact h
  case skip=>exact h
  case defer d=>exact h
  case enter f args=>exact⟨fun e=>by simp[Fence.wide,Fence.inRound]at e,CallsIn.inRound l (callsIn_wide.2 h)⟩
  case row row args=>exact⟨fun e=>by simp[Fence.wide,Fence.inRound]at e,fun c cs _=>let ⟨v,w2,r,s⟩:=h c cs;⟨v,w2,r,stepsIn_wide.2 s⟩⟩
 |halt x w'=>cases x<;>simp only[Oper.upon,Oper.uponIn]at h ⊢;exact h
theorem wpOpIn_of(hd:noDefer ops=true)(hL:∀a w,¬Q .outgrown a w){i:Nat}{a:Act}{w:World}{K K':Act→World→Prop}(hK:∀a w,K a w→K' a w)(h:wpOp P ops Q i K a w):wpOpIn (Fence.wide.inRound l) n P ops Q i K' a w:=by
 unfold wpOp at h
 unfold wpOpIn
 cases hi:ops[i]? with
 |none=>simp only[hi]at h;exact hK _ _ h
 |some o=>
  simp only[hi]at h ⊢
  by_cases hw:Region.wanted o (yielded ops a.tmps)=true
  ·rw[if_pos hw]at h ⊢
   rcases h with h| ⟨-,a',w',h⟩
   ·exact Oper.wpIn_mono hK (opIn_of (noDefer_at hd hi) h)
   ·exact absurd h (hL a' w')
  ·rw[if_neg hw]at h ⊢
   exact⟨fun _ _=>trivial,hK _ _ h⟩
theorem anyIn_of(hd:noDefer ops=true)(hL:∀a w,¬Q .outgrown a w):∀(f:Nat) (listed:Array Bool) (a:Act) (w:World),wpAny P md ops Q f listed a w→wpAnyIn (Fence.wide.inRound l) n P md ops Q f listed a w
 |0,_,_,_,h=>h
 |f+1,_,_,_,h=>⟨h.1,fun i hi=>wpOpIn_of hd hL (fun a w h=>anyIn_of hd hL f _ a w h) (h.2 i hi)⟩
theorem AnyX.startIn{id:Nat}{a:Act}{w:World}(hm:P.follows .mixedOrders=true)(hd:noDefer ops=true)(hL:∀a w,¬Q .outgrown a w)(h:AnyX P .any ops Q S t ops.size (Array.replicate ops.size false) a w.drew):(Code.region id ops true).wpIn (Fence.wide.inRound l) n P Q a w:=
 wpIn_region_any hm (anyIn_of hd hL _ _ _ _ h.any)
end
end Go.Proofs.YtcbllelkgniogaaDoor
