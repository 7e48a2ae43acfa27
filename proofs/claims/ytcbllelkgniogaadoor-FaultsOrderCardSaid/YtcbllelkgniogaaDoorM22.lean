/- The texts Kdr Kob Kfi Kbk. -/
import Derived.Test.YtcbllelkgniogaaDoorM21
import Derived.Test.YtcbllelkgniogaaDoorM18
import Derived.Test.YtcbllelkgniogaaDoorM10
import Derived.Test.YtcbllelkgniogaaDoorM01
import Derived.Deep.AppendLies
import Derived.Deep.Upon
namespace Go.Proofs.YtcbllelkgniogaaDoor
open Go.RowKit
def SRw(w:World)(g n:Nat)(vs:List Value):Prop:=w.ownsRow g 37 1 (.slice (some ⟨g,0,none⟩) n n) n vs
theorem SRw.below{w w':World}{g n:Nat}{vs:List Value}(h:SRw w g n vs)(hb:Below w.heap.size w w'):SRw w' g n vs:=
 World.ownsRow.kept h (row:=none) ⟨hb.os,hb.tape,hb.output,hb.size,fun i hi _=>hb.block i hi⟩ (.inr (by simp[Value.ownBlock]))
theorem SRw.lt{w:World}{g n:Nat}{vs:List Value}(h:SRw w g n vs):g<w.heap.size:=(World.ownsRow.lt h g rfl).2
theorem SRw.len{w:World}{g n:Nat}{vs:List Value}(h:SRw w g n vs):vs.length=n:=by have:=h.1;rwa [Nat.mul_one]at this
theorem Is.nil0(w:World)(B:Nat):Is w B (.slice none 0 0) []:=⟨none,0,0,0,rfl,fun h=>absurd h (by decide),Nat.le_refl _,by decide,fun k hk=>absurd hk (Nat.not_lt_zero k)⟩
def DrvS(nodes:List Nd)(w:World)(n k:Nat)(vs:List Value):Prop:=∀j,j<n→(j<k→∃A c,vs[j]? =some (.slice A (dep nodes (j:Int)).length c)∧Is w w.heap.size (.slice A (dep nodes (j:Int)).length c) (dep nodes (j:Int)))∧(k≤j→vs[j]? =some (.slice none 0 0))
theorem DrvS.skip{nodes:List Nd}{w:World}{n k:Nat}{vs:List Value}(h:DrvS nodes w n k vs)(hk:dep nodes (k:Int)=[]):DrvS nodes w n (k+1) vs:=fun j hj=>by
 refine⟨fun hjk=>?_,fun hjk=>(h j hj).2 (by omega)⟩
 by_cases e:j=k
 ·subst e
  have h2:=(h j hj).2 (Nat.le_refl _)
  rw[hk]
  exact⟨_,_,h2,Is.nil0 w _⟩
 ·exact (h j hj).1 (by omega)
theorem DrvS.put{nodes:List Nd}{w:World}{n k:Nat}{vs:List Value}(h:DrvS nodes w n k vs)(hl:vs.length=n)(hk:k<n){A:Option Addr}{m c:Nat}(hm:m=(dep nodes (k:Int)).length)(hs:Is w w.heap.size (.slice A m c) (dep nodes (k:Int))):DrvS nodes w n (k+1) (vs.set k (.slice A m c)):=fun j hj=>by
 subst hm
 refine⟨fun hjk=>?_,fun hjk=>?_⟩
 ·by_cases e:j=k
  ·subst e
   exact⟨A,c,by rw[List.getElem?_set,if_pos rfl,if_pos (by omega)],hs⟩
  ·obtain⟨A',c',e1,e2⟩:=(h j hj).1 (by omega)
   exact⟨A',c',by rw[List.getElem?_set,if_neg (fun e'=>e e'.symm)];exact e1,e2⟩
 ·rw[List.getElem?_set,if_neg (by omega)]
  exact (h j hj).2 (by omega)
theorem grown_of{w w':World}(h:BelW w w')(r:Option Nat):w.grownBy w' r:=⟨h.os,h.tape,h.output,h.size,fun i hi _=>h.block i hi⟩
theorem own_frB{w:World}{base:Nat}{e:TypeId}{size g n:Nat}{xs:List Value}(h:w.ownsRow base e size (.slice (some ⟨g,0,none⟩) n n) n xs):Fr w g e xs:=by
 obtain⟨h1,h2⟩:=h
 rcases h2 with⟨e',-⟩| ⟨g',cap,cur,e',hb,hg,hle,hm,hs,ht⟩
 ·cases e'
 ·simp only[Value.slice.injEq,Option.some.injEq,Addr.mk.injEq,and_true,true_and]at e'
  obtain⟨rfl,rfl⟩:=e'
  have hc:cur=xs.toArray:=by
   apply Array.ext'
   rw[←ht,List.take_of_length_le (by rw[Array.length_toList];omega)]
  rw[hc]at hg
  exact hg
theorem BRow.not_int{w:World}{g j:Nat}{l:List Bool}{x:Int}(h:BRow w g l):w.cell? ⟨g,j,none⟩≠some (.int .i64 x):=fun e=>by
 have h1:=(own_frB h).cell j
 rw[e,List.getElem?_map]at h1
 cases h2:l[j]? with
 |none=>rw[h2]at h1;cases h1
 |some y=>rw[h2]at h1;simp at h1
theorem Is.apart{w w':World}{g:Nat}{R:List Bool}{v:Value}{l:List Int}(h:Is w w.heap.size v l)(hR:BRow w g R)(hg:w.grownBy w' (some g)):Is w' w'.heap.size v l:=by
 obtain⟨A,b,o,c,e,hA,h1,h2,hc⟩:=h
 refine⟨A,b,o,c,e,hA,h1,h2,fun k hk=>?_⟩
 obtain⟨hb,hx⟩:=hc k hk
 have hx':w.cell? ⟨b,o+k*1,none⟩=some (.int .i64 (l.getD k 0)):=hx
 have hne:b≠g:=fun e=>by subst e;exact hR.not_int hx'
 exact⟨Nat.lt_of_lt_of_le hb hg.size,hg.cell hx' fun e=>hne (by simpa using e)⟩
structure FI(n g B:Nat)(Vs:List Value)(F:Nat→List Int)(w:World):Prop where
 lo:g<B
 top:w.ownsRow g 37 1 (.slice (some ⟨g,0,none⟩) n n) n Vs
 row:∀j,j<n→w.ownsRow B 3 1 (vat Vs j) (F j).length ((F j).map (Value.int .i64))
 dis:∀i j,i<n→j<n→i≠j→(vat Vs i).ownBlock=none∨(vat Vs i).ownBlock≠(vat Vs j).ownBlock
theorem FI.len{n g B:Nat}{Vs:List Value}{F:Nat→List Int}{w:World}(h:FI n g B Vs F w):Vs.length=n:=by
 have:=h.top.1;omega
theorem FI.lt{n g B:Nat}{Vs:List Value}{F:Nat→List Int}{w:World}(h:FI n g B Vs F w):g<w.heap.size:=(World.ownsRow.lt h.top g rfl).2
theorem FI.below{n g B:Nat}{Vs:List Value}{F:Nat→List Int}{w w':World}(h:FI n g B Vs F w)(hb:Below w.heap.size w w'):FI n g B Vs F w':=by
 have hg:w.grownBy w' none:=⟨hb.os,hb.tape,hb.output,hb.size,fun i hi _=>hb.block i hi⟩
 refine⟨h.lo,h.top.kept hg (.inr (by simp[Value.ownBlock])),fun j hj=>(h.row j hj).kept hg ?_,h.dis⟩
 rcases (vat Vs j).ownBlock with _|q
 ·exact .inl rfl
 ·exact .inr (by simp)
theorem FI.cell{n g B:Nat}{Vs:List Value}{F:Nat→List Int}{w:World}(h:FI n g B Vs F w){j:Nat}(hj:j<n):w.cell? ⟨g,j,none⟩=some (vat Vs j):=by
 rw[h.top.cellAt j (by omega),vat,List.getD_eq_getElem?_getD,List.getElem?_eq_getElem (by rw[h.len];exact hj)]
 rfl
theorem FI.shape{n g B:Nat}{Vs:List Value}{F:Nat→List Int}{w:World}(h:FI n g B Vs F w){j:Nat}(hj:j<n):
 ∃A c,vat Vs j=.slice A (F j).length c∧(F j).length≤c∧c≤maxLen∧((A=none∧(F j).length=0∧c=0)∨∃b,A=some ⟨b,0,none⟩∧B≤b∧b<w.heap.size):=by
 have hlt:=World.ownsRow.lt (h.row j hj)
 rcases (h.row j hj).2 with⟨e,hn⟩| ⟨q,cap,cur,e,hb,hg,hle,hm,-⟩
 ·exact⟨none,0,by rw[e,hn],by omega,by simp,.inl ⟨rfl,hn,rfl⟩⟩
 ·exact⟨_,cap,e,hle,hm,.inr ⟨q,rfl,hb,(hlt q (by rw[e];rfl)).2⟩⟩
theorem FI.push{n g B:Nat}{Vs:List Value}{F:Nat→List Int}{w w1:World}{j:Nat}{v':Value}{x:Int}(h:FI n g B Vs F w)(hj:j<n)
 (hown:w1.ownsRow B 3 1 v' ((F j).length+1) ((F j).map (Value.int .i64)++[.int .i64 x])) (hgr:w.grownBy w1 (vat Vs j).ownBlock)
 (hat:v'.ownBlock=(vat Vs j).ownBlock∨v'.ownBlock=some w.heap.size):
 FI n g B (Vs.set j v') (fun k=>if k=j then F k++[x] else F k) (w1.setCell ⟨g,j,none⟩ v'):=by
 have hlen:=h.len
 have hlo:=h.lo
 have hjq:∀q,(vat Vs j).ownBlock=some q→B≤q:=fun q e=>(World.ownsRow.lt (h.row j hj) q e).1
 have ht:=h.top.kept hgr (.inr fun e=>by have:=hjq g e.symm;omega)
 have hs:=ht.stored j v'
 have hv:∀q,v'.ownBlock=some q→B≤q:=fun q e=>(World.ownsRow.lt hown q e).1
 have hgo:∀ {v:Value},(∀q,v.ownBlock=some q→B≤q)→v.ownBlock=none∨v.ownBlock≠some g:=fun {v} hq=>by
  rcases ho:v.ownBlock with _|q
  ·exact .inl rfl
  ·refine .inr fun e=>?_
   have:=hq q ho
   simp only[Option.some.injEq]at e
   omega
 refine⟨h.lo,hs.1,fun k hk=>?_,fun a b ha hb hab=>?_⟩
 ·rw[vat_set _ _ _ _ (by omega)]
  by_cases hkj:k=j
  ·subst hkj
   simp only[if_true]
   rw[List.length_append,List.map_append]
   exact hown.kept hs.2 (hgo hv)
  ·rw[if_neg hkj]
   simp only[if_neg hkj]
   refine ((h.row k hk).kept hgr (h.dis k j hk hj hkj)).kept hs.2 (hgo ?_)
   exact fun q e=>(World.ownsRow.lt (h.row k hk) q e).1
 ·rw[vat_set _ _ _ _ (by omega),vat_set _ _ _ _ (by omega)]
  have hz:∀k,k<n→∀q,(vat Vs k).ownBlock=some q→q<w.heap.size:=fun k hk q e=>(World.ownsRow.lt (h.row k hk) q e).2
  by_cases haj:a=j
  ·rw[if_pos haj,if_neg (by omega)]
   rcases hat with e|e
   ·rw[e,←haj];exact h.dis a b ha hb hab
   ·refine .inr fun e'=>?_
    rw[e]at e'
    have:=hz b hb _ e'.symm
    omega
  ·rw[if_neg haj]
   by_cases hbj:b=j
   ·rw[if_pos hbj]
    rcases hat with e|e
    ·rw[e,←hbj];exact h.dis a b ha hb hab
    ·rcases ho:(vat Vs a).ownBlock with _|q
     ·exact .inl rfl
     ·refine .inr fun e'=>?_
      rw[e]at e'
      have:=hz a ha q ho
      simp only[Option.some.injEq]at e'
      omega
   ·rw[if_neg hbj];exact h.dis a b ha hb hab
theorem FI.grown{n g B:Nat}{Vs:List Value}{F:Nat→List Int}{w0 w w1:World}{j:Nat}(h:FI n g B Vs F w)(hj:j<n)(hb:w0.grownBy w (some g))(hB:w0.heap.size≤B)(hgr:w.grownBy w1 (vat Vs j).ownBlock)(v':Value):
 w0.grownBy (w1.setCell ⟨g,j,none⟩ v') (some g):=by
 have hjq:∀q,(vat Vs j).ownBlock=some q→B≤q:=fun q e=>(World.ownsRow.lt (h.row j hj) q e).1
 refine World.grownBy.trans ⟨hgr.os.trans hb.os,hgr.tape.trans hb.tape,hgr.output.trans hb.output,Nat.le_trans hb.size hgr.size,fun i hi hne=>(hgr.block i (Nat.lt_of_lt_of_le hi hb.size) fun e=>?_).trans (hb.block i hi hne)⟩ (grown_set _ _ _ _)
 have:=hjq i e.symm
 omega
theorem FI.congr{n g B:Nat}{Vs:List Value}{F F':Nat→List Int}{w:World}(h:FI n g B Vs F w)(e:∀j,j<n→F j=F' j):FI n g B Vs F' w:=
 ⟨h.lo,h.top,fun j hj=>by rw[←e j hj];exact h.row j hj,h.dis⟩
theorem FI.start{w:World}{g n B:Nat}(hlo:g<B)(h:w.ownsRow g 37 1 (.slice (some ⟨g,0,none⟩) n n) n (List.replicate n (.slice none 0 0))):FI n g B (List.replicate n (.slice none 0 0)) (fun _=>[]) w:=by
 have e:∀j,vat (List.replicate n (.slice none 0 0)) j=.slice none 0 0:=fun j=>by
  unfold vat
  rw[List.getD_eq_getElem?_getD,List.getElem?_replicate]
  split<;>rfl
 refine⟨hlo,h,fun j hj=>?_,fun i j _ _ _=>.inl (by rw[e];rfl)⟩
 rw[e]
 exact World.ownsRow_nil w _ _ _
theorem FI.own{n g B:Nat}{Vs:List Value}{F:Nat→List Int}{w:World}(h:FI n g B Vs F w){j:Nat}(hj:j<n):w.ownsRow B 3 1 (vat Vs j) (F j).length ((F j).map (Value.int .i64)):=h.row j hj
theorem FI.reads{n g B:Nat}{Vs:List Value}{F:Nat→List Int}{w:World}(h:FI n g B Vs F w)(hm:∀j,j<n→(F j).length≤maxLen):NxR w w.heap.size g 0 n F:=by
 refine⟨h.lt,fun j hj=>?_⟩
 have hc:=h.cell hj
 rw[Nat.zero_add]
 rcases (h.row j hj).2 with⟨e,hn⟩| ⟨q,cap,cur,e,hb,hg,hle,hm2,-⟩
 ·have hF:F j=[]:=List.eq_nil_of_length_eq_zero hn
  rw[e]at hc
  exact⟨none,0,by rw[hF];exact hc,by rw[hF];exact Is.nil0 _ _⟩
 ·rw[e]at hc
  refine⟨_,cap,hc,⟨_,q,0,cap,rfl,fun _=>rfl,hle,hm j hj,fun k hk=>⟨(Array.getElem?_eq_some_iff.1 hg).1,?_⟩⟩⟩
  have h1:=h.row j hj
  rw[e]at h1
  show w.cell? ⟨q,0+k*1,none⟩=_
  rw[Nat.zero_add,Nat.mul_one,World.ownsRow.cellAt h1 k (by omega),List.getElem?_map,List.getElem?_eq_getElem hk,List.getD_eq_getElem?_getD,List.getElem?_eq_getElem hk]
  rfl
attribute [local go_sem] Oper.semAt_some
set_option maxRecDepth 100000 in
set_option maxHeartbeats 2000000 in
theorem back_in(F:Fence)(n:Nat)(h73:F.fn 77)(hro:F.round=none)(hn:1≤n)(l Bs B gx b off len cap:Nat)(A:Option Addr)(xs:List Int)(hlen:len≤1000000000)(hA:0<len→A=some ⟨b,off,none⟩)(hb:0<len→b<B∧b≠gx)(hbs:Bs<B∧Bs≠gx)(J:Nat→World→Prop)
 (hY:∀(k j:Nat) (W:World),len=k+1+j→J k W→YieldAt F (n-1) Tryd.prog l #[.int .i64 (j:Int),.int .i64 (xs.getD j 0)] W fun e W'=>e=.returned (.bool true)∧J (k+1) W'∧Kx B gx W W')
 (W:World) (hBs:W.cell? ⟨Bs,0,none⟩=some (.slice A len cap)) (hc:∀j,j<len→W.cell? ⟨b,off+j,none⟩=some (.int .i64 (xs.getD j 0))) (h0:J 0 W):
 CallsIn F n Tryd.prog 77 #[.func (.yield l) #[] #[],.pointer (some ⟨Bs,0,none⟩)] W fun e W'=>(∃v,e=.returned v)∧J len W':=by
 refine callsIn_of_wp Tryd.func77 rfl h73 ?_ hro
 simp only[Tryd.ntmps77,List.size_toArray,List.length_cons,List.length_nil,Nat.reduceAdd,Nat.reduceSub,Array.replicate_succ,Array.replicate_zero,List.push_toArray,List.append_toArray,List.nil_append,List.cons_append]
 gi_wp2
 gi_loopw [3] (fun i wr=>∃k:Nat,k≤len∧i=.int .i64 ((len:Int)-1-(k:Int))∧J k wr∧Kx B gx W wr) (fun i _=>(intOf i+1).toNat)
 case atStart=>exact⟨0,Nat.zero_le _,by go_num,h0,Kx.refl _ _ _⟩
 case round=>
  obtain⟨k,hk,rfl,hJs,hnx⟩:=hrel
  by_cases hlt:k<len
  ·obtain⟨j,hj⟩:∃j,len=k+1+j:=⟨len-k-1,by omega⟩
   have e1:(len:Int)-1-(k:Int)=(j:Int):=by omega
   have e2:(len:Int)-1-((k+1:Nat):Int)=(j:Int)-1:=by omega
   have hjl:j<len:=by omega
   have hj2:(j:Int)<(len:Int):=by omega
   have hj3:(0:Int)≤(j:Int):=by omega
   obtain rfl:=hA (by omega)
   have hx0:wr.cell? ⟨Bs,0,none⟩=some (.slice (some ⟨b,off,none⟩) len cap):=(hnx.cell (p:=⟨Bs,0,none⟩) hbs.1 hbs.2).trans hBs
   have hx1:wr.cell? ⟨b,off+j,none⟩=some (.int .i64 (xs.getD j 0)):=(hnx.cell (p:=⟨b,off+j,none⟩) (hb (by omega)).1 (hb (by omega)).2).trans (hc j hjl)
   have HY:=Lib.hid (hY k j wr hj hJs)
   have HE2:=Lib.hid e2
   obtain⟨x,HX⟩:=named (xs.getD j 0)
   rw[←HX.out]at hx1 HY
   obtain⟨fn,tmps,assign,body,hy,hR⟩:=HY.out
   rw[e1]
   clear hc hBs h0 hY HX HY e1 e2 hj
   gi_wp2
   refine hR.mono ?_
   rintro e W3 ⟨rfl,hJ3,hk3⟩
   gi_wp2
   go_roundw
   case rel=>exact⟨k+1,by omega,by rw[HE2.out],hJ3,hnx.trans hk3⟩
   case measure=>simp[intOf]
  ·obtain rfl:len=k:=by omega
   have e1:(len:Int)-1-(len:Int)= -1:=by omega
   rw[e1]
   gi_wp2
   go_end0
   exact⟨⟨_,rfl⟩,hJs⟩
def backL(xs:List Int):List (Nat×Int):=(List.range xs.length).reverse.map fun j=>(j,xs.getD j 0)
theorem backL_len(xs:List Int):(backL xs).length=xs.length:=by simp[backL]
theorem backL_at(xs:List Int){k j:Nat}(h:xs.length=k+1+j):(backL xs)[k]? =some (j,xs.getD j 0):=by
 unfold backL
 rw[List.getElem?_map,List.getElem?_reverse (by simp;omega),List.length_range,show xs.length-1-k=j by omega,List.getElem?_range (by omega)]
 rfl
theorem back_seq(F:Fence)(n:Nat)(h73:F.fn 77)(hro:F.round=none)(hn:1≤n)(Bs B gx:Nat)(A:Option Addr)(b off cap:Nat)(xs:List Int)(w:World)(hA:0<xs.length→A=some ⟨b,off,none⟩)(hb:0<xs.length→b<B∧b≠gx)(hc:∀j,j<xs.length→w.cell? ⟨b,off+j,none⟩=some (.int .i64 (xs.getD j 0)))(hx:xs.length≤1000000)(hB:B≤w.heap.size)(hbs:Bs<B∧Bs≠gx)(hBs:w.cell? ⟨Bs,0,none⟩=some (.slice A xs.length cap)):
 SeqAll F n Tryd.prog 77 #[.pointer (some ⟨Bs,0,none⟩)] (fun p:Nat×Int=>#[.int .i64 (p.1:Int),.int .i64 p.2]) B gx (backL xs) w:=by
 intro l J W hbe hY h0
 rw[backL_len]
 exact back_in F n h73 hro hn l Bs B gx b off xs.length cap A xs (by omega) hA hb hbs J
  (fun k j V hk hJ=>hY k (j,xs.getD j 0) V (backL_at xs hk) hJ) W ((hbe.cell (p:=⟨Bs,0,none⟩) (by have:=hbs.1;show Bs<_;omega)).trans hBs)
  (fun j hj=>(hbe.cell (p:=⟨b,off+j,none⟩) (by have:=(hb (by omega)).1;show b<_;omega)).trans (hc j hj)) h0
set_option maxHeartbeats 1000000 in
theorem backward_any(A:Option Addr)(n c:Nat)(w:World):
 Calls Tryd.prog 62 #[.slice A n c] w fun e w'=>e=.returned (.func (.func 77) #[] #[.pointer (some ⟨w.heap.size,0,none⟩)])∧w'.cell? ⟨w.heap.size,0,none⟩=some (.slice A n c)∧w.heap.size<w'.heap.size∧BelW w w':=by
 go_enter Tryd.func62,Tryd.ntmps62
 go_wp2
 go_ret
 have hf:Fr (w.alloc (.cells #[.slice A n c] 37)) w.heap.size 37 [.slice A n c]:=Fr.made _ _ _ rfl
 exact⟨rfl,hf.cell 0,by simp,below_new (Below.refl _ _) _⟩
end Go.Proofs.YtcbllelkgniogaaDoor
