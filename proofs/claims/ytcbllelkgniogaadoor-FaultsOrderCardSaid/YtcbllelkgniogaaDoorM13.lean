/- The texts Fnp Fan Fq2. -/
import Derived.Test.YtcbllelkgniogaaDoorM12
import Derived.Deep.LoopGhost
namespace Go.Proofs.YtcbllelkgniogaaDoor
open Go.RowKit
def fan(l:List (Int×Int×Int))(j:Nat):List (Int×Int):=(l.filter fun q=>q.1==(j:Int)).map (·.2)
def lnC(l:List (Int×Int)):List Value:=l.flatMap fun q=>[.int .i64 q.1,.int .i64 q.2]
theorem lnC_snoc(l:List (Int×Int))(x y:Int):lnC (l++[(x,y)])=lnC l++[.int .i64 x,.int .i64 y]:=by simp[lnC]
theorem lnC_get:∀(l:List (Int×Int)) (k:Nat),k<l.length→(lnC l)[k*2]? =some (.int .i64 (l.getD k (0,0)).1)∧(lnC l)[k*2+1]? =some (.int .i64 (l.getD k (0,0)).2)
 |[],k,h=>absurd h (by simp)
 |q::r,0,h=>by simp[lnC]
 |q::r,k+1,h=>by
   have hr:=lnC_get r k (by simpa using h)
   have e:lnC (q::r)=[.int .i64 q.1,.int .i64 q.2]++lnC r:=rfl
   rw[e,show (k+1)*2=k*2+2 by omega,show k*2+2+1=(k*2+1)+2 by omega]
   rw[List.getElem?_append_right (by simp),List.getElem?_append_right (by simp)]
   simpa using hr
def vat(Vs:List Value)(j:Nat):Value:=Vs.getD j (.slice none 0 0)
theorem vat_set(Vs:List Value)(j k:Nat)(v:Value)(hj:j<Vs.length):vat (Vs.set j v) k=if k=j then v else vat Vs k:=by
 unfold vat
 rw[List.getD_eq_getElem?_getD,List.getD_eq_getElem?_getD,List.getElem?_set]
 by_cases h:j=k
 ·subst h;simp[hj]
 ·rw[if_neg h,if_neg (fun e=>h e.symm)]
structure FS(n g:Nat)(Vs:List Value)(F:Nat→List (Int×Int))(w:World):Prop where
 top:w.ownsRow g 45 1 (.slice (some ⟨g,0,none⟩) n n) n Vs
 row:∀j,j<n→w.ownsRow (g+1) 30 2 (vat Vs j) (F j).length (lnC (F j))
 dis:∀i j,i<n→j<n→i≠j→(vat Vs i).ownBlock=none∨(vat Vs i).ownBlock≠(vat Vs j).ownBlock
theorem FS.len{n g:Nat}{Vs:List Value}{F:Nat→List (Int×Int)}{w:World}(h:FS n g Vs F w):Vs.length=n:=by
 have:=h.top.1;omega
theorem FS.lt{n g:Nat}{Vs:List Value}{F:Nat→List (Int×Int)}{w:World}(h:FS n g Vs F w):g<w.heap.size:=(World.ownsRow.lt h.top g rfl).2
theorem FS.below{n g:Nat}{Vs:List Value}{F:Nat→List (Int×Int)}{w w':World}(h:FS n g Vs F w)(hb:Below w.heap.size w w'):FS n g Vs F w':=by
 have hg:w.grownBy w' none:=⟨hb.os,hb.tape,hb.output,hb.size,fun i hi _=>hb.block i hi⟩
 refine⟨h.top.kept hg (.inr (by simp[Value.ownBlock])),fun j hj=>(h.row j hj).kept hg ?_,h.dis⟩
 rcases (vat Vs j).ownBlock with _|q
 ·exact .inl rfl
 ·exact .inr (by simp)
theorem FS.cell{n g:Nat}{Vs:List Value}{F:Nat→List (Int×Int)}{w:World}(h:FS n g Vs F w){j:Nat}(hj:j<n):w.cell? ⟨g,j,none⟩=some (vat Vs j):=by
 rw[h.top.cellAt j (by omega),vat,List.getD_eq_getElem?_getD,List.getElem?_eq_getElem (by rw[h.len];exact hj)]
 rfl
theorem FS.shape{n g:Nat}{Vs:List Value}{F:Nat→List (Int×Int)}{w:World}(h:FS n g Vs F w){j:Nat}(hj:j<n):
 ∃A c,vat Vs j=.slice A (F j).length c∧(F j).length≤c∧c≤maxLen∧((A=none∧(F j).length=0∧c=0)∨∃b,A=some ⟨b,0,none⟩∧g<b∧b<w.heap.size):=by
 have hlt:=World.ownsRow.lt (h.row j hj)
 rcases (h.row j hj).2 with⟨e,hn⟩| ⟨q,cap,cur,e,hb,hg,hle,hm,-⟩
 ·exact⟨none,0,by rw[e,hn],by omega,by simp,.inl ⟨rfl,hn,rfl⟩⟩
 ·exact⟨_,cap,e,hle,hm,.inr ⟨q,rfl,hb,(hlt q (by rw[e];rfl)).2⟩⟩
theorem FS.push{n g:Nat}{Vs:List Value}{F:Nat→List (Int×Int)}{w w1:World}{j:Nat}{v':Value}{x y:Int}(h:FS n g Vs F w)(hj:j<n)
 (hown:w1.ownsRow (g+1) 30 2 v' ((F j).length+1) (lnC (F j)++[.int .i64 x,.int .i64 y])) (hgr:w.grownBy w1 (vat Vs j).ownBlock)
 (hat:v'.ownBlock=(vat Vs j).ownBlock∨v'.ownBlock=some w.heap.size):
 FS n g (Vs.set j v') (fun k=>if k=j then F k++[(x,y)] else F k) (w1.setCell ⟨g,j,none⟩ v'):=by
 have hlen:=h.len
 have hjq:∀q,(vat Vs j).ownBlock=some q→g+1≤q:=fun q e=>(World.ownsRow.lt (h.row j hj) q e).1
 have ht:=h.top.kept hgr (.inr fun e=>by have:=hjq g e.symm;omega)
 have hs:=ht.stored j v'
 have hv:∀q,v'.ownBlock=some q→g+1≤q:=fun q e=>(World.ownsRow.lt hown q e).1
 have hgo:∀ {v:Value},(∀q,v.ownBlock=some q→g+1≤q)→v.ownBlock=none∨v.ownBlock≠some g:=fun {v} hq=>by
  rcases ho:v.ownBlock with _|q
  ·exact .inl rfl
  ·refine .inr fun e=>?_
   have:=hq q ho
   simp only[Option.some.injEq]at e
   omega
 refine⟨hs.1,fun k hk=>?_,fun a b ha hb hab=>?_⟩
 ·rw[vat_set _ _ _ _ (by omega)]
  by_cases hkj:k=j
  ·subst hkj
   simp only[if_true]
   rw[List.length_append,lnC_snoc]
   exact hown.kept hs.2 (hgo hv)
  ·rw[if_neg hkj]
   simp only[if_neg hkj]
   refine ((h.row k hk).kept hgr (h.dis k j hk hj hkj)).kept hs.2 (hgo ?_)
   exact fun q e=>(World.ownsRow.lt (h.row k hk) q e).1
 ·rw[vat_set _ _ _ _ (by omega),vat_set _ _ _ _ (by omega)]
  have hz:∀k,k<n→∀q,(vat Vs k).ownBlock=some q→q<w.heap.size:=fun k hk q e=>(World.ownsRow.lt (h.row k hk) q e).2
  by_cases haj:a=j
  ·rw[if_pos haj,if_neg (by omega)]
   rcases hat with e|e
   ·rw[e,←haj];exact h.dis a b ha hb hab
   ·refine .inr fun e'=>?_
    rw[e]at e'
    have:=hz b hb _ e'.symm
    omega
  ·rw[if_neg haj]
   by_cases hbj:b=j
   ·rw[if_pos hbj]
    rcases hat with e|e
    ·rw[e,←hbj];exact h.dis a b ha hb hab
    ·rcases ho:(vat Vs a).ownBlock with _|q
     ·exact .inl rfl
     ·refine .inr fun e'=>?_
      rw[e]at e'
      have:=hz a ha q ho
      simp only[Option.some.injEq]at e'
      omega
   ·rw[if_neg hbj];exact h.dis a b ha hb hab
theorem FS.grown{n g B:Nat}{Vs:List Value}{F:Nat→List (Int×Int)}{w0 w w1:World}{j:Nat}(h:FS n g Vs F w)(hj:j<n)(hb:Below B w0 w)(hB:B≤g)(hgr:w.grownBy w1 (vat Vs j).ownBlock)(v':Value):
 Below B w0 (w1.setCell ⟨g,j,none⟩ v'):=
 (hb.grown hgr (by have:=h.lt;omega) (fun q e=>by have:=(World.ownsRow.lt (h.row j hj) q e).1;omega)).setCell hB _
theorem FS.congr{n g:Nat}{Vs:List Value}{F F':Nat→List (Int×Int)}{w:World}(h:FS n g Vs F w)(e:∀j,j<n→F j=F' j):FS n g Vs F' w:=
 ⟨h.top,fun j hj=>by rw[←e j hj];exact h.row j hj,h.dis⟩
def clipV:Value→Value
 | .slice A n _=>.slice A n n
 |v=>v
def clipTo(Vs:List Value)(n k:Nat):List Value:=(List.range n).map fun j=>if j<k then clipV (vat Vs j) else vat Vs j
theorem clipTo_get(Vs:List Value)(n k j:Nat)(h:j<n):(clipTo Vs n k)[j]? =some (if j<k then clipV (vat Vs j) else vat Vs j):=by
 simp[clipTo,h]
def LnAt(w:World)(_B b p:Nat)(x:Int×Int):Prop:=w.cell? ⟨b,p,none⟩=some (.int .i64 x.1)∧w.cell? ⟨b,p+1,none⟩=some (.int .i64 x.2)
theorem stays_ln:Stays LnAt:=fun w w' B B' b p x hb hB h hk=>⟨(hk ⟨b,p,none⟩ hb).trans h.1,(hk ⟨b,p+1,none⟩ hb).trans h.2⟩
def Lns(w:World)(B:Nat)(v:Value)(l:List (Int×Int)):Prop:=Arr (0,0) 2 LnAt w B v l
def LnsAt(w:World)(B b p:Nat)(l:List (Int×Int)):Prop:=∃A,w.cell? ⟨b,p,none⟩=some (.slice A l.length l.length)∧Lns w B (.slice A l.length l.length) l
theorem stays_lns:Stays LnsAt:=fun w w' B B' b p x hb hB ⟨s,h,k⟩ hk=>⟨s,(hk ⟨b,p,none⟩ hb).trans h,Arr.keep stays_ln k hB hk⟩
def Fos(w:World)(B:Nat)(v:Value)(l:List (List (Int×Int))):Prop:=Arr [] 1 LnsAt w B v l
theorem Fos.keep{w w':World}{B B':Nat}{v:Value}{l:List (List (Int×Int))}(h:Fos w B v l)(hB:B≤B')(hk:∀q:Addr,q.block<B→w'.cell? q=w.cell? q):Fos w' B' v l:=Arr.keep stays_lns h hB hk
theorem clip_reads{w:World}{g:Nat}{v:Value}{l:List (Int×Int)}(h:w.ownsRow g 30 2 v l.length (lnC l)):Lns w w.heap.size (clipV v) l:=by
 have hlt:=World.ownsRow.lt h
 rcases id h.2 with⟨rfl,hn⟩| ⟨q,cap,cur,rfl,hb,hg,hle,hm,-⟩
 ·refine⟨none,0,0,0,?_,fun h=>by omega,by omega,by simp[hn],fun k hk=>by omega⟩
  rw[hn];rfl
 ·refine⟨some ⟨q,0,none⟩,q,0,l.length,rfl,fun _=>rfl,Nat.le_refl _,Nat.le_trans hle hm,fun k hk=>⟨(hlt q rfl).2,?_⟩⟩
  have hc:=lnC_get l k hk
  refine⟨?_,?_⟩
  ·rw[h.cellAt _ (by omega),Nat.zero_add];exact hc.1
  ·rw[h.cellAt _ (by omega),Nat.zero_add];exact hc.2
theorem clip_form{w:World}{g:Nat}{v:Value}{l:List (Int×Int)}(h:w.ownsRow g 30 2 v l.length (lnC l)):∃A,clipV v=.slice A l.length l.length:=by
 rcases id h.2 with⟨rfl,hn⟩| ⟨q,cap,cur,rfl,hb,hg,hle,hm,-⟩
 ·exact⟨none,by rw[hn];rfl⟩
 ·exact⟨some ⟨q,0,none⟩,rfl⟩
theorem FS.reads{n g:Nat}{Vs:List Value}{F:Nat→List (Int×Int)}{w':World}(hn:n≤maxLen)
 (hr:∀j,j<n→w'.ownsRow (g+1) 30 2 (vat Vs j) (F j).length (lnC (F j))) (ht:w'.ownsRow g 45 1 (.slice (some ⟨g,0,none⟩) n n) n (clipTo Vs n n)):
 Fos w' w'.heap.size (.slice (some ⟨g,0,none⟩) n n) ((List.range n).map F):=by
 refine⟨some ⟨g,0,none⟩,g,0,n,by simp,fun _=>rfl,by simp,by simpa using hn,fun k hk=>⟨(World.ownsRow.lt ht g rfl).2,?_⟩⟩
 have hk':k<n:=by simpa using hk
 have e:((List.range n).map F).getD k []=F k:=by simp[hk',List.getD_eq_getElem?_getD]
 rw[e]
 obtain⟨A,hA⟩:=clip_form (hr k hk')
 refine⟨A,?_,?_⟩
 ·rw[Nat.zero_add,Nat.mul_one,ht.cellAt _ (by omega),clipTo_get _ _ _ _ hk',if_pos hk',hA]
 ·rw[←hA]
  exact clip_reads (hr k hk')
set_option maxHeartbeats 400000 in
theorem clipL_any(A:Option Addr)(n c:Nat)(w:World)(hA:(A=none∧n=0∧c=0)∨∃a:Addr,A=some a)(hn:n≤c)(hc:c≤maxLen):
 Calls Tryd.prog 22 #[.slice A n c] w fun e w'=>e=.returned (.slice A n n)∧w=w':=by
 unfold maxLen at hc
 rcases hA with⟨rfl,rfl,rfl⟩| ⟨a,rfl⟩
 ·go_enter Tryd.func22,Tryd.ntmps22
  go_wp2
  go_ret
  exact⟨rfl,rfl⟩
 ·go_enter Tryd.func22,Tryd.ntmps22
  go_wp2
  go_ret
  exact⟨rfl,rfl⟩
theorem info_line:(Tryd.prog.info? 30).map (fun i=>(i.zero,i.size,i.bytes))=some (some (.agg #[.int .i64 0,.int .i64 0]),2,16):=by kernel_rfl
theorem two_new(w:World)(u v:Value)(t:TypeId):∀(j:Nat) (x:Value),[u,v][j]? =some x→(w.alloc (.cells #[u,v] t)).cell? ((⟨w.heap.size,0,none⟩:Addr).add j)=some x:=by
 intro j x hj
 match j,hj with
 |0,hj=>
  rw[show (⟨w.heap.size,0,none⟩:Addr).add 0=⟨w.heap.size,0,none⟩ from rfl,World.cell?_alloc_at _ _ _ _ rfl]
  simpa using hj
 |1,hj=>
  rw[show (⟨w.heap.size,0,none⟩:Addr).add 1=⟨w.heap.size,1,none⟩ from rfl,World.cell?_alloc_at _ _ _ _ rfl]
  simpa using hj
 |j+2,hj=>simp at hj
theorem FS.start{w:World}{g n:Nat}(h:w.ownsRow g 45 1 (.slice (some ⟨g,0,none⟩) n n) n (fillL (fun _=>.slice none 0 0) (.slice none 0 0) n 0)):
 FS n g (fillL (fun _=>.slice none 0 0) (.slice none 0 0) n 0) (fan []) w:=by
 have e:∀j,vat (fillL (fun _=>.slice none 0 0) (.slice none 0 0) n 0) j=.slice none 0 0:=fun j=>by
  unfold vat
  rw[List.getD_eq_getElem?_getD]
  by_cases hj:j<n
  ·rw[fillL_get _ _ _ _ _ hj];simp
  ·rw[List.getElem?_eq_none (by rw[fillL_len];omega)];rfl
 refine⟨h,fun j hj=>?_,fun i j _ _ _=>.inl (by rw[e];rfl)⟩
 rw[e]
 exact World.ownsRow_nil w _ _ _
theorem own_form{w:World}{base:Nat}{e:TypeId}{size:Nat}{v:Value}{n:Nat}{xs:List Value}(h:w.ownsRow base e size v n xs):∃A c,v=.slice A n c:=by
 rcases h.2 with⟨rfl,hn⟩| ⟨g,cap,cur,rfl,-⟩
 ·exact⟨none,0,by rw[hn]⟩
 ·exact⟨_,cap,rfl⟩
attribute [local go_sem] Oper.semAt_some
theorem own_cells{w:World}{base n sz:Nat}{t:TypeId}{v:Value}{xs:List Value}(h:w.ownsRow base t sz v n xs){q:Nat}(hq:v.ownBlock=some q):∃cs,w.heap[q]? =some (.cells cs t (0,0))∧base≤q:=by
 rcases h.2 with⟨e,-⟩| ⟨g,cap,cur,rfl,hb,hg,-⟩
 ·subst e;cases hq
 ·cases hq;exact⟨_,hg,hb⟩
theorem own_turn{w w':World}{base n sz:Nat}{t:TypeId}{v:Value}{xs:List Value}{row:Option Nat}(h:w.ownsRow base t sz v n xs)(hg:w.grownBy w' row)(hr:∀r,row=some r→∃o:Obj,w.heap[r]? =some o∧o.isCells=false):w'.ownsRow base t sz v n xs:=by
 refine World.ownsRow.kept h hg ?_
 cases ho:v.ownBlock with
 |none=>exact .inl rfl
 |some q=>
  refine .inr fun e=>?_
  obtain⟨cs,h1,-⟩:=own_cells h ho
  obtain⟨o,h2,h3⟩:=hr q e.symm
  rw[h1]at h2
  cases h2
  cases h3
theorem fr_turn{w w':World}{g:Nat}{t:TypeId}{xs:List Value}{row:Option Nat}(h:Fr w g t xs)(hg:w.grownBy w' row)(hr:∀r,row=some r→∃o:Obj,w.heap[r]? =some o∧o.isCells=false):Fr w' g t xs:=by
 refine h.kept hg fun e=>?_
 obtain⟨o,h2,h3⟩:=hr g e.symm
 unfold Fr at h
 rw[h]at h2
 cases h2
 cases h3
theorem push_keeps{V w3:World}{o:Obj}{row:Option Nat}{bs:Nat}(u:Value)(hg:(V.alloc o).grownBy w3 row):V.heap.size≤(w3.setCell ⟨bs,0,none⟩ u).heap.size∧∀b,b<V.heap.size→row≠some b→b≠bs→(w3.setCell ⟨bs,0,none⟩ u).heap[b]? =V.heap[b]? :=by
 have hal:Below V.heap.size V (V.alloc o):=below_new (Below.refl _ _) _
 refine⟨?_,fun b hb h1 h2=>?_⟩
 ·have h1:=Below.size hal
  have h2:=hg.size
  have h3:=(grownBy_setCell' w3 bs u).size
  omega
 ·rw[heap_set_ne5 _ _ _ h2,hg.block b (Nat.lt_of_lt_of_le hb (Below.size hal)) (fun e=>h1 e.symm)]
  exact hal.block b hb
def CL(w:World)(bs base:Nat)(zs:List (Int×Int))(k:Nat)(V:World):Prop:=∃v,Fr V bs 45 [v]∧V.ownsRow base 30 2 v (zs.take k).length (lnC (zs.take k))∧BelW w V
theorem CL.own{w:World}{bs base B:Nat}{zs:List (Int×Int)}(hB:w.heap.size≤B):OwnFrom B (CL w bs base zs):=fun k W W' row ⟨v,h1,h2,h3⟩ hg hr=>
 ⟨v,fr_turn h1 hg fun r e=>(hr r e).2,own_turn h2 hg fun r e=>(hr r e).2,h3.grown hg (Below.size h3) fun q e=>Nat.le_trans hB (hr q e).1⟩
set_option maxRecDepth 100000 in
set_option maxHeartbeats 4000000 in
theorem append_lines(gf B:Nat)(lb:Array Value)(zs:List (Int×Int))(w:World)(hB:B≤w.heap.size)(hz:zs.length≤1000000)(hseq:∀W,BelW w W→SeqT B (Kr B [30,45]) Fence.wide 8 7 Tryd.prog gf lb encL zs W)(hen:∀args V,(callFunc gf args).run Tryd.prog V=.ok (.enter gf args) V):
 Calls Tryd.prog 41 #[.slice none 0 0,.func (.func gf) #[] lb] w fun e w'=>∃v base,e=.returned v∧w.heap.size≤base∧w'.ownsRow base 30 2 v zs.length (lnC zs)∧BelW w w':=by
 have HSQ:=Lib.hid hseq
 have HEN:=Lib.hid hen
 obtain⟨i1,hi1,hz0,hz1,hz2⟩:=info_parts info_line
 have HI1:=Lib.hid (And.intro hi1 (And.intro hz0 (And.intro hz1 hz2)))
 clear hi1 hz0 hz1 hz2 hseq hen
 obtain⟨W1,HW1⟩:=named (w.alloc (.cells #[.slice none 0 0] 45))
 have hb1:BelW w W1:=by rw[HW1.out];exact below_new (Below.refl _ _) _
 have hf1:Fr W1 w.heap.size 45 [.slice none 0 0]:=by rw[HW1.out];exact Fr.made _ _ _ rfl
 have hz1:W1.heap.size=w.heap.size+1:=by rw[HW1.out];simp
 have HB1:=Lib.hid hb1
 have HF1:=Lib.hid hf1
 have HZ1:=Lib.hid hz1
 clear hb1 hf1 hz1
 refine (callsIn_wide (n:=9)).1 ?_
 refine callsIn_of_wp_marks Tryd.func41 rfl trivial ?_ rfl
 simp only[Tryd.ntmps41,List.size_toArray,List.length_cons,List.length_nil,Nat.reduceAdd,Nat.reduceSub,Array.replicate_succ,Array.replicate_zero,List.push_toArray,List.append_toArray,List.nil_append,List.cons_append]
 refine wpIn_wide.2 ?_
 go_upto_region 1 with (fail)
 rw[←HW1.out]
 go_wp2_with (fail)
 refine (wpIn_wide (n:=9)).1 ?_
 refine range_t (F:=Fence.wide) (n:=9) (m:=7) (B0:=B) (K:=Kr B [30,45]) (zs:=zs) (Kr.rel B _) (by rw[HZ1.out];omega) rfl (by decide) rfl trivial HEN.out (HSQ.out W1 HB1.out) (fun _=>rfl)
  (CL w w.heap.size W1.heap.size zs) (CL.own (by rw[HZ1.out];omega)) ⟨_,HF1.out,World.ownsRow_nil _ _ _ _,HB1.out⟩
  (fun x a' V=>∃p tm,W1.heap.size≤p∧Fr V p 30 [.int .i64 x.1,.int .i64 x.2]∧a'= { tmps:=#[.slice none 0 0,.func (.func gf) #[] lb,.pointer (some ⟨w.heap.size,0,none⟩),undef,.slice none 0 0,.pointer (some ⟨p,0,none⟩),.func (.func gf) #[] lb,tm,undef,undef,undef,undef,undef],defers:=[] }) ?hAx ?hassign ?hbody ?hdone
 case hAx=>exact fun x a' _ W W' row ⟨p,tm,h1,h2,h3⟩ hg hr=>⟨p,tm,h1,fr_turn h2 hg fun r e=>(hr r e).2,h3⟩
 case hassign=>
  intro l k x V K' hx hI hK
  have HK:=Lib.hid hK
  have hz:W1.heap.size≤V.heap.size:=by
   obtain⟨v,h1,h2,h3⟩:=hI
   have:=h1.lt
   rw[HZ1.out];omega
  have HZV:=Lib.hid hz
  clear hK hI hz
  obtain⟨xa,xb⟩:=x
  simp[encL]
  gi_wp2
  refine HK.out _ _ ?_ ⟨V.heap.size,.agg #[.int .i64 xa,.int .i64 xb],HZV.out,?_,rfl⟩
  ·exact below_new (Below.refl _ _) _
  ·exact Fr.made _ _ _ rfl
 case hbody=>
  rintro l k x a' V hl hx ⟨v,hfs,hrow,hbel⟩ ⟨p,tm,hp,hfp,rfl⟩
  have hkl:k<zs.length:=(List.getElem?_eq_some_iff.1 hx).1
  obtain⟨Av,cv,rfl⟩:=own_form hrow
  have hlen:(zs.take k).length=k:=by rw[List.length_take];omega
  have HTK:Hid ((zs.take (k+1)).length=k+1∧lnC (zs.take (k+1))=lnC (zs.take k)++[.int .i64 x.1,.int .i64 x.2]):=Lib.hid ⟨by rw[List.length_take];omega,by rw[List.take_add_one,hx];simp[lnC]⟩
  rw[hlen]at hfs hrow
  obtain⟨xs,HXS⟩:=named (lnC (zs.take k))
  rw[←HXS.out]at hrow HTK
  obtain⟨xa,HXA⟩:=named x.1
  obtain⟨xb,HXB⟩:=named x.2
  rw[←HXA.out,←HXB.out]at hfp HTK
  have HFS:=Lib.hid hfs
  have HRW:=Lib.hid hrow
  have HBE:=Lib.hid hbel
  have y0:=hfs.cell 0
  have y1:=hfp.cell 0
  have y2:=hfp.cell 1
  simp only[List.getElem?_cons_zero,List.getElem?_cons_succ]at y0 y1 y2
  have HVS:Hid (W1.heap.size≤V.heap.size):=Lib.hid (by have:=hfs.lt;rw[HZ1.out];omega)
  have HNE:Hid ((Value.slice Av k cv).ownBlock≠some w.heap.size):=Lib.hid fun e=>by
   obtain⟨cs,-,h2⟩:=own_cells HRW.out e
   rw[HZ1.out]at h2;omega
  have hk6:k≤1000000:=by omega
  clear hx hfs hrow hbel hfp hlen HXA HXB HXS
  gi_wp2_with (gi_at_builtin;refine wpListIn_append_own _ rfl _ _ 45 rfl W1.heap.size 30 i1 (.agg #[.int .i64 0,.int .i64 0]) 2 16 Tryd.underlying45 HI1.out.1 HI1.out.2.1 HI1.out.2.2.1 HI1.out.2.2.2 rfl (by decide) _ _ _ rfl (World.ownsRow.alloc HRW.out _) ⟨V.heap.size,0,none⟩ 1 1 [.int .i64 xa,.int .i64 xb] rfl rfl (two_new _ _ _ _) (ints_oneCell .i64 [xa,xb]) (by unfold maxLen;omega) (by omega) (by have:=HVS.out;simp;omega) ?_;intro v' w3 hown' hgrow hnil;obtain⟨Av2,cv2,rfl⟩:=own_form hown';have HOW:=Lib.hid hown';have HGR:=Lib.hid hgrow;have e4:=(Fr.kept (Fr.alloc HFS.out _) hgrow (fun e=>HNE.out e.symm)).cell 0;have e3:=(Fr.kept (Fr.alloc HFS.out _) hgrow (fun e=>HNE.out e.symm)).frozen 0;simp only[List.getElem?_cons_zero]at e4;clear hown' hgrow hnil)
  obtain⟨hsz,hkp⟩:=push_keeps (bs:=w.heap.size) (.slice Av2 (k+1) cv2) HGR.out
  have hown:∀q,(Value.slice Av k cv).ownBlock=some q→∃cs,V.heap[q]? =some (.cells cs 30 (0,0))∧W1.heap.size≤q:=fun q hq=>own_cells HRW.out hq
  have hfs:=HFS.out
  unfold Fr at hfs
  refine⟨⟨hsz,fun b o hb hbo hoc=>(hkp b (lt_of_some hbo) (fun e=>?_) (fun e=>?_)).trans hbo⟩,⟨hsz,fun b hb hv=>hkp b hv (fun e=>?_) (fun e=>?_),fun b cs t hbo ht=>(hkp b (lt_of_some hbo) (fun e=>?_) (fun e=>?_)).trans hbo⟩,?_⟩
  ·obtain⟨cs,h1,-⟩:=hown b e
   rw[hbo]at h1;cases h1;cases hoc
  ·subst e
   rw[hbo]at hfs;cases hfs;cases hoc
  ·obtain⟨cs,-,h2⟩:=hown b e
   rw[HZ1.out]at h2;omega
  ·omega
  ·obtain⟨cs,h1,-⟩:=hown b e
   rw[hbo]at h1;cases h1;simp at ht
  ·subst e
   rw[hbo]at hfs;cases hfs;simp at ht
  ·have hal:Below V.heap.size V (V.alloc (.cells #[.int .i64 xa,.int .i64 xb] 30)):=below_new (Below.refl _ _) _
   have hfr3:=Fr.kept (Fr.alloc HFS.out (.cells #[.int .i64 xa,.int .i64 xb] 30)) HGR.out (fun e=>HNE.out e.symm)
   refine⟨.slice Av2 (k+1) cv2,?_,?_,?_⟩
   ·have h1:=hfr3.set 0 (.slice Av2 (k+1) cv2)
    simpa using h1
   ·rw[HTK.out.1,HTK.out.2]
    refine World.ownsRow.kept HOW.out (grownBy_setCell' w3 w.heap.size _) (.inr fun e=>?_)
    obtain⟨cs,-,h2⟩:=own_cells HOW.out e
    rw[HZ1.out]at h2;omega
   ·have hb2:=joinB HBE.out hal
    have hb3:BelW w w3:=hb2.grown HGR.out (Below.size hb2) fun q e=>by
     obtain⟨cs,-,h2⟩:=hown q e
     rw[HZ1.out]at h2;omega
    exact hb3.setCell (p:=⟨w.heap.size,0,none⟩) (Nat.le_refl _) _
 case hdone=>
  rintro D V hD ⟨v,hfs,hrow,hbel⟩ hK
  rw[List.take_length]at hrow
  have y0:=hfs.cell 0
  simp only[List.getElem?_cons_zero]at y0
  obtain⟨Av,cv,rfl⟩:=own_form hrow
  have HFS:=Lib.hid hfs
  have HRW:=Lib.hid hrow
  have HBE:=Lib.hid hbel
  have HD:=Lib.hid hD
  have HK2:=Lib.hid hK
  clear hfs hrow hbel hK
  go_wp2
  have hg:=grownBy_putObj' V D (.deferred none)
  refine⟨by simp,.inl ⟨_,_,rfl,run_takeDeferred HK2.out,?_⟩⟩
  exact⟨_,results_tmp rfl _ _ _,_,W1.heap.size,rfl,by rw[HZ1.out];omega,own_turn HRW.out hg (fun r e=>by cases e;exact⟨_,HK2.out,rfl⟩),HBE.out.grown hg (Below.size HBE.out) fun q e=>by cases e;have:=HD.out;rw[HZ1.out]at this;omega⟩
set_option maxHeartbeats 1000000 in
theorem collect_lines(gf B:Nat)(lb:Array Value)(zs:List (Int×Int))(w:World)(hB:B≤w.heap.size)(hz:zs.length≤1000000)(hseq:∀W,BelW w W→SeqT B (Kr B [30,45]) Fence.wide 8 7 Tryd.prog gf lb encL zs W)(hen:∀args V,(callFunc gf args).run Tryd.prog V=.ok (.enter gf args) V):
 Calls Tryd.prog 23 #[.func (.func gf) #[] lb] w fun e w'=>∃v base,e=.returned v∧w.heap.size≤base∧w'.ownsRow base 30 2 v zs.length (lnC zs)∧BelW w w':=by
 have HC:=Lib.hid (append_lines gf B lb zs w hB hz hseq hen)
 clear hseq hen
 go_enter Tryd.func23,Tryd.ntmps23
 go_wp2_with (go_at_call 41;(with_reducible refine HC.out.mono ?_);rintro e w1 ⟨v,base,rfl,h1,h2,h3⟩;have H1:=Lib.hid (And.intro h1 (And.intro h2 h3));clear h1 h2 h3)
 go_ret
 exact⟨_,base,rfl,H1.out.1,H1.out.2.1,H1.out.2.2⟩
end Go.Proofs.YtcbllelkgniogaaDoor
