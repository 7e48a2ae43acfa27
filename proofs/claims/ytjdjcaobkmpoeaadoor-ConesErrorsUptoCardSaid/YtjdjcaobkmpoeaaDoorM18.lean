/- The texts Kfi Krd Rgf Ktw Or2 Co3. -/
import Derived.Test.YtjdjcaobkmpoeaaDoorM17
import Derived.Test.YtjdjcaobkmpoeaaDoorM01
import Derived.RangeFuncNested
import Derived.RangeFuncBound
import Derived.RangeFuncCalls
import Derived.RangeFuncLeaves
import Derived.WalkKit
import Derived.OwnWalkIn
import Derived.TacticsInMore
import Derived.LoopNIn
import Derived.LoopIn
import Derived.Test.YtjdjcaobkmpoeaaDoorM16
import Derived.RangeFuncBox
import Derived.Test.YtjdjcaobkmpoeaaDoorM12
import Derived.Test.YtjdjcaobkmpoeaaDoorM09
namespace Go.Proofs.YtjdjcaobkmpoeaaDoor
open Go.RowKit
structure FI(n g B:Nat)(Vs:List Value)(F:Nat→List Int)(w:World):Prop where
 lo:g<B
 top:w.ownsRow g 25 1 (.slice (some ⟨g,0,none⟩) n n) n Vs
 row:∀j,j<n→w.ownsRow B 3 1 (vat Vs j) (F j).length ((F j).map (Value.int .i64))
 dis:∀i j,i<n→j<n→i≠j→(vat Vs i).ownBlock=none∨(vat Vs i).ownBlock≠(vat Vs j).ownBlock
theorem FI.len{n g B:Nat}{Vs:List Value}{F:Nat→List Int}{w:World}(h:FI n g B Vs F w):Vs.length=n:=by
 have:=h.top.1;omega
theorem FI.lt{n g B:Nat}{Vs:List Value}{F:Nat→List Int}{w:World}(h:FI n g B Vs F w):g<w.heap.size:=(World.ownsRow.lt h.top g rfl).2
theorem FI.below{n g B:Nat}{Vs:List Value}{F:Nat→List Int}{w w':World}(h:FI n g B Vs F w)(hb:Below w.heap.size w w'):FI n g B Vs F w':=by
 have hg:w.grownBy w' none:=⟨hb.os,hb.tape,hb.output,hb.size,fun i hi _=>hb.block i hi⟩
 refine⟨h.lo,h.top.kept hg (.inr (by simp[Value.ownBlock])),fun j hj=>(h.row j hj).kept hg ?_,h.dis⟩
 rcases (vat Vs j).ownBlock with _|q
 ·exact .inl rfl
 ·exact .inr (by simp)
theorem FI.cell{n g B:Nat}{Vs:List Value}{F:Nat→List Int}{w:World}(h:FI n g B Vs F w){j:Nat}(hj:j<n):w.cell? ⟨g,j,none⟩=some (vat Vs j):=by
 rw[h.top.cellAt j (by omega),vat,List.getD_eq_getElem?_getD,List.getElem?_eq_getElem (by rw[h.len];exact hj)]
 rfl
theorem FI.shape{n g B:Nat}{Vs:List Value}{F:Nat→List Int}{w:World}(h:FI n g B Vs F w){j:Nat}(hj:j<n):
 ∃A c,vat Vs j=.slice A (F j).length c∧(F j).length≤c∧c≤maxLen∧((A=none∧(F j).length=0∧c=0)∨∃b,A=some ⟨b,0,none⟩∧B≤b∧b<w.heap.size):=by
 have hlt:=World.ownsRow.lt (h.row j hj)
 rcases (h.row j hj).2 with⟨e,hn⟩| ⟨q,cap,cur,e,hb,hg,hle,hm,-⟩
 ·exact⟨none,0,by rw[e,hn],by omega,by simp,.inl ⟨rfl,hn,rfl⟩⟩
 ·exact⟨_,cap,e,hle,hm,.inr ⟨q,rfl,hb,(hlt q (by rw[e];rfl)).2⟩⟩
theorem FI.push{n g B:Nat}{Vs:List Value}{F:Nat→List Int}{w w1:World}{j:Nat}{v':Value}{x:Int}(h:FI n g B Vs F w)(hj:j<n)
 (hown:w1.ownsRow B 3 1 v' ((F j).length+1) ((F j).map (Value.int .i64)++[.int .i64 x])) (hgr:w.grownBy w1 (vat Vs j).ownBlock)
 (hat:v'.ownBlock=(vat Vs j).ownBlock∨v'.ownBlock=some w.heap.size):
 FI n g B (Vs.set j v') (fun k=>if k=j then F k++[x] else F k) (w1.setCell ⟨g,j,none⟩ v'):=by
 have hlen:=h.len
 have hlo:=h.lo
 have hjq:∀q,(vat Vs j).ownBlock=some q→B≤q:=fun q e=>(World.ownsRow.lt (h.row j hj) q e).1
 have ht:=h.top.kept hgr (.inr fun e=>by have:=hjq g e.symm;omega)
 have hs:=ht.stored j v'
 have hv:∀q,v'.ownBlock=some q→B≤q:=fun q e=>(World.ownsRow.lt hown q e).1
 have hgo:∀ {v:Value},(∀q,v.ownBlock=some q→B≤q)→v.ownBlock=none∨v.ownBlock≠some g:=fun {v} hq=>by
  rcases ho:v.ownBlock with _|q
  ·exact .inl rfl
  ·refine .inr fun e=>?_
   have:=hq q ho
   simp only[Option.some.injEq]at e
   omega
 refine⟨h.lo,hs.1,fun k hk=>?_,fun a b ha hb hab=>?_⟩
 ·rw[vat_set _ _ _ _ (by omega)]
  by_cases hkj:k=j
  ·subst hkj
   simp only[if_true]
   rw[List.length_append,List.map_append]
   exact hown.kept hs.2 (hgo hv)
  ·rw[if_neg hkj]
   simp only[if_neg hkj]
   refine ((h.row k hk).kept hgr (h.dis k j hk hj hkj)).kept hs.2 (hgo ?_)
   exact fun q e=>(World.ownsRow.lt (h.row k hk) q e).1
 ·rw[vat_set _ _ _ _ (by omega),vat_set _ _ _ _ (by omega)]
  have hz:∀k,k<n→∀q,(vat Vs k).ownBlock=some q→q<w.heap.size:=fun k hk q e=>(World.ownsRow.lt (h.row k hk) q e).2
  by_cases haj:a=j
  ·rw[if_pos haj,if_neg (by omega)]
   rcases hat with e|e
   ·rw[e,←haj];exact h.dis a b ha hb hab
   ·refine .inr fun e'=>?_
    rw[e]at e'
    have:=hz b hb _ e'.symm
    omega
  ·rw[if_neg haj]
   by_cases hbj:b=j
   ·rw[if_pos hbj]
    rcases hat with e|e
    ·rw[e,←hbj];exact h.dis a b ha hb hab
    ·rcases ho:(vat Vs a).ownBlock with _|q
     ·exact .inl rfl
     ·refine .inr fun e'=>?_
      rw[e]at e'
      have:=hz a ha q ho
      simp only[Option.some.injEq]at e'
      omega
   ·rw[if_neg hbj];exact h.dis a b ha hb hab
theorem FI.mid{n g B:Nat}{Vs:List Value}{F:Nat→List Int}{w w1:World}{j:Nat}(h:FI n g B Vs F w)(hj:j<n)(hgr:w.grownBy w1 (vat Vs j).ownBlock):
 w1.cell? ⟨g,j,none⟩=some (vat Vs j)∧w1.frozen? ⟨g,j,none⟩=false:=by
 have hlo:=h.lo
 have hjq:∀q,(vat Vs j).ownBlock=some q→B≤q:=fun q e=>(World.ownsRow.lt (h.row j hj) q e).1
 have ht:=h.top.kept hgr (.inr fun e=>by have:=hjq g e.symm;omega)
 exact⟨hgr.cell (h.cell hj) (fun e=>by have:=hjq g e.symm;omega),ht.frozenAt j⟩
theorem FI.grown{n g B:Nat}{Vs:List Value}{F:Nat→List Int}{w0 w w1:World}{j:Nat}(h:FI n g B Vs F w)(hj:j<n)(hb:w0.grownBy w (some g))(hB:w0.heap.size≤B)(hgr:w.grownBy w1 (vat Vs j).ownBlock)(v':Value):
 w0.grownBy (w1.setCell ⟨g,j,none⟩ v') (some g):=by
 have hjq:∀q,(vat Vs j).ownBlock=some q→B≤q:=fun q e=>(World.ownsRow.lt (h.row j hj) q e).1
 refine World.grownBy.trans ⟨hgr.os.trans hb.os,hgr.tape.trans hb.tape,hgr.output.trans hb.output,Nat.le_trans hb.size hgr.size,fun i hi hne=>(hgr.block i (Nat.lt_of_lt_of_le hi hb.size) fun e=>?_).trans (hb.block i hi hne)⟩ (grown_set _ _ _ _)
 have:=hjq i e.symm
 omega
theorem FI.congr{n g B:Nat}{Vs:List Value}{F F':Nat→List Int}{w:World}(h:FI n g B Vs F w)(e:∀j,j<n→F j=F' j):FI n g B Vs F' w:=
 ⟨h.lo,h.top,fun j hj=>by rw[←e j hj];exact h.row j hj,h.dis⟩
theorem FI.start{w:World}{g n B:Nat}(hlo:g<B)(h:w.ownsRow g 25 1 (.slice (some ⟨g,0,none⟩) n n) n (List.replicate n (.slice none 0 0))):FI n g B (List.replicate n (.slice none 0 0)) (fun _=>[]) w:=by
 have e:∀j,vat (List.replicate n (.slice none 0 0)) j=.slice none 0 0:=fun j=>by
  unfold vat
  rw[List.getD_eq_getElem?_getD,List.getElem?_replicate]
  split<;>rfl
 refine⟨hlo,h,fun j hj=>?_,fun i j _ _ _=>.inl (by rw[e];rfl)⟩
 rw[e]
 exact World.ownsRow_nil w _ _ _
theorem FI.own{n g B:Nat}{Vs:List Value}{F:Nat→List Int}{w:World}(h:FI n g B Vs F w){j:Nat}(hj:j<n):w.ownsRow B 3 1 (vat Vs j) (F j).length ((F j).map (Value.int .i64)):=h.row j hj
theorem FI.reads{n g B:Nat}{Vs:List Value}{F:Nat→List Int}{w:World}(h:FI n g B Vs F w)(hm:∀j,j<n→(F j).length≤maxLen):NxR w w.heap.size g 0 n F:=by
 refine⟨h.lt,fun j hj=>?_⟩
 have hc:=h.cell hj
 rw[Nat.zero_add]
 rcases (h.row j hj).2 with⟨e,hn⟩| ⟨q,cap,cur,e,hb,hg,hle,hm2,-⟩
 ·have hF:F j=[]:=List.eq_nil_of_length_eq_zero hn
  rw[e]at hc
  exact⟨none,0,by rw[hF];exact hc,by rw[hF];exact Is.nil0 _ _⟩
 ·rw[e]at hc
  refine⟨_,cap,hc,⟨_,q,0,cap,rfl,fun _=>rfl,hle,hm j hj,fun k hk=>⟨(Array.getElem?_eq_some_iff.1 hg).1,?_⟩⟩⟩
  have h1:=h.row j hj
  rw[e]at h1
  show w.cell? ⟨q,0+k*1,none⟩=_
  rw[Nat.zero_add,Nat.mul_one,World.ownsRow.cellAt h1 k (by omega),List.getElem?_map,List.getElem?_eq_getElem hk,List.getD_eq_getElem?_getD,List.getElem?_eq_getElem hk]
  rfl
def rdP(nodes:List Nd)(i p:Nat):List Int:=(((fan (nodP nodes nodes.length) i).take p).filter fun q=>cmb (nodes.getD q.1.toNat default).kind).map (·.1)
def rdF(nodes:List Nd)(i p j:Nat):List Int:=if j<i then rdL nodes j else if j=i then rdP nodes i p else []
theorem rdP_succ(nodes:List Nd)(i p:Nat)(hp:p<(fan (nodP nodes nodes.length) i).length):rdP nodes i (p+1)=rdP nodes i p++(if cmb (nodes.getD ((fan (nodP nodes nodes.length) i).getD p (0,0)).1.toNat default).kind=true then [((fan (nodP nodes nodes.length) i).getD p (0,0)).1] else []):=by
 unfold rdP
 have e:(fan (nodP nodes nodes.length) i).getD p (0,0)=(fan (nodP nodes nodes.length) i)[p]:=by rw[List.getD_eq_getElem?_getD,List.getElem?_eq_getElem hp];rfl
 rw[List.take_succ_eq_append_getElem hp,List.filter_append,List.map_append,e]
 congr 1
 generalize (fan (nodP nodes nodes.length) i)[p]=q
 cases h:cmb (nodes.getD q.1.toNat default).kind
 ·rw[List.filter_cons_of_neg (by rw[h];decide)];rfl
 ·rw[List.filter_cons_of_pos (by exact h)];rfl
theorem rdP_full(nodes:List Nd)(i:Nat):rdP nodes i (fan (nodP nodes nodes.length) i).length=rdL nodes i:=by
 unfold rdP
 rw[List.take_length,rd_fan]
 rfl
theorem rdP_len(nodes:List Nd)(i p:Nat):(rdP nodes i p).length≤(nodP nodes nodes.length).length:=by
 unfold rdP
 rw[List.length_map]
 refine Nat.le_trans (List.length_filter_le _ _) (Nat.le_trans ?_ (fan_len _ i))
 rw[List.length_take]
 exact Nat.min_le_right _ _
theorem rdF_next(nodes:List Nd)(i j:Nat):rdF nodes i (fan (nodP nodes nodes.length) i).length j=rdF nodes (i+1) 0 j:=by
 unfold rdF
 by_cases h1:j<i
 ·rw[if_pos h1,if_pos (by omega)]
 ·by_cases h2:j=i
  ·subst h2
   rw[if_neg h1,if_pos rfl,if_pos (by omega),rdP_full]
  ·rw[if_neg h1,if_neg h2,if_neg (by omega)]
   by_cases h3:j=i+1
   ·rw[if_pos h3];rfl
   ·rw[if_neg h3]
theorem rdF_same{nodes:List Nd}{k p:Nat}{x:Int}{b:Bool}(h:rdP nodes k (p+1)=rdP nodes k p++(if b=true then [x] else []))(hb:b=false)(j:Nat):rdF nodes k p j=rdF nodes k (p+1) j:=by
 subst hb
 have h2:rdP nodes k (p+1)=rdP nodes k p:=by simpa using h
 unfold rdF
 rw[h2]
theorem rdF_push{nodes:List Nd}{k p:Nat}{x:Int}{b:Bool}(h:rdP nodes k (p+1)=rdP nodes k p++(if b=true then [x] else []))(hb:b=true)(j:Nat):(if j=k then rdF nodes k p j++[x] else rdF nodes k p j)=rdF nodes k (p+1) j:=by
 subst hb
 have h2:rdP nodes k (p+1)=rdP nodes k p++[x]:=by simpa using h
 unfold rdF
 by_cases h1:j=k
 ·subst h1
  rw[if_pos rfl,if_neg (Nat.lt_irrefl j),if_pos rfl,if_neg (Nat.lt_irrefl j),if_pos rfl,h2]
 ·rw[if_neg h1,if_neg h1,if_neg h1]
theorem rdF_zero(nodes:List Nd)(j:Nat):rdF nodes 0 0 j=[]:=by
 unfold rdF
 rw[if_neg (Nat.not_lt_zero j)]
 split<;>rfl
theorem fan_range{nodes:List Nd}{i p:Nat}(hp:p<(fan (nodP nodes nodes.length) i).length):∃k:Nat,k<nodes.length∧((fan (nodP nodes nodes.length) i).getD p (0,0)).1=(k:Int):=by
 have h1:(fan (nodP nodes nodes.length) i).getD p (0,0)∈fan (nodP nodes nodes.length) i:=by rw[List.getD_eq_getElem?_getD,List.getElem?_eq_getElem hp];exact List.getElem_mem _
 unfold fan at h1 ⊢
 obtain⟨x,hx,hxe⟩:=List.mem_map.1 h1
 obtain⟨k,hk,hx2⟩:=List.mem_flatMap.1 (List.mem_filter.1 hx).1
 obtain⟨r,-,rfl⟩:=List.mem_map.1 hx2
 refine⟨k,List.mem_range.1 hk,?_⟩
 rw[←hxe]
theorem own_elem{w:World}{B n size q:Nat}{e t:TypeId}{v:Value}{xs cs:List Value}(h:w.ownsRow B e size v n xs)(hq:v.ownBlock=some q)(hf:Fr w q t cs):t=e:=by
 rcases h.2 with⟨rfl,-⟩| ⟨g',cap,cur,rfl,hb,hg,-⟩
 ·cases hq
 ·have e1:g'=q:=by simpa [Value.ownBlock]using hq
  subst e1
  have h1:w.heap[g']? =some (.cells cs.toArray t (0,0)):=hf
  rw[hg]at h1
  simp only[Option.some.injEq,Obj.cells.injEq]at h1
  exact h1.2.1.symm
theorem FI.not_int{w:World}{n g B j:Nat}{Vs:List Value}{F:Nat→List Int}{x:Int}(h:FI n g B Vs F w):w.cell? ⟨g,j,none⟩≠some (.int .i64 x):=fun e=>by
 have h1:=(own_frB h.top).cell j
 rw[e]at h1
 rcases Nat.lt_or_ge j n with hj|hj
 ·have h2:=h.cell hj
  rw[e]at h2
  obtain⟨A,c,h3,-⟩:=h.shape hj
  rw[h3]at h2
  cases h2
 ·rw[List.getElem?_eq_none (by rw[h.len];exact hj)]at h1
  cases h1
set_option maxRecDepth 100000 in
set_option maxHeartbeats 8000000 in
theorem readers_own(c:Ck)(v:Value)(w:World)(hc:Cir w w.heap.size v c)(hsz:c.nodes.length≤1000000)(hpz:(nodP c.nodes c.nodes.length).length≤100000000):
 Calls Tryd.prog 29 #[v] w fun e w'=>∃g,e=.returned (.slice (some ⟨g,0,none⟩) c.nodes.length c.nodes.length)∧NxR w' w'.heap.size g 0 c.nodes.length (rdL c.nodes)∧BelW w w'∧∃xs,Fr w' g 25 xs:=by
 have hcc:=hc
 obtain⟨v0,v1,v2,v3,rfl,hns,hss,hms,hos⟩:=hc
 obtain⟨A0,b,o,c0,rfl,hA,-,-,hcell⟩:=id hns
 obtain⟨A1,b1,o1,c1,rfl,-⟩:=id hss
 obtain⟨A2,b2,o2,c2,rfl,-⟩:=id hms
 obtain⟨A3,b3,o3,c3,rfl,-⟩:=id hos
 have hnd:∀k,k<c.nodes.length→A0=some ⟨b,o,none⟩∧b<w.heap.size∧w.cell? ⟨b,o+k*4,none⟩=some (.int .u8 (c.nodes.getD k default).kind):=fun k hk=>by
  obtain⟨hb,s,h0,-⟩:=hcell k hk
  exact⟨hA (by omega),hb,h0⟩
 clear hns hss hms hos hcell hA
 obtain⟨n,HN⟩:=named c.nodes.length
 rw[←HN.out]at hsz hnd hcc
 rw[←HN.out]
 generalize c.names.length=n1 at hcc ⊢
 generalize c.mems.length=n2 at hcc ⊢
 generalize c.outs.length=n3 at hcc ⊢
 obtain⟨W1,HW1⟩:=named (w.alloc (.cells #[.slice A0 n c0,.slice A1 n1 c1,.slice A2 n2 c2,.slice A3 n3 c3] 27))
 have hb1:BelW w W1:=by rw[HW1.out];exact below_new (Below.refl _ _) _
 have hf:Fr W1 w.heap.size 27 [.slice A0 n c0,.slice A1 n1 c1,.slice A2 n2 c2,.slice A3 n3 c3]:=by rw[HW1.out];exact Fr.made _ _ _ rfl
 obtain⟨q1,HQ⟩:=named w.heap.size
 have hqg:q1<W1.heap.size:=by rw[HQ.out,HW1.out];simp
 have hfq:Fr W1 q1 27 [.slice A0 n c0,.slice A1 n1 c1,.slice A2 n2 c2,.slice A3 n3 c3]:=by rw[HQ.out];exact hf
 obtain⟨g,HG⟩:=named W1.heap.size
 rw[←HG.out]at hqg
 have HF:=Lib.hid hfq
 have HB1:=Lib.hid hb1
 have HQ2:=Lib.hid HQ.out
 have HG2:=Lib.hid HG.out
 have HQG:=Lib.hid hqg
 have HND:=Lib.hid hnd
 have HCC:=Lib.hid hcc
 have HPZ:=Lib.hid hpz
 obtain⟨x0,x1,x2,x3⟩:_∧_∧_∧_:=⟨hfq.cell 0,hfq.cell 1,hfq.cell 2,hfq.cell 3⟩
 obtain⟨i0,hi,hz0,hz1',hz2⟩:=info_parts info_isl
 have HI:=Lib.hid (And.intro hi (And.intro hz0 (And.intro hz1' hz2)))
 clear hi hz0 hz1' hz2 hb1 hf hfq hqg hnd hcc hpz
 go_enter Tryd.func29,Tryd.ntmps29
 go_upto_region 1 with (fail)
 rw[←HW1.out,←HQ2.out]
 go_upto_region 2 with (at_make;refine wpList_make_full _ rfl _ _ 58 rfl W1.heap.size 25 i0 (.slice none 0 0) 1 Tryd.underlying58 HI.out.1 HI.out.2.1 HI.out.2.2.1 .i64 .i64 _ _ n rfl rfl rfl rfl ?b2 ?b3 ?b4 ?_)
 case b2=>rw[HI.out.2.2.2];omega
 case b3=>unfold maxLen;omega
 case b4=>exact Nat.le_refl _
 intro w2 hown hgr
 rw[made_nils]at hown
 rw[←HG2.out]at hown
 have hb2:BelW W1 w2:=(Below.refl _ _).grown hgr (Nat.le_refl _) (fun k h=>by cases h)
 have hgl:g<w2.heap.size:=(World.ownsRow.lt hown g rfl).2
 have HOW:=Lib.hid hown
 have HB2:=Lib.hid hb2
 rw[←HG2.out]
 have hf2:=HF.out.below hb2
 replace x0:=hf2.cell 0
 replace x1:=hf2.cell 1
 replace x2:=hf2.cell 2
 replace x3:=hf2.cell 3
 have HFO:=Lib.hid (fanout_any c _ w2 w2.heap.size (Nat.le_refl _) (((HCC.out.below HB1.out).more (Below.size HB1.out)).below hb2 |>.more (Below.size hb2)) (by rw[←HN.out];omega) (by have:=HPZ.out;omega))
 unfold FanPost at HFO
 rw[←HN.out]at HFO
 clear hown hgr hb2 hf2
 go_upto_region 3 with (go_at_call 55;(with_reducible refine HFO.out.mono ?_);rintro e w5 ⟨gf,rfl,hge,hfo,hbe⟩;have HFOS:=Lib.hid hfo;have HB5:=Lib.hid hbe;have HGF:=Lib.hid hge;clear hfo hbe hge x0 x1 x2 x3)
 have hR5:FI n g w5.heap.size (List.replicate n (.slice none 0 0)) (fun _=>[]) w5:=FI.start (by have:=Below.size HB5.out;omega) (World.ownsRow.kept HOW.out (grown_of HB5.out none) (.inr (by simp[Value.ownBlock])))
 have HR5:Hid (FI n g w5.heap.size (List.replicate n (.slice none 0 0)) (rdF c.nodes 0 0) w5):=Lib.hid (hR5.congr fun j _=>(rdF_zero c.nodes j).symm)
 have hf5:=(HF.out.below HB2.out).below HB5.out
 have HCE:Hid (∀W,w5.grownBy W (some g)→W.cell? ⟨q1,0,none⟩=some (.slice A0 n c0)∧W.cell? ⟨q1,1,none⟩=some (.slice A1 n1 c1)∧W.cell? ⟨q1,2,none⟩=some (.slice A2 n2 c2)∧W.cell? ⟨q1,3,none⟩=some (.slice A3 n3 c3)):=Lib.hid fun W h=>by
  have hne:some q1≠some g:=by have:=HQG.out;simp only[ne_eq,Option.some.injEq];omega
  exact⟨h.cell (hf5.cell 0) hne,h.cell (hf5.cell 1) hne,h.cell (hf5.cell 2) hne,h.cell (hf5.cell 3) hne⟩
 have HW5:Hid (BelW w w5):=Lib.hid (joinB HB1.out (joinB HB2.out HB5.out))
 have HWC:Hid (∀p:Addr,p.block<w.heap.size→∀W,w5.grownBy W (some g)→W.cell? p=w.cell? p):=Lib.hid fun p hp W h=>(h.cell_far p (Nat.lt_of_lt_of_le hp (Below.size HW5.out)) (by have:=HQG.out;have:=HQ2.out;simp only[ne_eq,Option.some.injEq];omega)).trans (Below.cell HW5.out hp)
 have HEND:Hid (∀W,w5.grownBy W (some g)→BelW w W):=Lib.hid fun W h=>HW5.out.grown h (by have:=Below.size HW5.out;omega) fun k e=>by
  have:=HQG.out;have:=HQ2.out;simp only[Option.some.injEq]at e;omega
 have HNI:Hid (∀(b:Nat) (j:Nat) (x:Int),w5.cell? ⟨b,j,none⟩=some (.int .i64 x)→b≠g):=Lib.hid fun b j x e e2=>by subst e2;exact HR5.out.not_int e
 obtain⟨m0,HM0⟩:=named (fanL c.nodes)
 have HFL:Hid (∀i,i<n→m0.getD i []=fan (nodP c.nodes c.nodes.length) i):=Lib.hid fun i hi=>by
  rw[HM0.out]
  unfold fanL
  rw[List.getD_eq_getElem?_getD,List.getElem?_map,List.getElem?_range (by rw[←HN.out];exact hi)]
  rfl
 rw[←HM0.out]at HFOS
 have HROW:Hid (∀i,i<n→∃Ar,(∀W,w5.grownBy W (some g)→W.cell? ⟨gf,i,none⟩=some (.slice Ar (fan (nodP c.nodes c.nodes.length) i).length (fan (nodP c.nodes c.nodes.length) i).length))∧
  ∀p,p<(fan (nodP c.nodes c.nodes.length) i).length→∃bl ol,Ar=some ⟨bl,ol,none⟩∧∀W,w5.grownBy W (some g)→W.cell? ⟨bl,ol+p*2,none⟩=some (.int .i64 ((fan (nodP c.nodes c.nodes.length) i).getD p (0,0)).1)∧W.cell? ⟨bl,ol+p*2+1,none⟩=some (.int .i64 ((fan (nodP c.nodes c.nodes.length) i).getD p (0,0)).2)):=Lib.hid fun i hi=>by
  obtain⟨Af,bf,of,cf,ef,hAf,-,-,hcf⟩:=HFOS.out
  simp only[Value.slice.injEq]at ef
  obtain⟨ef1,ef2,-⟩:=ef
  have hil:i<m0.length:=by rw[←ef2];exact hi
  have:=hAf (by omega)
  rw[←ef1]at this
  simp only[Option.some.injEq,Addr.mk.injEq,and_true]at this
  obtain⟨rfl,rfl⟩:=this
  obtain⟨hbf,Ar,hr1,hr2⟩:=hcf i hil
  rw[HFL.out i hi]at hr1 hr2
  have hgne:gf≠g:=by have:=HGF.out;have:=HQG.out;omega
  refine⟨Ar,fun W h=>?_,fun p hp=>?_⟩
  ·have h2:=h.cell hr1 (by simpa using hgne)
   rwa [Nat.zero_add,Nat.mul_one]at h2
  ·obtain⟨Al,bl,ol,cl,el,hAl,-,-,hcl⟩:=hr2
   simp only[Value.slice.injEq]at el
   obtain⟨el1,-,-⟩:=el
   obtain⟨hbl,hp1,hp2⟩:=hcl p hp
   have hne:bl≠g:=HNI.out _ _ _ hp1
   exact⟨bl,ol,el1.trans (hAl (by omega)),fun W h=>⟨h.cell hp1 (by simpa using hne),h.cell hp2 (by simpa using hne)⟩⟩
 clear hgl hR5 hf5 HFOS HM0 HOW HFO
 go_loopw [15] (fun i wr=>∃(k:Nat) (Vs:List Value),k≤n∧i=.int .i64 k∧Hid (FI n g w5.heap.size Vs (rdF c.nodes k 0) wr)∧Hid (w5.grownBy wr (some g))) (fun i _=>n-(intOf i).toNat)
 case atStart=>exact⟨0,_,Nat.zero_le _,rfl,HR5,Lib.hid (grown_of (Below.refl _ _) _)⟩
 case round=>
  clear HR5
  obtain⟨k,Vs,hk,rfl,HR,HG5⟩:=hrel
  by_cases hlt:k<n
  ·have hk2:(k:Int)<(n:Int):=by omega
   obtain⟨Ar,hr1,hr2⟩:=HROW.out k hlt
   have z0:=hr1 wr HG5.out
   have HPIN:=Lib.hid hr2
   obtain⟨fl,HFLK⟩:=named (fan (nodP c.nodes c.nodes.length) k)
   rw[←HFLK.out]at z0 HPIN
   obtain⟨mk,HMKL⟩:=named fl.length
   rw[←HMKL.out]at z0 HPIN
   have HFR:Hid (∀p,p<mk→∃x:Nat,x<n∧(fl.getD p (0,0)).1=(x:Int)):=Lib.hid fun p hp=>by
    obtain⟨x,h1,h2⟩:=fan_range (nodes:=c.nodes) (i:=k) (p:=p) (by rw[←HFLK.out,←HMKL.out];exact hp)
    exact⟨x,by rw[HN.out];exact h1,by rw[HFLK.out];exact h2⟩
   have HRS:Hid (∀p,p<mk→rdP c.nodes k (p+1)=rdP c.nodes k p++(if cmb (c.nodes.getD (fl.getD p (0,0)).1.toNat default).kind=true then [(fl.getD p (0,0)).1] else [])):=Lib.hid fun p hp=>by
    have:=rdP_succ c.nodes k p (by rw[←HFLK.out,←HMKL.out];exact hp)
    rw[←HFLK.out]at this;exact this
   have hmb:mk≤100000000:=by
    have h1:=HPZ.out
    have h2:=fan_len (nodP c.nodes c.nodes.length) k
    rw[HMKL.out,HFLK.out];omega
   have HRN:Hid (∀j,rdF c.nodes k mk j=rdF c.nodes (k+1) 0 j):=Lib.hid fun j=>by rw[HMKL.out,HFLK.out];exact rdF_next c.nodes k j
   clear hr1 hr2 HFLK HMKL
   go_wp2
   go_loopw [22] (fun i wr=>∃(p:Nat) (Vs:List Value),p≤mk∧i=.int .i64 p∧Hid (FI n g w5.heap.size Vs (rdF c.nodes k p) wr)∧Hid (w5.grownBy wr (some g))) (fun i _=>mk-(intOf i).toNat)
   case atStart=>exact⟨0,Vs,Nat.zero_le _,rfl,HR,HG5⟩
   case round=>
    clear HR HG5 z0
    obtain⟨p,Vs,hp,rfl,HR,HG5⟩:=hrel
    by_cases hpl:p<mk
    ·have hp2:(p:Int)<(mk:Int):=by omega
     obtain⟨bl,ol,rfl,hcc⟩:=HPIN.out p hpl
     obtain⟨e0,e1⟩:=hcc wr HG5.out
     obtain⟨x,hx,hxe⟩:=HFR.out p hpl
     have HRS2:=Lib.hid (HRS.out p hpl)
     rw[hxe]at e0 HRS2
     rw[Int.toNat_natCast]at HRS2
     generalize (fl.getD p (0,0)).2=pi at e1
     have hx2:(x:Int)<(n:Int):=by omega
     obtain⟨rfl,hbb,hkd⟩:=HND.out x hx
     obtain⟨kd,HKD⟩:=named (c.nodes.getD x default).kind
     rw[←HKD.out]at hkd HRS2
     obtain⟨x0,x1,x2,x3⟩:=HCE.out wr HG5.out
     obtain⟨V,HV⟩:=named (wr.alloc (.cells #[.int .i64 (x:Int),.int .i64 pi] 91))
     have hbV:BelW wr V:=by rw[HV.out];exact below_new (Below.refl _ _) _
     have hfV:Fr V wr.heap.size 91 [.int .i64 (x:Int),.int .i64 pi]:=by rw[HV.out];exact Fr.made _ _ _ rfl
     have HGV:Hid (w5.grownBy V (some g)):=Lib.hid (HG5.out.trans (grown_of hbV _))
     have HRV:Hid (FI n g w5.heap.size Vs (rdF c.nodes k p) V):=Lib.hid (HR.out.below hbV)
     have e2:=(HWC.out ⟨b,o+x*4,none⟩ hbb V HGV.out).trans hkd
     obtain⟨pb,HPB⟩:=named wr.heap.size
     rw[←HPB.out]at hfV
     have HPBG:Hid (pb≠g):=Lib.hid (by have:=HR.out.lt;have:=HPB.out;omega)
     have HFV:=Lib.hid hfV
     clear hbV hfV hcc hxe hbb hkd
     go_upto_region 8 with (fail)
     rw[←HV.out,←HPB.out]
     clear e0 e1 x0 x1 x2 x3 HV
     obtain⟨x0,x1,x2,x3⟩:=HCE.out V HGV.out
     have y0:=HFV.out.cell 0
     have y1:=HFV.out.cell 1
     have hcm:=comb_any kd
     cases hv:cmb kd
     ·rw[hv]at hcm HRS2
      have HCM:=Lib.hid hcm
      have HNX:Hid (FI n g w5.heap.size Vs (rdF c.nodes k (p+1)) V):=Lib.hid (HRV.out.congr fun j _=>rdF_same HRS2.out rfl j)
      clear hcm hv
      go_wp2_with (go_at_call 44;(with_reducible refine (HCM.out _).mono ?_);rintro e w' ⟨rfl,rfl⟩)
      go_roundw
      case rel=>exact⟨p+1,Vs,by omega,by go_num,HNX,HGV⟩
      case measure=>simp[intOf];omega
     ·rw[hv]at hcm HRS2
      have HCM:=Lib.hid hcm
      have HNXF:Hid (∀j,(if j=k then rdF c.nodes k p j++[(x:Int)] else rdF c.nodes k p j)=rdF c.nodes k (p+1) j):=Lib.hid fun j=>rdF_push HRS2.out rfl j
      clear hcm hv
      go_upto_region 9 with (go_at_call 44;(with_reducible refine (HCM.out _).mono ?_);rintro e w' ⟨rfl,rfl⟩)
      clear x0 x1 x2 x3 y0 y1 e2 HCM
      obtain⟨A6,c6,hva,hle6,hc6,hsh⟩:=HRV.out.shape hlt
      have hrow:=HRV.out.row k hlt
      rw[hva]at hrow
      have hcl:=HRV.out.cell hlt
      rw[hva]at hcl
      have HVA0:=Lib.hid hva
      have HLB:Hid ((rdF c.nodes k p k).length≤100000000):=Lib.hid (by
       unfold rdF
       rw[if_neg (Nat.lt_irrefl k),if_pos rfl]
       have:=rdP_len c.nodes k p
       have:=HPZ.out
       omega)
      have hdb:BelW V V.drew:=Below.drew (Below.refl _ _)
      have HS0:Hid (V.drew.cell? ⟨g,k,none⟩=some (.slice A6 (rdF c.nodes k p k).length c6)∧V.drew.cell? ⟨pb,0,none⟩=some (.int .i64 (x:Int))):=Lib.hid ⟨hcl,HFV.out.cell 0⟩
      have hal:BelW V.drew (V.drew.alloc (.cells #[.int .i64 (x:Int)] 3)):=below_new (Below.refl _ _) _
      have HSL:Hid ((V.drew.alloc (.cells #[.int .i64 (x:Int)] 3)).cell? ⟨g,k,none⟩=some (.slice A6 (rdF c.nodes k p k).length c6)∧(V.drew.alloc (.cells #[.int .i64 (x:Int)] 3)).cell? ⟨pb,0,none⟩=some (.int .i64 (x:Int))):=Lib.hid ⟨(hal.cell (p:=⟨g,k,none⟩) HRV.out.lt).trans hcl,((HFV.out.below hdb).below hal).cell 0⟩
      have HRD:Hid (FI n g w5.heap.size Vs (rdF c.nodes k p) (V.drew.alloc (.cells #[.int .i64 (x:Int)] 3))):=Lib.hid ((HRV.out.below hdb).below hal)
      have HGD:Hid (w5.grownBy (V.drew.alloc (.cells #[.int .i64 (x:Int)] 3)) (some g)):=Lib.hid ((HGV.out.trans (grown_of hdb _)).trans (grown_of hal _))
      have HROWK:Hid (V.drew.ownsRow w5.heap.size 3 1 (.slice A6 (rdF c.nodes k p k).length c6) (rdF c.nodes k p k).length ((rdF c.nodes k p k).map (Value.int .i64))):=Lib.hid hrow
      have HPC10:Hid (∀w10,(V.drew.alloc (.cells #[.int .i64 (x:Int)] 3)).grownBy w10 (Value.slice A6 (rdF c.nodes k p k).length c6).ownBlock→w10.cell? ⟨pb,0,none⟩=some (.int .i64 (x:Int))):=Lib.hid fun w10 h=>h.cell HSL.out.2 (by
       intro e
       have h1:=(World.ownsRow.lt hrow pb e.symm)
       have h2:=own_elem hrow e.symm HFV.out
       revert h2;decide)
      have HSZ5:Hid (w5.heap.size≤V.heap.size):=Lib.hid HGV.out.size
      obtain⟨L,HL⟩:=named (rdF c.nodes k p k)
      rw[←HL.out]at HS0 HSL HROWK HPC10 HVA0 HLB
      obtain⟨lk,HLK⟩:=named L.length
      rw[←HLK.out]at HS0 HSL HROWK HPC10 HVA0 HLB
      have HVA:Hid (vat Vs k=.slice A6 lk c6):=Lib.hid HVA0.out
      obtain⟨i1,hi1,hz0,hz1,hz2⟩:=info_parts info_int
      have HI1:=Lib.hid (And.intro hi1 (And.intro hz0 (And.intro hz1 hz2)))
      clear hi1 hz0 hz1 hz2 hva hle6 hc6 hsh hrow hcl hdb hal
      refine AnyX.start (S:=(fun w'=>w'.cell? ⟨g,k,none⟩=some (.slice A6 lk c6)∧w'.cell? ⟨pb,0,none⟩=some (.int .i64 (x:Int)))) (t:=11) (by kernel_rfl) ?_
      refine AnyX.take (i:=0) (oi:=⟨some 34,_,_,_,_,_⟩) (v:=.slice (some ⟨g,0,none⟩) n n) rfl rfl (by kernel_rfl) (by kernel_rfl) (by kernel_rfl) (by kernel_rfl) (fun _ _ _ h=>h) (Or.inl ⟨by rfl,?_⟩) HS0.out ?_
      ·intro w' hSw
       obtain⟨k0',k1'⟩:=hSw
       first|(go_simp;done)|(go_simp;with_reducible rfl)|(go_simp;intro hh;exfalso;omega)
      simp only[Act.put,List.setIfInBounds_toArray,List.set_cons_zero,List.set_cons_succ]
      refine AnyX.take (i:=1) (oi:=⟨some 35,_,_,_,_,_⟩) (v:=.int .i64 (k:Int)) rfl rfl (by kernel_rfl) (by kernel_rfl) (by kernel_rfl) (by kernel_rfl) (fun _ _ _ h=>h) (Or.inl ⟨by rfl,?_⟩) HS0.out ?_
      ·intro w' hSw
       obtain⟨k0',k1'⟩:=hSw
       first|(go_simp;done)|(go_simp;with_reducible rfl)|(go_simp;intro hh;exfalso;omega)
      simp only[Act.put,List.setIfInBounds_toArray,List.set_cons_zero,List.set_cons_succ]
      refine AnyX.take (i:=2) (oi:=⟨some 36,_,_,_,_,_⟩) (v:=.slice (some ⟨g,0,none⟩) n n) rfl rfl (by kernel_rfl) (by kernel_rfl) (by kernel_rfl) (by kernel_rfl) (fun _ _ _ h=>h) (Or.inl ⟨by rfl,?_⟩) HS0.out ?_
      ·intro w' hSw
       obtain⟨k0',k1'⟩:=hSw
       first|(go_simp;done)|(go_simp;with_reducible rfl)|(go_simp;intro hh;exfalso;omega)
      simp only[Act.put,List.setIfInBounds_toArray,List.set_cons_zero,List.set_cons_succ]
      refine AnyX.take (i:=3) (oi:=⟨some 37,_,_,_,_,_⟩) (v:=.int .i64 (k:Int)) rfl rfl (by kernel_rfl) (by kernel_rfl) (by kernel_rfl) (by kernel_rfl) (fun _ _ _ h=>h) (Or.inl ⟨by rfl,?_⟩) HS0.out ?_
      ·intro w' hSw
       obtain⟨k0',k1'⟩:=hSw
       first|(go_simp;done)|(go_simp;with_reducible rfl)|(go_simp;intro hh;exfalso;omega)
      simp only[Act.put,List.setIfInBounds_toArray,List.set_cons_zero,List.set_cons_succ]
      refine AnyX.take (i:=4) (oi:=⟨some 38,_,_,_,_,_⟩) (v:=.pointer (some ⟨g,k,none⟩)) rfl rfl (by kernel_rfl) (by kernel_rfl) (by kernel_rfl) (by kernel_rfl) (fun _ _ _ h=>h) (Or.inl ⟨by rfl,?_⟩) HS0.out ?_
      ·intro w' hSw
       obtain⟨k0',k1'⟩:=hSw
       first|(go_simp;done)|(go_simp;with_reducible rfl)|(go_simp;intro hh;exfalso;omega)
      simp only[Act.put,List.setIfInBounds_toArray,List.set_cons_zero,List.set_cons_succ]
      refine AnyX.take (i:=5) (oi:=⟨some 39,_,_,_,_,_⟩) (v:=.slice A6 lk c6) rfl rfl (by kernel_rfl) (by kernel_rfl) (by kernel_rfl) (by kernel_rfl) (fun _ _ _ h=>h) (Or.inl ⟨by rfl,?_⟩) HS0.out ?_
      ·intro w' hSw
       obtain⟨k0',k1'⟩:=hSw
       first|(go_simp;done)|(go_simp;with_reducible rfl)|(go_simp;intro hh;exfalso;omega)
      simp only[Act.put,List.setIfInBounds_toArray,List.set_cons_zero,List.set_cons_succ]
      refine AnyX.take (i:=6) (oi:=⟨some 40,_,_,_,_,_⟩) (v:=.pointer (some ⟨pb,0,none⟩)) rfl rfl (by kernel_rfl) (by kernel_rfl) (by kernel_rfl) (by kernel_rfl) (fun _ _ _ h=>h) (Or.inl ⟨by rfl,?_⟩) HS0.out ?_
      ·intro w' hSw
       obtain⟨k0',k1'⟩:=hSw
       first|(go_simp;done)|(go_simp;with_reducible rfl)|(go_simp;intro hh;exfalso;omega)
      simp only[Act.put,List.setIfInBounds_toArray,List.set_cons_zero,List.set_cons_succ]
      refine AnyX.take (i:=7) (oi:=⟨some 41,_,_,_,_,_⟩) (v:=.int .i64 (x:Int)) rfl rfl (by kernel_rfl) (by kernel_rfl) (by kernel_rfl) (by kernel_rfl) (fun _ _ _ h=>h) (Or.inl ⟨by rfl,?_⟩) HS0.out ?_
      ·intro w' hSw
       obtain⟨k0',k1'⟩:=hSw
       first|(go_simp;done)|(go_simp;with_reducible rfl)|(go_simp;intro hh;exfalso;omega)
      simp only[Act.put,List.setIfInBounds_toArray,List.set_cons_zero,List.set_cons_succ]
      refine AnyX.one (i:=8) (o:=⟨some 42,_,_,_,_,_⟩) (by kernel_rfl) rfl (fun K' hK=>?_)
      have HK:=Lib.hid hK
      clear hK
      go_simp
      refine HK.out _ _ (fun _=>HSL.out) ?_
      clear HK
      (try simp only[Act.put,List.setIfInBounds_toArray,List.set_cons_zero,List.set_cons_succ])
      refine AnyX.one (i:=9) (o:=⟨some 43,_,_,_,_,_⟩) (by kernel_rfl) rfl (fun K' hK=>?_)
      have HK:=Lib.hid hK
      clear hK
      refine step_append_lies _ (by rfl) (.tmp 39) (.tmp 42) 25 (by rfl) w5.heap.size 3 i1 (.int .i64 0) 1 8 Tryd.underlying25 HI1.out.1 HI1.out.2.1 HI1.out.2.2.1 HI1.out.2.2.2 rfl (by decide) (.slice A6 lk c6) lk (L.map (Value.int .i64)) (by simp[Act.eval]) (World.ownsRow.alloc HROWK.out _) ⟨V.heap.size,0,none⟩ 1 1 [.int .i64 (x:Int)] (by simp[Act.eval]) rfl (one_new V.drew _ _) (ints_oneCell .i64 [(x:Int)]) (by decide) (by unfold maxLen;have:=HLB.out;omega) (by have:=HLB.out;omega) (by have:=HSZ5.out;simp;omega) _ rfl ?_
      intro g9 c9 w10 hown10 hgrow10 hat10 hlt10
      have HO10:=Lib.hid (And.intro hown10 (And.intro hgrow10 hat10))
      have hmid:=HRD.out.mid hlt (by rw[HVA.out];exact hgrow10)
      rw[HVA.out]at hmid
      have HMID:=Lib.hid hmid
      have hs10:w10.cell? ⟨g,k,none⟩=some (.slice A6 lk c6)∧w10.cell? ⟨pb,0,none⟩=some (.int .i64 (x:Int)):=⟨hmid.1,HPC10.out w10 hgrow10⟩
      clear hown10 hgrow10 hat10 hlt10 hmid
      refine HK.out _ _ (fun _=>hs10) ?_
      clear HK
      (try simp only[Act.put,List.setIfInBounds_toArray,List.set_cons_zero,List.set_cons_succ])
      refine AnyX.one (i:=10) (o:=⟨some 44,_,_,_,_,_⟩) (by kernel_rfl) rfl (fun K' hK=>?_)
      have HK:=Lib.hid hK
      clear hK
      go_simp
      refine HK.out _ _ (fun _=>hs10) ?_
      clear HK
      (try simp only[Act.put,List.setIfInBounds_toArray,List.set_cons_zero,List.set_cons_succ])
      refine AnyX.one (i:=11) (o:=⟨none,_,_,_,_,_⟩) (by kernel_rfl) rfl (fun K' hK=>?_)
      have HK:=Lib.hid hK
      clear hK
      obtain⟨k0',k1'⟩:=hs10
      have f1:=HMID.out.2
      go_simp
      refine HK.out _ _ (fun h=>absurd rfl h) ?_
      clear HK
      (try simp only[Act.put,List.setIfInBounds_toArray,List.set_cons_zero,List.set_cons_succ])
      refine AnyX.done (by kernel_rfl) ?_ _
      have HEND2:Hid (FI n g w5.heap.size (Vs.set k (.slice (some ⟨g9,0,none⟩) (lk+1) c9)) (rdF c.nodes k (p+1)) (w10.setCell ⟨g,k,none⟩ (.slice (some ⟨g9,0,none⟩) (lk+1) c9))):=Lib.hid (by
       refine FI.congr (FI.push (x:=(x:Int)) HRD.out hlt ?_ (by rw[HVA.out];exact HO10.out.2.1) ?_) fun j _=>HNXF.out j
       ·rw[←HL.out,←HLK.out];exact HO10.out.1
       ·rw[HVA.out]
        rcases HO10.out.2.2 with h|h
        ·exact .inl h.symm
        ·exact .inr (by rw[h];rfl))
      have HGE:Hid (w5.grownBy (w10.setCell ⟨g,k,none⟩ (.slice (some ⟨g9,0,none⟩) (lk+1) c9)) (some g)):=Lib.hid (HRD.out.grown hlt HGD.out (Nat.le_refl _) (by rw[HVA.out];exact HO10.out.2.1) _)
      clear HMID
      go_wp2
      go_roundw
      case rel=>exact⟨p+1,_,by omega,by go_num,HEND2,HGE⟩
      case measure=>simp[intOf];omega
    ·obtain rfl:mk=p:=by omega
     have HNX:Hid (FI n g w5.heap.size Vs (rdF c.nodes (k+1) 0) wr):=Lib.hid (HR.out.congr fun j _=>HRN.out j)
     go_wp2
     go_roundw
     case rel=>exact⟨k+1,Vs,by omega,by go_num,HNX,HG5⟩
     case measure=>simp[intOf];omega
  ·obtain rfl:n=k:=by omega
   have hfin:NxR wr wr.heap.size g 0 n (rdL c.nodes):=(HR.out.congr (F':=rdL c.nodes) fun j hj=>by unfold rdF;rw[if_pos hj]).reads fun j hj=>by
    have h1:=rdP_len c.nodes j (fan (nodP c.nodes c.nodes.length) j).length
    rw[rdP_full]at h1
    have:=HPZ.out
    unfold maxLen
    omega
   have HFIN:=Lib.hid hfin
   have HTOP:=Lib.hid (own_frB HR.out.top)
   clear hfin
   go_wp2
   go_ret
   exact⟨g,rfl,HFIN.out,HEND.out wr HG5.out,_,HTOP.out⟩
theorem readers_any(c:Ck)(v:Value)(w:World)(hc:Cir w w.heap.size v c)(hsz:c.nodes.length≤1000000)(hpz:(nodP c.nodes c.nodes.length).length≤100000000):
 Calls Tryd.prog 29 #[v] w fun e w'=>∃g,e=.returned (.slice (some ⟨g,0,none⟩) c.nodes.length c.nodes.length)∧NxR w' w'.heap.size g 0 c.nodes.length (rdL c.nodes)∧BelW w w':=
 (readers_own c v w hc hsz hpz).mono fun e w' ⟨g,h1,h2,h3,_⟩=>⟨g,h1,h2,h3⟩
def Kx(B gx:Nat)(V V':World):Prop:=∀b,b<B→b≠gx→V'.heap[b]? =V.heap[b]?
theorem Kx.refl(B gx:Nat)(V:World):Kx B gx V V:=fun _ _ _=>rfl
theorem Kx.trans{B gx:Nat}{V V' V2:World}(h:Kx B gx V V')(k:Kx B gx V' V2):Kx B gx V V2:=fun b h1 h2=>(k b h1 h2).trans (h b h1 h2)
theorem Kx.cell{B gx:Nat}{V V':World}(h:Kx B gx V V'){p:Addr}(h1:p.block<B)(h2:p.block≠gx):V'.cell? p=V.cell? p:=World.cell?_of_block (h p.block h1 h2)
theorem Kx.putObj{B gx:Nat}{V:World}{l:Nat}(hl:B≤l)(o:Obj):Kx B gx V (V.putObj l o):=fun b h1 _=>World.putObj_heap_other (by omega)
theorem Kx.grown{B gx:Nat}{V V':World}{row:Option Nat}(h:V.grownBy V' row)(hB:B≤V.heap.size)(hr:row=none∨row=some gx):Kx B gx V V':=fun b h1 h2=>h.block b (by omega) (by rcases hr with rfl|rfl<;>simp[h2])
theorem Kx.of_below{B C gx:Nat}{V V':World}(h:Below C V V')(hB:B≤C):Kx B gx V V':=fun b h1 _=>h.block b (by omega)
section
variable {α:Type} {F:Fence} {n:Nat} {P:Program}
def SeqAll(F:Fence)(n:Nat)(P:Program)(gf:Nat)(lb:Array Value)(encs:α→Array Value)(B gx:Nat)(zs:List α)(w:World):Prop:=
 ∀(l:Nat) (J:Nat→World→Prop) (W:World),Below w.heap.size w W→
  (∀k x V,zs[k]? =some x→J k V→YieldAt F (n-1) P l (encs x) V fun e V'=>e=.returned (.bool true)∧J (k+1) V'∧Kx B gx V V')→
  J 0 W→CallsIn F n P gf (#[.func (.yield l) #[] #[]]++lb) W fun e V'=>(∃v,e=.returned v)∧J zs.length V'
theorem range_all{g:Operand}{ps:Array Tmp}{assign body:Code}{Q:Exit→Act→World→Prop}{a:Act}{w:World}{gf:Nat}{lb:Array Value}{encs:α→Array Value}{B gx:Nat}{zs:List α}
 (hro:F.round=none) (h1:1≤n) (hg:a.eval g=.func (.func gf) #[] lb) (hF:F.fn gf) (hen:∀args V,(callFunc gf args).run P V=.ok (.enter gf args) V)
 (hseq:SeqAll F (n-1) P gf lb encs B gx zs w) (hB:B≤w.heap.size) (hps:∀x,(encs x).size=ps.size)
 (I:Nat→World→Prop) (hI:OwnFrom w.heap.size I) (h0:I 0 w) (at1:α→Act)
 (hassign:∀l x V (K:Act→World→Prop),K (at1 x) V→assign.wpIn (F.inRound l) (n-1-1) P (Exit.then K (fun _ _ _=>False)) { tmps:=(ps.zip (encs x)).foldl (fun t (p,v)=>t.setIfInBounds p v) a.tmps,defers:=[] } V)
 (hbody:∀l k x V,w.heap.size≤l→zs[k]? =some x→I k V→body.wpIn (F.inRound l) (n-1-1) P (fun e _ V'=>e=.normal∧KeepsFrom w.heap.size V V'∧Kx B gx V V'∧I (k+1) V') (at1 x) V)
 (hdone:∀D V,w.heap.size≤D→I zs.length V→V.heap[D]? =some (.deferred (some []))→Q .normal { a with defers:= { target:=.collected D,args:=#[] } ::a.defers } V):
 (Code.rangeFunc g ps assign body).wpIn F n P Q a w:=by
 refine wpIn_rangeFunc fun fn hfn=>?_
 rw[hro]
 generalize hd:w.heap.size=d at*
 let r:LoopState→Loop:=fun s=> { state:=s,pending:=none,fn,tmps:=a.tmps,params:=ps,assign,body,defers:=d }
 let J:Nat→World→Prop:=fun k V=>I k V∧V.heap[d+1]? =some (.loop (r .ready))∧V.heap[d]? =some (.deferred (some []))
 obtain⟨V0,hV0⟩:∃V0,V0=(w.alloc (.deferred (some []))).alloc (.loop (r .ready)):=⟨_,rfl⟩
 have hJ0:J 0 V0:=by
  refine⟨by rw[hV0];exact hI.alloc _ (hI.alloc _ h0),?_,?_⟩
  ·have:=World.alloc_heap_new (w.alloc (.deferred (some []))) (.loop (r .ready))
   rw[World.size_alloc,hd]at this
   rw[hV0];exact this
  ·have e1:=World.alloc_heap_new w (.deferred (some []))
   rw[hd]at e1
   rw[hV0]
   exact (Below.heap_alloc (w.alloc (.deferred (some []))) (.loop (r .ready)) d (by rw[World.size_alloc,hd];exact Nat.lt_succ_self d)).trans e1
 have hb0:Below d w V0:=by
  rw[hV0]
  have:=((Below.refl w.heap.size w).alloc (Nat.le_refl _) (.deferred (some []))).alloc (by simp) (.loop (r .ready))
  rwa [hd]at this
 have hround:∀k x V,zs[k]? =some x→J k V→YieldAt F (n-1-1) P (d+1) (encs x) V fun e V'=>e=.returned (.bool true)∧J (k+1) V'∧Kx B gx V V':=by
  rintro k x V hx ⟨hi,hl,hk⟩
  have hlt:d+1<V.heap.size:=(Array.getElem?_eq_some_iff.1 hl).1
  refine⟨fn,_,assign,body,run_yield (P:=P) (args:=encs x) hl (hps x),roundIn_of_wpIn hfn (hassign _ x V _ ⟨_,run_beginRound hl rfl,?_⟩)⟩
  have hl2:(V.putObj (d+1) (.loop (r .busy))).heap[d+1]? =some (.loop (r .busy)):=World.putObj_heap_same hlt
  have hk2:(V.putObj (d+1) (.loop (r .busy))).heap[d]? =some (.deferred (some [])):=(World.putObj_heap_other (by omega)).trans hk
  have hb2:Kx B gx V (V.putObj (d+1) (.loop (r .busy))):=Kx.putObj (by omega) _
  refine wpIn_mono (hbody _ k x _ (by omega) hx (hI.putObj _ hi (by omega) hl rfl)) ?_
  rintro e a3 V3 ⟨rfl,hkf,hbb,hi3⟩
  have hl3:=hkf.same _ _ (by omega) hl2 rfl
  have hk3:=hkf.same _ _ (Nat.le_refl _) hk2 rfl
  refine⟨_,_,run_endRound (P:=P) none hl3,rfl,⟨hI.putObj _ hi3 (by omega) hl3 rfl,?_,?_⟩,?_⟩
  ·exact World.putObj_heap_same (Array.getElem?_eq_some_iff.1 hl3).1
  ·exact (World.putObj_heap_other (by omega)).trans hk3
  ·exact hb2.trans (hbb.trans (Kx.putObj (by omega) _))
 refine⟨d+1,[{ target:=.collected d,args:=#[] }],V0, { target:=.fn (.func gf) lb,args:=#[.func (.yield (d+1)) #[] #[]] },V0,gf,#[.func (.yield (d+1)) #[] #[]]++lb,V0,?_,?_,?_,?_,fun _=>h1,?_⟩
 ·have:=run_enterLoop_outer (P:=P) (w:=w) fn a.tmps ps assign body
  rw[hd]at this
  rw[hV0];exact this
 ·simp only[resolve,hg]
  simp[go_sem]
 ·intro f' hf'
  simp[Target.leads]at hf'
  subst hf';exact hF
 ·simp[invoke,go_sem,hen]
 ·refine (hseq (d+1) J V0 (by rw[hd];exact hb0) hround hJ0).mono ?_
  rintro e V2 ⟨⟨v,rfl⟩,hi,hl,hk⟩
  exact⟨none,_,run_endLoop (P:=P) hl (by simp[r]),hdone _ _ (Nat.le_refl _) (hI.putObj _ hi (by omega) hl rfl) ((World.putObj_heap_other (by omega)).trans hk)⟩
end
def Y2(CV:Value)(n B:Nat)(PT:List Bool)(RD:Nat→List Int)(i:Nat)(v:Value)(W:World):Prop:=
 (i=0→v=CV)∧(i=1→∃g,v=.slice (some ⟨g,0,none⟩) n n∧BRow W g PT)∧(i=2→v=CV)∧(i=3→∃g xs,v=.slice (some ⟨g,0,none⟩) n n∧NxR W W.heap.size g 0 n RD∧Fr W g 25 xs)∧(i=4→∃q,v=.pointer (some ⟨q,0,none⟩)∧B≤q∧Fr W q 41 [.slice none 0 0])∧(i=5→∃q,v=.pointer (some ⟨q,0,none⟩)∧B≤q∧Fr W q 58 [.slice none 0 0])
theorem Y2.next{CV:Value}{n B:Nat}{PT:List Bool}{RD:Nat→List Int}(i:Nat)(v:Value)(W W':World)(h:Y2 CV n B PT RD i v W)(hb:Below W.heap.size W W'):Y2 CV n B PT RD i v W':=by
 obtain⟨h0,h1,h2,h3,h4,h5⟩:=h
 refine⟨h0,fun e=>?_,h2,fun e=>?_,fun e=>?_,fun e=>?_⟩
 ·obtain⟨g,a,b⟩:=h1 e;exact⟨g,a,b.below hb⟩
 ·obtain⟨g,xs,a,b,c⟩:=h3 e;exact⟨g,xs,a,b.next hb,c.below hb⟩
 ·obtain⟨g,a,b,c⟩:=h4 e;exact⟨g,a,b,c.below hb⟩
 ·obtain⟨g,a,b,c⟩:=h5 e;exact⟨g,a,b,c.below hb⟩
theorem Y2.v0{CV v:Value}{n B:Nat}{PT:List Bool}{RD:Nat→List Int}{W:World}(h:v=CV):Y2 CV n B PT RD 0 v W:=⟨(fun _=>h),(by simp),(by simp),(by simp),(by simp),(by simp)⟩
theorem Y2.v1{CV v:Value}{n B:Nat}{PT:List Bool}{RD:Nat→List Int}{W:World}(h:∃g,v=.slice (some ⟨g,0,none⟩) n n∧BRow W g PT):Y2 CV n B PT RD 1 v W:=⟨(by simp),(fun _=>h),(by simp),(by simp),(by simp),(by simp)⟩
theorem Y2.v2{CV v:Value}{n B:Nat}{PT:List Bool}{RD:Nat→List Int}{W:World}(h:v=CV):Y2 CV n B PT RD 2 v W:=⟨(by simp),(by simp),(fun _=>h),(by simp),(by simp),(by simp)⟩
theorem Y2.v3{CV v:Value}{n B:Nat}{PT:List Bool}{RD:Nat→List Int}{W:World}(h:∃g xs,v=.slice (some ⟨g,0,none⟩) n n∧NxR W W.heap.size g 0 n RD∧Fr W g 25 xs):Y2 CV n B PT RD 3 v W:=⟨(by simp),(by simp),(by simp),(fun _=>h),(by simp),(by simp)⟩
theorem Y2.v4{CV v:Value}{n B:Nat}{PT:List Bool}{RD:Nat→List Int}{W:World}(h:∃q,v=.pointer (some ⟨q,0,none⟩)∧B≤q∧Fr W q 41 [.slice none 0 0]):Y2 CV n B PT RD 4 v W:=⟨(by simp),(by simp),(by simp),(by simp),(fun _=>h),(by simp)⟩
theorem Y2.v5{CV v:Value}{n B:Nat}{PT:List Bool}{RD:Nat→List Int}{W:World}(h:∃q,v=.pointer (some ⟨q,0,none⟩)∧B≤q∧Fr W q 58 [.slice none 0 0]):Y2 CV n B PT RD 5 v W:=⟨(by simp),(by simp),(by simp),(by simp),(by simp),(fun _=>h)⟩
theorem Fr.apart5{w:World}{g g':Nat}{t t':TypeId}{cs cs':List Value}(h:Fr w g t cs)(h':Fr w g' t' cs')(ht:t≠t'):g≠g':=fun e=>by
 subst e
 unfold Fr at h h'
 rw[h]at h'
 simp at h'
 exact ht h'.2
theorem Is.box{w w':World}{q:Nat}{t:TypeId}{A:Option Addr}{m c:Nat}{v:Value}{l:List Int}(h:Is w w.heap.size v l)(hf:Fr w q t [.slice A m c])(hg:w.grownBy w' (some q)):Is w' w'.heap.size v l:=by
 obtain⟨A,b,o,c,e,hA,h1,h2,hc⟩:=h
 refine⟨A,b,o,c,e,hA,h1,h2,fun k hk=>?_⟩
 obtain⟨hb,hx⟩:=hc k hk
 have hx':w.cell? ⟨b,o+k*1,none⟩=some (.int .i64 (l.getD k 0)):=hx
 have hne:b≠q:=fun e=>by
  subst e
  rw[hf.cell]at hx'
  rcases Nat.eq_zero_or_pos (o+k*1) with e0|e0
  ·rw[e0]at hx';cases hx'
  ·rw[List.getElem?_eq_none (by show 1≤_;omega)]at hx';cases hx'
 exact⟨Nat.lt_of_lt_of_le hb hg.size,hg.cell hx' fun e=>hne (by simpa using e)⟩
theorem NxR.box{w w':World}{q g n m c:Nat}{t:TypeId}{A:Option Addr}{xs:List Value}{nx:Nat→List Int}(h:NxR w w.heap.size g 0 n nx)(hx:Fr w g 25 xs)(hf:Fr w q t [.slice A m c])(ht:t≠25)(hg:w.grownBy w' (some q)):NxR w' w'.heap.size g 0 n nx:=by
 obtain⟨h1,h2⟩:=h
 have hne:g≠q:=(hf.apart5 hx ht).symm
 refine⟨Nat.lt_of_lt_of_le h1 hg.size,fun i hi=>?_⟩
 obtain⟨A1,c1,h3,h4⟩:=h2 i hi
 exact⟨A1,c1,hg.cell h3 (by simpa using hne),h4.box hf hg⟩
theorem grown_cell(W:World)(q:Nat)(v:Value):W.grownBy (W.setCell ⟨q,0,none⟩ v) (some q):=grownBy_setCell' W q v
theorem Fr.ne_t{w w':World}{g q:Nat}{t t':TypeId}{cs cs':List Value}(h:Fr w g t cs)(h':Fr w q t' cs')(ht:t≠t')(hg:w.grownBy w' (some q)):Fr w' g t cs:=(hg.block g h.lt (by simpa using h.apart5 h' ht)).trans h
theorem BRow.box{w w':World}{g q:Nat}{t:TypeId}{cs:List Value}{R:List Bool}(h:BRow w g R)(h':Fr w q t cs)(ht:4≠t)(hg:w.grownBy w' (some q)):BRow w' g R:=h.kept hg (by simpa using (own_frB h).apart5 h' ht)
structure Bx2(w0:World)(q6 q7 g1 g3 n:Nat)(PT:List Bool)(RD:Nat→List Int)(W:World):Prop where
 bel:Below w0.heap.size w0 W
 b6:Fr W q6 41 [.slice (some ⟨g1,0,none⟩) n n]
 b7:Fr W q7 58 [.slice (some ⟨g3,0,none⟩) n n]
 row:BRow W g1 PT
 nxt:NxR W W.heap.size g3 0 n RD
theorem Bx2.made{w0 w:World}{q6 q7 g1 g3 n:Nat}{PT:List Bool}{RD:Nat→List Int}{xs:List Value}(hb:Below w0.heap.size w0 w)(h6:Fr w q6 41 [.slice none 0 0])(h7:Fr w q7 58 [.slice none 0 0])(l6:w0.heap.size≤q6)(l7:w0.heap.size≤q7)(hr:BRow w g1 PT)(hn:NxR w w.heap.size g3 0 n RD)(hx:Fr w g3 25 xs):
 Bx2 w0 q6 q7 g1 g3 n PT RD ((w.setCell ⟨q6,0,none⟩ (.slice (some ⟨g1,0,none⟩) n n)).setCell ⟨q7,0,none⟩ (.slice (some ⟨g3,0,none⟩) n n)):=by
 have k1:=grown_cell w q6 (.slice (some ⟨g1,0,none⟩) n n)
 have k2:=grown_cell (w.setCell ⟨q6,0,none⟩ (.slice (some ⟨g1,0,none⟩) n n)) q7 (.slice (some ⟨g3,0,none⟩) n n)
 have t1:(41:TypeId)≠58:=by decide
 have t2:(41:TypeId)≠25:=by decide
 have t3:(58:TypeId)≠25:=by decide
 have t4:(4:TypeId)≠41:=by decide
 have t5:(4:TypeId)≠58:=by decide
 have f6:=h6.set 0 (.slice (some ⟨g1,0,none⟩) n n)
 have f7:=h7.ne_t h6 (Ne.symm t1) k1
 refine⟨(hb.setCell (p:=⟨q6,0,none⟩) l6 _).setCell (p:=⟨q7,0,none⟩) l7 _,f6.ne_t f7 t1 k2,f7.set 0 _,(hr.box h6 t4 k1).box f7 t5 k2,?_⟩
 exact (hn.box hx h6 t2 k1).box (hx.ne_t h6 (Ne.symm t2) k1) f7 t3 k2
theorem Bx2.next{w0 W W':World}{q6 q7 g1 g3 n:Nat}{PT:List Bool}{RD:Nat→List Int}(h:Bx2 w0 q6 q7 g1 g3 n PT RD W)(hb:BelW W W'):Bx2 w0 q6 q7 g1 g3 n PT RD W':=
 ⟨h.bel.trans (hb.mono (Below.size h.bel)),h.b6.below hb,h.b7.below hb,h.row.below hb,h.nxt.next hb⟩
def Turn(B:Nat)(W W':World)(row:Option Nat):Prop:=W.grownBy W' row∧∀r,row=some r→B≤r∧∃o:Obj,W.heap[r]? =some o∧o.isCells=false
theorem Turn.cell{B:Nat}{W W':World}{row:Option Nat}(h:Turn B W W' row){p:Addr}{v:Value}(hc:W.cell? p=some v):W'.cell? p=some v:=cell_kept hc h.1 fun r e=>(h.2 r e).2
theorem Fr.turn{B g:Nat}{W W':World}{row:Option Nat}{t:TypeId}{cs:List Value}(h:Fr W g t cs)(hT:Turn B W W' row):Fr W' g t cs:=h.kept hT.1 fun e=>by
 obtain⟨-,o,ho,hc⟩:=hT.2 g e.symm
 unfold Fr at h
 rw[h]at ho
 cases ho
 cases hc
theorem Row.turn{B g:Nat}{W W':World}{row:Option Nat}{l:List Int}(h:Row W g l)(hT:Turn B W W' row):Row W' g l:=h.kept hT.1 fun e=>by
 obtain⟨-,o,ho,hc⟩:=hT.2 g e.symm
 have h2:=own_frB h
 unfold Fr at h2
 rw[h2]at ho
 cases ho
 cases hc
theorem BRow.turn{B g:Nat}{W W':World}{row:Option Nat}{l:List Bool}(h:BRow W g l)(hT:Turn B W W' row):BRow W' g l:=h.kept hT.1 fun e=>by
 obtain⟨-,o,ho,hc⟩:=hT.2 g e.symm
 have h2:=own_frB h
 unfold Fr at h2
 rw[h2]at ho
 cases ho
 cases hc
theorem NxR.turn{B C bn on n:Nat}{W W':World}{row:Option Nat}{nx:Nat→List Int}(h:NxR W C bn on n nx)(hT:Turn B W W' row):NxR W' C bn on n nx:=by
 refine⟨h.1,fun i hi=>?_⟩
 obtain⟨A,c,h3,h4⟩:=h.2 i hi
 refine⟨A,c,hT.cell h3,?_⟩
 obtain⟨A,b,o,c,e,hA,h1,h2,hc⟩:=h4
 exact⟨A,b,o,c,e,hA,h1,h2,fun k hk=>⟨(hc k hk).1,hT.cell (hc k hk).2⟩⟩
theorem Turn.bel{B:Nat}{w0 W W':World}{row:Option Nat}(hT:Turn B W W' row)(hB:w0.heap.size≤B)(h:Below w0.heap.size w0 W):Below w0.heap.size w0 W':=h.grown hT.1 h.size fun k e=>Nat.le_trans hB (hT.2 k e).1
theorem NxR.setRow{C bn on n j:Nat}{W:World}{nx:Nat→List Int}{v:Value}(h:NxR W C bn on n nx):NxR (W.setCell ⟨C,j,none⟩ v) C bn on n nx:=by
 refine⟨h.1,fun i hi=>?_⟩
 obtain⟨A,c,h3,h4⟩:=h.2 i hi
 have h1:=h.1
 refine⟨A,c,(World.cell?_setCell_other _ _ _ _ (by simp<;>omega)).trans h3,?_⟩
 obtain⟨A,b,o,c,e,hA,h1,h2,hc⟩:=h4
 refine⟨A,b,o,c,e,hA,h1,h2,fun k hk=>⟨(hc k hk).1,?_⟩⟩
 have:=(hc k hk).1
 exact (World.cell?_setCell_other _ _ _ _ (by simp<;>omega)).trans (hc k hk).2
theorem heap_setCell_ne(W:World)(a:Addr)(v:Value){b:Nat}(h:b≠a.block):(W.setCell a v).heap[b]? =W.heap[b]? :=by
 simp[World.setCell,Array.getElem?_modify,Ne.symm h]
theorem BRow.other{w:World}{g:Nat}{l:List Bool}(h:BRow w g l){a:Addr}(ha:a.block≠g)(v:Value):BRow (w.setCell a v) g l:=by
 refine h.kept (row:=some a.block) ?_ (by simpa using fun e=>ha e.symm)
 exact⟨rfl,rfl,rfl,by rw[World.size_setCell];exact Nat.le_refl _,fun k _ hk=>by
  have:k≠a.block:=fun e=>hk (by rw[e])
  simp[World.setCell,this,Array.getElem?_modify,Ne.symm this]⟩
structure Rst(w0:World)(q6 q7 q8 g1 g3 gS n:Nat)(PT:List Bool)(RD:Nat→List Int)(St:List Int)(W:World):Prop where
 bel:Below w0.heap.size w0 W
 b6:Fr W q6 41 [.slice (some ⟨g1,0,none⟩) n n]
 b7:Fr W q7 58 [.slice (some ⟨g3,0,none⟩) n n]
 b8:Fr W q8 25 [.slice (some ⟨gS,0,none⟩) n n]
 row:BRow W g1 PT
 nxt:NxR W gS g3 0 n RD
 st:Row W gS St
 lo:w0.heap.size≤gS
section
variable {w0 W W':World} {q6 q7 q8 g1 g3 gS n:Nat} {PT:List Bool} {RD:Nat→List Int} {St:List Int}
theorem Rst.turn{B:Nat}{row:Option Nat}(h:Rst w0 q6 q7 q8 g1 g3 gS n PT RD St W)(hB:w0.heap.size≤B)(hT:Turn B W W' row):Rst w0 q6 q7 q8 g1 g3 gS n PT RD St W':=
 ⟨hT.bel hB h.bel,h.b6.turn hT,h.b7.turn hT,h.b8.turn hT,h.row.turn hT,h.nxt.turn hT,h.st.turn hT,h.lo⟩
theorem Rst.ne(h:Rst w0 q6 q7 q8 g1 g3 gS n PT RD St W):gS≠q6∧gS≠q7∧gS≠q8∧gS≠g1:=by
 have h2:=own_frB h.st
 exact⟨h2.apart5 h.b6 (by decide),h2.apart5 h.b7 (by decide),h2.apart5 h.b8 (by decide),h2.apart5 (own_frB h.row) (by decide)⟩
theorem Rst.set(h:Rst w0 q6 q7 q8 g1 g3 gS n PT RD St W)(i:Nat)(x:Int):Rst w0 q6 q7 q8 g1 g3 gS n PT RD (St.set i x) (W.setCell ⟨gS,i,none⟩ (.int .i64 x)):=by
 obtain⟨n6,n7,n8,n1⟩:=h.ne
 exact⟨h.bel.setCell (p:=⟨gS,i,none⟩) h.lo _,h.b6.other n6 _,h.b7.other n7 _,h.b8.other n8 _,h.row.other n1 _,h.nxt.setRow,h.st.set i x,h.lo⟩
end
theorem insert_nil(n d q:Nat)(w:World):
 Calls Tryd.prog 87 #[.slice (some ⟨d,0,none⟩) n n,.int .i64 20,.int .i64 20,.func (.func 42) #[] #[.pointer (some ⟨q,0,none⟩)]] w fun e w'=>e=.returned (.tuple #[])∧w'=w:=by
 go_enter Tryd.func87,Tryd.ntmps87
 go_wp2
 refine wp_loop_rounds 1 ?_
 simp only[Code.rounds]
 go_wp2
 go_end0
 exact⟨rfl,rfl⟩
set_option maxHeartbeats 1000000 in
theorem stable_20(L:List Int)(n d g q B:Nat)(w:World)(hd:B≤d)(hg:d≠g)(hq:d≠q)(hL:L.length=n)(hn:n≤20)(hw:SW w B d g q n L (rng 0 n) w):
 Calls Tryd.prog 62 #[.slice (some ⟨d,0,none⟩) n n,.int .i64 n,.func (.func 42) #[] #[.pointer (some ⟨q,0,none⟩)]] w (SortPost L w B d g q n):=by
 rcases Nat.lt_or_ge n 20 with h|h
 ·exact stable_any L n d g q B w hd hg hq hL h hw
 obtain rfl:n=20:=by omega
 have hi:=insert_any L 20 d g q B w hd hg hq hL (by omega) hw
 rw[show ((20:Nat):Int)=20 from rfl]at hi ⊢
 have HI:=Lib.hid hi
 clear hi
 clear hw hL
 go_enter Tryd.func62,Tryd.ntmps62
 go_wp2
 refine wp_loop_rounds 2 ?_
 simp only[Code.rounds]
 go_wp2_with (go_at_call 87;first
  |((with_reducible refine HI.out.mono ?_);rintro e w' ⟨rfl,R,h1,h2⟩;have HR:=Lib.hid h1;have HS:=Lib.hid h2;clear h1 h2)
  |((with_reducible refine (insert_nil _ _ _ _).mono ?_);rintro e w2 ⟨rfl,hw2⟩;have HW2:=Lib.hid hw2;clear hw2))
 refine wp_loop_rounds 1 ?_
 simp only[Code.rounds]
 go_wp2
 go_end0
 have:=HW2.out
 subst this
 exact⟨rfl,R,HR.out,HS.out⟩
set_option maxHeartbeats 400000 in
theorem sort_20(L:List Int)(n d g q B:Nat)(w:World)(hd:B≤d)(hg:d≠g)(hq:d≠q)(hL:L.length=n)(hn:n≤20)(hw:SW w B d g q n L (rng 0 n) w):
 Calls Tryd.prog 41 #[.slice (some ⟨d,0,none⟩) n n,.func (.func 42) #[] #[.pointer (some ⟨q,0,none⟩)]] w (SortPost L w B d g q n):=by
 have HI:=Lib.hid (stable_20 L n d g q B w hd hg hq hL hn hw)
 clear hw hL
 go_enter Tryd.func41,Tryd.ntmps41
 go_wp2_with (go_at_call 62;(with_reducible refine HI.out.mono ?_);rintro e w' ⟨rfl,R,h1,h2⟩;have HR:=Lib.hid h1;have HS:=Lib.hid h2;clear h1 h2)
 go_end0
 exact⟨rfl,R,HR.out,HS.out⟩
set_option maxRecDepth 100000 in
set_option maxHeartbeats 4000000 in
theorem order_20(c:Ck)(v:Value)(w:World)(B:Nat)(hB:B≤w.heap.size)(hT:Tabs w)(hc:Cir w B v c)(hn20:c.nodes.length≤20):
 Calls Tryd.prog 20 #[v] w (OrdPost c w):=by
 have hb0:=hc
 obtain⟨v0,v1,v2,v3,rfl,hns,hss,hms,hos⟩:=hc
 obtain⟨A0,b0,o0,c0,rfl,-⟩:=id hns
 obtain⟨A1,b1,o1,c1,rfl,-⟩:=id hss
 obtain⟨A2,b2,o2,c2,rfl,-⟩:=id hms
 obtain⟨A3,b3,o3,c3,rfl,-⟩:=id hos
 have hbW:Below w.heap.size w (w.alloc (.cells #[.slice A0 c.nodes.length c0,.slice A1 c.names.length c1,.slice A2 c.mems.length c2,.slice A3 c.outs.length c3] 27)):=(Below.refl _ _).alloc (Nat.le_refl _) _
 have hL:=levels_any c _ _ B (Nat.le_trans hB hbW.size) (hT.below hbW) (hb0.below (hbW.mono hB))
 clear hns hss hms hos hb0 hT
 by_cases hck:chkErr c=0
 ·have hL2:=hL.mono (R':=fun e w'=>∃L g,e=.returned (.tuple #[.slice (some ⟨g,0,none⟩) c.nodes.length c.nodes.length,.int .i64 0])∧Below (w.alloc (.cells #[.slice A0 c.nodes.length c0,.slice A1 c.names.length c1,.slice A2 c.mems.length c2,.slice A3 c.outs.length c3] 27)).heap.size (w.alloc (.cells #[.slice A0 c.nodes.length c0,.slice A1 c.names.length c1,.slice A2 c.mems.length c2,.slice A3 c.outs.length c3] 27)) w'∧w.heap.size≤g∧Row w' g L∧shapeErr c=0∧Lvl c.nodes L∧(∀i:Nat,i<c.nodes.length→lat L i<(c.nodes.length:Int))) fun e w' ⟨h1,h2⟩=>by
   rcases h2 with⟨-,h0,L,g,hl,hbd,hg,he,hr⟩| ⟨hne,-⟩
   ·exact⟨L,g,he,h1,Nat.le_trans hbW.size hg,hr,h0,hl,hbd⟩
   ·exact absurd hck hne
  have HCK:=Lib.hid hck
  clear hL hck
  generalize c.names.length=n1 at hL2 hbW ⊢
  generalize c.mems.length=n2 at hL2 hbW ⊢
  generalize c.outs.length=n3 at hL2 hbW ⊢
  obtain⟨n,HN⟩:=named c.nodes.length
  rw[←HN.out]at hL2 hbW hn20
  rw[←HN.out]
  have HL:=Lib.hid hL2
  have HBW:=Lib.hid hbW
  clear hL2 hbW
  obtain⟨i0,hi,hz0,hz1,hz2⟩:=info_parts info_int
  have HI:=Lib.hid (And.intro hi (And.intro hz0 (And.intro hz1 hz2)))
  clear hi hz0 hz1 hz2
  go_enter Tryd.func20,Tryd.ntmps20
  go_wp2_with (first
   |(go_at_call 40;(with_reducible refine HL.out.mono ?_);rintro e w1 ⟨L,g,rfl,hb,hwg,hr,hsh,hl,hbd⟩;have HB1:=Lib.hid hb;have HR:=Lib.hid hr;have HSH:=Lib.hid hsh;have HLV:=Lib.hid hl;have HBD:=Lib.hid hbd;clear hb hr hsh hl hbd)
   |(at_make;refine wpList_make_full _ rfl _ _ 25 rfl w.heap.size 3 i0 (.int .i64 0) 1 Tryd.underlying25 HI.out.1 HI.out.2.1 HI.out.2.2.1 .i64 .i64 _ _ n rfl rfl rfl rfl ?b2 ?b3 ?b4 ?_))
  case b2=>rw[HI.out.2.2.2];omega
  case b3=>unfold maxLen;omega
  case b4=>have:=(joinB HBW.out HB1.out).size;simp;omega
  intro w2 hown hgr
  rw[fillL_start (fun j=>.int .i64 (j:Int))]at hown
  obtain⟨w1v,HW1⟩:=named (w1.alloc (.cells #[.slice (some ⟨g,0,none⟩) n n] 25))
  have hz1:w1v.heap.size=w1.heap.size+1:=by rw[HW1.out];simp
  rw[←HW1.out]at hgr
  have hb1v:Below w.heap.size w w1v:=by rw[HW1.out];exact below_new (joinB HBW.out HB1.out) _
  have hrv:Row w1v g L:=by rw[HW1.out];exact HR.out.below ((Below.refl _ _).alloc (Nat.le_refl _) _)
  have hcv:w1v.cell? ⟨w1.heap.size,0,none⟩=some (.slice (some ⟨g,0,none⟩) n n):=by rw[HW1.out,World.cell?_alloc_at _ _ _ _ rfl];rfl
  have hb2:Below w.heap.size w w2:=hb1v.grown hgr hb1v.size (fun k h=>by cases h)
  have hr2:Row w2 g L:=hrv.kept hgr (by simp)
  have hc2:w2.cell? ⟨w1.heap.size,0,none⟩=some (.slice (some ⟨g,0,none⟩) n n):=hgr.cell hcv (by simp)
  have hgl:g<w1.heap.size:=HR.out.lt
  have hbz:w.heap.size≤w1.heap.size:=(joinB HBW.out HB1.out).size
  have hsz2:w1.heap.size+1<w2.heap.size:=(World.ownsRow.lt hown _ rfl).2
  have HO:=Lib.hid hown
  have HB2:=Lib.hid hb2
  have HR2:=Lib.hid hr2
  have HC2:=Lib.hid hc2
  obtain⟨d,HD⟩:=named (w1.heap.size+1)
  rw[←HD.out]
  rw[←HD.out]at HO
  obtain⟨q,HQ⟩:=named w1.heap.size
  rw[←HQ.out]at HC2
  rw[←HQ.out]
  have hdg:d≠g:=by rw[HD.out];omega
  have hdq:d≠q:=by rw[HD.out,HQ.out];omega
  have hdw:w.heap.size≤d:=by rw[HD.out];omega
  have hqc:w2.cell? ⟨q,0,none⟩=some (.slice (some ⟨g,0,none⟩) n n):=HC2.out
  have hdz:d<w2.heap.size:=by rw[HD.out];omega
  clear hown hgr hb2 hr2 hc2 hcv hrv hb1v hz1 hgl hbz hsz2 hwg
  go_wp2
  go_loopw [21] (fun i wr=>∃k:Nat,k≤n∧i=.int .i64 k∧Below w.heap.size w wr∧wr.heap.size=w2.heap.size∧Row wr g L∧wr.cell? ⟨q,0,none⟩=some (.slice (some ⟨g,0,none⟩) n n)∧
   wr.ownsRow w.heap.size 3 1 (.slice (some ⟨d,0,none⟩) n n) n (fillL (fun j=>.int .i64 (j:Int)) (.int .i64 0) n k)) (fun i _=>n-(intOf i).toNat)
  case atStart=>exact⟨0,Nat.zero_le _,rfl,HB2.out,rfl,HR2.out,HC2.out,HO.out⟩
  case round=>
   clear HO HB2 HR2 HC2 hqc
   obtain⟨k,hk,rfl,hb,hsz,hr,hqc,hown⟩:=hrel
   have HBL:=Lib.hid hb
   have HO:=Lib.hid hown
   have HR2:=Lib.hid hr
   have HSZ:=Lib.hid hsz
   clear hb hown hr hsz
   by_cases hlt:k<n
   ·have hfz:wr.frozen? ⟨d,k,none⟩=false:=HO.out.frozenAt k
    have hcl:wr.cell? ⟨d,k,none⟩=some (.int .i64 0):=by
     rw[HO.out.cellAt k (by omega),fillL_get _ _ _ _ _ hlt,if_neg (by omega)]
    have HS:=Lib.hid (HO.out.stored k (.int .i64 (k:Int))).1
    have HQC:=Lib.hid hqc
    clear hqc
    go_wp2
    go_roundw
    case rel=>
     refine⟨k+1,by omega,by go_num,HBL.out.setCell hdw _,by rw[World.size_setCell];exact HSZ.out,HR2.out.otherS hdg _,?_,?_⟩
     ·rw[World.cell?_setCell_other _ _ _ _ (by simp[hdq])];exact HQC.out
     ·rw[←fillL_set (fun j=>.int .i64 (j:Int)) (.int .i64 0) n k];exact HS.out
    case measure=>simp[intOf];omega
   ·obtain rfl:n=k:=by omega
    have hrow:Row wr d (rng 0 n):=by
     have:=HO.out
     rw[fillL_rng]at this
     unfold Row
     rw[rng_len,Nat.sub_zero]
     refine⟨this.1,?_⟩
     rcases this.2 with⟨e,-⟩| ⟨g',cap,cur,e,hb',hg',hle,hmx,hs',ht'⟩
     ·cases e
     ·simp only[Value.slice.injEq,Option.some.injEq,Addr.mk.injEq]at e
      obtain⟨⟨rfl,-⟩,-,rfl⟩:=e
      exact .inr ⟨d,n,cur,rfl,Nat.le_refl _,hg',hle,hmx,hs',ht'⟩
    have hsort:=sort_20 L n d g q w.heap.size wr hdw hdg hdq (by rw[HLV.out.1,HN.out]) hn20 ⟨Below.refl _ _,rfl,hrow,HR2.out,hqc⟩
    have HSRT:=Lib.hid hsort
    clear hsort hrow hqc
    go_wp2_with (go_at_call 41;(with_reducible refine HSRT.out.mono ?_);rintro e w4 ⟨rfl,R,h1,h2⟩;have HRR:=Lib.hid h1;have HSS:=Lib.hid h2;clear h1 h2)
    go_ret2
    unfold OrdPost
    rw[←HN.out]
    exact⟨HBL.out.trans HSS.out.bel,.inl ⟨HCK.out,HSH.out,L,R,d,HLV.out,HBD.out,HRR.out,hdw,rfl,HSS.out.row⟩⟩
 ·have hL2:=hL.mono (R':=fun e w'=>e=.returned (.tuple #[.slice none 0 0,.int .i64 (chkErr c)])∧Below (w.alloc (.cells #[.slice A0 c.nodes.length c0,.slice A1 c.names.length c1,.slice A2 c.mems.length c2,.slice A3 c.outs.length c3] 27)).heap.size (w.alloc (.cells #[.slice A0 c.nodes.length c0,.slice A1 c.names.length c1,.slice A2 c.mems.length c2,.slice A3 c.outs.length c3] 27)) w') fun e w' ⟨h1,h2⟩=>by
   rcases h2 with⟨h0,-⟩| ⟨-,he⟩
   ·exact absurd h0 hck
   ·exact⟨he,h1⟩
  obtain⟨z,HZ⟩:=named (chkErr c)
  rw[←HZ.out]at hL2 hck
  have hz:(z==0)=false:=by simpa using hck
  have HCK:=Lib.hid hck
  clear hL hck
  generalize c.names.length=n1 at hL2 hbW ⊢
  generalize c.mems.length=n2 at hL2 hbW ⊢
  generalize c.outs.length=n3 at hL2 hbW ⊢
  obtain⟨n,HN⟩:=named c.nodes.length
  rw[←HN.out]at hL2 hbW
  rw[←HN.out]
  have HL:=Lib.hid hL2
  have HBW:=Lib.hid hbW
  clear hL2 hbW
  go_enter Tryd.func20,Tryd.ntmps20
  go_wp2_with (go_at_call 40;(with_reducible refine HL.out.mono ?_);rintro e w1 ⟨rfl,hb⟩;have HB1:=Lib.hid hb;clear hb)
  go_ret2
  exact⟨below_new (joinB HBW.out HB1.out) _,.inr ⟨by rw[←HZ.out];exact HCK.out,by rw[←HZ.out];rfl⟩⟩
section
variable (n:Nat) (nx:Int→List Int) (P:Int→Prop)
inductive Sn (nt:Int):Int→Prop
 |pt {x:Int} (h:x≠nt) (hp:P x):Sn nt x
 |go {x y:Int} (h:x≠nt) (hy:y∈nx x) (hs:Sn nt y):Sn nt x
def Nod(x:Int):Prop:=0≤x∧x<(n:Int)
inductive InC (N:Int→Int) (d:Int):Int→Prop
 |here (h:Nod n d):InC N d d
 |next {x:Int} (h:Nod n x) (hc:InC N d (N x)):InC N d x
end
section
variable {n:Nat} {nx:Int→List Int} {P:Int→Prop} {N N':Int→Int} {pl:Int→Int} {nt d x i b:Int}
theorem Sn.ne(h:Sn nx P nt x):x≠nt:=by cases h<;>assumption
theorem Sn.free(h:Sn nx P nt x)(hn:∀x,Nod n x→Inr n (nx x))(hx:Nod n x):Sn nx P (-1) x:=by
 induction h with
 |pt _ hp=>exact .pt (by have:=hx.1;omega) hp
 |go _ hy _ ih=>exact .go (by have:=hx.1;omega) hy (ih (hn _ hx _ hy))
theorem Sn.iff(hx:x≠nt)(hp:¬P x):Sn nx P nt x↔∃y∈nx x,Sn nx P nt y:=by
 constructor
 ·intro h
  cases h with
  |pt _ h=>exact absurd h hp
  |go _ hy hs=>exact⟨_,hy,hs⟩
 ·rintro⟨y,hy,hs⟩
  exact .go hx hy hs
theorem InC.nod(h:InC n N d x):Nod n x:=by cases h<;>assumption
theorem InC.iff(hx:Nod n x):InC n N d x↔d=x∨InC n N d (N x):=by
 constructor
 ·intro h
  cases h with
  |here=>exact .inl rfl
  |next _ hc=>exact .inr hc
 ·rintro (rfl|h)
  ·exact .here hx
  ·exact .next hx h
theorem InC.exit:¬InC n N d (n:Int):=fun h=>by have:=h.nod.2;omega
structure Near(n:Nat)(nx:Int→List Int)(P:Int→Prop)(N pl:Int→Int)(x:Int):Prop where
 dead:N x= -1↔¬Sn nx P (-1) x
 ex:N x≠ -1→N x=(n:Int)∨(Nod n (N x)∧Sn nx P (-1) (N x)∧pl x<pl (N x))
 ch:Sn nx P (-1) x→∀d,Nod n d→(InC n N d x↔¬Sn nx P d x)
def Gp(n:Nat)(nx:Int→List Int)(P:Int→Prop)(N pl:Int→Int)(b:Int)(x:Int):Prop:=x=(n:Int)∨(Nod n x∧Sn nx P (-1) x∧b<pl x∧Near n nx P N pl x)
theorem InC.up(hN:∀y,Nod n y→b≤pl y→Sn nx P (-1) y→Near n nx P N pl y)(hb:b≤pl x)(hs:Sn nx P (-1) x)(h:InC n N d x):pl x≤pl d:=by
 induction h with
 |here=>exact Int.le_refl _
 | @next x h hc ih=>
   have hr:=hN x h hb hs
   by_cases h1:N x= -1
   ·exact absurd hs (hr.dead.1 h1)
   ·rcases hr.ex h1 with e| ⟨h2,h3,h4⟩
    ·rw[e]at hc;exact absurd hc InC.exit
    ·have:=ih (by omega) h3
     omega
theorem InC.congr(hN:∀y,Nod n y→b<pl y→Sn nx P (-1) y→Near n nx P N pl y)(he:∀y,Nod n y→b<pl y→N' y=N y)(hb:b<pl x)(hs:Sn nx P (-1) x)(h:InC n N d x):InC n N' d x:=by
 induction h with
 |here h=>exact .here h
 | @next x h hc ih=>
   have hr:=hN x h hb hs
   refine .next h ?_
   rw[he x h hb]
   by_cases h1:N x= -1
   ·exact absurd hs (hr.dead.1 h1)
   ·rcases hr.ex h1 with e| ⟨h2,h3,h4⟩
    ·rw[e]at hc;exact absurd hc InC.exit
    ·exact ih (by omega) h3
theorem InC.congr'(hN:∀y,Nod n y→b<pl y→Sn nx P (-1) y→Near n nx P N pl y)(he:∀y,Nod n y→b<pl y→N' y=N y)(hb:b<pl x)(hs:Sn nx P (-1) x)(h:InC n N' d x):InC n N d x:=by
 induction h with
 |here h=>exact .here h
 | @next x h hc ih=>
   have hr:=hN x h hb hs
   refine .next h ?_
   rw[he x h hb]at hc ih
   by_cases h1:N x= -1
   ·exact absurd hs (hr.dead.1 h1)
   ·rcases hr.ex h1 with e| ⟨h2,h3,h4⟩
    ·rw[e]at hc;exact absurd hc InC.exit
    ·exact ih (by omega) h3
theorem Near.congr(hN:∀y,Nod n y→b<pl y→Near n nx P N pl y)(he:∀y,Nod n y→b<pl y→N' y=N y)(hx:Nod n x)(hb:b<pl x):Near n nx P N' pl x:=by
 have hr:=hN x hx hb
 refine⟨by rw[he x hx hb];exact hr.dead,by rw[he x hx hb];exact hr.ex,fun hs d hd=>?_⟩
 rw[←hr.ch hs d hd]
 exact⟨InC.congr' (fun y h1 h2 _=>hN y h1 h2) he hb hs,InC.congr (fun y h1 h2 _=>hN y h1 h2) he hb hs⟩
structure Mt(n:Nat)(nx:Int→List Int)(P:Int→Prop)(N pl:Int→Int)(b:Int)(m:Int)(l:List Int):Prop where
 none:m= -1→∀s∈l,¬Sn nx P (-1) s
 some:m≠ -1→Gp n nx P N pl b m∧(∃s∈l,Sn nx P (-1) s)∧∀d,Nod n d→(InC n N d m↔∀s∈l,¬Sn nx P d s)
theorem Mt.start(b:Int):Mt n nx P N pl b (-1) []:=⟨fun _ s hs=>(by cases hs),fun h=>absurd rfl h⟩
theorem mem_app1{l:List Int}{s:Int}{Q:Int→Prop} :(∀x∈l++[s],Q x)↔(∀x∈l,Q x)∧Q s:=by
 constructor
 ·intro h
  exact⟨fun x hx=>h x (List.mem_append_left _ hx),h s (by simp)⟩
 ·rintro⟨h1,h2⟩ x hx
  rcases List.mem_append.1 hx with hx|hx
  ·exact h1 x hx
  ·obtain rfl:x=s:=by simpa using hx
   exact h2
theorem Mt.dead{b m s:Int}{l:List Int}(h:Mt n nx P N pl b m l)(hn:∀x,Nod n x→Inr n (nx x))(hs:Nod n s)(hd:¬Sn nx P (-1) s):Mt n nx P N pl b m (l++[s]):=by
 refine⟨fun e=>mem_app1.2 ⟨h.none e,hd⟩,fun e=>?_⟩
 obtain⟨h1,⟨t,h2,h3⟩,h4⟩:=h.some e
 refine⟨h1,⟨t,List.mem_append_left _ h2,h3⟩,fun d hd'=>?_⟩
 rw[h4 d hd',mem_app1]
 exact⟨fun g=>⟨g,fun g2=>hd (g2.free hn hs)⟩,fun g=>g.1⟩
theorem Mt.first{b s:Int}{l:List Int}(h:Mt n nx P N pl b (-1) l)(hn:∀x,Nod n x→Inr n (nx x))(hl:Inr n l)(hs:Nod n s)(hd:Sn nx P (-1) s)(hb:b<pl s)(hr:Near n nx P N pl s):Mt n nx P N pl b s (l++[s]):=by
 refine⟨fun e=>by have:=hs.1;omega,fun _=>⟨.inr ⟨hs,hd,hb,hr⟩,⟨s,by simp,hd⟩,fun d hd'=>?_⟩⟩
 rw[hr.ch hd d hd',mem_app1]
 exact⟨fun g=>⟨fun x hx g2=>h.none rfl x hx (g2.free hn (hl x hx)),g⟩,fun g=>g.2⟩
structure Two(n:Nat)(nx:Int→List Int)(P:Int→Prop)(N pl:Int→Int)(b m s m' s':Int):Prop where
 gm:Gp n nx P N pl b m'
 gs:Gp n nx P N pl b s'
 eq:∀d,Nod n d→((InC n N d m'∧InC n N d s')↔(InC n N d m∧InC n N d s))
theorem Two.start{b m s:Int}(h1:Gp n nx P N pl b m)(h2:Gp n nx P N pl b s):Two n nx P N pl b m s m s:=⟨h1,h2,fun _ _=>Iff.rfl⟩
theorem Gp.next{b x:Int}(hN:∀y,Nod n y→b<pl y→Near n nx P N pl y)(h:Nod n x)(hg:Gp n nx P N pl b x):Gp n nx P N pl b (N x):=by
 rcases hg with e| ⟨-,h2,h3,h4⟩
 ·rw[e]at h;have:=h.2;omega
 ·by_cases h1:N x= -1
  ·exact absurd h2 (h4.dead.1 h1)
  ·rcases h4.ex h1 with e| ⟨a,b1,c⟩
   ·exact .inl e
   ·exact .inr ⟨a,b1,by omega,hN _ a (by omega)⟩
theorem Two.swap{b m s m' s':Int}(h:Two n nx P N pl b m s m' s'):Two n nx P N pl b s m s' m':=⟨h.gs,h.gm,fun d hd=>⟨fun g=>((h.eq d hd).1 g.symm).symm,fun g=>((h.eq d hd).2 g.symm).symm⟩⟩
theorem Two.left{b m s m' s':Int}(h:Two n nx P N pl b m s m' s')(hN:∀y,Nod n y→b<pl y→Near n nx P N pl y)(hp:pl (n:Int)=n)(hpl:∀y,Nod n y→pl y<(n:Int))(hlt:pl m'<pl s'):Two n nx P N pl b m s (N m') s'∧Nod n m':=by
 have hm:Nod n m':=by
  rcases h.gm with e|e
  ·rw[e,hp]at hlt
   rcases h.gs with e2|e2
   ·rw[e2,hp]at hlt;omega
   ·have:=hpl _ e2.1;omega
  ·exact e.1
 refine⟨⟨Gp.next hN hm h.gm,h.gs,fun d hd=>?_⟩,hm⟩
 rw[←h.eq d hd]
 constructor
 ·rintro⟨g1,g2⟩
  exact⟨.next hm g1,g2⟩
 ·rintro⟨g1,g2⟩
  refine⟨?_,g2⟩
  rcases (InC.iff hm).1 g1 with rfl|g
  ·rcases h.gs with e| ⟨a,b1,c,-⟩
   ·rw[e]at g2;exact absurd g2 InC.exit
   ·have:=InC.up (b:=pl s') (fun y h1 h2 _=>hN y h1 (by omega)) (Int.le_refl _) b1 g2
    omega
  ·exact g
theorem Two.right{b m s m' s':Int}(h:Two n nx P N pl b m s m' s')(hN:∀y,Nod n y→b<pl y→Near n nx P N pl y)(hp:pl (n:Int)=n)(hpl:∀y,Nod n y→pl y<(n:Int))(hlt:pl s'<pl m'):Two n nx P N pl b m s m' (N s')∧Nod n s':=by
 obtain⟨h1,h2⟩:=h.swap.left hN hp hpl hlt
 exact⟨h1.swap,h2⟩
theorem Mt.meet{b m s m':Int}{l:List Int}(h:Mt n nx P N pl b m l)(hm:m≠ -1)(hs:Sn nx P (-1) s)(hr:Near n nx P N pl s)(h2:Two n nx P N pl b m s m' m'):Mt n nx P N pl b m' (l++[s]):=by
 obtain⟨h1,⟨t,h3,h4⟩,h5⟩:=h.some hm
 refine⟨fun e=>?_,fun _=>⟨h2.gm,⟨t,List.mem_append_left _ h3,h4⟩,fun d hd=>?_⟩⟩
 ·rcases h2.gm with e2|e2
  ·omega
  ·have:=e2.1.1;omega
 ·rw[mem_app1,←h5 d hd,←hr.ch hs d hd,←h2.eq d hd]
  exact⟨fun g=>⟨g,g⟩,fun g=>g.1⟩
theorem Mt.leave{b m s s':Int}{l l':List Int}(h:Mt n nx P N pl b m l)(hm:m≠ -1)(hs:Sn nx P (-1) s)(hr:Near n nx P N pl s)(h2:Two n nx P N pl b m s (n:Int) s'):Mt n nx P N pl b (n:Int) (l++[s]++l'):=by
 obtain⟨h1,⟨t,h3,h4⟩,h5⟩:=h.some hm
 refine⟨fun e=>by omega,fun _=>⟨.inl rfl,⟨t,List.mem_append_left _ (List.mem_append_left _ h3),h4⟩,fun d hd=>⟨fun g=>absurd g InC.exit,fun g=>?_⟩⟩⟩
 have g1:=(h2.eq d hd).2 ⟨(h5 d hd).2 fun x hx=>g x (List.mem_append_left _ (List.mem_append_left _ hx)),(hr.ch hs d hd).2 (g s (List.mem_append_left _ (by simp)))⟩
 exact absurd g1.1 InC.exit
theorem near_of{b m:Int}(hN:∀y,Nod n y→b<pl y→Near n nx P N pl y)(he:∀y,Nod n y→b<pl y→N' y=N y)(hi:Nod n i)(hb:pl i=b)(hn:∀x,Nod n x→Inr n (nx x))(hp:¬P i)(h:Mt n nx P N pl b m (nx i))(hm:N' i=m):Near n nx P N' pl i:=by
 have hi1:i≠ -1:=by have:=hi.1;omega
 have hc:∀x,Nod n x→b<pl x→Sn nx P (-1) x→∀d,InC n N' d x↔InC n N d x:=fun x hx hbx hs d=>⟨InC.congr' (fun y h1 h2 _=>hN y h1 h2) he hbx hs,InC.congr (fun y h1 h2 _=>hN y h1 h2) he hbx hs⟩
 refine⟨?_,?_,fun hs d hd=>?_⟩
 ·rw[hm,Sn.iff hi1 hp]
  constructor
  ·rintro e ⟨y,hy,hs⟩
   exact h.none e y hy hs
  ·intro hno
   by_cases e:m= -1
   ·exact e
   ·obtain⟨-,⟨t,h1,h2⟩,-⟩:=h.some e
    exact absurd ⟨t,h1,h2⟩ hno
 ·rw[hm]
  intro e
  rcases (h.some e).1 with e2| ⟨a,b1,c,-⟩
  ·exact .inl e2
  ·exact .inr ⟨a,b1,by omega⟩
 ·have e:m≠ -1:=fun e=>by
   obtain⟨y,hy,h2⟩:=(Sn.iff hi1 hp).1 hs
   exact h.none e y hy h2
  obtain⟨h1,-,h5⟩:=h.some e
  rw[InC.iff hi,hm]
  have e1:InC n N' d m↔InC n N d m:=by
   rcases h1 with rfl| ⟨a,b1,c,-⟩
   ·exact⟨fun g=>absurd g InC.exit,fun g=>absurd g InC.exit⟩
   ·exact hc m a c b1 d
  rw[e1,h5 d hd]
  by_cases hdi:d=i
  ·subst hdi
   exact⟨fun _ g=>g.ne rfl,fun _=>.inl rfl⟩
  ·rw[Sn.iff (fun g=>hdi g.symm) hp]
   constructor
   ·rintro (g|g)
    ·exact absurd g hdi
    ·rintro⟨y,hy,h6⟩
     exact g y hy h6
   ·intro g
    exact .inr fun y hy h6=>g ⟨y,hy,h6⟩
theorem near_pt{b:Int}(hi:Nod n i)(hp:P i)(hm:N' i=(n:Int))(_:pl i=b):Near n nx P N' pl i:=by
 have hi1:i≠ -1:=by have:=hi.1;omega
 refine⟨?_,fun _=>.inl hm,fun _ d _=>?_⟩
 ·rw[hm]
  exact⟨fun e=>by omega,fun e=>absurd (.pt hi1 hp) e⟩
 ·rw[InC.iff hi,hm]
  by_cases hdi:d=i
  ·subst hdi
   exact⟨fun _ g=>g.ne rfl,fun _=>.inl rfl⟩
  ·constructor
   ·rintro (g|g)
    ·exact absurd g hdi
    ·exact absurd g InC.exit
   ·intro g
    exact absurd (.pt (fun e=>hdi e.symm) hp) g
end
end Go.Proofs.YtjdjcaobkmpoeaaDoor
