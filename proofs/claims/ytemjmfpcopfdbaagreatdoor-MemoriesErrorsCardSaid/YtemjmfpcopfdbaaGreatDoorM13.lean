/- The texts Rlp Rlv Rck LgScal. -/
import Derived.Test.YtemjmfpcopfdbaaGreatDoorM11
import Derived.Test.YtemjmfpcopfdbaaGreatDoorM07
import Derived.Test.YtemjmfpcopfdbaaGreatDoorM12
import Derived.Test.YtemjmfpcopfdbaaGreatDoorRows
import Derived.Test.YtemjmfpcopfdbaaGreatDoorM01
import Derived.WalkKit
import Derived.WalkSpells
import Derived.WalkLawsBesides
import Derived.Lib.Hide
namespace Go.Proofs.YtemjmfpcopfdbaaGreatDoor
theorem lat_nat(lv:List Int){x:Int}(h:0≤x):lat lv ((x.toNat:Nat):Int)=lat lv x:=by rw[Int.toNat_of_nonneg h]
def rpin(i:Nat)(s:List Int×Bool)(x:Int):List Int×Bool:=if lat s.1 i<lat s.1 x+1 then (s.1.set i (lat s.1 x+1),true) else s
structure RI(nodes:List Nd)(prev:List Int)(k:Nat)(l:List Int)(s:List Int×Bool):Prop where
 len:s.1.length=nodes.length
 pos:∀i:Nat,0≤lat s.1 i
 up:∀i:Nat,lat prev i≤lat s.1 i
 same:s.2=false→s.1=prev
 le:∀L,Lvl nodes L→∀i:Nat,i<nodes.length→lat s.1 i≤lat L i
 old:∀j:Nat,j<k→∀x∈dep nodes j,lat prev x+1≤lat s.1 j
 now:∀x∈l,lat prev x+1≤lat s.1 k
 chg:s.2=true→∃i:Nat,i<nodes.length∧lat prev i<lat s.1 i
theorem RI.pin{nodes:List Nd}{prev:List Int}{k:Nat}{l:List Int}{s:List Int×Bool}(hw:Wf nodes)(h:RI nodes prev k l s)(hk:k<nodes.length){x:Int}(hx:x∈dep nodes k):RI nodes prev k (l++[x]) (rpin k s x):=by
 have hb:=hw.dep (i:=(k:Int)) (by simpa using hk) hx
 have hup:=h.up x.toNat
 rw[lat_nat _ hb.1,lat_nat _ hb.1]at hup
 unfold rpin
 by_cases hr:lat s.1 k<lat s.1 x+1
 ·rw[if_pos hr]
  have hset:∀i:Nat,lat (s.1.set k (lat s.1 x+1)) i=if i=k then lat s.1 x+1 else lat s.1 i:=fun i=>by
   rw[lat_set _ (by omega)]
   by_cases e:i=k
   ·rw[if_pos e,if_pos ⟨by omega,by rw[h.len];exact hk⟩]
   ·rw[if_neg e,if_neg (fun h'=>e (by omega))]
  have hge:∀i:Nat,lat s.1 i≤lat (s.1.set k (lat s.1 x+1)) i:=fun i=>by
   rw[hset]
   split
   ·rename_i e;subst e;omega
   ·exact Int.le_refl _
  refine⟨by simp[h.len],fun i=>Int.le_trans (h.pos i) (hge i),fun i=>Int.le_trans (h.up i) (hge i),(fun e=>by cases e),fun L hL i hi=>?_,fun j hj y hy=>Int.le_trans (h.old j hj y hy) (hge j),fun y hy=>?_,fun _=>⟨k,hk,?_⟩⟩
  ·show lat (s.1.set k (lat s.1 x+1)) i≤_
   rw[hset]
   split
   ·rename_i e;subst e
    have h1:=h.le L hL x.toNat (by omega)
    rw[lat_nat _ hb.1,lat_nat _ hb.1]at h1
    have h2:=hL.lt (i:=(i:Int)) (by omega) (by omega) hx
    omega
   ·exact h.le L hL i hi
  ·show _≤lat (s.1.set k (lat s.1 x+1)) k
   rcases List.mem_append.1 hy with hy|hy
   ·exact Int.le_trans (h.now y hy) (hge k)
   ·obtain rfl:=List.mem_singleton.1 hy
    rw[hset,if_pos rfl];omega
  · show _ < lat (s.1.set k (lat s.1 x + 1)) k
    rw[hset,if_pos rfl]
    have:=h.up k
    omega
 ·rw[if_neg hr]
  refine⟨h.len,h.pos,h.up,h.same,h.le,h.old,fun y hy=>?_,h.chg⟩
  rcases List.mem_append.1 hy with hy|hy
  ·exact h.now y hy
  ·obtain rfl:=List.mem_singleton.1 hy
   omega
theorem RI.next{nodes:List Nd}{prev:List Int}{k:Nat}{s:List Int×Bool}(h:RI nodes prev k (dep nodes k) s):RI nodes prev (k+1) [] s:=
 ⟨h.len,h.pos,h.up,h.same,h.le,fun j hj x hx=>by
  by_cases e:j=k
  ·subst e;exact h.now x hx
  ·exact h.old j (by omega) x hx,fun x hx=>absurd hx (List.not_mem_nil),h.chg⟩
structure RO(nodes:List Nd)(k:Nat)(out:List Int):Prop where
 len:out.length=nodes.length
 pos:∀i:Nat,0≤lat out i
 le:∀L,Lvl nodes L→∀i:Nat,i<nodes.length→lat out i≤lat L i
 eq:∀L,Lvl nodes L→∀i:Nat,i<nodes.length→lat L i≤(k:Int)→lat out i=lat L i
theorem RO.start(nodes:List Nd):RO nodes 0 (List.replicate nodes.length 0):=by
 have hz:∀i:Nat,lat (List.replicate nodes.length 0) i=0:=fun i=>by
  unfold lat;rw[List.getD_eq_getElem?_getD,List.getElem?_replicate];split<;>rfl
 refine⟨by simp,fun i=>(by rw[hz];exact Int.le_refl _),fun L hL i hi=>(by rw[hz];exact hL.nonneg hi),fun L hL i hi h=>?_⟩
 have:=hL.nonneg hi
 rw[hz];omega
theorem RO.begin{nodes:List Nd}{k:Nat}{out:List Int}(h:RO nodes k out):RI nodes out 0 [] (out,false):=
 ⟨h.len,h.pos,fun _=>Int.le_refl _,fun _=>rfl,h.le,fun j hj=>absurd hj (by omega),fun x hx=>absurd hx (List.not_mem_nil),fun e=>by cases e⟩
theorem levf_ge{L:List Int}{l:List Int}{b:Int}(h0:0≤b)(h:∀x∈l,lat L x+1≤b):levf L l≤b:=by
 rcases levf_is L l with e| ⟨x,hx,e⟩
 ·omega
 ·have:=h x hx;omega
theorem RO.next{nodes:List Nd}{k:Nat}{out:List Int}{s:List Int×Bool}(hw:Wf nodes)(h:RO nodes k out)(hs:RI nodes out nodes.length [] s):RO nodes (k+1) s.1:=by
 refine⟨hs.len,hs.pos,hs.le,fun L hL i hi hlt=>?_⟩
 have h1:=hs.le L hL i hi
 have h2:lat L i=levf out (dep nodes i):=by
  rw[hL.2 i hi]
  refine levf_congr fun x hx=>?_
  have hb:=hw.dep (i:=(i:Int)) (by simpa using hi) hx
  have h3:=hL.lt (i:=(i:Int)) (by omega) (by omega) hx
  have h4:=h.eq L hL x.toNat (by omega) (by rw[lat_nat _ hb.1];omega)
  rw[lat_nat _ hb.1,lat_nat _ hb.1]at h4
  exact h4.symm
 have h3:=levf_ge (hs.pos i) (hs.old i hi)
 omega
theorem countP_lt{α:Type}{p q:α→Bool} :∀ {l:List α},(∀x∈l,p x=true→q x=true)→(∃x∈l,q x=true∧p x=false)→l.countP p+1≤l.countP q
 |[],_,⟨x,hx,_⟩=>absurd hx (List.not_mem_nil)
 |y::l,h,⟨x,hx,hq,hp⟩=>by
  have hmono:l.countP p≤l.countP q:=List.countP_mono_left fun x hx h'=>h x (List.mem_cons_of_mem _ hx) h'
  rw[List.countP_cons,List.countP_cons]
  rcases List.mem_cons.1 hx with rfl|hx
  ·rw[hq,hp];simp;omega
  ·have ih:=countP_lt (l:=l) (fun x hx=>h x (List.mem_cons_of_mem _ hx)) ⟨x,hx,hq,hp⟩
   by_cases hy:p y=true
   ·have:=h y List.mem_cons_self hy
    rw[hy,this];simp;omega
   ·have:p y=false:=by simpa using hy
    rw[this]
    simp;split<;>omega
theorem Lvl.down{nodes:List Nd}{L:List Int}(hw:Wf nodes)(h:Lvl nodes L):∀(m:Nat) (i:Nat),i<nodes.length→lat L i=(m:Int)→∀m':Nat,m'≤m→∃j:Nat,j<nodes.length∧lat L j=(m':Int)
 |0,i,hi,e,m',hm=>⟨i,hi,by rw[e];omega⟩
 |m+1,i,hi,e,m',hm=>by
  by_cases hmm:m'=m+1
  ·subst hmm;exact⟨i,hi,e⟩
  ·rcases levf_is L (dep nodes i) with e0| ⟨x,hx,e0⟩
   ·rw[←h.2 i hi]at e0;omega
   ·rw[←h.2 i hi]at e0
    have hb:=hw.dep (i:=(i:Int)) (by simpa using hi) hx
    exact Lvl.down hw h m x.toNat (by omega) (by rw[lat_nat _ hb.1];omega) m' (by omega)
theorem Lvl.bound{nodes:List Nd}{L:List Int}(hw:Wf nodes)(h:Lvl nodes L){i:Nat}(hi:i<nodes.length):lat L i<(nodes.length:Int):=by
 have h0:=h.nonneg hi
 have key:∀m:Nat,(m:Int)≤lat L i→m+1≤(List.range nodes.length).countP fun(j:Nat)=>decide (lat L j≤(m:Int)):=by
  intro m
  induction m with
  |zero=>
   intro hm
   obtain⟨j,hj,e⟩:=h.down hw (lat L i).toNat i hi (by omega) 0 (Nat.zero_le _)
   have:0<(List.range nodes.length).countP fun(j:Nat)=>decide (lat L j≤((0:Nat):Int)):=List.countP_pos_iff.2 ⟨j,List.mem_range.2 hj,by simp[e]⟩
   omega
  |succ m ih=>
   intro hm
   have h1:=ih (by omega)
   obtain⟨j,hj,e⟩:=h.down hw (lat L i).toNat i hi (by omega) (m+1) (by omega)
   have:=countP_lt (l:=List.range nodes.length) (p:=fun(j:Nat)=>decide (lat L j≤(m:Int))) (q:=fun(j:Nat)=>decide (lat L j≤((m+1:Nat):Int)))
    (fun x _ hx=>by simp at hx ⊢;omega) ⟨j,List.mem_range.2 hj,by simp[e],by simp[e];omega⟩
   omega
 have:=key (lat L i).toNat (by omega)
 have h2:(List.range nodes.length).countP (fun(j:Nat)=>decide (lat L j≤(((lat L i).toNat:Nat):Int)))≤(List.range nodes.length).length:=List.countP_le_length
 rw[List.length_range]at h2
 omega
theorem RO.more{nodes:List Nd}{k:Nat}{out:List Int}{s:List Int×Bool}(hw:Wf nodes)(h:RO nodes k out)(hs:RI nodes out nodes.length [] s)(ht:s.2=true)(hL:∃L,Lvl nodes L):k+1≤nodes.length:=by
 obtain⟨L,hL⟩:=hL
 refine Classical.byContradiction fun hk=>?_
 obtain⟨i,hi,hlt⟩:=hs.chg ht
 have h1:=hL.bound hw hi
 have h2:=h.eq L hL i hi (by omega)
 have h3:=hs.le L hL i hi
 omega
def lvIt(nodes:List Nd):Nat→List Int
 |0=>List.replicate nodes.length 0
 |m+1=>(List.range nodes.length).map fun(i:Nat)=>levf (lvIt nodes m) (dep nodes i)
theorem lvIt_at(nodes:List Nd)(m:Nat){i:Nat}(hi:i<nodes.length):lat (lvIt nodes (m+1)) i=levf (lvIt nodes m) (dep nodes i):=by
 simp[lvIt,lat,List.getD_eq_getElem?_getD,hi]
theorem lvl_of_rank{nodes:List Nd}(hw:Wf nodes)(f:List Int)(h0:∀i:Nat,0≤lat f i)(h:∀j:Nat,j<nodes.length→∀x∈dep nodes j,lat f x+1≤lat f j):∃L,Lvl nodes L:=by
 have hst:∀m:Nat,∀i:Nat,i<nodes.length→lat f i<(m:Int)→lat (lvIt nodes m) i=lat (lvIt nodes (m+1)) i:=by
  intro m
  induction m with
  |zero=>intro i hi hlt;have:=h0 i;omega
  |succ m ih=>
   intro i hi hlt
   rw[lvIt_at _ _ hi,lvIt_at _ _ hi]
   refine levf_congr fun x hx=>?_
   have hb:=hw.dep (i:=(i:Int)) (by simpa using hi) hx
   have h1:=h i hi x hx
   have h2:=ih x.toNat (by omega) (by rw[lat_nat _ hb.1];omega)
   rw[lat_nat _ hb.1,lat_nat _ hb.1]at h2
   exact h2
 have hM:∀l:List Int,∃M:Nat,∀x∈l,x<(M:Int):=by
  intro l
  induction l with
  |nil=>exact⟨0,fun x hx=>absurd hx (List.not_mem_nil)⟩
  |cons a l ih=>
   obtain⟨M,hM⟩:=ih
   refine⟨max M (a.toNat+1),fun x hx=>?_⟩
   rcases List.mem_cons.1 hx with rfl|hx
   ·omega
   ·have:=hM x hx;omega
 obtain⟨M,hM⟩:=hM f
 have hb:∀i:Nat,lat f i<((M+1:Nat):Int):=fun i=>by
  unfold lat
  by_cases hl:(i:Int).toNat<f.length
  ·rw[List.getD_eq_getElem?_getD,List.getElem?_eq_getElem hl]
   have h1:=hM _ (List.getElem_mem hl)
   show f[(i:Int).toNat]<_
   omega
  ·rw[List.getD_eq_getElem?_getD,List.getElem?_eq_none (by omega)]
   show (0:Int)<_
   omega
 refine⟨lvIt nodes (M+1),by simp[lvIt],fun i hi=>?_⟩
 rw[hst (M+1) i hi (hb i),lvIt_at _ _ hi]
theorem RO.stop{nodes:List Nd}{out:List Int}{s:List Int×Bool}(hw:Wf nodes)(hs:RI nodes out nodes.length [] s)(hf:s.2=false):Lvl nodes s.1:=by
 have e:=hs.same hf
 have hold:∀j:Nat,j<nodes.length→∀x∈dep nodes j,lat s.1 x+1≤lat s.1 j:=by rw[e];have:=hs.old;rw[e]at this;exact this
 obtain⟨L,hL⟩:=lvl_of_rank hw s.1 hs.pos hold
 have key:∀(m:Nat) (i:Nat),i<nodes.length→lat L i<(m:Int)→lat s.1 i=lat L i:=by
  intro m
  induction m with
  |zero=>intro i hi hlt;have:=hL.nonneg hi;omega
  |succ m ih=>
   intro i hi hlt
   have h1:=hs.le L hL i hi
   have h2:lat L i=levf s.1 (dep nodes i):=by
    rw[hL.2 i hi]
    refine levf_congr fun x hx=>?_
    have hb:=hw.dep (i:=(i:Int)) (by simpa using hi) hx
    have h3:=hL.lt (i:=(i:Int)) (by omega) (by omega) hx
    have h4:=ih x.toNat (by omega) (by rw[lat_nat _ hb.1];omega)
    rw[lat_nat _ hb.1,lat_nat _ hb.1]at h4
    exact h4.symm
   have h3:=levf_ge (hs.pos i) (hold i hi)
   omega
 have e2:s.1=L:=ext_lat (by rw[hs.len,hL.1]) fun i hi=>key (lat L i+1).toNat i (by rw[hs.len]at hi;exact hi) (by have:=hL.nonneg (i:=i) (by rw[hs.len]at hi;exact hi);omega)
 rw[e2];exact hL
/-! The order. -/
def atLv(L:List Int)(v k:Nat):List Int:=((List.range k).filter fun(i:Nat)=>lat L i==(v:Int)).map fun(i:Nat)=>(i:Int)
def ordTo(L:List Int)(n:Nat):Nat→List Int
 |0=>[]
 |m+1=>ordTo L n m++atLv L m n
open Go.RowKit
structure RW(w:World)(vs:List Value)(wr:World)(out:List Int):Prop where
 bel:Below w.heap.size w wr
 box:Fr wr w.heap.size 39 vs
 row:Row wr (w.heap.size+1) out
section
variable {w wr w1:World} {vs:List Value} {out:List Int}
theorem RW.next(h:RW w vs wr out)(hb:Below wr.heap.size wr w1):RW w vs w1 out:=⟨joinB h.bel hb,h.box.below hb,h.row.below hb⟩
theorem RW.set(h:RW w vs wr out)(j:Nat)(x:Int):RW w vs (wr.setCell ⟨w.heap.size+1,j,none⟩ (.int .i64 x)) (out.set j x):=
 ⟨h.bel.setCell (Nat.le_succ _) _,h.box.other (by show w.heap.size+1≠w.heap.size;omega) _,h.row.set j x⟩
theorem RW.drewN(h:RW w vs wr out)(n:Nat):RW w vs (wr.drewN n) out:=h.next (below_drewN (Below.refl _ _) n)
end
def Bd(l:List Int)(b:Nat):Prop:=∀i:Nat,lat l i≤(b:Int)
theorem Bd.zero(n:Nat):Bd (List.replicate n 0) 0:=fun i=>by
 unfold lat;rw[List.getD_eq_getElem?_getD,List.getElem?_replicate];split<;>exact Int.le_refl _
theorem Bd.pin{s:List Int×Bool}{b k:Nat}(h:Bd s.1 b){x:Int}(hx:0≤x):Bd (rpin k s x).1 (b+1):=fun i=>by
 have h1:=h i
 have h2:=h x.toNat
 rw[lat_nat _ hx]at h2
 unfold rpin
 split
 ·show lat (s.1.set k _) i≤_
  rw[lat_set _ (by omega)]
  split<;>omega
 ·omega
theorem Bd.le{l:List Int}{b b':Nat}(h:Bd l b)(hb:b≤b'):Bd l b':=fun i=>by have:=h i;omega
theorem getD_in{l:List Int}{k:Nat}(h:k<l.length):l.getD k 0∈l:=by
 rw[List.getD_eq_getElem?_getD,List.getElem?_eq_getElem h];exact List.getElem_mem h
def RLev(c:Ck)(w:World)(e:Ending)(w':World):Prop:=
 Below w.heap.size w w'∧((∃L,Lvl c.nodes L∧e=.returned (.tuple #[.slice (some ⟨w.heap.size+1,0,none⟩) c.nodes.length c.nodes.length,.bool true])∧Row w' (w.heap.size+1) L)
  ∨((¬∃L,Lvl c.nodes L)∧e=.returned (.tuple #[.slice none 0 0,.bool false])))
theorem made_zero(n:Nat):(madeCells #[Value.int .i64 0] n).toList=(List.replicate n 0).map (Value.int .i64):=by
 rw[fillL_start (fun _=>.int .i64 0),←fillL_end 0 (.int .i64 0) n]
 unfold fillL
 simp
set_option maxRecDepth 100000 in
set_option maxHeartbeats 8000000 in
theorem rlev_any(c:Ck)(v:Value)(w:World)(B:Nat)(hB:B≤w.heap.size)(hc:Cir w B v c)(hw:Wf c.nodes)(hsz:c.nodes.length≤1000000)(hpn:∀k,k<c.nodes.length→(c.nodes.getD k default).ins.length≤100):
 Calls Tryz.prog 62 #[v] w (RLev c w):=by
 obtain⟨v0,v1,v2,v3,rfl,hns,hss,hms,hos⟩:=hc
 obtain⟨A0,b,o,c0,rfl,hA,-,-,hcell⟩:=id hns
 obtain⟨A1,b1,o1,c1,rfl,-⟩:=id hss
 obtain⟨A2,b2,o2,c2,rfl,-⟩:=id hms
 obtain⟨A3,b3,o3,c3,rfl,-⟩:=id hos
 have hbW:Below w.heap.size w (w.alloc (.cells #[.slice A0 c.nodes.length c0,.slice A1 c.names.length c1,.slice A2 c.mems.length c2,.slice A3 c.outs.length c3] 39)):=(Below.refl _ _).alloc (Nat.le_refl _) _
 have hfr:Fr (w.alloc (.cells #[.slice A0 c.nodes.length c0,.slice A1 c.names.length c1,.slice A2 c.mems.length c2,.slice A3 c.outs.length c3] 39)) w.heap.size 39 [.slice A0 c.nodes.length c0,.slice A1 c.names.length c1,.slice A2 c.mems.length c2,.slice A3 c.outs.length c3]:=Fr.made w _ _ rfl
 have HCE:=Lib.hid hcell
 have HAA:=Lib.hid hA
 have HWF:=Lib.hid hw
 have HPN:=Lib.hid hpn
 clear hns hss hms hos hcell hA hw hpn
 generalize c.names.length=n1 at hbW hfr ⊢
 generalize c.mems.length=n2 at hbW hfr ⊢
 generalize c.outs.length=n3 at hbW hfr ⊢
 obtain⟨n,HN⟩:=named c.nodes.length
 rw[←HN.out]at hbW hsz hfr
 rw[←HN.out]
 obtain⟨W,HW⟩:=named (w.alloc (.cells #[.slice A0 n c0,.slice A1 n1 c1,.slice A2 n2 c2,.slice A3 n3 c3] 39))
 have hzW:W.heap.size=w.heap.size+1:=by rw[HW.out];simp
 rw[←HW.out]at hbW hfr
 have x0:W.cell? ⟨w.heap.size,0,none⟩=some (.slice A0 n c0):=hfr.cell 0
 have HBW:=Lib.hid hbW
 have HZW:=Lib.hid hzW
 have HFR:=Lib.hid hfr
 have HX0:=Lib.hid x0
 clear hbW hzW hfr x0
 obtain⟨NP,HNP⟩:=named (n*100)
 have hNP:NP≤100000000:=by rw[HNP.out];omega
 obtain⟨i0,hi,hz0,hz1,hz2⟩:=info_parts info_int
 have HI:=Lib.hid (And.intro hi (And.intro hz0 (And.intro hz1 hz2)))
 clear hi hz0 hz1 hz2
 go_enter Tryz.func62,Tryz.ntmps62
 go_wp2_with (at_make;refine wpList_make_full _ rfl _ _ 37 rfl (w.heap.size+1) 3 i0 (.int .i64 0) 1 Tryz.underlying37 HI.out.1 HI.out.2.1 HI.out.2.2.1 .i64 .i64 _ _ n rfl rfl rfl rfl ?b2 ?b3 ?b4 ?_)
 case b2=>rw[HI.out.2.2.2];omega
 case b3=>unfold maxLen;omega
 case b4=>simp
 intro w2 hown hgr
 have hrow:Row w2 (w.heap.size+1) (List.replicate n 0):=by
  unfold Row
  rw[List.length_replicate,←made_zero]
  exact hown
 rw[←HW.out]at hgr
 have hst:RW w [.slice A0 n c0,.slice A1 n1 c1,.slice A2 n2 c2,.slice A3 n3 c3] w2 (List.replicate n 0):=
  ⟨HBW.out.grown hgr HBW.out.size (fun k h=>by cases h),HFR.out.kept hgr (by simp),hrow⟩
 have HST:=Lib.hid hst
 clear hown hgr hrow hst
 go_wp2
 go_loopw [5] (fun i wr=>∃(k:Nat) (out:List Int),i=.int .i64 k∧k≤n+1∧RW w [.slice A0 n c0,.slice A1 n1 c1,.slice A2 n2 c2,.slice A3 n3 c3] wr out∧RO c.nodes k out∧((∃L,Lvl c.nodes L)→k≤n)∧Bd out (k*NP)) (fun i _=>n+1-(intOf i).toNat)
 case atStart=>exact⟨0,_,rfl,by omega,HST.out,by rw[HN.out];exact RO.start _,fun _=>Nat.zero_le _,(Bd.zero n).le (Nat.zero_le _)⟩
 case round=>
  clear HST
  obtain⟨k,out,rfl,hk,hst,hro,hmore,hbd⟩:=hrel
  have y0:wr.cell? ⟨w.heap.size,0,none⟩=some (.slice A0 n c0):=hst.box.cell 0
  have HRO:=Lib.hid hro
  have HBD:=Lib.hid hbd
  obtain⟨KN,HKN⟩:=named (k*NP)
  have hKN:KN≤1000001*100000000:=by rw[HKN.out];exact Nat.mul_le_mul (by omega) hNP
  rw[←HKN.out]at HBD
  clear hbd
  have HMO:=Lib.hid hmore
  have HS:=Lib.hid hst
  clear hro hmore hst
  by_cases hkn:k≤n
  ·go_wp2
   clear y0
   go_loopw [6,7] (fun a i wx=>∃(j:Nat) (s:List Int×Bool),i=.int .i64 j∧j≤n∧a=.bool s.2∧RW w [.slice A0 n c0,.slice A1 n1 c1,.slice A2 n2 c2,.slice A3 n3 c3] wx s.1∧RI c.nodes out j [] s∧Bd s.1 (KN+j*100)) (fun _ i _=>n-(intOf i).toNat)
   case atStart=>exact⟨0,_,rfl,Nat.zero_le _,rfl,HS.out,HRO.out.begin,HBD.out.le (Nat.le_add_right _ _)⟩
   case round=>
    clear HS
    obtain⟨j,⟨lv,ag⟩,rfl,hj,rfl,hst,hri,hbj⟩:=hrel
    dsimp only at hst hri hbj ⊢
    have HBJ:=Lib.hid hbj
    have y0:wr.cell? ⟨w.heap.size,0,none⟩=some (.slice A0 n c0):=hst.box.cell 0
    have HS:=Lib.hid hst
    have HRI:=Lib.hid hri
    by_cases hjn:j<n
    ·obtain rfl:=HAA.out (by rw[←HN.out];omega)
     obtain⟨hlb,s5,h0,h1,h2,h3,h4,-⟩:=HCE.out j (by rw[←HN.out];exact hjn)
     obtain⟨A5,b5,o5,c5,rfl,hA5,-,hm5,hc5⟩:=h4.opens
     have hb0:∀(p:Nat),wr.cell? ⟨b,p,none⟩=w.cell? ⟨b,p,none⟩:=fun p=>hst.bel.cell (p:=⟨b,p,none⟩) (by show b<w.heap.size;omega)
     rw[←hb0]at h0 h1 h2 h3
     have hlbr:b<wr.heap.size:=by have:=hst.bel.size;omega
     have HDEP:Hid (dep c.nodes (j:Int)=if cmb (c.nodes.getD j default).kind=true then (c.nodes.getD j default).ins else []):=Lib.hid rfl
     have hkd:∃y,cmb (c.nodes.getD j default).kind=y:=⟨_,rfl⟩
     obtain⟨y,hy⟩:=hkd
     obtain⟨kd,HKD⟩:=named (c.nodes.getD j default).kind
     obtain⟨mm,HMM⟩:=named (c.nodes.getD j default).mem
     obtain⟨bt,HBT⟩:=named (c.nodes.getD j default).bit
     rw[←HKD.out]at h0 hy HDEP
     rw[←HMM.out]at h2
     rw[←HBT.out]at h3
     obtain⟨li,HLI⟩:=named (c.nodes.getD j default).ins
     rw[←HLI.out]at h1 hA5 hm5 hc5 HDEP
     obtain⟨ni,HNI⟩:=named li.length
     rw[←HNI.out]at h1 hA5 hm5 hc5
     unfold maxLen at hm5
     have HC5:=Lib.hid hc5
     have HA5:=Lib.hid hA5
     have HY:=Lib.hid hy
     have hrc:=fun W=>refComb_any kd W
     rw[hy]at hrc
     have HRC:=Lib.hid hrc
     have hni:ni≤100:=by rw[HNI.out,HLI.out];exact HPN.out j (by rw[←HN.out];exact hjn)
     clear hst hri hbj h4 hb0 hy hc5 hA5 hrc
     go_wp2
     obtain⟨q8,HQ8⟩:=named wr.heap.size
     rw[←HQ8.out]
     have hst8:RW w [.slice (some ⟨b,o,none⟩) n c0,.slice A1 n1 c1,.slice A2 n2 c2,.slice A3 n3 c3] (wr.alloc (.cells #[.int .u8 kd,.slice A5 ni c5,.int .i64 mm,.int .i64 bt] 65)) lv:=HS.out.next (below_new (Below.refl _ _) _)
     have hfr8:Fr (wr.alloc (.cells #[.int .u8 kd,.slice A5 ni c5,.int .i64 mm,.int .i64 bt] 65)) q8 65 [.int .u8 kd,.slice A5 ni c5,.int .i64 mm,.int .i64 bt]:=by rw[HQ8.out];exact Fr.made wr _ _ rfl
     have hq8:w.heap.size+1<q8:=by rw[HQ8.out];exact HS.out.row.lt
     have HS8:=Lib.hid hst8
     have HF8:=Lib.hid hfr8
     clear hst8 hfr8 HS y0 h0 h1 h2 h3
     go_loopw [6,9] (fun a i wx=>∃(m:Nat) (s:List Int×Bool),i=.int .i64 m∧m≤ni∧(y=false→m=0)∧a=.bool s.2∧RW w [.slice (some ⟨b,o,none⟩) n c0,.slice A1 n1 c1,.slice A2 n2 c2,.slice A3 n3 c3] wx s.1∧Fr wx q8 65 [.int .u8 kd,.slice A5 ni c5,.int .i64 mm,.int .i64 bt]∧RI c.nodes out j (li.take m) s∧Bd s.1 (KN+j*100+m)) (fun _ i _=>ni-(intOf i).toNat)
     case atStart=>exact⟨0,(lv,ag),rfl,Nat.zero_le _,fun _=>rfl,rfl,HS8.out,HF8.out,HRI.out,HBJ.out⟩
     case round=>
      clear HS8 HF8 HRI HBJ
      obtain⟨m,⟨lm,am⟩,rfl,hm,hm0,rfl,hst,hfr,hri,hbm⟩:=hrel
      dsimp only at hst hfr hri hbm ⊢
      have y0:wr.cell? ⟨w.heap.size,0,none⟩=some (.slice (some ⟨b,o,none⟩) n c0):=hst.box.cell 0
      have z0:wr.cell? ⟨q8,0,none⟩=some (.int .u8 kd):=hfr.cell 0
      have z1:wr.cell? ⟨q8,1,none⟩=some (.slice A5 ni c5):=hfr.cell 1
      have HS:=Lib.hid hst
      have HRI:=Lib.hid hri
      have HBM:=Lib.hid hbm
      have HFR8:=Lib.hid hfr
      cases y
      ·obtain rfl:m=0:=hm0 rfl
       have hnx:=(show RI c.nodes out j (dep c.nodes j) (lm,am) by rw[HDEP.out,HY.out,if_neg (by decide)];exact hri).next
       have HNX:=Lib.hid hnx
       clear hst hfr hri hbm hnx hm0
       by_cases hn0:0<ni
       ·go_wp2_with (go_at_call 88;(with_reducible refine (HRC.out _).mono ?_);rintro e w3 ⟨rfl,rfl⟩)
        go_roundw
        case rel=>exact⟨j+1,(lm,am),by go_num,by omega,rfl,HS.out,HNX.out,HBM.out.le (by omega)⟩
        case measure=>simp[intOf];omega
       ·go_wp2
        go_roundw
        case rel=>exact⟨j+1,(lm,am),by go_num,by omega,rfl,HS.out,HNX.out,HBM.out.le (by omega)⟩
        case measure=>simp[intOf];omega
      ·by_cases hmn:m<ni
       ·obtain rfl:=HA5.out (by omega)
        obtain⟨hlb5,z2⟩:=HC5.out m hmn
        have hmem:li.getD m 0∈dep c.nodes j:=by rw[HDEP.out,HY.out,if_pos rfl];exact getD_in (by rw[←HNI.out];exact hmn)
        have hxb:=HWF.out.dep (i:=(j:Int)) (by rw[←HN.out];simpa using hjn) hmem
        have hlt:li.take (m+1)=li.take m++[li.getD m 0]:=take_succ_getD li m (by rw[←HNI.out];exact hmn)
        have hri':RI c.nodes out j (li.take (m+1)) (rpin j (lm,am) (li.getD m 0)):=by rw[hlt];exact hri.pin HWF.out (by rw[←HN.out];exact hjn) hmem
        have hbm':Bd (rpin j (lm,am) (li.getD m 0)).1 (KN+j*100+m+1):=hbm.pin hxb.1
        obtain⟨x,HX⟩:=named (li.getD m 0)
        rw[←HX.out]at z2 hxb hri' hbm'
        obtain⟨xn,rfl⟩:∃xn:Nat,x=(xn:Int):=⟨x.toNat,by omega⟩
        have z2':wr.cell? ⟨b5,o5+m,none⟩=some (.int .i64 (xn:Int)):=(hst.bel.cell (p:=⟨b5,o5+m,none⟩) (by show b5<w.heap.size;omega)).trans z2
        have hxn:xn<n:=by rw[HN.out];omega
        have hlen:lm.length=n:=by rw[HN.out];exact hri.len
        have z3:=hst.row.cell (j:=j) (by rw[hlen];exact hjn)
        have z4:=hst.row.cell (j:=xn) (by rw[hlen];exact hxn)
        have z5:=hst.row.frozen j
        have hl0:=hri.pos xn
        have hl1:=hbm xn
        have hl2:=hri.pos j
        have hl3:=hbm j
        unfold rpin at hri' hbm'
        dsimp only at hri' hbm' hl0 hl1 hl2 hl3
        obtain⟨lx,HLX⟩:=named (lat lm xn)
        obtain⟨lj,HLJ⟩:=named (lat lm j)
        rw[←HLX.out]at z4 hl0 hl1 hri' hbm'
        rw[←HLJ.out]at z3 hl2 hl3 hri' hbm'
        have hj10:KN+j*100+m≤10000000000000000:=by omega
        have HRI':=Lib.hid hri'
        have HBM':=Lib.hid hbm'
        have HJ:=Lib.hid hjn
        clear hst hfr hri hbm hm0 hri' hbm' hmem hlt hlen z2 HRI HBM
        by_cases hup:lj<lx+1
        ·have hri2:=HRI'.out
         have hbm2:=HBM'.out
         rw[if_pos hup]at hri2 hbm2
         have HRI2:=Lib.hid hri2
         have HBM2:=Lib.hid hbm2
         clear hri2 hbm2 HRI' HBM'
         go_wp2_with (go_at_call 88;(with_reducible refine (HRC.out _).mono ?_);rintro e w3 ⟨rfl,rfl⟩)
         go_quiet (fail)
         go_wp2
         go_roundw
         case rel=>exact⟨m+1,_,by go_num,by omega,(fun h=>by cases h),rfl,(HS.out.drewN nq).set j (lx+1),((HFR8.out.below (below_drewN (Below.refl _ _) nq)).other (by show w.heap.size+1≠q8;omega) _),HRI2.out,HBM2.out⟩
         case measure=>simp[intOf];omega
        ·have hri2:=HRI'.out
         have hbm2:=HBM'.out
         rw[if_neg hup]at hri2 hbm2
         have HRI2:=Lib.hid hri2
         have HBM2:=Lib.hid hbm2
         clear hri2 hbm2 HRI' HBM'
         go_wp2_with (go_at_call 88;(with_reducible refine (HRC.out _).mono ?_);rintro e w3 ⟨rfl,rfl⟩)
         go_quiet (fail)
         go_wp2
         go_roundw
         case rel=>exact⟨m+1,_,by go_num,by omega,(fun h=>by cases h),rfl,HS.out.drewN nq,HFR8.out.below (below_drewN (Below.refl _ _) nq),HRI2.out,HBM2.out⟩
         case measure=>simp[intOf];omega
       ·obtain rfl:ni=m:=by omega
        have hnx:=(show RI c.nodes out j (dep c.nodes j) (lm,am) by rw[HDEP.out,HY.out,if_pos rfl,←List.take_length (l:=li),←HNI.out];exact hri).next
        have HNX:=Lib.hid hnx
        clear hst hfr hri hbm hnx hm0
        go_wp2
        go_roundw
        case rel=>exact⟨j+1,(lm,am),by go_num,by omega,rfl,HS.out,HNX.out,HBM.out.le (by omega)⟩
        case measure=>simp[intOf];omega
    ·obtain rfl:n=j:=by omega
     clear hst hri hbj
     cases ag
     ·go_wp2
      go_ret2
      refine⟨HS.out.bel,.inl ⟨lv,?_,?_,HS.out.row⟩⟩
      ·exact RO.stop HWF.out (by rw[←HN.out];exact HRI.out) rfl
      ·rw[←HN.out];rfl
     ·go_wp2
      go_roundw
      case rel=>
       refine⟨k+1,lv,by go_num,by omega,HS.out,RO.next HWF.out HRO.out (s:=(lv,true)) (by rw[←HN.out];exact HRI.out),fun hL=>?_,?_⟩
       ·have:=RO.more HWF.out HRO.out (s:=(lv,true)) (by rw[←HN.out];exact HRI.out) rfl hL
        rw[HN.out];exact this
       ·refine HBJ.out.le ?_
        rw[Nat.succ_mul,←HKN.out,HNP.out];omega
      case measure=>simp[intOf];omega
  ·obtain rfl:k=n+1:=by omega
   have hno:¬∃L,Lvl c.nodes L:=fun h=>by have:=HMO.out h;omega
   have HNO:=Lib.hid hno
   have HB:=Lib.hid HS.out.bel
   clear HMO hno
   go_wp2
   go_ret2
   exact⟨HB.out,.inr ⟨HNO.out,rfl⟩⟩
theorem hi_16(k:Int)(h0:0≤k):hi k≤16:=by
 by_cases h:15<k
 ·unfold hi;rw[if_pos h];decide
 ·rcases kinds h0 h with rfl|rfl|rfl|rfl|rfl|rfl|rfl|rfl|rfl|rfl|rfl|rfl|rfl|rfl|rfl|rfl<;>decide
theorem pins_few{w:World}{B:Nat}{v:Value}{c:Ck}(hc:Cir w B v c)(h:shapeErr c=0):∀k,k<c.nodes.length→(c.nodes.getD k default).ins.length≤100:=fun k hk=>by
 have h1:=nodeErr_zero ((shape_zero h).2.2.2.2.1 _ (getD_mem_nd hk))
 have h2:=hi_16 (c.nodes.getD k default).kind (hc.fit.k k hk).1
 have:=h1.2.2.1
 omega
set_option maxHeartbeats 4000000 in
theorem rchk_any(c:Ck)(v:Value)(w:World)(B:Nat)(hB:B≤w.heap.size)(hc:Cir w B v c):
 Calls Tryz.prog 21 #[v] w fun e w'=>e=.returned (.int .i64 (chkErr c))∧Below w.heap.size w w':=by
 obtain⟨y,HY⟩:=named (chkErr c)
 rw[←HY.out]
 have HSH:=Lib.hid (fun(w1:World) (hb:Below w.heap.size w w1)=>rshape_any c v w1 B (Nat.le_trans hB hb.size) (hc.below (hb.mono hB)))
 have HLV:=Lib.hid (fun(h0:shapeErr c=0) (w1:World) (hb:Below w.heap.size w w1)=>rlev_any c v w1 B (Nat.le_trans hB hb.size) (hc.below (hb.mono hB)) (wf_of_shape h0) (by have:=(shape_zero h0).1;omega) (pins_few hc h0))
 obtain⟨v0,v1,v2,v3,rfl,hns,hss,hms,hos⟩:=hc
 obtain⟨A0,b0,o0,c0,rfl,-⟩:=hns
 obtain⟨A1,b1,o1,c1,rfl,-⟩:=hss
 obtain⟨A2,b2,o2,c2,rfl,-⟩:=hms
 obtain⟨A3,b3,o3,c3,rfl,-⟩:=hos
 have HNZ:Hid (shapeErr c≠0→y=shapeErr c):=Lib.hid fun h=>by rw[HY.out];unfold chkErr;exact if_pos h
 have HZE:Hid (shapeErr c=0→(∃L,Lvl c.nodes L)→y=0):=Lib.hid fun h hl=>by rw[HY.out];unfold chkErr;rw[if_neg (by simpa using h),if_pos hl]
 have HZN:Hid (shapeErr c=0→¬(∃L,Lvl c.nodes L)→y=6):=Lib.hid fun h hl=>by rw[HY.out];unfold chkErr;rw[if_neg (by simpa using h),if_neg hl]
 clear HY
 obtain⟨z,HZ⟩:=named (shapeErr c)
 rw[←HZ.out]at HSH HNZ
 have hlv:∀(E:Bool),((∃L,Lvl c.nodes L)↔E=true)→shapeErr c=0→∀w1,Below w.heap.size w w1→Calls Tryz.prog 62 #[.agg #[.slice A0 c.nodes.length c0,.slice A1 c.names.length c1,.slice A2 c.mems.length c2,.slice A3 c.outs.length c3]] w1 fun e w'=>(∃s,e=.returned (.tuple #[s,.bool E]))∧Below w1.heap.size w1 w':=fun E hE h0 w1 hb=>
  (HLV.out h0 w1 hb).mono fun e w' ⟨h1,h2⟩=>by
    rcases h2 with⟨L,hL,he,-⟩| ⟨hn,he⟩
    ·have:E=true:=hE.1 ⟨L,hL⟩
     subst this
     exact⟨⟨_,he⟩,h1⟩
    ·cases E
     ·exact⟨⟨_,he⟩,h1⟩
     ·exact absurd (hE.2 rfl) hn
 have HLE:=Lib.hid hlv
 clear hlv HLV
 generalize c.nodes.length=n0 at HSH HLE ⊢
 generalize c.names.length=n1 at HSH HLE ⊢
 generalize c.mems.length=n2 at HSH HLE ⊢
 generalize c.outs.length=n3 at HSH HLE ⊢
 obtain⟨W1,HW1⟩:=named (w.alloc (.cells #[.slice A0 n0 c0,.slice A1 n1 c1,.slice A2 n2 c2,.slice A3 n3 c3] 39))
 have hb1:Below w.heap.size w W1:=by rw[HW1.out];exact below_new (Below.refl _ _) _
 have hfa:Fr W1 w.heap.size 39 [.slice A0 n0 c0,.slice A1 n1 c1,.slice A2 n2 c2,.slice A3 n3 c3]:=by rw[HW1.out];exact Fr.made _ _ _ rfl
 have HCA:Hid (∀W,Below W1.heap.size W1 W→W.cell? ⟨w.heap.size,0,none⟩=some (.slice A0 n0 c0)∧W.cell? ⟨w.heap.size,1,none⟩=some (.slice A1 n1 c1)∧W.cell? ⟨w.heap.size,2,none⟩=some (.slice A2 n2 c2)∧W.cell? ⟨w.heap.size,3,none⟩=some (.slice A3 n3 c3)):=
  Lib.hid fun W hb=>⟨(hfa.below hb).cell 0,(hfa.below hb).cell 1,(hfa.below hb).cell 2,(hfa.below hb).cell 3⟩
 have HB1:=Lib.hid hb1
 clear hfa hb1
 obtain⟨a0,a1,a2,a3⟩:=HCA.out W1 (Below.refl _ _)
 by_cases hz:z=0
 rotate_left
 ·have hz':(z != 0)=true:=by simpa using hz
  have hv:y=z:=HNZ.out hz
  have HV:=Lib.hid hv
  clear hv hz
  go_enter Tryz.func21,Tryz.ntmps21
  go_upto_region 1 with (fail)
  rw[←HW1.out]
  go_wp2_with (go_at_call 61;(with_reducible refine (HSH.out _ HB1.out).mono ?_);rintro e w2 ⟨rfl,hb⟩;have HB2:=Lib.hid hb;obtain⟨x0,x1,x2,x3⟩:=HCA.out _ hb;clear hb)
  go_ret
  exact⟨ret_int HV.out.symm,joinB HB1.out HB2.out⟩
 subst hz
 have h0:=HZ.out.symm
 by_cases hE:∃L,Lvl c.nodes L
 ·have hv:=HZE.out h0 hE
  have HLE2:=Lib.hid (HLE.out true (iff_of_true hE rfl) h0)
  have HV:=Lib.hid hv
  clear hv hE h0 HLE
  go_enter Tryz.func21,Tryz.ntmps21
  go_upto_region 1 with (fail)
  rw[←HW1.out]
  go_wp2_with (first
   |(go_at_call 61;(with_reducible refine (HSH.out _ HB1.out).mono ?_);rintro e w2 ⟨rfl,hb⟩;have HB2:=Lib.hid hb;obtain⟨x0,x1,x2,x3⟩:=HCA.out _ hb;clear hb)
   |(go_at_call 62;(with_reducible refine (HLE2.out _ (joinB HB1.out HB2.out)).mono ?_);rintro e w3 ⟨⟨s,rfl⟩,hb⟩;have HB3:=Lib.hid hb;clear hb))
  go_ret
  exact⟨ret_int HV.out.symm,joinB HB1.out (joinB HB2.out HB3.out)⟩
 ·have hv:=HZN.out h0 hE
  have HLE2:=Lib.hid (HLE.out false (iff_of_false hE (by decide)) h0)
  have HV:=Lib.hid hv
  clear hv hE h0 HLE
  go_enter Tryz.func21,Tryz.ntmps21
  go_upto_region 1 with (fail)
  rw[←HW1.out]
  go_wp2_with (first
   |(go_at_call 61;(with_reducible refine (HSH.out _ HB1.out).mono ?_);rintro e w2 ⟨rfl,hb⟩;have HB2:=Lib.hid hb;obtain⟨x0,x1,x2,x3⟩:=HCA.out _ hb;clear hb)
   |(go_at_call 62;(with_reducible refine (HLE2.out _ (joinB HB1.out HB2.out)).mono ?_);rintro e w3 ⟨⟨s,rfl⟩,hb⟩;have HB3:=Lib.hid hb;clear hb))
  go_ret
  exact⟨ret_int HV.out.symm,joinB HB1.out (joinB HB2.out HB3.out)⟩
end Go.Proofs.YtemjmfpcopfdbaaGreatDoor
namespace Go.Proofs.YtemjmfpcopfdbaaGreatDoor.Lg
open Go.RowKit
theorem ret_int{k:IntKind}{a b:Int}(h:a=b):Ending.returned (.int k a)=.returned (.int k b):=by rw[h]
theorem ret_bool{a b:Bool}(h:a=b):Ending.returned (.bool a)=.returned (.bool b):=by rw[h]
set_option maxHeartbeats 400000 in
theorem clean_any(a:Int)(w:World):Calls Tryz.prog 94 #[.int .u8 a] w fun e w'=>e=.returned (.int .u8 (cln a))∧w=w':=by
 by_cases h:3<a
 ·have hc:cln a=2:=by simp[cln,h]
  rw[hc]
  go_enter Tryz.func94,Tryz.ntmps94
  go_wp2
  go_ret
  exact⟨rfl,rfl⟩
 ·have hc:cln a=a:=by simp[cln,h]
  rw[hc]
  go_enter Tryz.func94,Tryz.ntmps94
  go_wp2
  go_ret
  exact⟨rfl,rfl⟩
theorem named{α:Type}(x:α):∃y,Hid (y=x):=⟨x,Lib.hid rfl⟩
set_option maxHeartbeats 400000 in
theorem known_any(a:Int)(w:World):Calls Tryz.prog 29 #[.int .u8 a] w fun e w'=>e=.returned (.bool (knw a))∧w=w':=by
 obtain⟨x,HX⟩:=named (knw a)
 rw[←HX.out]
 go_enter Tryz.func29,Tryz.ntmps29
 go_wp2
 all_goals go_ret
 all_goals exact⟨ret_bool (by rw[HX.out];simp[knw, *]),rfl⟩
set_option maxHeartbeats 400000 in
theorem read_any(a:Int)(w:World):Calls Tryz.prog 112 #[.int .u8 a] w fun e w'=>e=.returned (.int .u8 (rd a))∧w=w':=by
 cases h:knw a
 all_goals
  obtain⟨x,HX⟩:=named (rd a)
  rw[←HX.out]
  go_enter Tryz.func112,Tryz.ntmps112
  go_wp2_with (go_at_call 29;refine (known_any _ _).mono ?_;rintro e w' ⟨rfl,rfl⟩)
  go_ret
  exact⟨ret_int (by rw[HX.out];simp[rd,h]),rfl⟩
set_option maxHeartbeats 400000 in
theorem not_any(a:Int)(w:World):Calls Tryz.prog 113 #[.int .u8 a] w fun e w'=>e=.returned (.int .u8 (nt a))∧w=w':=by
 rcases rd_cases a with h|h|h
 all_goals
  obtain⟨x,HX⟩:=named (nt a)
  rw[←HX.out]
  go_enter Tryz.func113,Tryz.ntmps113
  go_wp2_with (go_at_call 112;refine (read_any _ _).mono ?_;rintro e w' ⟨rfl,rfl⟩)
  go_ret
  exact⟨ret_int (by rw[HX.out];simp[nt,h]),rfl⟩
set_option maxHeartbeats 400000 in
theorem tri_any(a b:Int)(w:World):Calls Tryz.prog 118 #[.int .u8 a,.int .u8 b] w fun e w'=>e=.returned (.int .u8 (tr a b))∧w=w':=by
 rcases rd_cases a with h|h|h
 all_goals
  obtain⟨x,HX⟩:=named (tr a b)
  rw[←HX.out]
  go_enter Tryz.func118,Tryz.ntmps118
  go_wp2_with (go_at_call 112;refine (read_any _ _).mono ?_;rintro e w' ⟨rfl,rfl⟩)
  go_ret
  exact⟨ret_int (by rw[HX.out];simp[tr,h]),rfl⟩
set_option maxHeartbeats 400000 in
theorem mux_any(s a b:Int)(w:World):Calls Tryz.prog 117 #[.int .u8 s,.int .u8 a,.int .u8 b] w fun e w'=>e=.returned (.int .u8 (mx s a b))∧w=w':=by
 rcases rd_cases s with h|h|h
 ·obtain⟨x,HX⟩:=named (mx s a b)
  rw[←HX.out]
  go_enter Tryz.func117,Tryz.ntmps117
  go_wp2_with (go_at_call 112;refine (read_any _ _).mono ?_;rintro e w' ⟨rfl,rfl⟩)
  go_ret
  exact⟨ret_int (by rw[HX.out];simp[mx,h]),rfl⟩
 ·obtain⟨x,HX⟩:=named (mx s a b)
  rw[←HX.out]
  go_enter Tryz.func117,Tryz.ntmps117
  go_wp2_with (go_at_call 112;refine (read_any _ _).mono ?_;rintro e w' ⟨rfl,rfl⟩)
  go_ret
  exact⟨ret_int (by rw[HX.out];simp[mx,h]),rfl⟩
 ·rcases rd_cases a with ha|ha|ha<;>rcases rd_cases b with hb|hb|hb
  all_goals
   obtain⟨x,HX⟩:=named (mx s a b)
   rw[←HX.out]
   go_enter Tryz.func117,Tryz.ntmps117
   go_wp2_with (go_at_call 112;refine (read_any _ _).mono ?_;rintro e w' ⟨rfl,rfl⟩)
   go_ret
   exact⟨ret_int (by rw[HX.out];simp[mx,h,ha,hb]),rfl⟩
end Go.Proofs.YtemjmfpcopfdbaaGreatDoor.Lg
