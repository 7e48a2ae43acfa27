/- The texts Kre Kdr Kob. -/
import Derived.Test.YtjdjcaobkmpoeaaDoorM14
import Derived.StillTailTactics
import Derived.Laws.EntriesVeiled
import Derived.Test.YtjdjcaobkmpoeaaDoorM13
namespace Go.Proofs.YtjdjcaobkmpoeaaDoor
open Go.RowKit
def NxR(V:World)(g bn on n:Nat)(nx:Nat→List Int):Prop:=bn<g∧∀i,i<n→∃Ai ci,V.cell? ⟨bn,on+i,none⟩=some (.slice Ai (nx i).length ci)∧Is V g (.slice Ai (nx i).length ci) (nx i)
def VisB(V:World)(g q3 q5 q6:Nat)(bn on n cn:Nat)(W:World):Prop:=Below g V W∧W.cell? ⟨q5,0,none⟩=some (.slice (some ⟨g,0,none⟩) n n)∧W.cell? ⟨q6,0,none⟩=some (.func (.func 54) #[] #[.pointer (some ⟨q5,0,none⟩),.pointer (some ⟨q6,0,none⟩),.pointer (some ⟨q3,0,none⟩)])∧W.cell? ⟨q3,0,none⟩=some (.slice (some ⟨bn,on,none⟩) n cn)
theorem VisB.set{V W:World}{g q3 q5 q6 bn on n cn:Nat}(h:VisB V g q3 q5 q6 bn on n cn W)(h5:q5≠g)(h6:q6≠g)(h3:q3≠g)(j:Nat)(x:Value):VisB V g q3 q5 q6 bn on n cn (W.setCell ⟨g,j,none⟩ x):=by
 obtain⟨a,b,c,d⟩:=h
 refine⟨a.setCell (p:=⟨g,j,none⟩) (Nat.le_refl _) _,?_,?_,?_⟩
 ·rw[World.cell?_setCell_other _ _ _ _ fun e=>h5 (congrArg Addr.block e).symm];exact b
 ·rw[World.cell?_setCell_other _ _ _ _ fun e=>h6 (congrArg Addr.block e).symm];exact c
 ·rw[World.cell?_setCell_other _ _ _ _ fun e=>h3 (congrArg Addr.block e).symm];exact d
set_option maxRecDepth 100000 in
set_option maxHeartbeats 4000000 in
theorem visit_any(V:World)(g q3 q5 q6 bn on n cn:Nat)(nx:Nat→List Int)(hnx:NxR V g bn on n nx)(hin:∀j,Inr n (nx j))(h5:q5≠g)(h6:q6≠g)(h3:q3≠g):
 ∀(m:Nat) (R:List Bool) (l:List Int) (s:Value) (w:World),fls R=m→R.length=n→Is V g s l→Inr n l→VisB V g q3 q5 q6 bn on n cn w→BRow w g R→
  Calls Tryd.prog 54 #[s,.pointer (some ⟨q5,0,none⟩),.pointer (some ⟨q6,0,none⟩),.pointer (some ⟨q3,0,none⟩)] w fun e w'=>e=.returned (.tuple #[])∧∃R',Vis nx n R l R'∧BRow w' g R'∧VisB V g q3 q5 q6 bn on n cn w':=by
 intro m
 induction m using Nat.strongRecOn with
 |ind m ih=>
  intro R l s w hm hR hs hl hV hB
  obtain⟨A,b,o,c,rfl,hA,-,hml,hc⟩:=hs.opens
  unfold maxLen at hml
  obtain⟨k0,hk0⟩:∃k,k=l.length:=⟨_,rfl⟩
  rw[←hk0]at hA hml hc
  rw[←hk0]
  have HN:=Lib.hid hk0
  have HAA:=Lib.hid hA
  have HC:=Lib.hid hc
  have HL:Hid (∀k,k<k0→∃x:Nat,x<n∧l.getD k 0=(x:Int)):=Lib.hid fun k hk=>by
   have h1:=hl (l.getD k 0) (by rw[List.getD_eq_getElem?_getD,List.getElem?_eq_getElem (by omega)];exact List.getElem_mem _)
   exact⟨(l.getD k 0).toNat,by omega,by omega⟩
  have HIH:Hid (∀(R':List Bool) (x:Nat) (w':World),fls R'<m→R'.length=n→x<n→VisB V g q3 q5 q6 bn on n cn w'→BRow w' g R'→∃Ai ci li,w'.cell? ⟨bn,on+x,none⟩=some (.slice Ai li ci)∧
   Calls Tryd.prog 54 #[.slice Ai li ci,.pointer (some ⟨q5,0,none⟩),.pointer (some ⟨q6,0,none⟩),.pointer (some ⟨q3,0,none⟩)] w' fun e w2=>e=.returned (.tuple #[])∧∃R2,Vis nx n R' (nx x) R2∧BRow w2 g R2∧VisB V g q3 q5 q6 bn on n cn w2):=Lib.hid fun R' x w' h1 h2 h3' h4 h5'=>by
   obtain⟨Ai,ci,e1,e2⟩:=hnx.2 x h3'
   exact⟨Ai,ci,_,(h4.1.cell (p:=⟨bn,on+x,none⟩) hnx.1).trans e1,ih _ h1 R' (nx x) _ w' rfl h2 e2 (hin x) h4 h5'⟩
  have HTK:Hid (∀k,k<k0→l.take (k+1)=l.take k++[l.getD k 0]):=Lib.hid fun k hk=>by
   rw[List.take_succ_eq_append_getElem (by omega),List.getD_eq_getElem?_getD,List.getElem?_eq_getElem (by omega)];rfl
  have HS0:Hid (∃R1,Vis nx n R (l.take 0) R1∧BRow w g R1):=Lib.hid ⟨R,Vis.nil hR,hB⟩
  have HV0:=Lib.hid hV
  have HM:Hid (∀R1,R1.length=n→(∀j,bat R j=true→bat R1 j=true)→∀x,x<n→bat R1 x=false→fls (R1.set x true)<m):=Lib.hid fun R1 e1 e2 x e3 e4=>by
   have g1:=fls_mono (R:=R) (R':=R1) (by rw[e1,hR]) e2
   have g2:=fls_set (R:=R1) (i:=x) (by omega) e4
   omega
  have HLT:Hid (l.take k0=l):=Lib.hid (by rw[hk0];exact List.take_length)
  clear ih hm hR hs hl hV hB hA hc hk0 hnx hin
  go_enter Tryd.func54,Tryd.ntmps54
  go_wp2
  go_loopw [9] (fun i wr=>∃(k:Nat) (R1:List Bool),k≤k0∧i=.int .i64 k∧Hid (VisB V g q3 q5 q6 bn on n cn wr)∧Hid (BRow wr g R1)∧Hid (Vis nx n R (l.take k) R1)) (fun i _=>k0-(intOf i).toNat)
  case atStart=>
   obtain⟨R1,e1,e2⟩:=HS0.out
   exact⟨0,R1,Nat.zero_le _,rfl,Lib.hid HV0.out,Lib.hid e2,Lib.hid e1⟩
  case round=>
   clear HS0 HV0
   obtain⟨k,R1,hk,rfl,HV,HB,HS⟩:=hrel
   by_cases hlt:k<k0
   ·have hk2:(k:Int)<(k0:Int):=by omega
    obtain rfl:=HAA.out (by omega)
    obtain⟨x,hx,hxe⟩:=HL.out k hlt
    have hcc:=HC.out k hlt
    have e1:wr.cell? ⟨b,o+k,none⟩=some (.int .i64 (x:Int)):=by rw[←hxe];exact (HV.out.1.cell (p:=⟨b,o+k,none⟩) hcc.1).trans hcc.2
    have HXE:=Lib.hid hxe
    have hx2:(x:Int)<(n:Int):=by omega
    obtain⟨-,y5,y6,y3⟩:=HV.out
    have hlen:R1.length=n:=HS.out.len
    obtain⟨t,HT⟩:=named (bat R1 x)
    have e2:wr.cell? ⟨g,x,none⟩=some (.bool t):=HB.out.cell (by rw[HT.out,List.getElem?_eq_getElem (by omega)];unfold bat;rw[List.getD_eq_getElem?_getD,List.getElem?_eq_getElem (by omega)];rfl)
    have e3:=HB.out.frozen x
    clear hcc hxe
    cases t
    ·obtain⟨W1,HW1⟩:=named (wr.setCell ⟨g,x,none⟩ (.bool true))
     have hV1:VisB V g q3 q5 q6 bn on n cn W1:=by rw[HW1.out];exact HV.out.set h5 h6 h3 x _
     have hB1:BRow W1 g (R1.set x true):=by rw[HW1.out];exact HB.out.set x true
     obtain⟨Ai,ci,li,e4,hcall⟩:=HIH.out (R1.set x true) x W1.drew (HM.out R1 hlen HS.out.mono x hx HT.out.symm) (by rw[List.length_set];exact hlen) hx ⟨Below.drew hV1.1,hV1.2⟩ hB1
     have e4:W1.cell? ⟨bn,on+x,none⟩=some (.slice Ai li ci):=e4
     have HCALL:=Lib.hid hcall
     have HGO:Hid (∀R2,Vis nx n (R1.set x true) (nx x) R2→Vis nx n R (l.take (k+1)) R2):=Lib.hid fun R2 h=>by
      rw[HTK.out k hlt,HXE.out]
      exact HS.out.go (by omega) hx2 (by rw[Int.toNat_natCast];exact HT.out.symm) (by rw[Int.toNat_natCast];exact h)
     have HV1:=Lib.hid hV1
     obtain⟨-,z5,z6,z3⟩:=hV1
     clear hcall hB1 hlen HT
     go_upto_region 5 with (fail)
     rw[←HW1.out]
     clear y5 y6 y3 e1 e2 e3 HW1
     go_still_tail 5,(by kernel_rfl)
     go_wp2_with (go_at_call 54;(with_reducible refine HCALL.out.mono ?_);rintro e w2 ⟨rfl,R2,h1,h2,h3'⟩;have H1:=Lib.hid h1;have H2:=Lib.hid h2;have H3:=Lib.hid h3';clear h1 h2 h3')
     go_roundw
     case rel=>exact⟨k+1,R2,by omega,by go_num,Lib.hid H3.out,Lib.hid H2.out,Lib.hid (HGO.out R2 H1.out)⟩
     case measure=>simp[intOf];omega
    ·have HGO:Hid (Vis nx n R (l.take (k+1)) R1):=Lib.hid (by
      rw[HTK.out k hlt,HXE.out]
      exact HS.out.skip (by rw[Int.toNat_natCast];exact HT.out.symm))
     clear hlen HT
     go_wp2
     go_roundw
     case rel=>exact⟨k+1,R1,by omega,by go_num,HV,HB,HGO⟩
     case measure=>simp[intOf];omega
   ·obtain rfl:k0=k:=by omega
    have HS2:Hid (Vis nx n R l R1):=Lib.hid (by have:=HS.out;rw[HLT.out]at this;exact this)
    go_wp2
    go_end0
    exact⟨rfl,R1,HS2.out,HB.out,HV.out⟩
set_option maxRecDepth 100000 in
set_option maxHeartbeats 4000000 in
theorem reach_any(l:List Int)(s:Value)(bn on n cn:Nat)(nx:Nat→List Int)(w:World)(hs:Is w w.heap.size s l)(hl:Inr n l)(hnx:NxR w w.heap.size bn on n nx)(hin:∀j,Inr n (nx j))(hn:n≤1000000):
 Calls Tryd.prog 27 #[s,.slice (some ⟨bn,on,none⟩) n cn] w fun e w'=>∃g R,e=.returned (.slice (some ⟨g,0,none⟩) n n)∧BRow w' g R∧Vis nx n (List.replicate n false) l R∧BelW w w':=by
 obtain⟨W1,HW1⟩:=named (w.alloc (.cells #[.slice (some ⟨bn,on,none⟩) n cn] 58))
 have hb1:BelW w W1:=by rw[HW1.out];exact below_new (Below.refl _ _) _
 have hf:Fr W1 w.heap.size 58 [.slice (some ⟨bn,on,none⟩) n cn]:=by rw[HW1.out];exact Fr.made _ _ _ rfl
 have hz1:W1.heap.size=w.heap.size+1:=by rw[HW1.out];simp
 have hs1:Is W1 W1.heap.size s l:=(hs.below hb1).more (Below.size hb1)
 have hnx1:NxR W1 W1.heap.size bn on n nx:=⟨by have:=hnx.1;omega,fun i hi=>by
  obtain⟨Ai,ci,e1,e2⟩:=hnx.2 i hi
  exact⟨Ai,ci,(hb1.cell (p:=⟨bn,on+i,none⟩) hnx.1).trans e1,(e2.below hb1).more (Below.size hb1)⟩⟩
 obtain⟨g,HG⟩:=named W1.heap.size
 rw[←HG.out]at hs1 hnx1 hz1
 obtain⟨q3,HQ⟩:=named w.heap.size
 rw[←HQ.out]at hf hz1
 have x0:=hf.cell 0
 have HS1:=Lib.hid hs1
 have HNX:=Lib.hid hnx1
 have HB1:=Lib.hid hb1
 have HF:=Lib.hid hf
 obtain⟨i0,hi,hz0,hz1',hz2⟩:=info_parts info_bool
 have HI:=Lib.hid (And.intro hi (And.intro hz0 (And.intro hz1' hz2)))
 have HQ2:=Lib.hid HQ.out
 have HG2:=Lib.hid HG.out
 have HZ1:=Lib.hid hz1
 clear hz1 hi hz0 hz1' hz2 hs hnx hs1 hnx1 hb1 hf
 go_enter Tryd.func27,Tryd.ntmps27
 go_upto_region 1 with (fail)
 rw[←HW1.out,←HQ2.out]
 go_upto_region 2 with (at_make;refine wpList_make_full _ rfl _ _ 41 rfl W1.heap.size 4 i0 (.bool false) 1 Tryd.underlying41 HI.out.1 HI.out.2.1 HI.out.2.2.1 .i64 .i64 _ _ n rfl rfl rfl rfl ?b2 ?b3 ?b4 ?_)
 case b2=>rw[HI.out.2.2.2];omega
 case b3=>unfold maxLen;omega
 case b4=>exact Nat.le_refl _
 intro w2 hown hgr
 rw[made_false]at hown
 rw[←HG2.out]at hown
 have hR:BRow w2 g (List.replicate n false):=by unfold BRow;rw[List.length_replicate];exact hown
 have hb2:BelW W1 w2:=(Below.refl _ _).grown hgr (Nat.le_refl _) (fun k h=>by cases h)
 have hgl:g<w2.heap.size:=hR.lt
 rw[←HG2.out]
 clear hown hgr
 go_upto_region 4 with (fail)
 obtain⟨q5,HQ5⟩:=named w2.heap.size
 rw[←HQ5.out]at hgl
 rw[←HQ5.out]
 obtain⟨W3,HW3⟩:=named ((w2.alloc (.cells #[.slice (some ⟨g,0,none⟩) n n] 41)).alloc (.cells #[.func (.func 54) #[] #[.pointer (some ⟨q5,0,none⟩),.pointer (some ⟨q5+1,0,none⟩),.pointer (some ⟨q3,0,none⟩)]] 86))
 have hb3:BelW w2 W3:=by rw[HW3.out];exact below_new (below_new (Below.refl _ _) _) _
 have hf5:Fr W3 q5 41 [.slice (some ⟨g,0,none⟩) n n]:=by rw[HW3.out];exact Fr.alloc (Fr.made _ _ _ HQ5.out) _
 have hf6:Fr W3 (q5+1) 86 [.func (.func 54) #[] #[.pointer (some ⟨q5,0,none⟩),.pointer (some ⟨q5+1,0,none⟩),.pointer (some ⟨q3,0,none⟩)]]:=by rw[HW3.out];exact Fr.made _ _ _ (by rw[HQ5.out];simp)
 have hf3:=(HF.out.below hb2).below hb3
 have hV:VisB W1 g q3 q5 (q5+1) bn on n cn W3:=⟨by rw[HG2.out];exact joinB hb2 hb3,hf5.cell 0,hf6.cell 0,hf3.cell 0⟩
 have hR3:BRow W3 g (List.replicate n false):=hR.below hb3
 have hz:=HZ1.out
 have HCALL:=Lib.hid (visit_any W1 g q3 q5 (q5+1) bn on n cn nx HNX.out hin (by omega) (by omega) (by omega) _ (List.replicate n false) l s W3 rfl (List.length_replicate) HS1.out hl hV hR3)
 obtain⟨-,y5,y6,y3⟩:=hV
 rw[←HW3.out]
 clear hR hb2 hgl hb3 hf5 hf6 hf3 hR3 hz hin hl x0 HQ5
 go_wp2_with (go_at_call 54;(with_reducible refine HCALL.out.mono ?_);rintro e w4 ⟨rfl,R',h1,h2,h3⟩;have H1:=Lib.hid h1;have H2:=Lib.hid h2;have H3:=Lib.hid h3;obtain⟨-,z5,-,-⟩:=h3;clear h1 h2 y5 y6 y3)
 go_ret
 exact⟨g,R',rfl,H2.out,H1.out,joinB HB1.out (by have:=H3.out.1;rw[HG2.out]at this;exact this)⟩
def SRw(w:World)(g n:Nat)(vs:List Value):Prop:=w.ownsRow g 25 1 (.slice (some ⟨g,0,none⟩) n n) n vs
theorem SRw.below{w w':World}{g n:Nat}{vs:List Value}(h:SRw w g n vs)(hb:Below w.heap.size w w'):SRw w' g n vs:=
 World.ownsRow.kept h (row:=none) ⟨hb.os,hb.tape,hb.output,hb.size,fun i hi _=>hb.block i hi⟩ (.inr (by simp[Value.ownBlock]))
theorem SRw.lt{w:World}{g n:Nat}{vs:List Value}(h:SRw w g n vs):g<w.heap.size:=(World.ownsRow.lt h g rfl).2
theorem SRw.len{w:World}{g n:Nat}{vs:List Value}(h:SRw w g n vs):vs.length=n:=by have:=h.1;rwa [Nat.mul_one]at this
theorem info_isl:(Tryd.prog.info? 25).map (fun i=>(i.zero,i.size,i.bytes))=some (some (.slice none 0 0),1,24):=by kernel_rfl
theorem made_nils(n:Nat):(madeCells #[Value.slice none 0 0] n).toList=List.replicate n (.slice none 0 0):=by
 apply List.ext_getElem?
 intro j
 by_cases hj:j<n
 ·simp[madeCells,hj,Nat.mod_one]
 ·rw[List.getElem?_eq_none (by simp[madeCells];omega),List.getElem?_eq_none (by simp;omega)]
theorem Is.nil0(w:World)(B:Nat):Is w B (.slice none 0 0) []:=⟨none,0,0,0,rfl,fun h=>absurd h (by decide),Nat.le_refl _,by decide,fun k hk=>absurd hk (Nat.not_lt_zero k)⟩
theorem own_frC{w:World}{base:Nat}{e:TypeId}{size g n:Nat}{xs:List Value}(h:w.ownsRow base e size (.slice (some ⟨g,0,none⟩) n n) n xs):Fr w g e xs:=by
 obtain⟨h1,h2⟩:=h
 rcases h2 with⟨e',-⟩| ⟨g',cap,cur,e',hb,hg,hle,hm,hs,ht⟩
 ·cases e'
 ·simp only[Value.slice.injEq,Option.some.injEq,Addr.mk.injEq,and_true,true_and]at e'
  obtain⟨rfl,rfl⟩:=e'
  have hc:cur=xs.toArray:=by
   apply Array.ext'
   rw[←ht,List.take_of_length_le (by rw[Array.length_toList];omega)]
  rw[hc]at hg
  exact hg
def DrvS(nodes:List Nd)(w:World)(n k:Nat)(vs:List Value):Prop:=∀j,j<n→(j<k→∃A c,vs[j]? =some (.slice A (dep nodes (j:Int)).length c)∧Is w w.heap.size (.slice A (dep nodes (j:Int)).length c) (dep nodes (j:Int)))∧(k≤j→vs[j]? =some (.slice none 0 0))
theorem DrvS.skip{nodes:List Nd}{w:World}{n k:Nat}{vs:List Value}(h:DrvS nodes w n k vs)(hk:dep nodes (k:Int)=[]):DrvS nodes w n (k+1) vs:=fun j hj=>by
 refine⟨fun hjk=>?_,fun hjk=>(h j hj).2 (by omega)⟩
 by_cases e:j=k
 ·subst e
  have h2:=(h j hj).2 (Nat.le_refl _)
  rw[hk]
  exact⟨_,_,h2,Is.nil0 w _⟩
 ·exact (h j hj).1 (by omega)
theorem DrvS.put{nodes:List Nd}{w:World}{n k:Nat}{vs:List Value}(h:DrvS nodes w n k vs)(hl:vs.length=n)(hk:k<n){A:Option Addr}{m c:Nat}(hm:m=(dep nodes (k:Int)).length)(hs:Is w w.heap.size (.slice A m c) (dep nodes (k:Int))):DrvS nodes w n (k+1) (vs.set k (.slice A m c)):=fun j hj=>by
 subst hm
 refine⟨fun hjk=>?_,fun hjk=>?_⟩
 ·by_cases e:j=k
  ·subst e
   exact⟨A,c,by rw[List.getElem?_set,if_pos rfl,if_pos (by omega)],hs⟩
  ·obtain⟨A',c',e1,e2⟩:=(h j hj).1 (by omega)
   exact⟨A',c',by rw[List.getElem?_set,if_neg (fun e'=>e e'.symm)];exact e1,e2⟩
 ·rw[List.getElem?_set,if_neg (by omega)]
  exact (h j hj).2 (by omega)
set_option maxRecDepth 100000 in
set_option maxHeartbeats 4000000 in
theorem drivers_own(c:Ck)(v:Value)(w:World)(hc:Cir w w.heap.size v c)(hsz:c.nodes.length≤1000000):
 Calls Tryd.prog 28 #[v] w fun e w'=>∃g,e=.returned (.slice (some ⟨g,0,none⟩) c.nodes.length c.nodes.length)∧NxR w' w'.heap.size g 0 c.nodes.length (fun j=>dep c.nodes (j:Int))∧BelW w w'∧∃xs,Fr w' g 25 xs:=by
 obtain⟨v0,v1,v2,v3,rfl,hns,hss,hms,hos⟩:=hc
 obtain⟨A0,b,o,c0,rfl,hA,-,-,hcell⟩:=id hns
 obtain⟨A1,b1,o1,c1,rfl,-⟩:=id hss
 obtain⟨A2,b2,o2,c2,rfl,-⟩:=id hms
 obtain⟨A3,b3,o3,c3,rfl,-⟩:=id hos
 have HCE:=Lib.hid hcell
 have HAA:=Lib.hid hA
 clear hns hss hms hos hcell hA
 generalize c.names.length=n1
 generalize c.mems.length=n2
 generalize c.outs.length=n3
 obtain⟨n,HN⟩:=named c.nodes.length
 rw[←HN.out]at hsz
 rw[←HN.out]
 obtain⟨W1,HW1⟩:=named (w.alloc (.cells #[.slice A0 n c0,.slice A1 n1 c1,.slice A2 n2 c2,.slice A3 n3 c3] 27))
 have hb1:BelW w W1:=by rw[HW1.out];exact below_new (Below.refl _ _) _
 have hf:Fr W1 w.heap.size 27 [.slice A0 n c0,.slice A1 n1 c1,.slice A2 n2 c2,.slice A3 n3 c3]:=by rw[HW1.out];exact Fr.made _ _ _ rfl
 obtain⟨q,HQ⟩:=named w.heap.size
 rw[←HQ.out]at hf
 obtain⟨g,HG⟩:=named W1.heap.size
 have hqg:q<g:=by rw[HG.out,HQ.out,HW1.out];simp
 have HF:=Lib.hid hf
 have HB1:=Lib.hid hb1
 have HQ2:=Lib.hid HQ.out
 have HG2:=Lib.hid HG.out
 have HQG:=Lib.hid hqg
 obtain⟨x0,x1,x2,x3⟩:_∧_∧_∧_:=⟨hf.cell 0,hf.cell 1,hf.cell 2,hf.cell 3⟩
 obtain⟨i0,hi,hz0,hz1',hz2⟩:=info_parts info_isl
 have HI:=Lib.hid (And.intro hi (And.intro hz0 (And.intro hz1' hz2)))
 clear hi hz0 hz1' hz2 hb1 hf hqg
 go_enter Tryd.func28,Tryd.ntmps28
 go_upto_region 1 with (fail)
 rw[←HW1.out,←HQ2.out]
 go_upto_region 2 with (at_make;refine wpList_make_full _ rfl _ _ 58 rfl W1.heap.size 25 i0 (.slice none 0 0) 1 Tryd.underlying58 HI.out.1 HI.out.2.1 HI.out.2.2.1 .i64 .i64 _ _ n rfl rfl rfl rfl ?b2 ?b3 ?b4 ?_)
 case b2=>rw[HI.out.2.2.2];omega
 case b3=>unfold maxLen;omega
 case b4=>exact Nat.le_refl _
 intro w2 hown hgr
 rw[made_nils]at hown
 rw[←HG2.out]at hown
 have hb2:BelW W1 w2:=(Below.refl _ _).grown hgr (Nat.le_refl _) (fun k h=>by cases h)
 have HR2:Hid (SRw w2 g n (List.replicate n (.slice none 0 0))):=Lib.hid hown
 have HB2:=Lib.hid hb2
 rw[←HG2.out]
 have hf2:=HF.out.below hb2
 replace x0:=hf2.cell 0
 replace x1:=hf2.cell 1
 replace x2:=hf2.cell 2
 replace x3:=hf2.cell 3
 clear hown hgr hb2 hf2
 go_wp2
 go_loopw [13] (fun i wr=>∃(k:Nat) (vs:List Value),k≤n∧i=.int .i64 k∧Hid (SRw wr g n vs)∧Hid (DrvS c.nodes w n k vs)∧Hid (Below g W1 wr)) (fun i _=>n-(intOf i).toNat)
 case atStart=>exact⟨0,_,Nat.zero_le _,rfl,Lib.hid HR2.out,Lib.hid fun j hj=>⟨fun h=>absurd h (Nat.not_lt_zero j),fun _=>by simp[hj]⟩,Lib.hid (by rw[HG2.out];exact HB2.out)⟩
 case round=>
  clear HR2 HB2 x0 x1 x2 x3
  obtain⟨k,vs,hk,rfl,HR,HD,HB⟩:=hrel
  by_cases hlt:k<n
  ·have hk2:(k:Int)<(n:Int):=by omega
   obtain rfl:=HAA.out (by rw[←HN.out];omega)
   obtain⟨hlb,s,h0,h1,h2,h3,h4,h5,-⟩:=HCE.out k (by rw[←HN.out];exact hlt)
   obtain⟨A4,b4,o4,c4,rfl,-⟩:=id h4
   have hbw:∀p:Addr,p.block<w.heap.size→wr.cell? p=w.cell? p:=fun p hp=>(HB.out.cell (p:=p) (by have:=HQG.out;have:=HQ2.out;omega)).trans (HB1.out.cell hp)
   have e0:=(hbw ⟨b,o+k*4,none⟩ hlb).trans h0
   have e1:=(hbw ⟨b,o+k*4+1,none⟩ hlb).trans h1
   have e2:=(hbw ⟨b,o+k*4+2,none⟩ hlb).trans h2
   have e3:=(hbw ⟨b,o+k*4+3,none⟩ hlb).trans h3
   have hq:∀j,wr.cell? ⟨q,j,none⟩=W1.cell? ⟨q,j,none⟩:=fun j=>HB.out.cell (p:=⟨q,j,none⟩) HQG.out
   have x0:=(hq 0).trans (HF.out.cell 0)
   have x1:=(hq 1).trans (HF.out.cell 1)
   have x2:=(hq 2).trans (HF.out.cell 2)
   have x3:=(hq 3).trans (HF.out.cell 3)
   have HIN:Hid (Is w w.heap.size (.slice A4 (c.nodes.getD k default).ins.length c4) (c.nodes.getD k default).ins):=Lib.hid h4
   have HDP:Hid (dep c.nodes (k:Int)=if cmb (c.nodes.getD k default).kind=true then (c.nodes.getD k default).ins else []):=Lib.hid (by unfold dep depsOf;rw[Int.toNat_natCast])
   clear h0 h1 h2 h3 h4 hbw hq
   obtain⟨ins,HINS⟩:=named (c.nodes.getD k default).ins
   rw[←HINS.out]at e1 HIN HDP
   obtain⟨ni,HNI⟩:=named ins.length
   rw[←HNI.out]at e1 HIN
   generalize (c.nodes.getD k default).mem=mm at e2
   generalize (c.nodes.getD k default).bit=bt at e3
   obtain⟨kd,HKD⟩:=named (c.nodes.getD k default).kind
   rw[←HKD.out]at e0 h5 HDP
   have hcm:=comb_any kd
   have hlg:g<wr.heap.size:=HR.out.lt
   have hfz:wr.frozen? ⟨g,k,none⟩=false:=World.ownsRow.frozenAt HR.out k
   have hcl:∃u,wr.cell? ⟨g,k,none⟩=some u:=⟨_,by rw[World.ownsRow.cellAt HR.out k (by omega),List.getElem?_eq_getElem (by rw[HR.out.len];exact hlt)]⟩
   obtain⟨u,e4⟩:=hcl
   obtain⟨V,HV⟩:=named (wr.alloc (.cells #[.int .u8 kd,.slice A4 ni c4,.int .i64 mm,.int .i64 bt] 57))
   have hbV:BelW wr V:=by rw[HV.out];exact below_new (Below.refl _ _) _
   have hfV:Fr V wr.heap.size 57 [.int .u8 kd,.slice A4 ni c4,.int .i64 mm,.int .i64 bt]:=by rw[HV.out];exact Fr.made _ _ _ rfl
   have HRV:Hid (SRw V g n vs):=Lib.hid (HR.out.below hbV)
   have HBV:Hid (Below g W1 V):=Lib.hid (HB.out.trans (hbV.mono (by omega)))
   obtain⟨p,HP⟩:=named wr.heap.size
   rw[←HP.out]at hfV
   have y0:=hfV.cell 0
   have y1:=hfV.cell 1
   have y2:=hfV.cell 2
   have y3:=hfV.cell 3
   have hzV:V.frozen? ⟨g,k,none⟩=false:=World.ownsRow.frozenAt HRV.out k
   have e5:V.cell? ⟨g,k,none⟩=some u:=(hbV.cell (p:=⟨g,k,none⟩) hlg).trans e4
   clear hbV hfV HKD HINS
   go_upto_region 5 with (fail)
   rw[←HV.out,←HP.out]
   clear e0 e1 e2 e3 x0 x1 x2 x3 HV HP hfz e4 hlg
   cases hv:cmb kd
   ·rw[hv]at hcm
    have HCM:=Lib.hid hcm
    have HNX:Hid (DrvS c.nodes w n (k+1) vs):=Lib.hid (HD.out.skip (by rw[HDP.out,hv];rfl))
    clear hcm hv
    go_wp2_with (go_at_call 44;(with_reducible refine (HCM.out _).mono ?_);rintro e w' ⟨rfl,rfl⟩)
    go_roundw
    case rel=>exact⟨k+1,vs,by omega,by go_num,HRV,HNX,HBV⟩
    case measure=>simp[intOf];omega
   ·rw[hv]at hcm
    have HCM:=Lib.hid hcm
    have HNX:Hid (DrvS c.nodes w n (k+1) (vs.set k (.slice A4 ni c4))):=Lib.hid (HD.out.put HR.out.len hlt (by rw[HDP.out,hv,if_pos rfl];exact HNI.out) (by rw[HDP.out,hv,if_pos rfl];exact HIN.out))
    clear hcm hv
    go_wp2_with (go_at_call 44;(with_reducible refine (HCM.out _).mono ?_);rintro e w' ⟨rfl,rfl⟩)
    go_roundw
    case rel=>exact⟨k+1,_,by omega,by go_num,Lib.hid (World.ownsRow.stored HRV.out k _).1,HNX,Lib.hid (HBV.out.setCell (p:=⟨g,k,none⟩) (Nat.le_refl _) _)⟩
    case measure=>simp[intOf];omega
  ·obtain rfl:n=k:=by omega
   go_wp2
   go_ret
   have hbb:BelW W1 wr:=by have:=HB.out;rw[HG2.out]at this;exact this
   refine⟨g,rfl,⟨HR.out.lt,fun j hj=>?_⟩,joinB HB1.out hbb,_,own_frC HR.out⟩
   obtain⟨A,ca,d1,d2⟩:=(HD.out j hj).1 hj
   exact⟨A,ca,by rw[Nat.zero_add,World.ownsRow.cellAt HR.out j (by omega)];exact d1,(d2.below (joinB HB1.out hbb)).more (Below.size (joinB HB1.out hbb))⟩
theorem drivers_any(c:Ck)(v:Value)(w:World)(hc:Cir w w.heap.size v c)(hsz:c.nodes.length≤1000000):
 Calls Tryd.prog 28 #[v] w fun e w'=>∃g,e=.returned (.slice (some ⟨g,0,none⟩) c.nodes.length c.nodes.length)∧NxR w' w'.heap.size g 0 c.nodes.length (fun j=>dep c.nodes (j:Int))∧BelW w w':=
 (drivers_own c v w hc hsz).mono fun e w' ⟨g,h1,h2,h3,_⟩=>⟨g,h1,h2,h3⟩
theorem grown_of{w w':World}(h:BelW w w')(r:Option Nat):w.grownBy w' r:=⟨h.os,h.tape,h.output,h.size,fun i hi _=>h.block i hi⟩
theorem own_frB{w:World}{base:Nat}{e:TypeId}{size g n:Nat}{xs:List Value}(h:w.ownsRow base e size (.slice (some ⟨g,0,none⟩) n n) n xs):Fr w g e xs:=by
 obtain⟨h1,h2⟩:=h
 rcases h2 with⟨e',-⟩| ⟨g',cap,cur,e',hb,hg,hle,hm,hs,ht⟩
 ·cases e'
 ·simp only[Value.slice.injEq,Option.some.injEq,Addr.mk.injEq,and_true,true_and]at e'
  obtain⟨rfl,rfl⟩:=e'
  have hc:cur=xs.toArray:=by
   apply Array.ext'
   rw[←ht,List.take_of_length_le (by rw[Array.length_toList];omega)]
  rw[hc]at hg
  exact hg
theorem BRow.not_int{w:World}{g j:Nat}{l:List Bool}{x:Int}(h:BRow w g l):w.cell? ⟨g,j,none⟩≠some (.int .i64 x):=fun e=>by
 have h1:=(own_frB h).cell j
 rw[e,List.getElem?_map]at h1
 cases h2:l[j]? with
 |none=>rw[h2]at h1;cases h1
 |some y=>rw[h2]at h1;simp at h1
theorem Is.apart{w w':World}{g:Nat}{R:List Bool}{v:Value}{l:List Int}(h:Is w w.heap.size v l)(hR:BRow w g R)(hg:w.grownBy w' (some g)):Is w' w'.heap.size v l:=by
 obtain⟨A,b,o,c,e,hA,h1,h2,hc⟩:=h
 refine⟨A,b,o,c,e,hA,h1,h2,fun k hk=>?_⟩
 obtain⟨hb,hx⟩:=hc k hk
 have hx':w.cell? ⟨b,o+k*1,none⟩=some (.int .i64 (l.getD k 0)):=hx
 have hne:b≠g:=fun e=>by subst e;exact hR.not_int hx'
 exact⟨Nat.lt_of_lt_of_le hb hg.size,hg.cell hx' fun e=>hne (by simpa using e)⟩
set_option maxRecDepth 100000 in
set_option maxHeartbeats 4000000 in
theorem mark_any(A0 A1 A2 A3:Option Addr)(n n1 n2 n3 c0 c1 c2 c3:Nat)(g q1 q3:Nat)(R:List Bool)(l:List Int)(s:Value)(w:World)(hn:n≤maxLen)(hR:BRow w g R)(hl:R.length=n)(hs:Is w w.heap.size s l)(h1:q1≠g)(h3:q3≠g)
 (y0:w.cell? ⟨q1,0,none⟩=some (.slice A0 n c0)∧w.cell? ⟨q1,1,none⟩=some (.slice A1 n1 c1)∧w.cell? ⟨q1,2,none⟩=some (.slice A2 n2 c2)∧w.cell? ⟨q1,3,none⟩=some (.slice A3 n3 c3)) (y3:w.cell? ⟨q3,0,none⟩=some (.slice (some ⟨g,0,none⟩) n n)):
 Calls Tryd.prog 57 #[s,.pointer (some ⟨q1,0,none⟩),.pointer (some ⟨q3,0,none⟩)] w fun e w'=>e=.returned (.tuple #[])∧BRow w' g (mkL n R l)∧w.grownBy w' (some g):=by
 obtain⟨A,b,o,c,rfl,hA,-,hm,hc⟩:=hs.opens
 unfold maxLen at hm
 obtain⟨k0,hk0⟩:∃k,k=l.length:=⟨_,rfl⟩
 rw[←hk0]at hA hm hc
 rw[←hk0]
 have hbg:∀k,k<k0→b≠g:=fun k hk e=>hR.not_int (by have:=(hc k hk).2;rw[e]at this;exact this)
 have HC:=Lib.hid hc
 have HAA:=Lib.hid hA
 have HBG:=Lib.hid hbg
 have HK0:=Lib.hid hk0
 have HIN:=Lib.hid (fun x W=>isnode_any A0 A1 A2 A3 n n1 n2 n3 c0 c1 c2 c3 x W hn)
 have HR:=Lib.hid hR
 have HL:=Lib.hid hl
 have HY0:=Lib.hid y0
 have HY3:=Lib.hid y3
 have HTK:Hid (∀k,k<k0→mkL n R (l.take (k+1))=mk1 n (mkL n R (l.take k)) (l.getD k 0)):=Lib.hid fun k hk=>by
  rw[List.take_succ_eq_append_getElem (by omega),mkL_snoc,List.getD_eq_getElem?_getD,List.getElem?_eq_getElem (by omega)];rfl
 have HEND:Hid (l.take k0=l):=Lib.hid (by rw[hk0];exact List.take_length)
 clear hc hA hbg hk0 hR hl y0 y3 hs
 go_enter Tryd.func57,Tryd.ntmps57
 go_wp2
 go_loopw [8] (fun i wr=>∃k:Nat,k≤k0∧i=.int .i64 k∧Hid (BRow wr g (mkL n R (l.take k)))∧Hid (w.grownBy wr (some g))) (fun i _=>k0-(intOf i).toNat)
 case atStart=>exact⟨0,Nat.zero_le _,rfl,Lib.hid HR.out,Lib.hid (grown_of (Below.refl _ _) _)⟩
 case round=>
  obtain⟨k,hk,rfl,HB,HG⟩:=hrel
  by_cases hlt:k<k0
  ·have hk2:(k:Int)<(k0:Int):=by omega
   obtain rfl:=HAA.out (by omega)
   have e0:=HG.out.cell (HC.out k hlt).2 (by simpa using HBG.out k hlt)
   have z0:=HG.out.cell HY0.out.1 (by simpa using h1)
   have z1:=HG.out.cell HY0.out.2.1 (by simpa using h1)
   have z2:=HG.out.cell HY0.out.2.2.1 (by simpa using h1)
   have z3:=HG.out.cell HY0.out.2.2.2 (by simpa using h1)
   have HTK2:=Lib.hid (HTK.out k hlt)
   obtain⟨x,HX⟩:=named (l.getD k 0)
   rw[←HX.out]at e0 HTK2
   obtain⟨R1,HR1⟩:=named (mkL n R (l.take k))
   rw[←HR1.out]at HB HTK2
   have hl1:R1.length=n:=by rw[HR1.out,mkL_len,HL.out]
   have HN1:=Lib.hid (HIN.out x wr)
   have HN2:=Lib.hid hl1
   clear hl1
   cases hv:isIdx n x
   ·rw[hv]at HN1
    have HNX:Hid (mkL n R (l.take (k+1))=R1):=Lib.hid (by rw[HTK2.out];unfold mk1;rw[if_neg fun h=>by rw[isIdx_iff.2 h]at hv;cases hv])
    clear hv
    go_wp2_with (go_at_call 30;(with_reducible refine HN1.out.mono ?_);rintro e w2 ⟨rfl,hb⟩;have HB2:=Lib.hid hb;clear hb z0 z1 z2 z3 e0)
    go_roundw
    case rel=>exact⟨k+1,by omega,by go_num,Lib.hid (by rw[HNX.out];exact HB.out.below HB2.out),Lib.hid (HG.out.trans (grown_of HB2.out _))⟩
    case measure=>simp[intOf];omega
   ·rw[hv]at HN1
    obtain⟨h0,hx2⟩:=isIdx_iff.1 hv
    obtain⟨xi,rfl⟩:=Int.eq_ofNat_of_zero_le h0
    have HNX:Hid (mkL n R (l.take (k+1))=R1.set xi true):=Lib.hid (by rw[HTK2.out];unfold mk1;rw[if_pos ⟨h0,hx2⟩,Int.toNat_natCast])
    have HW2:Hid (∀w2,BelW wr w2→w2.cell? ⟨q3,0,none⟩=some (.slice (some ⟨g,0,none⟩) n n)∧w2.frozen? ⟨g,xi,none⟩=false∧(∃u,w2.cell? ⟨g,xi,none⟩=some u)∧BRow w2 g R1):=Lib.hid fun w2 hb=>by
     have hB:=HB.out.below hb
     exact⟨(HG.out.trans (grown_of hb _)).cell HY3.out (by simpa using h3),hB.frozen xi,⟨_,hB.cell (List.getElem?_eq_getElem (by rw[HN2.out];omega))⟩,hB⟩
    clear hv h0
    go_wp2_with (go_at_call 30;(with_reducible refine HN1.out.mono ?_);rintro e w2 ⟨rfl,hb⟩;obtain⟨t0,t1,⟨u,t2⟩,t3⟩:=HW2.out w2 hb;have HB2:=Lib.hid hb;have HB3:=Lib.hid t3;clear hb z0 z1 z2 z3 e0 t3)
    go_roundw
    case rel=>exact⟨k+1,by omega,by go_num,Lib.hid (by rw[HNX.out];exact HB3.out.set xi true),Lib.hid ((HG.out.trans (grown_of HB2.out _)).trans (grown_set _ _ _ _))⟩
    case measure=>simp[intOf];omega
  ·obtain rfl:k0=k:=by omega
   have HB4:Hid (BRow wr g (mkL n R l)):=Lib.hid (by have:=HB.out;rw[HEND.out]at this;exact this)
   go_wp2
   go_end0
   exact⟨rfl,HB4.out,HG.out⟩
end Go.Proofs.YtjdjcaobkmpoeaaDoor
