/- The texts Krg Kco Krt. -/
import Derived.Test.YtjdjcaobkmpoeaaDoorM18
import Derived.Test.YtjdjcaobkmpoeaaDoorM29
import Derived.Sort.CutIn
import Derived.Test.YtjdjcaobkmpoeaaDoorM19
import Derived.LoopN
import Derived.Test.YtjdjcaobkmpoeaaDoorM21
namespace Go.Proofs.YtjdjcaobkmpoeaaDoor
open Go.RowKit
attribute [local go_sem] Oper.semAt_some
theorem backL_inv{xs:List Int}{k j:Nat}{z:Int}(h:(backL xs)[k]? =some (j,z)):xs.length=k+1+j∧z=xs.getD j 0:=by
 have hk:k<xs.length:=by
  have:=(List.getElem?_eq_some_iff.1 h).1
  rwa [backL_len]at this
 have h2:=backL_at xs (k:=k) (j:=xs.length-k-1) (by omega)
 rw[h]at h2
 simp only[Option.some.injEq,Prod.mk.injEq]at h2
 obtain⟨h3,h4⟩:=h2
 exact⟨by omega,by rw[h4,←h3]⟩
set_option maxRecDepth 100000 in
set_option maxHeartbeats 8000000 in
theorem regions_ok(c:Ck)(L:List Int)(A0 A1 A2 A3:Option Addr)(n n1 n2 n3 c0 c1 c2 c3:Nat)(w:World)(G:G5 c n L)(hT:Tabs w)(hc:Cir w w.heap.size (.agg #[.slice A0 n c0,.slice A1 n1 c1,.slice A2 n2 c2,.slice A3 n3 c3]) c):
 Calls Tryd.prog 13 #[.agg #[.slice A0 n c0,.slice A1 n1 c1,.slice A2 n2 c2,.slice A3 n3 c3]] w fun e w'=>∃g,e=.returned (.tuple #[.slice (some ⟨g,0,none⟩) n n,.int .i64 0])∧Row w' g (stemL c)∧BelW w w':=by
 obtain⟨W1,HW1⟩:=named (w.alloc (.cells #[.slice A0 n c0,.slice A1 n1 c1,.slice A2 n2 c2,.slice A3 n3 c3] 27))
 have hb1:BelW w W1:=by rw[HW1.out];exact below_new (Below.refl _ _) _
 have hfr:Fr W1 w.heap.size 27 [.slice A0 n c0,.slice A1 n1 c1,.slice A2 n2 c2,.slice A3 n3 c3]:=by rw[HW1.out];exact Fr.made _ _ _ rfl
 obtain⟨q,HQ⟩:=named w.heap.size
 rw[←HQ.out]at hfr
 have HQ2:=Lib.hid HQ.out
 have HCE:Hid (∀W,BelW W1 W→W.cell? ⟨q,0,none⟩=some (.slice A0 n c0)∧W.cell? ⟨q,1,none⟩=some (.slice A1 n1 c1)∧W.cell? ⟨q,2,none⟩=some (.slice A2 n2 c2)∧W.cell? ⟨q,3,none⟩=some (.slice A3 n3 c3)):=Lib.hid fun W h=>⟨(hfr.below h).cell 0,(hfr.below h).cell 1,(hfr.below h).cell 2,(hfr.below h).cell 3⟩
 have HC1:Hid (∀W,BelW W1 W→Cir W W.heap.size (.agg #[.slice A0 n c0,.slice A1 n1 c1,.slice A2 n2 c2,.slice A3 n3 c3]) c):=Lib.hid fun W h=>(hc.below (joinB hb1 h)).more (Below.size (joinB hb1 h))
 have hord:=(order_20 c _ W1 W1.heap.size (Nat.le_refl _) (hT.below hb1) (HC1.out W1 (Below.refl _ _)) (by rw[G.len];exact G.few)).mono (R':=fun e w'=>∃d O,e=.returned (.tuple #[.slice (some ⟨d,0,none⟩) n n,.int .i64 0])∧Row w' d O∧Ord5 L n O∧BelW W1 w') fun e w' ⟨h1,h2⟩=>by
  rcases h2 with⟨-,-,L',R,d,h3,-,h4,-,h6,h7⟩| ⟨h3,-⟩
  ·rw[h3.unique G.wf G.lvl,G.len]at h4
   rw[G.len]at h6
   exact⟨d,R,h6,h7,ord5_of h4 G.bnd,h1⟩
  ·exact absurd G.ok h3
 have HORD:=Lib.hid hord
 have hobs:∀B W,BelW W1 W→Calls Tryd.prog 35 #[.agg #[.slice A0 n c0,.slice A1 n1 c1,.slice A2 n2 c2,.slice A3 n3 c3]] W fun e w'=>∃v,e=.returned v∧Below W.heap.size W w'∧Y2 (.agg #[.slice A0 n c0,.slice A1 n1 c1,.slice A2 n2 c2,.slice A3 n3 c3]) n B (ptB c) (rdL c.nodes) 1 v w':=fun B W h=>by
  refine (observed_any c _ W (HC1.out W h) (by rw[G.len];have:=G.few;omega)).mono fun e w' ⟨g,h1,h2,h3⟩=>?_
  rw[G.len]at h1
  exact⟨_,h1,h3,Y2.v1 ⟨g,rfl,h2⟩⟩
 have hrds:∀B W,BelW W1 W→Calls Tryd.prog 29 #[.agg #[.slice A0 n c0,.slice A1 n1 c1,.slice A2 n2 c2,.slice A3 n3 c3]] W fun e w'=>∃v,e=.returned v∧Below W.heap.size W w'∧Y2 (.agg #[.slice A0 n c0,.slice A1 n1 c1,.slice A2 n2 c2,.slice A3 n3 c3]) n B (ptB c) (rdL c.nodes) 3 v w':=fun B W h=>by
  refine (readers_own c _ W (HC1.out W h) (by rw[G.len];have:=G.few;omega) G.np).mono fun e w' ⟨g,h1,h2,h3,xs,h4⟩=>?_
  rw[G.len]at h1 h2
  exact⟨_,h1,h3,Y2.v3 ⟨g,xs,rfl,h2,h4⟩⟩
 have HOBS:=Lib.hid hobs
 have HRDS:=Lib.hid hrds
 have HG:=Lib.hid G
 have hn:=G.few
 have HPL:Hid ((ptB c).length=n):=Lib.hid (by rw[ptB_len];exact G.len)
 obtain⟨PT,HPT⟩:=named (ptB c)
 obtain⟨RD,HRD⟩:=named (rdL c.nodes)
 rw[←HPT.out,←HRD.out]at HOBS HRDS
 rw[←HPT.out]at HPL
 have HB1:=Lib.hid hb1
 obtain⟨i0,hi,hz0,hz1',hz2⟩:=info_parts info_int
 have HI:=Lib.hid (And.intro hi (And.intro hz0 (And.intro hz1' hz2)))
 obtain⟨x0,x1,x2,x3⟩:=HCE.out W1 (Below.refl _ _)
 clear hi hz0 hz1' hz2 hc hb1 hfr hord hobs hrds hT G
 refine (callsIn_wide (n:=9)).1 ?_
 refine callsIn_of_wp_marks Tryd.func13 rfl trivial ?_ rfl
 simp only[Tryd.ntmps13,List.size_toArray,List.length_cons,List.length_nil,Nat.reduceAdd,Nat.reduceSub,Array.replicate_succ,Array.replicate_zero,List.push_toArray,List.append_toArray,List.nil_append,List.cons_append]
 refine wpIn_wide.2 ?_
 go_upto_region 1 with (fail)
 rw[←HW1.out,←HQ2.out]
 go_upto_region 2 with (go_at_call 20;(with_reducible refine HORD.out.mono ?_);rintro e w2 ⟨d,O,rfl,h1,h2,h3⟩;have HRO:=Lib.hid h1;have HO5:=Lib.hid h2;have HB2:=Lib.hid h3;clear h1 h2 h3 x0 x1 x2 x3)
 go_upto_region 4 with (fail)
 have HBD:Hid (BelW W1 w2.drew):=Lib.hid (joinB HB2.out (Below.drew (Below.refl _ _)))
 refine AnyX.start (S:=fun _=>True) (t:=7) (by kernel_rfl) ?_
 refine AnyX.factsGo [19,20,21,22,6,7] (Y2 (.agg #[.slice A0 n c0,.slice A1 n1 c1,.slice A2 n2 c2,.slice A3 n3 c3]) n w2.heap.size PT RD) _ _ (by decide) ?hts (by decide) Y2.next (by kernel_rfl) (by kernel_rfl) ?hst ?hdo
 case hts => intro t ht; simp only [List.mem_cons, List.not_mem_nil, or_false] at ht; rcases ht with rfl | rfl | rfl | rfl | rfl | rfl <;> (show _ < Array.size _; simp)
 case hst=>
  intro i t a w' hD hF hB hdep
  have hBW:BelW W1 w':=joinB HBD.out hB
  have hi6:i<6:=(List.getElem?_eq_some_iff.1 hD).1
  obtain⟨y0,y1,y2,y3⟩:=HCE.out w' hBW
  rcases (by omega:i=0∨i=1∨i=2∨i=3∨i=4∨i=5) with rfl|rfl|rfl|rfl|rfl|rfl<;>obtain rfl:=Option.some.inj hD
  ·exact fop_loadC rfl rfl rfl rfl rfl (by rw[hF.eval (by decide)];rfl) y0 y1 y2 y3 (Y2.v0 rfl)
  ·exact fop_call1 rfl rfl rfl rfl (fun _ _=>rfl) ((hdep _ 0 19 rfl rfl (by kernel_rfl)).1 rfl) (HOBS.out _ w' hBW)
  ·exact fop_loadC rfl rfl rfl rfl rfl (by rw[hF.eval (by decide)];rfl) y0 y1 y2 y3 (Y2.v2 rfl)
  ·exact fop_call1 rfl rfl rfl rfl (fun _ _=>rfl) ((hdep _ 2 21 rfl rfl (by kernel_rfl)).2.2.1 rfl) (HRDS.out _ w' hBW)
  ·exact fop_allocB rfl rfl rfl rfl rfl fun w' h=>Y2.v4 ⟨_,rfl,(by have:=Below.size hB;exact this),h⟩
  ·exact fop_allocR rfl rfl rfl rfl rfl fun w' h=>Y2.v5 ⟨_,rfl,(by have:=Below.size hB;exact this),h⟩
 intro v w3 hb3 hF
 have HB3:=Lib.hid hb3
 have e0:=(hF 0 (by decide)).1 rfl
 obtain⟨g1,e1,hr1⟩:=(hF 1 (by decide)).2.1 rfl
 have e2:=(hF 2 (by decide)).2.2.1 rfl
 obtain⟨g3,xs3,e3,hn3,hx3⟩:=(hF 3 (by decide)).2.2.2.1 rfl
 obtain⟨q6,e6,l6,h6⟩:=(hF 4 (by decide)).2.2.2.2.1 rfl
 obtain⟨q7,e7,l7,h7⟩:=(hF 5 (by decide)).2.2.2.2.2 rfl
 have HBX:=Lib.hid (Bx2.made (w0:=w2) (joinB (Below.drew (Below.refl _ _)) hb3) h6 h7 l6 l7 hr1 hn3 hx3)
 have HH7:=Lib.hid (And.intro h7 (And.intro (h7.apart5 h6 (by decide)) (And.intro h6 trivial)))
 simp only[putsF,Nat.zero_add,Nat.reduceAdd,e0,e1,e2,e3,e6,e7,Act.put,List.setIfInBounds_toArray,List.set_cons_zero,List.set_cons_succ]
 clear e0 e1 e2 e3 e6 e7 hF hr1 hn3 hx3 hb3 l6 l7
 have z0:=h6.cell 0
 have z1:=h6.frozen 0
 clear h6 h7
 show AnyX _ _ _ _ _ _ 2 #[true,true,true,true,true,true,false,false] _ _
 refine AnyX.one (i:=6) (o:=⟨none,_,_,_,_,_⟩) (by kernel_rfl) rfl (fun K' hK=>?_)
 have HK:=Lib.hid hK
 clear hK
 go_simp
 refine HK.out _ _ (fun _=>trivial) ?_
 clear HK z0 z1
 (try simp only[Act.put,List.setIfInBounds_toArray,List.set_cons_zero,List.set_cons_succ])
 have z0:=(HH7.out.1.ne_t HH7.out.2.2.1 (by decide) (grown_cell w3 q6 (.slice (some ⟨g1,0,none⟩) n n))).cell 0
 have z1:=(HH7.out.1.ne_t HH7.out.2.2.1 (by decide) (grown_cell w3 q6 (.slice (some ⟨g1,0,none⟩) n n))).frozen 0
 refine AnyX.one (i:=7) (o:=⟨none,_,_,_,_,_⟩) (by kernel_rfl) rfl (fun K' hK=>?_)
 have HK:=Lib.hid hK
 clear hK
 go_simp
 refine HK.out _ _ (fun h=>absurd rfl h) ?_
 clear HK z0 z1 HH7
 (try simp only[Act.put,List.setIfInBounds_toArray,List.set_cons_zero,List.set_cons_succ])
 refine AnyX.done (by kernel_rfl) ?_ _
 obtain⟨W4,HW4⟩:=named ((w3.setCell ⟨q6,0,none⟩ (.slice (some ⟨g1,0,none⟩) n n)).setCell ⟨q7,0,none⟩ (.slice (some ⟨g3,0,none⟩) n n))
 rw[←HW4.out]at HBX
 rw[←HW4.out]
 have HW44:=Lib.hid HW4.out
 clear HW4 HB3
 clear HBD
 obtain⟨gS,HGS⟩:=named W4.heap.size
 have HGS2:=Lib.hid HGS.out
 go_upto_region 6 with (at_make;refine wpList_make_full _ rfl _ _ 25 rfl W4.heap.size 3 i0 (.int .i64 0) 1 Tryd.underlying25 HI.out.1 HI.out.2.1 HI.out.2.2.1 .i64 .i64 _ _ n rfl rfl rfl rfl ?b2 ?b3 ?b4 ?_)
 case b2=>rw[HI.out.2.2.2];omega
 case b3=>unfold maxLen;omega
 case b4=>exact Nat.le_refl _
 intro w5 hown hgr
 rw[made_zero]at hown
 rw[←HGS2.out]at hown
 have hR5:Row w5 gS (List.replicate n 0):=by unfold Row;rw[List.length_replicate];exact hown
 have hb5:BelW W4 w5:=(Below.refl _ _).grown hgr (Nat.le_refl _) (fun k h=>by cases h)
 have hnx5:NxR w5 gS g3 0 n RD:=by
  obtain⟨h1,h2⟩:=HBX.out.nxt
  refine⟨by rw[HGS2.out];exact h1,fun i hi=>?_⟩
  obtain⟨A,cc,h3,h4⟩:=h2 i hi
  exact⟨A,cc,(Below.cell hb5 (p:=⟨g3,0+i,none⟩) h1).trans h3,by rw[HGS2.out];exact h4.below hb5⟩
 rw[←HGS2.out]
 obtain⟨q8,HQ8⟩:=named w5.heap.size
 obtain⟨W6,HW6⟩:=named (w5.alloc (.cells #[.slice (some ⟨gS,0,none⟩) n n] 25))
 have hb6:BelW w5 W6:=by rw[HW6.out];exact below_new (Below.refl _ _) _
 have hf6:Fr W6 q8 25 [.slice (some ⟨gS,0,none⟩) n n]:=by rw[HW6.out];exact Fr.made _ _ _ HQ8.out
 have hb46:=joinB hb5 hb6
 have HRS6:Hid (Rst w2 q6 q7 q8 g1 g3 gS n PT RD (List.replicate n 0) W6):=Lib.hid ⟨(HBX.out.next hb46).bel,(HBX.out.next hb46).b6,(HBX.out.next hb46).b7,hf6,(HBX.out.next hb46).row,hnx5.turn (B:=0) (row:=none) ⟨grown_of hb6 none,fun r e=>by cases e⟩,hR5.below hb6,by rw[HGS2.out];exact Below.size HBX.out.bel⟩
 clear hown hgr hR5 hb5 hnx5 hf6 hb46
 go_upto_region 6 with (fail)
 rw[←HW6.out,←HQ8.out]
 have HQ88:=Lib.hid HQ8.out
 clear HW6 HQ8
 have HBK:=Lib.hid (backward_any (some ⟨d,0,none⟩) n n W6)
 go_upto_region 7 with (go_at_call 36;(with_reducible refine HBK.out.mono ?_);rintro e w7 ⟨rfl,h1,h2,h3⟩;have HBC:=Lib.hid h1;have HBS:=Lib.hid h2;have HB7:=Lib.hid h3;clear h1 h2 h3)
 obtain⟨qB,HQB⟩:=named W6.heap.size
 rw[←HQB.out]at HBC HBS
 rw[←HQB.out]
 have HQB2:=Lib.hid HQB.out
 have hol:=HO5.out.len
 have HRO7:Hid (Row w7 d O):=Lib.hid ((HRO.out.below HRS6.out.bel).below HB7.out)
 have hz26:w2.heap.size≤W6.heap.size:=Below.size HRS6.out.bel
 have HRS7:Hid (Rst w2 q6 q7 q8 g1 g3 gS n PT RD (List.replicate n 0) w7):=Lib.hid (HRS6.out.turn (B:=W6.heap.size) (row:=none) hz26 ⟨grown_of HB7.out none,fun r e=>by cases e⟩)
 have HWZ:Hid (w2.heap.size≤w7.heap.size∧d<w2.heap.size∧gS<qB∧w2.heap.size≤gS):=Lib.hid ⟨(by have:=Below.size HRS7.out.bel;exact this),HRO.out.lt,by rw[HQB2.out];exact HRS6.out.st.lt,HRS6.out.lo⟩
 have hwz:=HWZ.out
 have hbs:=HBS.out
 refine (wpIn_wide (n:=9)).1 ?_
 refine range_all (F:=Fence.wide) (n:=9) (B:=w7.heap.size) (gx:=gS) (zs:=backL O) rfl (by decide) rfl trivial (fun _ _=>rfl) (back_seq Fence.wide _ trivial rfl (by decide) qB w7.heap.size gS (some ⟨d,0,none⟩) d 0 n O w7 (fun _=>rfl) (fun _=>⟨by omega,by omega⟩) (fun j hj=>by rw[Nat.zero_add];exact HRO7.out.cell hj) (by omega) (Nat.le_refl _) ⟨by omega,by omega⟩ (by rw[hol];exact HBC.out)) (Nat.le_refl _) (fun _=>rfl)
  (fun k V=>∃St,StI (fun x:Int=>RD x.toNat) (fun x:Int=>bat PT x.toNat=true) O n k St∧Rst w2 q6 q7 q8 g1 g3 gS n PT RD St V) ?hI ?h0 ?at1 ?hassign ?hbody ?hdone
 case hI=>exact fun s W W' row ⟨St,h1,h2⟩ hg hr=>⟨St,h1,h2.turn hwz.1 ⟨hg,hr⟩⟩
 case h0=>exact⟨_,StI.start List.length_replicate,HRS7.out⟩
 case hassign=>
  intro l x V K hK
  gi_wp2
  exact hK
 case hbody=>
  rintro l k ⟨j,z⟩ V hl hz ⟨St,hSI,hRS⟩
  obtain⟨hkj,rfl⟩:=backL_inv hz
  obtain⟨x,hx,ex⟩:=HO5.out.rg j (by omega)
  have hkn:n=k+1+j:=by omega
  have hx2:(x:Int)<(n:Int):=by omega
  have HEX:=Lib.hid ex
  have HKN:=Lib.hid hkn
  clear hkn hkj
  have HSI:=Lib.hid hSI
  have HRS:=Lib.hid hRS
  rw[ex]
  have c8:V.cell? ⟨q8,0,none⟩=some (.slice (some ⟨gS,0,none⟩) n n):=hRS.b8.cell 0
  have hsl:St.length=n:=hSI.len
  have cx:V.cell? ⟨gS,x,none⟩=some (.int .i64 (lat St x)):=hRS.st.cell (by omega)
  have fx:V.frozen? ⟨gS,x,none⟩=false:=hRS.st.frozen x
  clear hz ex hSI hRS
  gi_upto_region 9 with fail
  obtain⟨V2,HV2⟩:=named (V.setCell ⟨gS,x,none⟩ (.int .i64 (x:Int)))
  rw[←HV2.out]
  have HR2:Hid (Rst w2 q6 q7 q8 g1 g3 gS n PT RD (St.set x (x:Int)) V2):=Lib.hid (by rw[HV2.out];exact HRS.out.set x _)
  have HKF:Hid (KeepsFrom w7.heap.size V V2∧Kx w7.heap.size gS V V2):=Lib.hid ⟨by rw[HV2.out];exact (KeepsOthers.setCell _ _ _).from _,fun b _ hb=>by rw[HV2.out];exact heap_setCell_ne _ _ _ hb⟩
  clear c8 cx fx HV2
  have c6:V2.cell? ⟨q6,0,none⟩=some (.slice (some ⟨g1,0,none⟩) n n):=HR2.out.b6.cell 0
  have c7:V2.cell? ⟨q7,0,none⟩=some (.slice (some ⟨g3,0,none⟩) n n):=HR2.out.b7.cell 0
  have c8:V2.cell? ⟨q8,0,none⟩=some (.slice (some ⟨gS,0,none⟩) n n):=HR2.out.b8.cell 0
  have hpl:=HPL.out
  have cp:V2.cell? ⟨g1,x,none⟩=some (.bool (bat PT x)):=HR2.out.row.cell (by unfold bat;rw[List.getD_eq_getElem?_getD,List.getElem?_eq_getElem (by omega)];rfl)
  obtain⟨A1,c1',cn,hin⟩:=HR2.out.nxt.2 x hx
  rw[Nat.zero_add]at cn
  obtain⟨A1',b,ob,cb,e,hA1,-,-,hcn⟩:=hin.opens
  simp only[Value.slice.injEq]at e
  obtain⟨rfl,-,rfl⟩:=e
  have HIN:Hid (∀y∈RD x,Nod n y∧lat L (x:Int)<lat L y):=Lib.hid fun y hy=>by
   rw[HRD.out]at hy
   have h1:=HG.out.inr' x y hy
   exact⟨h1,HG.out.up (x:Int) y ⟨by omega,by omega⟩ (by rw[Int.toNat_natCast];exact hy)⟩
  have HNOD:Hid (Nod n (x:Int)):=Lib.hid ⟨by omega,by omega⟩
  have HONE:Hid (∀s:Int,(Stm (fun x:Int=>RD x.toNat) (fun x:Int=>bat PT x.toNat=true) (x:Int) s∧Nod n s)→StI (fun x:Int=>RD x.toNat) (fun x:Int=>bat PT x.toNat=true) O n (k+1) (St.set x s)):=Lib.hid fun s hs=>HSI.out.put HO5.out HKN.out HEX.out hs.1 hs.2
  have HRDR:Hid (∀r:Int,Nod n r→lat L (x:Int)<lat L r→Stm (fun x:Int=>RD x.toNat) (fun x:Int=>bat PT x.toNat=true) r (St.getD r.toNat 0)∧Nod n (St.getD r.toNat 0)):=Lib.hid fun r h1 h2=>HSI.out.reader HO5.out HKN.out HEX.out h1 h2
  have HCN:=Lib.hid hcn
  have HA1:=Lib.hid hA1
  have HLN:Hid (∀r,(RD x).length=1→(RD x).getD 0 0=r→RD x=[r]):=Lib.hid fun r h1 h2=>by
   obtain⟨y,hy⟩:=List.length_eq_one_iff.1 h1
   rw[hy]at h2 ⊢
   rw[←h2];rfl
  obtain⟨m,HM⟩:=named (RD x).length
  rw[←HM.out]at cn HA1 HCN
  obtain⟨pb,HPB⟩:=named (bat PT x)
  rw[←HPB.out]at cp
  clear hin hA1 hcn hpl
  cases pb
  ·by_cases hm:m=1
   ·subst hm
    obtain rfl:=HA1.out (by decide)
    have hc0:=(HCN.out 0 (by decide)).2
    rw[Nat.add_zero]at hc0
    obtain⟨rz,HRZ⟩:=named ((RD x).getD 0 0)
    have hrx:=HLN.out rz HM.out.symm HRZ.out.symm
    obtain⟨hrn,hrl⟩:=HIN.out rz (by rw[hrx];simp)
    obtain⟨r,rfl⟩:∃r:Nat,rz=(r:Int):=⟨rz.toNat,by have:=hrn.1;omega⟩
    rw[←HRZ.out]at hc0
    have hr2:(r:Int)<(n:Int):=hrn.2
    have hrs:=HRDR.out (r:Int) hrn hrl
    rw[Int.toNat_natCast]at hrs
    have hrne:r≠x:=fun e=>by subst e;omega
    have hsl2:=HSI.out.len
    have cs:V2.cell? ⟨gS,r,none⟩=some (.int .i64 (St.getD r 0)):=by
     have h1:=HR2.out.st.cell (j:=r) (by rw[List.length_set];omega)
     rw[h1]
     unfold lat
     rw[Int.toNat_natCast,getDI_set (by omega),if_neg hrne]
    have hst:StI (fun x:Int=>RD x.toNat) (fun x:Int=>bat PT x.toNat=true) O n (k+1) (St.set x (St.getD r 0)):=HONE.out _ ⟨.go (by rw[Int.toNat_natCast,←HPB.out];decide) (by rw[Int.toNat_natCast];exact hrx) hrs.1,hrs.2⟩
    have HST:=Lib.hid hst
    obtain⟨s,HS⟩:=named (St.getD r 0)
    rw[←HS.out]at cs HST
    have hfx:V2.drew.frozen? ⟨gS,x,none⟩=false:=HR2.out.st.frozen x
    have hcx:V2.drew.cell? ⟨gS,x,none⟩=some (.int .i64 (lat (St.set x (x:Int)) x)):=HR2.out.st.cell (by rw[List.length_set];omega)
    have HFX:=Lib.hid (And.intro hfx hcx)
    have HS0:Hid (V2.drew.cell? ⟨q8,0,none⟩=some (.slice (some ⟨gS,0,none⟩) n n)∧V2.drew.cell? ⟨q7,0,none⟩=some (.slice (some ⟨g3,0,none⟩) n n)∧V2.drew.cell? ⟨g3,x,none⟩=some (.slice (some ⟨b,ob,none⟩) 1 c1')∧V2.drew.cell? ⟨b,ob,none⟩=some (.int .i64 (r:Int))∧V2.drew.cell? ⟨gS,r,none⟩=some (.int .i64 s)):=Lib.hid ⟨c8,c7,cn,hc0,cs⟩
    clear hst hrs hrx hrl hfx hcx hrn
    gi_upto_region 10 with fail
    refine AnyX.startIn (S:=fun w'=>w'.cell? ⟨q8,0,none⟩=some (.slice (some ⟨gS,0,none⟩) n n)∧w'.cell? ⟨q7,0,none⟩=some (.slice (some ⟨g3,0,none⟩) n n)∧w'.cell? ⟨g3,x,none⟩=some (.slice (some ⟨b,ob,none⟩) 1 c1')∧w'.cell? ⟨b,ob,none⟩=some (.int .i64 (r:Int))∧w'.cell? ⟨gS,r,none⟩=some (.int .i64 s)) (t:=12) (by kernel_rfl) (by kernel_rfl) (fun a w h=>?hlo) ?_
    case hlo=>exact absurd (show Exit.outgrown=Exit.normal from h.1) (by simp)
    refine AnyX.take (i:=0) (oi:=⟨some 47,_,_,_,_,_⟩) (v:=.slice (some ⟨gS,0,none⟩) n n) rfl rfl (by kernel_rfl) (by kernel_rfl) (by kernel_rfl) (by kernel_rfl) (fun _ _ _ h=>h) (Or.inl ⟨by rfl,?_⟩) HS0.out ?_
    ·intro w' hSw
     obtain⟨k8,k7,kn,k0,ks⟩:=hSw
     first|(go_simp;done)|(go_simp;with_reducible rfl)|(go_simp;intro hh;exfalso;omega)
    simp only[Act.put,List.setIfInBounds_toArray,List.set_cons_zero,List.set_cons_succ]
    refine AnyX.take (i:=1) (oi:=⟨some 48,_,_,_,_,_⟩) (v:=.int .i64 (x:Int)) rfl rfl (by kernel_rfl) (by kernel_rfl) (by kernel_rfl) (by kernel_rfl) (fun _ _ _ h=>h) (Or.inl ⟨by rfl,?_⟩) HS0.out ?_
    ·intro w' hSw
     obtain⟨k8,k7,kn,k0,ks⟩:=hSw
     first|(go_simp;done)|(go_simp;with_reducible rfl)|(go_simp;intro hh;exfalso;omega)
    simp only[Act.put,List.setIfInBounds_toArray,List.set_cons_zero,List.set_cons_succ]
    refine AnyX.take (i:=2) (oi:=⟨some 49,_,_,_,_,_⟩) (v:=.slice (some ⟨gS,0,none⟩) n n) rfl rfl (by kernel_rfl) (by kernel_rfl) (by kernel_rfl) (by kernel_rfl) (fun _ _ _ h=>h) (Or.inl ⟨by rfl,?_⟩) HS0.out ?_
    ·intro w' hSw
     obtain⟨k8,k7,kn,k0,ks⟩:=hSw
     first|(go_simp;done)|(go_simp;with_reducible rfl)|(go_simp;intro hh;exfalso;omega)
    simp only[Act.put,List.setIfInBounds_toArray,List.set_cons_zero,List.set_cons_succ]
    refine AnyX.take (i:=3) (oi:=⟨some 50,_,_,_,_,_⟩) (v:=.slice (some ⟨g3,0,none⟩) n n) rfl rfl (by kernel_rfl) (by kernel_rfl) (by kernel_rfl) (by kernel_rfl) (fun _ _ _ h=>h) (Or.inl ⟨by rfl,?_⟩) HS0.out ?_
    ·intro w' hSw
     obtain⟨k8,k7,kn,k0,ks⟩:=hSw
     first|(go_simp;done)|(go_simp;with_reducible rfl)|(go_simp;intro hh;exfalso;omega)
    simp only[Act.put,List.setIfInBounds_toArray,List.set_cons_zero,List.set_cons_succ]
    refine AnyX.take (i:=4) (oi:=⟨some 51,_,_,_,_,_⟩) (v:=.int .i64 (x:Int)) rfl rfl (by kernel_rfl) (by kernel_rfl) (by kernel_rfl) (by kernel_rfl) (fun _ _ _ h=>h) (Or.inl ⟨by rfl,?_⟩) HS0.out ?_
    ·intro w' hSw
     obtain⟨k8,k7,kn,k0,ks⟩:=hSw
     first|(go_simp;done)|(go_simp;with_reducible rfl)|(go_simp;intro hh;exfalso;omega)
    simp only[Act.put,List.setIfInBounds_toArray,List.set_cons_zero,List.set_cons_succ]
    refine AnyX.take (i:=5) (oi:=⟨some 52,_,_,_,_,_⟩) (v:=.pointer (some ⟨g3,x,none⟩)) rfl rfl (by kernel_rfl) (by kernel_rfl) (by kernel_rfl) (by kernel_rfl) (fun _ _ _ h=>h) (Or.inl ⟨by rfl,?_⟩) HS0.out ?_
    ·intro w' hSw
     obtain⟨k8,k7,kn,k0,ks⟩:=hSw
     first|(go_simp;done)|(go_simp;with_reducible rfl)|(go_simp;intro hh;exfalso;omega)
    simp only[Act.put,List.setIfInBounds_toArray,List.set_cons_zero,List.set_cons_succ]
    refine AnyX.take (i:=6) (oi:=⟨some 53,_,_,_,_,_⟩) (v:=.slice (some ⟨b,ob,none⟩) 1 c1') rfl rfl (by kernel_rfl) (by kernel_rfl) (by kernel_rfl) (by kernel_rfl) (fun _ _ _ h=>h) (Or.inl ⟨by rfl,?_⟩) HS0.out ?_
    ·intro w' hSw
     obtain⟨k8,k7,kn,k0,ks⟩:=hSw
     first|(go_simp;done)|(go_simp;with_reducible rfl)|(go_simp;intro hh;exfalso;omega)
    simp only[Act.put,List.setIfInBounds_toArray,List.set_cons_zero,List.set_cons_succ]
    refine AnyX.take (i:=7) (oi:=⟨some 54,_,_,_,_,_⟩) (v:=.pointer (some ⟨b,ob,none⟩)) rfl rfl (by kernel_rfl) (by kernel_rfl) (by kernel_rfl) (by kernel_rfl) (fun _ _ _ h=>h) (Or.inl ⟨by rfl,?_⟩) HS0.out ?_
    ·intro w' hSw
     obtain⟨k8,k7,kn,k0,ks⟩:=hSw
     first|(go_simp;done)|(go_simp;with_reducible rfl)|(go_simp;intro hh;exfalso;omega)
    simp only[Act.put,List.setIfInBounds_toArray,List.set_cons_zero,List.set_cons_succ]
    refine AnyX.take (i:=8) (oi:=⟨some 55,_,_,_,_,_⟩) (v:=.int .i64 (r:Int)) rfl rfl (by kernel_rfl) (by kernel_rfl) (by kernel_rfl) (by kernel_rfl) (fun _ _ _ h=>h) (Or.inl ⟨by rfl,?_⟩) HS0.out ?_
    ·intro w' hSw
     obtain⟨k8,k7,kn,k0,ks⟩:=hSw
     first|(go_simp;done)|(go_simp;with_reducible rfl)|(go_simp;intro hh;exfalso;omega)
    simp only[Act.put,List.setIfInBounds_toArray,List.set_cons_zero,List.set_cons_succ]
    refine AnyX.take (i:=9) (oi:=⟨some 56,_,_,_,_,_⟩) (v:=.pointer (some ⟨gS,r,none⟩)) rfl rfl (by kernel_rfl) (by kernel_rfl) (by kernel_rfl) (by kernel_rfl) (fun _ _ _ h=>h) (Or.inl ⟨by rfl,?_⟩) HS0.out ?_
    ·intro w' hSw
     obtain⟨k8,k7,kn,k0,ks⟩:=hSw
     first|(go_simp;done)|(go_simp;with_reducible rfl)|(go_simp;intro hh;exfalso;omega)
    simp only[Act.put,List.setIfInBounds_toArray,List.set_cons_zero,List.set_cons_succ]
    refine AnyX.take (i:=10) (oi:=⟨some 57,_,_,_,_,_⟩) (v:=.int .i64 s) rfl rfl (by kernel_rfl) (by kernel_rfl) (by kernel_rfl) (by kernel_rfl) (fun _ _ _ h=>h) (Or.inl ⟨by rfl,?_⟩) HS0.out ?_
    ·intro w' hSw
     obtain⟨k8,k7,kn,k0,ks⟩:=hSw
     first|(go_simp;done)|(go_simp;with_reducible rfl)|(go_simp;intro hh;exfalso;omega)
    simp only[Act.put,List.setIfInBounds_toArray,List.set_cons_zero,List.set_cons_succ]
    refine AnyX.take (i:=11) (oi:=⟨some 58,_,_,_,_,_⟩) (v:=.pointer (some ⟨gS,x,none⟩)) rfl rfl (by kernel_rfl) (by kernel_rfl) (by kernel_rfl) (by kernel_rfl) (fun _ _ _ h=>h) (Or.inl ⟨by rfl,?_⟩) HS0.out ?_
    ·intro w' hSw
     obtain⟨k8,k7,kn,k0,ks⟩:=hSw
     first|(go_simp;done)|(go_simp;with_reducible rfl)|(go_simp;intro hh;exfalso;omega)
    simp only[Act.put,List.setIfInBounds_toArray,List.set_cons_zero,List.set_cons_succ]
    have hfx:=HFX.out.1
    have hcx:=HFX.out.2
    refine AnyX.one (i:=12) (o:=⟨none,_,_,_,_,_⟩) (by kernel_rfl) rfl (fun K' hK=>?_)
    have HK:=Lib.hid hK
    clear hK
    go_simp
    refine HK.out _ _ (fun h=>absurd rfl h) ?_
    clear HK
    (try simp only[Act.put,List.setIfInBounds_toArray,List.set_cons_zero,List.set_cons_succ])
    refine AnyX.done (by kernel_rfl) ?_ _
    have HR3:Hid (Rst w2 q6 q7 q8 g1 g3 gS n PT RD (St.set x s) (V2.drew.setCell ⟨gS,x,none⟩ (.int .i64 s))):=Lib.hid (by
     have h1:=(HR2.out.turn (B:=w2.heap.size) (row:=none) (Nat.le_refl _) ⟨grown_of (Below.drew (Below.refl V2.heap.size V2)) none,fun r e=>by cases e⟩).set x s
     rwa [List.set_set]at h1)
    have HKF2:Hid (KeepsFrom w7.heap.size V (V2.drew.setCell ⟨gS,x,none⟩ (.int .i64 s))∧Kx w7.heap.size gS V (V2.drew.setCell ⟨gS,x,none⟩ (.int .i64 s))):=Lib.hid ⟨HKF.out.1.trans (((KeepsOthers.drew V2).trans (KeepsOthers.setCell V2.drew ⟨gS,x,none⟩ (.int .i64 s))).from _),HKF.out.2.trans fun b _ hb=>heap_setCell_ne V2.drew ⟨gS,x,none⟩ (.int .i64 s) hb⟩
    gi_wp2
    exact⟨HKF2.out.1,HKF2.out.2,_,HST.out,HR3.out⟩
   ·have hm2:¬(m:Int)=1:=by omega
    have hst:StI (fun x:Int=>RD x.toNat) (fun x:Int=>bat PT x.toNat=true) O n (k+1) (St.set x (x:Int)):=HONE.out _ ⟨.self (.inr (by rw[Int.toNat_natCast,←HM.out];exact hm)),HNOD.out⟩
    have HST:=Lib.hid hst
    clear hst
    gi_wp2
    exact⟨HKF.out.1,HKF.out.2,_,HST.out,HR2.out⟩
  ·have hst:StI (fun x:Int=>RD x.toNat) (fun x:Int=>bat PT x.toNat=true) O n (k+1) (St.set x (x:Int)):=HONE.out _ ⟨.self (.inl (by rw[Int.toNat_natCast,←HPB.out])),HNOD.out⟩
   have HST:=Lib.hid hst
   clear hst
   gi_wp2
   exact⟨HKF.out.1,HKF.out.2,_,HST.out,HR2.out⟩
 case hdone=>
  rintro D V hD ⟨St,hSI,hRS⟩ hK
  rw[backL_len,hol]at hSI
  have c8:V.cell? ⟨q8,0,none⟩=some (.slice (some ⟨gS,0,none⟩) n n):=hRS.b8.cell 0
  have HSQ:Hid (St=stemL c):=Lib.hid (stemL_eq HG.out hSI.len fun i hi=>by
   have h1:=(hSI.all HO5.out hi).1
   rw[HRD.out,HPT.out]at h1
   exact h1)
  have HRS:=Lib.hid hRS
  have HD:=Lib.hid hD
  have HK2:=Lib.hid hK
  clear hSI hRS hK
  go_wp2
  have hR9:=HRS.out.turn (B:=w7.heap.size) (row:=some D) hwz.1 ⟨grownBy_putObj' V D (.deferred none),fun r e=>by cases e;exact⟨HD.out,_,HK2.out,rfl⟩⟩
  refine⟨by simp,.inl ⟨_,_,rfl,run_takeDeferred HK2.out,?_⟩⟩
  refine⟨_,results_tmp2 rfl _ _ _,gS,rfl,?_,joinB HB1.out (joinB HB2.out hR9.bel)⟩
  rw[←HSQ.out]
  exact hR9.st
structure CoP(n:Nat)(NX:Int→List Int)(PP:Int→Prop)(N Pl:List Int)(b:Int)(l:List Int):Prop where
 ln:N.length=n
 lp:Pl.length=n+1
 hN:∀y,Nod n y→b<nrf Pl y→Near n NX PP (nrf N) (nrf Pl) y
 hl:∀s∈l,Nod n s∧b<nrf Pl s
 hp:nrf Pl (n:Int)=n
 hlt:∀y,Nod n y→0≤nrf Pl y∧nrf Pl y<(n:Int)
 inj:∀x y,Nod n x→Nod n y→nrf Pl x=nrf Pl y→x=y
 hnx:∀x,Nod n x→Inr n (NX x)
theorem belW_drewN{a w:World}(h:BelW a w)(n:Nat):BelW a (w.drewN n):=h.trans ⟨rfl,rfl,rfl,Nat.le_refl _,fun _ _=>rfl⟩
theorem nrf_nat(l:List Int)(x:Nat):nrf l (x:Int)=lat l x:=by unfold nrf lat;rfl
set_option maxRecDepth 100000 in
set_option maxHeartbeats 8000000 in
theorem common_any(n:Nat)(NX:Int→List Int)(PP:Int→Prop)(N Pl:List Int)(b:Int)(l:List Int)(A:Option Addr)(m c gN gP:Nat)(w:World)(H:CoP n NX PP N Pl b l)(hn:n≤1000000)(hs:Is w w.heap.size (.slice A m c) l)(hm:m≤1000000000)(rN:Row w gN N)(rP:Row w gP Pl):
 Calls Tryd.prog 56 #[.slice A m c,.slice (some ⟨gN,0,none⟩) n n,.slice (some ⟨gP,0,none⟩) (n+1) (n+1)] w fun e w'=>∃v:Int,e=.returned (.int .i64 v)∧Mt n NX PP (nrf N) (nrf Pl) b v l∧BelW w w':=by
 obtain⟨A',bl,ol,c',e,hA,-,-,hc⟩:=hs.opens
 simp only[Value.slice.injEq]at e
 obtain⟨rfl,hml,rfl⟩:=e
 have HML:=Lib.hid hml
 have HCL:Hid (∀W,BelW w W→∀k:Nat,k<m→W.cell? ⟨bl,ol+k,none⟩=some (.int .i64 (l.getD k 0))):=Lib.hid fun W h k hk=>(Below.cell h (p:=⟨bl,ol+k,none⟩) (hc k (by omega)).1).trans (hc k (by omega)).2
 have HCN:Hid (∀W,BelW w W→∀k:Nat,k<n→W.cell? ⟨gN,k,none⟩=some (.int .i64 (nrf N (k:Int)))):=Lib.hid fun W h k hk=>by rw[nrf_nat];exact (rN.below h).cell (by rw[H.ln];exact hk)
 have HCP:Hid (∀W,BelW w W→∀k:Nat,k≤n→W.cell? ⟨gP,k,none⟩=some (.int .i64 (nrf Pl (k:Int)))):=Lib.hid fun W h k hk=>by rw[nrf_nat];exact (rP.below h).cell (by rw[H.lp];omega)
 have HAL:=Lib.hid hA
 have HH:=Lib.hid H
 have HEL:Hid (∀k:Nat,k<m→l.getD k 0∈l∧l.take (k+1)=l.take k++[l.getD k 0]∧l=l.take k++[l.getD k 0]++l.drop (k+1)):=Lib.hid fun k hk=>by
  have hk2:k<l.length:=by omega
  have e:l.getD k 0=l[k]:=by rw[List.getD_eq_getElem?_getD,List.getElem?_eq_getElem hk2];rfl
  rw[e]
  refine⟨List.getElem_mem _,List.take_succ_eq_append_getElem hk2,?_⟩
  rw[←List.take_succ_eq_append_getElem hk2,List.take_append_drop]
 have HFL:Hid (l.take m=l):=Lib.hid (by rw[hml];exact List.take_length)
 have HT0:Hid (Mt n NX PP (nrf N) (nrf Pl) b (-1) (l.take 0)):=Lib.hid (Mt.start b)
 clear hA hc hs rN rP H hml
 go_enter Tryd.func56,Tryd.ntmps56
 go_wp2
 refine wp_scope_straight ?_
 go_wp2
 refine wp_label ?_
 go_wp2
 go_loopw [15,8] (fun i mv wr=>∃(k:Nat) (v:Int),k≤m∧i=.int .i64 k∧mv=.int .i64 v∧Hid (Mt n NX PP (nrf N) (nrf Pl) b v (l.take k))∧v≠(n:Int)∧Hid (BelW w wr)) (fun i _ _=>m-(intOf i).toNat)
 case atStart=>exact⟨0,-1,Nat.zero_le _,rfl,rfl,HT0,by omega,Lib.hid (Below.refl _ _)⟩
 case round=>
  clear HT0
  obtain⟨k,v,hk,rfl,rfl,HM,hvn,HB⟩:=hrel
  by_cases hlt:k<m
  ·have hk2:(k:Int)<(m:Int):=by omega
   obtain rfl:=HAL.out (by have:=HML.out;omega)
   have c0:=HCL.out wr HB.out k hlt
   have hel:=HEL.out k hlt
   have hin:=HH.out.hl _ hel.1
   have HEX:=Lib.hid hel.2
   obtain⟨sz,HSZ⟩:=named (l.getD k 0)
   rw[←HSZ.out]at c0 HEX hin
   clear hel
   obtain⟨⟨hs0,hs1⟩,hsb⟩:=hin
   obtain⟨s,rfl⟩:∃s:Nat,sz=(s:Int):=⟨sz.toNat,by omega⟩
   have c1:=HCN.out wr HB.out s (by omega)
   have HSN:Hid (Nod n (s:Int)∧b<nrf Pl (s:Int)):=Lib.hid ⟨⟨by omega,by omega⟩,hsb⟩
   have HNR:Hid (Near n NX PP (nrf N) (nrf Pl) (s:Int)):=Lib.hid (HH.out.hN _ HSN.out.1 hsb)
   obtain⟨u,HU⟩:=named (nrf N (s:Int))
   rw[←HU.out]at c1
   have HUU:=Lib.hid HU.out
   clear HU hsb HSZ
   cases hu:(u== -1)
   ·have hu1:u≠ -1:=by simpa using hu
    have HSS:Hid (Sn NX PP (-1) (s:Int)):=Lib.hid (Classical.byContradiction fun g=>hu1 (by rw[HUU.out];exact HNR.out.dead.2 g))
    cases hv:(v== -1)
    ·have hv1:v≠ -1:=by simpa using hv
     have HGV:Hid (Gp n NX PP (nrf N) (nrf Pl) b v):=Lib.hid (HM.out.some hv1).1
     have hvd:Nod n v:=by
      rcases HGV.out with e|e
      ·exact absurd e hvn
      ·exact e.1
     have HGS:Hid (Gp n NX PP (nrf N) (nrf Pl) b (s:Int)):=Lib.hid (.inr ⟨HSN.out.1,HSS.out,HSN.out.2,HNR.out⟩)
     have HVD:=Lib.hid hvd
     have HV1:=Lib.hid hv1
     clear hvd hv1 hu1
     go_wp2
     go_loopw [8,10] (fun mv iv wi=>∃v' s':Int,mv=.int .i64 v'∧iv=.int .i64 s'∧Hid (Two n NX PP (nrf N) (nrf Pl) b v (s:Int) v' s')∧Hid (Nod n v')∧Hid (BelW w wi)) (fun mv iv _=>(2*(n:Int)-nrf Pl (intOf mv)-nrf Pl (intOf iv)).toNat)
     case atStart=>exact⟨v,(s:Int),rfl,rfl,Lib.hid (Two.start HGV.out HGS.out),HVD,HB⟩
     case round=>
      clear c0 c1 HB
      obtain⟨v',s',rfl,rfl,HTW,HVN,HB⟩:=hrel
      obtain⟨v0,v1⟩:=HVN.out
      obtain⟨x,rfl⟩:∃x:Nat,v'=(x:Int):=⟨v'.toNat,by omega⟩
      have hsN:s'=(n:Int)∨Nod n s':=by
       rcases HTW.out.gs with e|e
       ·exact .inl e
       ·exact .inr e.1
      obtain⟨y,rfl⟩:∃y:Nat,s'=(y:Int):=⟨s'.toNat,by rcases hsN with e|e;omega;have:=e.1;omega⟩
      have hyn:y≤n:=by rcases hsN with e|e;omega;have:=e.2;omega
      have HSNN:=Lib.hid hsN
      cases he:((x:Int) != (y:Int))
      ·have hxy:x=y:=by have h:(x:Int)=(y:Int):=(by simpa using he);omega
       subst hxy
       have HMM:Hid (Mt n NX PP (nrf N) (nrf Pl) b (x:Int) (l.take (k+1))):=Lib.hid (by rw[HEX.out.1];exact HM.out.meet HV1.out HSS.out HNR.out HTW.out)
       have hxn:(x:Int)≠(n:Int):=by omega
       clear hsN
       go_wp2
       go_roundw
       case rel=>exact⟨k+1,(x:Int),by omega,by go_num,rfl,HMM,hxn,HB⟩
       case measure=>simp[intOf];omega
      ·have hxy:x≠y:=by have h:¬(x:Int)=(y:Int):=(by simpa using he);omega
       have p0:=HCP.out wr HB.out x (by omega)
       have p1:=HCP.out wr HB.out y hyn
       have n0:=HCN.out wr HB.out x (by omega)
       have hpx:=HH.out.hlt _ HVN.out
       have HPX:=Lib.hid hpx
       have HPY:Hid (0≤nrf Pl (y:Int)∧nrf Pl (y:Int)≤(n:Int)):=Lib.hid (by
        rcases hsN with e|e
        ·rw[e,HH.out.hp];omega
        ·have:=HH.out.hlt _ e;omega)
       have hpy:=HPY.out
       obtain⟨px,HPXN⟩:=named (nrf Pl (x:Int))
       obtain⟨py,HPYN⟩:=named (nrf Pl (y:Int))
       rw[←HPXN.out]at p0 hpx
       rw[←HPYN.out]at p1 hpy
       by_cases hl:px<py
       ·have HL:Hid (nrf Pl (x:Int)<nrf Pl (y:Int)):=Lib.hid (by rw[←HPXN.out,←HPYN.out];exact hl)
        obtain⟨ht,-⟩:=HTW.out.left HH.out.hN HH.out.hp (fun y hy=>(HH.out.hlt y hy).2) HL.out
        have HT:=Lib.hid ht
        obtain⟨nx,HNX⟩:=named (nrf N (x:Int))
        rw[←HNX.out]at n0 HT
        have HNUP:Hid (nx=(n:Int)∨(Nod n nx∧nrf Pl (x:Int)<nrf Pl nx)):=Lib.hid (by
         rcases HT.out.gm with e|e
         ·exact .inl e
         ·refine .inr ⟨e.1,?_⟩
          rcases HTW.out.gm with e2| ⟨a1,a2,a3,a4⟩
          ·omega
          ·have h1:nrf N (x:Int)≠ -1:=fun g=>a4.dead.1 g a2
           rcases a4.ex h1 with e3| ⟨_,_,e4⟩
           ·rw[←HNX.out]at e3;have:=e.1.2;omega
           ·rw[←HNX.out]at e4;exact e4)
        clear ht hsN
        cases hq:(nx==(n:Int))
        ·have hq1:nx≠(n:Int):=by simpa using hq
         have HND:Hid (Nod n nx∧nrf Pl (x:Int)<nrf Pl nx):=Lib.hid (by
          rcases HNUP.out with e|e
          ·exact absurd e hq1
          ·exact e)
         clear hq1
         go_upto_region 10 with (fail)
         go_quiet (fail)
         go_wp2
         go_roundw
         case rel=>exact⟨nx,(y:Int),rfl,rfl,HT,Lib.hid HND.out.1,Lib.hid (belW_drewN HB.out _)⟩
         case measure=>
          have h1:=HND.out.2
          have h2:=HH.out.hlt _ HND.out.1
          have h3:=HPY.out
          simp only[intOf]
          omega
        ·have hq1:nx=(n:Int):=by simpa using hq
         have HMM:Hid (Mt n NX PP (nrf N) (nrf Pl) b (n:Int) l):=Lib.hid (by
          have h1:=HM.out.leave (l':=l.drop (k+1)) HV1.out HSS.out HNR.out (by have:=HT.out;rw[hq1]at this;exact this)
          rw[←HEX.out.2]at h1
          exact h1)
         subst hq1
         clear hq
         go_upto_region 10 with (fail)
         go_quiet (fail)
         go_wp2
         refine bodyPost_ret (results_tmp rfl _ _ _) rfl ?_
         exact⟨(n:Int),rfl,HMM.out,belW_drewN HB.out _⟩
       ·have HL:Hid (nrf Pl (y:Int)<nrf Pl (x:Int)∧Nod n (y:Int)):=Lib.hid (by
         rw[HPXN.out,HPYN.out]at hl
         have h2:=HPX.out.2
         rcases HSNN.out with e|e
         ·rw[e,HH.out.hp]at hl;omega
         ·refine⟨?_,e⟩
          rcases Int.lt_or_le (nrf Pl (y:Int)) (nrf Pl (x:Int)) with g|g
          ·exact g
          ·have h3:=HH.out.inj _ _ HVN.out e (by omega)
           exact absurd (by omega) hxy)
        obtain⟨ht,-⟩:=HTW.out.right HH.out.hN HH.out.hp (fun y hy=>(HH.out.hlt y hy).2) HL.out.1
        have HT:=Lib.hid ht
        have hyl:(y:Int)<(n:Int):=HL.out.2.2
        have n1:=HCN.out wr HB.out y (by omega)
        obtain⟨nx,HNX⟩:=named (nrf N (y:Int))
        rw[←HNX.out]at n1 HT
        have HNUP:Hid (nrf Pl (y:Int)<nrf Pl nx∧nrf Pl nx≤(n:Int)):=Lib.hid (by
         have hyp:=HH.out.hlt _ HL.out.2
         rcases HT.out.gs with e|e
         ·rw[e,HH.out.hp];omega
         ·refine⟨?_,Int.le_of_lt (HH.out.hlt _ e.1).2⟩
          rcases HTW.out.gs with e2| ⟨a1,a2,a3,a4⟩
          ·omega
          ·have h1:nrf N (y:Int)≠ -1:=fun g=>a4.dead.1 g a2
           rcases a4.ex h1 with e3| ⟨_,_,e4⟩
           ·rw[←HNX.out]at e3;have:=e.1.2;omega
           ·rw[←HNX.out]at e4;exact e4)
        have hq:((x:Int)==(n:Int))=false:=by simp;omega
        clear ht hsN
        go_upto_region 10 with (fail)
        go_quiet (fail)
        go_wp2
        go_roundw
        case rel=>exact⟨(x:Int),nx,rfl,rfl,HT,HVN,Lib.hid (belW_drewN HB.out _)⟩
        case measure=>
         have h1:=HNUP.out
         have h2:=HPX.out
         simp only[intOf]
         omega
    ·have hv1:v= -1:=by simpa using hv
     subst hv1
     have HMM:Hid (Mt n NX PP (nrf N) (nrf Pl) b (s:Int) (l.take (k+1))):=Lib.hid (by rw[HEX.out.1];exact HM.out.first HH.out.hnx (fun z hz=>(HH.out.hl z (List.mem_of_mem_take hz)).1) HSN.out.1 HSS.out HSN.out.2 HNR.out)
     have hsn:(s:Int)≠(n:Int):=by omega
     go_wp2
     refine wp_loop_rounds 1 ?_
     simp only[Code.rounds]
     go_wp2
     go_roundw
     case rel=>exact⟨k+1,(s:Int),by omega,by go_num,rfl,HMM,hsn,HB⟩
     case measure=>simp[intOf];omega
   ·have hu1:u= -1:=by simpa using hu
    have HMM:Hid (Mt n NX PP (nrf N) (nrf Pl) b v (l.take (k+1))):=Lib.hid (by rw[HEX.out.1];exact HM.out.dead HH.out.hnx HSN.out.1 (HNR.out.dead.1 (by rw[←HUU.out];exact hu1)))
    subst hu1
    clear hu
    go_wp2
    go_roundw
    case rel=>exact⟨k+1,v,by omega,by go_num,rfl,HMM,hvn,HB⟩
    case measure=>simp[intOf];omega
  ·obtain rfl:m=k:=by omega
   go_wp2
   have HMF:Hid (Mt n NX PP (nrf N) (nrf Pl) b v l):=Lib.hid (by have:=HM.out;rwa [HFL.out]at this)
   simp only[Exit.noGoto]
   refine bodyPost_ret (results_tmp rfl _ _ _) rfl ?_
   exact⟨v,rfl,HMF.out,HB.out⟩
theorem rdT_len(nodes:List Nd)(f P:Nat)(n:Nat)(hP:∀i:Nat,i<n→(dep nodes (i:Int)).length≤P):∀k,k≤n→(rdT nodes k f).length≤k*P
 |0,_=>by simp[rdT]
 |k+1,h=>by
  have ih:=rdT_len nodes f P n hP k (by omega)
  rw[rdT_succ,List.length_append,List.length_replicate,Nat.succ_mul]
  have h1:(dep nodes (k:Int)).count (f:Int)≤(dep nodes (k:Int)).length:=List.count_le_length
  have h2:=hP k (by omega)
  omega
end Go.Proofs.YtjdjcaobkmpoeaaDoor
