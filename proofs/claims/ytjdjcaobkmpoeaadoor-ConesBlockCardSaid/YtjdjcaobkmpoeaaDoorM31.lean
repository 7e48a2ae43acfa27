/- The texts Knr Kdo Ker. -/
import Derived.Test.YtjdjcaobkmpoeaaDoorM30
namespace Go.Proofs.YtjdjcaobkmpoeaaDoor
open Go.RowKit
attribute [local go_sem] Oper.semAt_some
structure Rsn(w0:World)(q6 q7 q8 g1 g3 gS n q5 qP gP:Nat)(PT:List Bool)(RD:Nat→List Int)(N Pl:List Int)(W:World):Prop where
 rst:Rst w0 q6 q7 q8 g1 g3 gS n PT RD N W
 e5:Fr W q5 3 [.int .i64 (n:Int)]
 eP:Fr W qP 25 [.slice (some ⟨gP,0,none⟩) (n+1) (n+1)]
 pl:Row W gP Pl
 ne5:q5≠gS
 neP:gP≠gS
section
variable {w0 W W':World} {q6 q7 q8 g1 g3 gS n q5 qP gP:Nat} {PT:List Bool} {RD:Nat→List Int} {N Pl:List Int}
theorem Rsn.turn{B:Nat}{row:Option Nat}(h:Rsn w0 q6 q7 q8 g1 g3 gS n q5 qP gP PT RD N Pl W)(hB:w0.heap.size≤B)(hT:Turn B W W' row):Rsn w0 q6 q7 q8 g1 g3 gS n q5 qP gP PT RD N Pl W':=
 ⟨h.rst.turn hB hT,h.e5.turn hT,h.eP.turn hT,h.pl.turn hT,h.ne5,h.neP⟩
theorem Rsn.next(h:Rsn w0 q6 q7 q8 g1 g3 gS n q5 qP gP PT RD N Pl W)(hb:BelW W W'):Rsn w0 q6 q7 q8 g1 g3 gS n q5 qP gP PT RD N Pl W':=
 h.turn (B:=w0.heap.size) (row:=none) (Nat.le_refl _) ⟨grown_of hb none,fun r e=>by cases e⟩
theorem Rsn.set(h:Rsn w0 q6 q7 q8 g1 g3 gS n q5 qP gP PT RD N Pl W)(i:Nat)(x:Int):Rsn w0 q6 q7 q8 g1 g3 gS n q5 qP gP PT RD (N.set i x) Pl (W.setCell ⟨gS,i,none⟩ (.int .i64 x)):=by
 have hne:gS≠qP:=(own_frB h.rst.st).apart5 h.eP (by decide)
 exact⟨h.rst.set i x,h.e5.other (Ne.symm h.ne5) _,h.eP.other hne _,h.pl.otherS (Ne.symm h.neP) _,h.ne5,h.neP⟩
end
set_option maxRecDepth 100000 in
set_option maxHeartbeats 8000000 in
theorem nearest_any(c:Ck)(L O:List Int)(A0 A1 A2 A3:Option Addr)(n n1 n2 n3 c0 c1 c2 c3 d:Nat)(w:World)(G:G5 c n L)(hc:Cir w w.heap.size (.agg #[.slice A0 n c0,.slice A1 n1 c1,.slice A2 n2 c2,.slice A3 n3 c3]) c)(hO:Ord5 L n O)(hr:Row w d O):
 Calls Tryd.prog 31 #[.agg #[.slice A0 n c0,.slice A1 n1 c1,.slice A2 n2 c2,.slice A3 n3 c3],.slice (some ⟨d,0,none⟩) n n] w fun e w'=>∃g N,e=.returned (.slice (some ⟨g,0,none⟩) n n)∧Row w' g N∧N.length=n∧(∃Pl,Plc O n Pl∧∀y,Nod n y→Near n (fun x:Int=>rdL c.nodes x.toNat) (fun x:Int=>bat (ptB c) x.toNat=true) (nrf N) (nrf Pl) y)∧BelW w w':=by
 obtain⟨W1,HW1⟩:=named (w.alloc (.cells #[.slice A0 n c0,.slice A1 n1 c1,.slice A2 n2 c2,.slice A3 n3 c3] 27))
 have hb1:BelW w W1:=by rw[HW1.out];exact below_new (Below.refl _ _) _
 have hfr:Fr W1 w.heap.size 27 [.slice A0 n c0,.slice A1 n1 c1,.slice A2 n2 c2,.slice A3 n3 c3]:=by rw[HW1.out];exact Fr.made _ _ _ rfl
 obtain⟨q,HQ⟩:=named w.heap.size
 rw[←HQ.out]at hfr
 have HQ2:=Lib.hid HQ.out
 have HCE:Hid (∀W,BelW W1 W→W.cell? ⟨q,0,none⟩=some (.slice A0 n c0)∧W.cell? ⟨q,1,none⟩=some (.slice A1 n1 c1)∧W.cell? ⟨q,2,none⟩=some (.slice A2 n2 c2)∧W.cell? ⟨q,3,none⟩=some (.slice A3 n3 c3)):=Lib.hid fun W h=>⟨(hfr.below h).cell 0,(hfr.below h).cell 1,(hfr.below h).cell 2,(hfr.below h).cell 3⟩
 have HC1:Hid (∀W,BelW W1 W→Cir W W.heap.size (.agg #[.slice A0 n c0,.slice A1 n1 c1,.slice A2 n2 c2,.slice A3 n3 c3]) c):=Lib.hid fun W h=>(hc.below (joinB hb1 h)).more (Below.size (joinB hb1 h))
 have hobs:∀B W,BelW W1 W→Calls Tryd.prog 35 #[.agg #[.slice A0 n c0,.slice A1 n1 c1,.slice A2 n2 c2,.slice A3 n3 c3]] W fun e w'=>∃v,e=.returned v∧Below W.heap.size W w'∧Y2 (.agg #[.slice A0 n c0,.slice A1 n1 c1,.slice A2 n2 c2,.slice A3 n3 c3]) n B (ptB c) (rdL c.nodes) 1 v w':=fun B W h=>by
  refine (observed_any c _ W (HC1.out W h) (by rw[G.len];have:=G.few;omega)).mono fun e w' ⟨g,h1,h2,h3⟩=>?_
  rw[G.len]at h1
  exact⟨_,h1,h3,Y2.v1 ⟨g,rfl,h2⟩⟩
 have hrds:∀B W,BelW W1 W→Calls Tryd.prog 29 #[.agg #[.slice A0 n c0,.slice A1 n1 c1,.slice A2 n2 c2,.slice A3 n3 c3]] W fun e w'=>∃v,e=.returned v∧Below W.heap.size W w'∧Y2 (.agg #[.slice A0 n c0,.slice A1 n1 c1,.slice A2 n2 c2,.slice A3 n3 c3]) n B (ptB c) (rdL c.nodes) 3 v w':=fun B W h=>by
  refine (readers_own c _ W (HC1.out W h) (by rw[G.len];have:=G.few;omega) G.np).mono fun e w' ⟨g,h1,h2,h3,xs,h4⟩=>?_
  rw[G.len]at h1 h2
  exact⟨_,h1,h3,Y2.v3 ⟨g,xs,rfl,h2,h4⟩⟩
 have HOBS:=Lib.hid hobs
 have HRDS:=Lib.hid hrds
 have HG:=Lib.hid G
 have HO5:=Lib.hid hO
 have HRO1:Hid (Row W1 d O):=Lib.hid (hr.below hb1)
 have hn:=G.few
 have HPL:Hid ((ptB c).length=n):=Lib.hid (by rw[ptB_len];exact G.len)
 obtain⟨PT,HPT⟩:=named (ptB c)
 obtain⟨RD,HRD⟩:=named (rdL c.nodes)
 rw[←HPT.out,←HRD.out]at HOBS HRDS
 rw[←HPT.out]at HPL
 have HB1:=Lib.hid hb1
 obtain⟨i0,hi,hz0,hz1',hz2⟩:=info_parts info_int
 have HI:=Lib.hid (And.intro hi (And.intro hz0 (And.intro hz1' hz2)))
 obtain⟨x0,x1,x2,x3⟩:=HCE.out W1 (Below.refl _ _)
 have hol:=hO.len
 clear hi hz0 hz1' hz2 hc hb1 hfr hobs hrds G hO hr
 refine (callsIn_wide (n:=9)).1 ?_
 refine callsIn_of_wp_marks Tryd.func31 rfl trivial ?_ rfl
 simp only[Tryd.ntmps31,List.size_toArray,List.length_cons,List.length_nil,Nat.reduceAdd,Nat.reduceSub,Array.replicate_succ,Array.replicate_zero,List.push_toArray,List.append_toArray,List.nil_append,List.cons_append]
 refine wpIn_wide.2 ?_
 go_upto_region 1 with (fail)
 rw[←HW1.out,←HQ2.out]
 go_upto_region 2 with (fail)
 obtain⟨q5,HQ5⟩:=named W1.heap.size
 obtain⟨V2,HV2⟩:=named (W1.alloc (.cells #[.int .i64 (n:Int)] 3))
 have hv2:BelW W1 V2:=by rw[HV2.out];exact below_new (Below.refl _ _) _
 have hf5:Fr V2 q5 3 [.int .i64 (n:Int)]:=by rw[HV2.out];exact Fr.made _ _ _ HQ5.out
 rw[←HV2.out,←HQ5.out]
 have y5:V2.cell? ⟨q5,0,none⟩=some (.int .i64 (n:Int)):=hf5.cell 0
 have HNN:Hid (((n:Int)+1)=((n+1:Nat):Int)):=Lib.hid (by omega)
 have HQ55:=Lib.hid HQ5.out
 obtain⟨gP,HGP⟩:=named V2.heap.size
 have HGP2:=Lib.hid HGP.out
 clear HV2 HQ5 x0 x1 x2 x3
 go_upto_region 3 with (at_make;refine wpList_make_full _ rfl _ _ 25 rfl V2.heap.size 3 i0 (.int .i64 0) 1 Tryd.underlying25 HI.out.1 HI.out.2.1 HI.out.2.2.1 .i64 .i64 _ _ (n+1) rfl ?c1 ?c2 rfl ?b2 ?b3 ?b4 ?_)
 case c1=>rfl
 case c2=>rfl
 case b2=>rw[HI.out.2.2.2];omega
 case b3=>unfold maxLen;omega
 case b4=>exact Nat.le_refl _
 intro w3 hown hgr
 rw[made_zero]at hown
 rw[←HGP2.out]at hown
 have hR3:Row w3 gP (List.replicate (n+1) 0):=by unfold Row;rw[List.length_replicate];exact hown
 have hb3:BelW V2 w3:=(Below.refl _ _).grown hgr (Nat.le_refl _) (fun k h=>by cases h)
 rw[←HGP2.out]
 obtain⟨qP,HQP⟩:=named w3.heap.size
 obtain⟨W4,HW4⟩:=named (w3.alloc (.cells #[.slice (some ⟨gP,0,none⟩) (n+1) (n+1)] 25))
 have hb4:BelW w3 W4:=by rw[HW4.out];exact below_new (Below.refl _ _) _
 have hf4:Fr W4 qP 25 [.slice (some ⟨gP,0,none⟩) (n+1) (n+1)]:=by rw[HW4.out];exact Fr.made _ _ _ HQP.out
 have hW14:BelW W1 W4:=joinB hv2 (joinB hb3 hb4)
 have HPI4:Hid (Row W4 gP (List.replicate (n+1) 0)):=Lib.hid (hR3.below hb4)
 have HB14:=Lib.hid hW14
 have HF4:=Lib.hid hf4
 have HF5:Hid (Fr W4 q5 3 [.int .i64 (n:Int)]):=Lib.hid ((hf5.below hb3).below hb4)
 have HW1P:Hid (W1.heap.size≤gP∧d<W1.heap.size∧q5<gP∧gP<qP):=Lib.hid ⟨by rw[HGP2.out];exact Below.size hv2,HRO1.out.lt,by rw[HGP2.out];exact hf5.lt,by rw[HQP.out];exact hR3.lt⟩
 clear hown hgr hR3 hb3 hf4 hW14 hf5 hv2 hb4 y5
 go_upto_region 3 with (fail)
 rw[←HW4.out,←HQP.out]
 clear HW4 HQP
 go_wp2
 go_loopw [21] (fun i wr=>∃(k:Nat) (Pl:List Int),k≤n∧i=.int .i64 k∧Hid (PlI O n k Pl)∧Hid (Row wr gP Pl)∧Hid (BelW W1 wr)∧Hid (Fr wr qP 25 [.slice (some ⟨gP,0,none⟩) (n+1) (n+1)]∧Fr wr q5 3 [.int .i64 (n:Int)])) (fun i _=>n-(intOf i).toNat)
 case atStart=>exact⟨0,_,Nat.zero_le _,rfl,Lib.hid (PlI.start n),HPI4,HB14,Lib.hid ⟨HF4.out,HF5.out⟩⟩
 case round=>
  clear HPI4 HB14 HF4 HF5
  obtain⟨k,Pl,hk,rfl,HPI,HRP,HB,HFF⟩:=hrel
  have cP:wr.cell? ⟨qP,0,none⟩=some (.slice (some ⟨gP,0,none⟩) (n+1) (n+1)):=HFF.out.1.cell 0
  have c5:wr.cell? ⟨q5,0,none⟩=some (.int .i64 (n:Int)):=HFF.out.2.cell 0
  have hpl:=HPI.out.len
  by_cases hlt:k<n
  ·have hk2:(k:Int)<(n:Int):=by omega
   obtain⟨x,hx,ex⟩:=HO5.out.rg k hlt
   have hco:wr.cell? ⟨d,k,none⟩=some (.int .i64 (x:Int)):=by
    have h1:=(HRO1.out.below HB.out).cell (j:=k) (by rw[hol];exact hlt)
    rw[h1]
    unfold lat
    rw[Int.toNat_natCast,ex]
   have hx2:(x:Int)<(n:Int)+1:=by omega
   have hx3:(x:Int)<((n+1:Nat):Int):=by omega
   have hxl:x<n+1:=by omega
   have cx:wr.cell? ⟨gP,x,none⟩=some (.int .i64 (lat Pl x)):=HRP.out.cell (by omega)
   have fx:wr.frozen? ⟨gP,x,none⟩=false:=HRP.out.frozen x
   have HNX:Hid (PlI O n (k+1) (Pl.set x (k:Int))):=Lib.hid (by
    have h1:=HPI.out.step HO5.out hlt
    rw[ex,Int.toNat_natCast]at h1
    exact h1)
   have HRX:Hid (Row (wr.setCell ⟨gP,x,none⟩ (.int .i64 (k:Int))) gP (Pl.set x (k:Int))):=Lib.hid (HRP.out.set x _)
   have HBX:Hid (BelW W1 (wr.setCell ⟨gP,x,none⟩ (.int .i64 (k:Int)))):=Lib.hid (HB.out.setCell (p:=⟨gP,x,none⟩) HW1P.out.1 _)
   have HFX:Hid (Fr (wr.setCell ⟨gP,x,none⟩ (.int .i64 (k:Int))) qP 25 [.slice (some ⟨gP,0,none⟩) (n+1) (n+1)]∧Fr (wr.setCell ⟨gP,x,none⟩ (.int .i64 (k:Int))) q5 3 [.int .i64 (n:Int)]):=Lib.hid ⟨HFF.out.1.other (by have:=HW1P.out;show gP≠qP;omega) _,HFF.out.2.other (by have:=HW1P.out;show gP≠q5;omega) _⟩
   clear ex
   go_wp2
   go_roundw
   case rel=>exact⟨k+1,_,by omega,by go_num,HNX,HRX,HBX,HFX⟩
   case measure=>simp[intOf];omega
  ·obtain rfl:n=k:=by omega
   have cx:wr.cell? ⟨gP,n,none⟩=some (.int .i64 (lat Pl n)):=HRP.out.cell (by omega)
   have fx:wr.frozen? ⟨gP,n,none⟩=false:=HRP.out.frozen n
   have HPC:Hid (Plc O n (Pl.set n (n:Int))):=Lib.hid (HPI.out.stop HO5.out)
   obtain⟨PL,HPLN⟩:=named (Pl.set n (n:Int))
   obtain⟨w2,HW2⟩:=named (wr.setCell ⟨gP,n,none⟩ (.int .i64 (n:Int)))
   have HRP2:Hid (Row w2 gP PL):=Lib.hid (by rw[HW2.out,HPLN.out];exact HRP.out.set n _)
   have HB2:Hid (BelW W1 w2):=Lib.hid (by rw[HW2.out];exact HB.out.setCell (p:=⟨gP,n,none⟩) HW1P.out.1 _)
   have HF2:Hid (Fr w2 qP 25 [.slice (some ⟨gP,0,none⟩) (n+1) (n+1)]∧Fr w2 q5 3 [.int .i64 (n:Int)]):=Lib.hid (by rw[HW2.out];exact⟨HFF.out.1.other (by have:=HW1P.out;show gP≠qP;omega) _,HFF.out.2.other (by have:=HW1P.out;show gP≠q5;omega) _⟩)
   rw[←HPLN.out]at HPC
   clear HPI HRP HB HFF hlt
   go_upto_region 9 with (fail)
   rw[←HW2.out]
   clear cP c5 cx fx HW2 HPLN hpl
   have HBD:Hid (BelW W1 w2.drew):=Lib.hid (joinB HB2.out (Below.drew (Below.refl _ _)))
   refine AnyX.start (S:=fun _=>True) (t:=7) (by kernel_rfl) ?_
   refine AnyX.factsGo [35,36,37,38,9,10] (Y2 (.agg #[.slice A0 n c0,.slice A1 n1 c1,.slice A2 n2 c2,.slice A3 n3 c3]) n w2.heap.size PT RD) _ _ (by decide) ?hts (by decide) Y2.next (by kernel_rfl) (by kernel_rfl) ?hst ?hdo
   case hts => intro t ht; simp only [List.mem_cons, List.not_mem_nil, or_false] at ht; rcases ht with rfl | rfl | rfl | rfl | rfl | rfl <;> (show _ < Array.size _; simp)
   case hst=>
    intro i t a w' hD hF hB hdep
    have hBW:BelW W1 w':=joinB HBD.out hB
    have hi6:i<6:=(List.getElem?_eq_some_iff.1 hD).1
    obtain⟨y0,y1,y2,y3⟩:=HCE.out w' hBW
    rcases (by omega:i=0∨i=1∨i=2∨i=3∨i=4∨i=5) with rfl|rfl|rfl|rfl|rfl|rfl<;>obtain rfl:=Option.some.inj hD
    ·exact fop_loadC rfl rfl rfl rfl rfl (by rw[hF.eval (by decide)];rfl) y0 y1 y2 y3 (Y2.v0 rfl)
    ·exact fop_call1 rfl rfl rfl rfl (fun _ _=>rfl) ((hdep _ 0 35 rfl rfl (by kernel_rfl)).1 rfl) (HOBS.out _ w' hBW)
    ·exact fop_loadC rfl rfl rfl rfl rfl (by rw[hF.eval (by decide)];rfl) y0 y1 y2 y3 (Y2.v2 rfl)
    ·exact fop_call1 rfl rfl rfl rfl (fun _ _=>rfl) ((hdep _ 2 37 rfl rfl (by kernel_rfl)).2.2.1 rfl) (HRDS.out _ w' hBW)
    ·exact fop_allocB rfl rfl rfl rfl rfl fun w' h=>Y2.v4 ⟨_,rfl,(by have:=Below.size hB;exact this),h⟩
    ·exact fop_allocR rfl rfl rfl rfl rfl fun w' h=>Y2.v5 ⟨_,rfl,(by have:=Below.size hB;exact this),h⟩
   intro v w3 hb3 hF
   have HB3:=Lib.hid hb3
   have e0:=(hF 0 (by decide)).1 rfl
   obtain⟨g1,e1,hr1⟩:=(hF 1 (by decide)).2.1 rfl
   have e2:=(hF 2 (by decide)).2.2.1 rfl
   obtain⟨g3,xs3,e3,hn3,hx3⟩:=(hF 3 (by decide)).2.2.2.1 rfl
   obtain⟨q6,e6,l6,h6⟩:=(hF 4 (by decide)).2.2.2.2.1 rfl
   obtain⟨q7,e7,l7,h7⟩:=(hF 5 (by decide)).2.2.2.2.2 rfl
   have HBX:=Lib.hid (Bx2.made (w0:=w2) (joinB (Below.drew (Below.refl _ _)) hb3) h6 h7 l6 l7 hr1 hn3 hx3)
   have HH7:=Lib.hid (And.intro h7 (And.intro (h7.apart5 h6 (by decide)) (And.intro h6 trivial)))
   simp only[putsF,Nat.zero_add,Nat.reduceAdd,e0,e1,e2,e3,e6,e7,Act.put,List.setIfInBounds_toArray,List.set_cons_zero,List.set_cons_succ]
   clear e0 e1 e2 e3 e6 e7 hF hr1 hn3 hx3 hb3 l6 l7
   have z0:=h6.cell 0
   have z1:=h6.frozen 0
   clear h6 h7
   show AnyX _ _ _ _ _ _ 2 #[true,true,true,true,true,true,false,false] _ _
   refine AnyX.one (i:=6) (o:=⟨none,_,_,_,_,_⟩) (by kernel_rfl) rfl (fun K' hK=>?_)
   have HK:=Lib.hid hK
   clear hK
   go_simp
   refine HK.out _ _ (fun _=>trivial) ?_
   clear HK z0 z1
   (try simp only[Act.put,List.setIfInBounds_toArray,List.set_cons_zero,List.set_cons_succ])
   have z0:=(HH7.out.1.ne_t HH7.out.2.2.1 (by decide) (grown_cell w3 q6 (.slice (some ⟨g1,0,none⟩) n n))).cell 0
   have z1:=(HH7.out.1.ne_t HH7.out.2.2.1 (by decide) (grown_cell w3 q6 (.slice (some ⟨g1,0,none⟩) n n))).frozen 0
   refine AnyX.one (i:=7) (o:=⟨none,_,_,_,_,_⟩) (by kernel_rfl) rfl (fun K' hK=>?_)
   have HK:=Lib.hid hK
   clear hK
   go_simp
   refine HK.out _ _ (fun h=>absurd rfl h) ?_
   clear HK z0 z1 HH7
   (try simp only[Act.put,List.setIfInBounds_toArray,List.set_cons_zero,List.set_cons_succ])
   refine AnyX.done (by kernel_rfl) ?_ _
   obtain⟨W4,HW4⟩:=named ((w3.setCell ⟨q6,0,none⟩ (.slice (some ⟨g1,0,none⟩) n n)).setCell ⟨q7,0,none⟩ (.slice (some ⟨g3,0,none⟩) n n))
   rw[←HW4.out]at HBX
   rw[←HW4.out]
   have HW44:=Lib.hid HW4.out
   clear HW4 HB3
   clear HBD
   have y5:W4.cell? ⟨q5,0,none⟩=some (.int .i64 (n:Int)):=(HF2.out.2.below HBX.out.bel).cell 0
   obtain⟨gS,HGS⟩:=named W4.heap.size
   have HGS2:=Lib.hid HGS.out
   go_upto_region 11 with (at_make;refine wpList_make_full _ rfl _ _ 25 rfl W4.heap.size 3 i0 (.int .i64 0) 1 Tryd.underlying25 HI.out.1 HI.out.2.1 HI.out.2.2.1 .i64 .i64 _ _ n rfl rfl rfl rfl ?b2 ?b3 ?b4 ?_)
   case b2=>rw[HI.out.2.2.2];omega
   case b3=>unfold maxLen;omega
   case b4=>exact Nat.le_refl _
   intro w5 hown hgr
   rw[made_zero]at hown
   rw[←HGS2.out]at hown
   have hR5:Row w5 gS (List.replicate n 0):=by unfold Row;rw[List.length_replicate];exact hown
   have hb5:BelW W4 w5:=(Below.refl _ _).grown hgr (Nat.le_refl _) (fun k h=>by cases h)
   have hnx5:NxR w5 gS g3 0 n RD:=by
    obtain⟨h1,h2⟩:=HBX.out.nxt
    refine⟨by rw[HGS2.out];exact h1,fun i hi=>?_⟩
    obtain⟨A,cc,h3,h4⟩:=h2 i hi
    exact⟨A,cc,(Below.cell hb5 (p:=⟨g3,0+i,none⟩) h1).trans h3,by rw[HGS2.out];exact h4.below hb5⟩
   rw[←HGS2.out]
   obtain⟨q8,HQ8⟩:=named w5.heap.size
   obtain⟨W6,HW6⟩:=named (w5.alloc (.cells #[.slice (some ⟨gS,0,none⟩) n n] 25))
   have hb6:BelW w5 W6:=by rw[HW6.out];exact below_new (Below.refl _ _) _
   have hf6:Fr W6 q8 25 [.slice (some ⟨gS,0,none⟩) n n]:=by rw[HW6.out];exact Fr.made _ _ _ HQ8.out
   have hb46:=joinB hb5 hb6
   have hlo:w2.heap.size≤gS:=by rw[HGS2.out];exact Below.size HBX.out.bel
   have hgl:gP<w2.heap.size:=HRP2.out.lt
   have hql:q5<gP:=HW1P.out.2.2.1
   have hbw:=(HBX.out.next hb46).bel
   have HRS6:Hid (Rsn w2 q6 q7 q8 g1 g3 gS n q5 qP gP PT RD (List.replicate n 0) PL W6):=Lib.hid ⟨⟨(HBX.out.next hb46).bel,(HBX.out.next hb46).b6,(HBX.out.next hb46).b7,hf6,(HBX.out.next hb46).row,hnx5.turn (B:=0) (row:=none) ⟨grown_of hb6 none,fun r e=>by cases e⟩,hR5.below hb6,hlo⟩,HF2.out.2.below hbw,HF2.out.1.below hbw,HRP2.out.below hbw,by omega,by omega⟩
   have HRO6:Hid (Row W6 d O):=Lib.hid ((HRO1.out.below HB2.out).below hbw)
   clear hown hgr hR5 hb5 hnx5 hf6 hb46 y5 hbw
   go_upto_region 11 with (fail)
   rw[←HW6.out,←HQ8.out]
   have HQ88:=Lib.hid HQ8.out
   clear HW6 HQ8
   have HBK:=Lib.hid (backward_any (some ⟨d,0,none⟩) n n W6)
   go_upto_region 12 with (go_at_call 36;(with_reducible refine HBK.out.mono ?_);rintro e w7 ⟨rfl,h1,h2,h3⟩;have HBC:=Lib.hid h1;have HBS:=Lib.hid h2;have HB7:=Lib.hid h3;clear h1 h2 h3)
   obtain⟨qB,HQB⟩:=named W6.heap.size
   rw[←HQB.out]at HBC HBS
   rw[←HQB.out]
   have HQB2:=Lib.hid HQB.out
   have HRO7:Hid (Row w7 d O):=Lib.hid (HRO6.out.below HB7.out)
   have HRS7:Hid (Rsn w2 q6 q7 q8 g1 g3 gS n q5 qP gP PT RD (List.replicate n 0) PL w7):=Lib.hid (HRS6.out.next HB7.out)
   have HWZ:Hid (w2.heap.size≤w7.heap.size∧d<w2.heap.size∧gS<qB∧w2.heap.size≤gS):=Lib.hid ⟨(by have:=Below.size HRS7.out.rst.bel;exact this),(HRO1.out.below HB2.out).lt,by rw[HQB2.out];exact HRS6.out.rst.st.lt,hlo⟩
   have hwz:=HWZ.out
   have hbs:=HBS.out
   refine (wpIn_wide (n:=9)).1 ?_
   refine range_all (F:=Fence.wide) (n:=9) (B:=w7.heap.size) (gx:=gS) (zs:=backL O) rfl (by decide) rfl trivial (fun _ _=>rfl) (back_seq Fence.wide _ trivial rfl (by decide) qB w7.heap.size gS (some ⟨d,0,none⟩) d 0 n O w7 (fun _=>rfl) (fun _=>⟨by omega,by omega⟩) (fun j hj=>by rw[Nat.zero_add];exact HRO7.out.cell hj) (by omega) (Nat.le_refl _) ⟨by omega,by omega⟩ (by rw[hol];exact HBC.out)) (Nat.le_refl _) (fun _=>rfl)
    (fun k V=>∃N,NrI (fun x:Int=>RD x.toNat) (fun x:Int=>bat PT x.toNat=true) PL n k N∧Rsn w2 q6 q7 q8 g1 g3 gS n q5 qP gP PT RD N PL V∧w7.heap.size≤V.heap.size) ?hI ?h0 ?at1 ?hassign ?hbody ?hdone
   case hI=>exact fun s W W' row ⟨St,h1,h2,h3⟩ hg hr=>⟨St,h1,h2.turn hwz.1 ⟨hg,hr⟩,Nat.le_trans h3 hg.size⟩
   case h0=>exact⟨_,NrI.start List.length_replicate HPC.out HO5.out,HRS7.out,Nat.le_refl _⟩
   case hassign=>
    intro l x V K hK
    gi_wp2
    exact hK
   case hbody=>
    rintro l k ⟨j,z⟩ V hl hz ⟨N,hSI,hRS,hVZ⟩
    have HVZ:=Lib.hid hVZ
    clear hVZ
    obtain⟨hkj,rfl⟩:=backL_inv hz
    obtain⟨x,hx,ex⟩:=HO5.out.rg j (by omega)
    have hkn:n=k+1+j:=by omega
    have hx2:(x:Int)<(n:Int):=by omega
    have HEX:=Lib.hid ex
    have HKN:=Lib.hid hkn
    clear hkn hkj
    have HSI:=Lib.hid hSI
    have HRS:=Lib.hid hRS
    rw[ex]
    have c8:V.cell? ⟨q8,0,none⟩=some (.slice (some ⟨gS,0,none⟩) n n):=hRS.rst.b8.cell 0
    have c5:V.cell? ⟨q5,0,none⟩=some (.int .i64 (n:Int)):=hRS.e5.cell 0
    have hsl:N.length=n:=hSI.len
    have cx:V.cell? ⟨gS,x,none⟩=some (.int .i64 (lat N x)):=hRS.rst.st.cell (by omega)
    have fx:V.frozen? ⟨gS,x,none⟩=false:=hRS.rst.st.frozen x
    clear hz ex hSI hRS
    gi_upto_region 14 with fail
    obtain⟨V2,HV2⟩:=named (V.setCell ⟨gS,x,none⟩ (.int .i64 (n:Int)))
    rw[←HV2.out]
    have HR2:Hid (Rsn w2 q6 q7 q8 g1 g3 gS n q5 qP gP PT RD (N.set x (n:Int)) PL V2):=Lib.hid (by rw[HV2.out];exact HRS.out.set x _)
    have HVZ2:Hid (w7.heap.size≤V2.heap.size):=Lib.hid (by rw[HV2.out,World.size_setCell];exact HVZ.out)
    have HKF:Hid (KeepsFrom w7.heap.size V V2∧Kx w7.heap.size gS V V2):=Lib.hid ⟨by rw[HV2.out];exact (KeepsOthers.setCell _ _ _).from _,fun b _ hb=>by rw[HV2.out];exact heap_setCell_ne _ _ _ hb⟩
    clear c8 c5 cx fx HV2
    have c6:V2.cell? ⟨q6,0,none⟩=some (.slice (some ⟨g1,0,none⟩) n n):=HR2.out.rst.b6.cell 0
    have hpl:=HPL.out
    have cp:V2.cell? ⟨g1,x,none⟩=some (.bool (bat PT x)):=HR2.out.rst.row.cell (by unfold bat;rw[List.getD_eq_getElem?_getD,List.getElem?_eq_getElem (by omega)];rfl)
    have HPUT:Hid (∀m:Int,(bat PT x=true→m=(n:Int))→(¬bat PT x=true→Mt n (fun x:Int=>RD x.toNat) (fun x:Int=>bat PT x.toNat=true) (nrf (N.set x (n:Int))) (nrf PL) (j:Int) m (RD x))→NrI (fun x:Int=>RD x.toNat) (fun x:Int=>bat PT x.toNat=true) PL n (k+1) (N.set x m)):=Lib.hid fun m h1 h2=>by
     have h0:NrI (fun x:Int=>RD x.toNat) (fun x:Int=>bat PT x.toNat=true) PL n k (N.set x (n:Int)):=⟨by rw[List.length_set];exact hsl,fun y hy hle=>(HSI.out.pre HPC.out HO5.out HKN.out HEX.out y hy (by have:=HKN.out;omega)).1⟩
     have h3:=h0.put (m:=m) HPC.out HO5.out HKN.out HEX.out (fun x hx=>by rw[HRD.out];exact HG.out.inr x hx) (fun g=>h1 (by rw[Int.toNat_natCast]at g;exact g)) (fun g=>by rw[Int.toNat_natCast];exact h2 (fun g2=>g (by rw[Int.toNat_natCast];exact g2)))
     rwa [List.set_set]at h3
    have HCOP:Hid (CoP n (fun x:Int=>RD x.toNat) (fun x:Int=>bat PT x.toNat=true) (N.set x (n:Int)) PL (j:Int) (RD x)):=Lib.hid {
     ln:=by rw[List.length_set];exact hsl
     lp:=HPC.out.len
     hN:=fun y hy hlt=>(HSI.out.pre HPC.out HO5.out HKN.out HEX.out y hy hlt).1
     hl:=fun s hs=>by
      rw[HRD.out]at hs
      have h1:=HG.out.inr' x s hs
      refine⟨h1,?_⟩
      have h2:=HPC.out.up HO5.out (x:=(x:Int)) (y:=s) ⟨by omega,by omega⟩ h1 (HG.out.up (x:Int) s ⟨by omega,by omega⟩ (by rw[Int.toNat_natCast];exact hs))
      have h3:=HPC.out.at' j (by have:=HKN.out;omega)
      rw[HEX.out]at h3
      unfold nrf
      omega
     hp:=by unfold nrf;rw[Int.toNat_natCast];exact HPC.out.ex
     hlt:=fun y hy=>HPC.out.lt HO5.out hy
     inj:=fun a b ha hb e=>HPC.out.inj HO5.out ha hb e
     hnx:=fun x hx=>by rw[HRD.out];exact HG.out.inr x hx }
    cases hpb:bat PT x
    ·rw[hpb]at cp
     clear hpl
     have c7:V2.cell? ⟨q7,0,none⟩=some (.slice (some ⟨g3,0,none⟩) n n):=HR2.out.rst.b7.cell 0
     have c8:V2.cell? ⟨q8,0,none⟩=some (.slice (some ⟨gS,0,none⟩) n n):=HR2.out.rst.b8.cell 0
     have cq:V2.cell? ⟨qP,0,none⟩=some (.slice (some ⟨gP,0,none⟩) (n+1) (n+1)):=HR2.out.eP.cell 0
     obtain⟨A1,c1',cn,hin⟩:=HR2.out.rst.nxt.2 x hx
     rw[Nat.zero_add]at cn
     have hrl:(RD x).length≤1000000000:=by
      have h1:=rdT_len c.nodes x 16 n HG.out.deps n (Nat.le_refl _)
      rw[HRD.out]
      unfold rdL
      rw[HG.out.len]
      omega
     have HIN:Hid (Is V2.drew V2.drew.heap.size (.slice A1 (RD x).length c1') (RD x)):=Lib.hid (hin.more (Nat.le_of_lt HR2.out.rst.st.lt))
     have hpb':¬bat PT x=true:=by rw[hpb];decide
     have HPUT2:Hid (∀m:Int,Mt n (fun x:Int=>RD x.toNat) (fun x:Int=>bat PT x.toNat=true) (nrf (N.set x (n:Int))) (nrf PL) (j:Int) m (RD x)→NrI (fun x:Int=>RD x.toNat) (fun x:Int=>bat PT x.toNat=true) PL n (k+1) (N.set x m)):=Lib.hid fun m h=>HPUT.out m (fun g=>absurd g hpb') fun _=>h
     have HRD2:Hid (Rsn w2 q6 q7 q8 g1 g3 gS n q5 qP gP PT RD (N.set x (n:Int)) PL V2.drew):=Lib.hid (HR2.out.next (Below.drew (Below.refl _ _)))
     have HCOM:=Lib.hid (common_any n (fun x:Int=>RD x.toNat) (fun x:Int=>bat PT x.toNat=true) (N.set x (n:Int)) PL (j:Int) (RD x) A1 (RD x).length c1' gS gP V2.drew HCOP.out (by omega) HIN.out hrl HRD2.out.rst.st HRD2.out.pl)
     obtain⟨m,HM⟩:=named (RD x).length
     rw[←HM.out]at cn HCOM
     have HS0:Hid (V2.drew.cell? ⟨q8,0,none⟩=some (.slice (some ⟨gS,0,none⟩) n n)∧V2.drew.cell? ⟨q7,0,none⟩=some (.slice (some ⟨g3,0,none⟩) n n)∧V2.drew.cell? ⟨g3,x,none⟩=some (.slice A1 m c1')∧V2.drew.cell? ⟨qP,0,none⟩=some (.slice (some ⟨gP,0,none⟩) (n+1) (n+1))):=Lib.hid ⟨c8,c7,cn,cq⟩
     clear hin hrl hpb'
     gi_upto_region 15 with fail
     refine AnyX.startIn (S:=fun w'=>w'.cell? ⟨q8,0,none⟩=some (.slice (some ⟨gS,0,none⟩) n n)∧w'.cell? ⟨q7,0,none⟩=some (.slice (some ⟨g3,0,none⟩) n n)∧w'.cell? ⟨g3,x,none⟩=some (.slice A1 m c1')∧w'.cell? ⟨qP,0,none⟩=some (.slice (some ⟨gP,0,none⟩) (n+1) (n+1))) (t:=10) (by kernel_rfl) (by kernel_rfl) (fun a w h=>?hlo) ?_
     case hlo=>exact absurd (show Exit.outgrown=Exit.normal from h.1) (by simp)
     refine AnyX.take (i:=0) (oi:=⟨some 54,_,_,_,_,_⟩) (v:=.slice (some ⟨gS,0,none⟩) n n) rfl rfl (by kernel_rfl) (by kernel_rfl) (by kernel_rfl) (by kernel_rfl) (fun _ _ _ h=>h) (Or.inl ⟨by rfl,?_⟩) HS0.out ?_
     ·intro w' hSw
      obtain⟨k8,k7,kn,kP⟩:=hSw
      first|(go_simp;done)|(go_simp;with_reducible rfl)|(go_simp;intro hh;exfalso;omega)
     simp only[Act.put,List.setIfInBounds_toArray,List.set_cons_zero,List.set_cons_succ]
     refine AnyX.take (i:=1) (oi:=⟨some 55,_,_,_,_,_⟩) (v:=.int .i64 (x:Int)) rfl rfl (by kernel_rfl) (by kernel_rfl) (by kernel_rfl) (by kernel_rfl) (fun _ _ _ h=>h) (Or.inl ⟨by rfl,?_⟩) HS0.out ?_
     ·intro w' hSw
      obtain⟨k8,k7,kn,kP⟩:=hSw
      first|(go_simp;done)|(go_simp;with_reducible rfl)|(go_simp;intro hh;exfalso;omega)
     simp only[Act.put,List.setIfInBounds_toArray,List.set_cons_zero,List.set_cons_succ]
     refine AnyX.take (i:=2) (oi:=⟨some 56,_,_,_,_,_⟩) (v:=.slice (some ⟨g3,0,none⟩) n n) rfl rfl (by kernel_rfl) (by kernel_rfl) (by kernel_rfl) (by kernel_rfl) (fun _ _ _ h=>h) (Or.inl ⟨by rfl,?_⟩) HS0.out ?_
     ·intro w' hSw
      obtain⟨k8,k7,kn,kP⟩:=hSw
      first|(go_simp;done)|(go_simp;with_reducible rfl)|(go_simp;intro hh;exfalso;omega)
     simp only[Act.put,List.setIfInBounds_toArray,List.set_cons_zero,List.set_cons_succ]
     refine AnyX.take (i:=3) (oi:=⟨some 57,_,_,_,_,_⟩) (v:=.int .i64 (x:Int)) rfl rfl (by kernel_rfl) (by kernel_rfl) (by kernel_rfl) (by kernel_rfl) (fun _ _ _ h=>h) (Or.inl ⟨by rfl,?_⟩) HS0.out ?_
     ·intro w' hSw
      obtain⟨k8,k7,kn,kP⟩:=hSw
      first|(go_simp;done)|(go_simp;with_reducible rfl)|(go_simp;intro hh;exfalso;omega)
     simp only[Act.put,List.setIfInBounds_toArray,List.set_cons_zero,List.set_cons_succ]
     refine AnyX.take (i:=4) (oi:=⟨some 58,_,_,_,_,_⟩) (v:=.pointer (some ⟨g3,x,none⟩)) rfl rfl (by kernel_rfl) (by kernel_rfl) (by kernel_rfl) (by kernel_rfl) (fun _ _ _ h=>h) (Or.inl ⟨by rfl,?_⟩) HS0.out ?_
     ·intro w' hSw
      obtain⟨k8,k7,kn,kP⟩:=hSw
      first|(go_simp;done)|(go_simp;with_reducible rfl)|(go_simp;intro hh;exfalso;omega)
     simp only[Act.put,List.setIfInBounds_toArray,List.set_cons_zero,List.set_cons_succ]
     refine AnyX.take (i:=5) (oi:=⟨some 59,_,_,_,_,_⟩) (v:=.slice A1 m c1') rfl rfl (by kernel_rfl) (by kernel_rfl) (by kernel_rfl) (by kernel_rfl) (fun _ _ _ h=>h) (Or.inl ⟨by rfl,?_⟩) HS0.out ?_
     ·intro w' hSw
      obtain⟨k8,k7,kn,kP⟩:=hSw
      first|(go_simp;done)|(go_simp;with_reducible rfl)|(go_simp;intro hh;exfalso;omega)
     simp only[Act.put,List.setIfInBounds_toArray,List.set_cons_zero,List.set_cons_succ]
     refine AnyX.take (i:=6) (oi:=⟨some 60,_,_,_,_,_⟩) (v:=.slice (some ⟨gS,0,none⟩) n n) rfl rfl (by kernel_rfl) (by kernel_rfl) (by kernel_rfl) (by kernel_rfl) (fun _ _ _ h=>h) (Or.inl ⟨by rfl,?_⟩) HS0.out ?_
     ·intro w' hSw
      obtain⟨k8,k7,kn,kP⟩:=hSw
      first|(go_simp;done)|(go_simp;with_reducible rfl)|(go_simp;intro hh;exfalso;omega)
     simp only[Act.put,List.setIfInBounds_toArray,List.set_cons_zero,List.set_cons_succ]
     refine AnyX.take (i:=7) (oi:=⟨some 61,_,_,_,_,_⟩) (v:=.slice (some ⟨gP,0,none⟩) (n+1) (n+1)) rfl rfl (by kernel_rfl) (by kernel_rfl) (by kernel_rfl) (by kernel_rfl) (fun _ _ _ h=>h) (Or.inl ⟨by rfl,?_⟩) HS0.out ?_
     ·intro w' hSw
      obtain⟨k8,k7,kn,kP⟩:=hSw
      first|(go_simp;done)|(go_simp;with_reducible rfl)|(go_simp;intro hh;exfalso;omega)
     simp only[Act.put,List.setIfInBounds_toArray,List.set_cons_zero,List.set_cons_succ]
     refine AnyX.one (i:=8) (o:=⟨some 62,_,_,_,_,_⟩) (by kernel_rfl) rfl (fun K' hK=>?_)
     have HK:=Lib.hid hK
     clear hK
     go_simp
     (with_reducible refine HCOM.out.mono ?_)
     rintro e w9 ⟨mv,rfl,hmt,hb9⟩
     have HS9:Hid (w9.cell? ⟨q8,0,none⟩=some (.slice (some ⟨gS,0,none⟩) n n)∧w9.cell? ⟨q7,0,none⟩=some (.slice (some ⟨g3,0,none⟩) n n)∧w9.cell? ⟨g3,x,none⟩=some (.slice A1 m c1')∧w9.cell? ⟨qP,0,none⟩=some (.slice (some ⟨gP,0,none⟩) (n+1) (n+1))):=Lib.hid (by
      have h9:=HRD2.out.next hb9
      obtain⟨A2,c2',cn2,-⟩:=h9.rst.nxt.2 x hx
      rw[Nat.zero_add]at cn2
      exact⟨h9.rst.b8.cell 0,h9.rst.b7.cell 0,(Below.cell hb9 (p:=⟨g3,x,none⟩) (Nat.lt_trans HRD2.out.rst.nxt.1 HRD2.out.rst.st.lt)).trans HS0.out.2.2.1,h9.eP.cell 0⟩)
     have HR9:Hid (Rsn w2 q6 q7 q8 g1 g3 gS n q5 qP gP PT RD (N.set x (n:Int)) PL w9):=Lib.hid (HRD2.out.next hb9)
     have HMT:=Lib.hid (HPUT2.out mv hmt)
     have HB9:=Lib.hid hb9
     clear hmt hb9
     refine HK.out _ _ (fun _=>HS9.out) ?_
     clear HK
     (try simp only[Act.put,List.setIfInBounds_toArray,List.set_cons_zero,List.set_cons_succ])
     refine AnyX.take (i:=9) (oi:=⟨some 63,_,_,_,_,_⟩) (v:=.pointer (some ⟨gS,x,none⟩)) rfl rfl (by kernel_rfl) (by kernel_rfl) (by kernel_rfl) (by kernel_rfl) (fun _ _ _ h=>h) (Or.inl ⟨by rfl,?_⟩) HS9.out ?_
     ·intro w' hSw
      obtain⟨k8,k7,kn,kP⟩:=hSw
      first|(go_simp;done)|(go_simp;with_reducible rfl)|(go_simp;intro hh;exfalso;omega)
     simp only[Act.put,List.setIfInBounds_toArray,List.set_cons_zero,List.set_cons_succ]
     have hfx:w9.frozen? ⟨gS,x,none⟩=false:=HR9.out.rst.st.frozen x
     have hcx:w9.cell? ⟨gS,x,none⟩=some (.int .i64 (lat (N.set x (n:Int)) x)):=HR9.out.rst.st.cell (by rw[List.length_set];omega)
     refine AnyX.one (i:=10) (o:=⟨none,_,_,_,_,_⟩) (by kernel_rfl) rfl (fun K' hK=>?_)
     have HK:=Lib.hid hK
     clear hK
     go_simp
     refine HK.out _ _ (fun h=>absurd rfl h) ?_
     clear HK
     (try simp only[Act.put,List.setIfInBounds_toArray,List.set_cons_zero,List.set_cons_succ])
     refine AnyX.done (by kernel_rfl) ?_ _
     have HR3:Hid (Rsn w2 q6 q7 q8 g1 g3 gS n q5 qP gP PT RD (N.set x mv) PL (w9.setCell ⟨gS,x,none⟩ (.int .i64 mv))):=Lib.hid (by
      have h1:=HR9.out.set x mv
      rwa [List.set_set]at h1)
     have HKF2:Hid (KeepsFrom w7.heap.size V (w9.setCell ⟨gS,x,none⟩ (.int .i64 mv))∧Kx w7.heap.size gS V (w9.setCell ⟨gS,x,none⟩ (.int .i64 mv))):=Lib.hid ⟨HKF.out.1.trans ((((KeepsOthers.drew V2).trans (KeepsOthers.of_grownBy (row:=none) (grown_of HB9.out none) (fun j o e=>by cases e))).trans (KeepsOthers.setCell w9 ⟨gS,x,none⟩ (.int .i64 mv))).from _),(HKF.out.2.trans (Kx.of_below (V:=V2) (V':=w9) (C:=V2.heap.size) ((Below.drew (Below.refl _ V2)).trans HB9.out) HVZ2.out)).trans fun b _ hb=>heap_setCell_ne w9 ⟨gS,x,none⟩ (.int .i64 mv) hb⟩
     have HVZ9:Hid (w7.heap.size≤w9.heap.size):=Lib.hid (Nat.le_trans HVZ2.out (by have:=Below.size HB9.out;exact this))
     gi_wp2
     exact⟨HKF2.out.1,HKF2.out.2,_,HMT.out,HR3.out,HVZ9.out⟩
    ·rw[hpb]at cp
     have HST:=Lib.hid (HPUT.out (n:Int) (fun _=>rfl) (fun g=>absurd hpb g))
     clear hpl hpb
     gi_wp2
     exact⟨HKF.out.1,HKF.out.2,_,HST.out,HR2.out,HVZ2.out⟩
   case hdone=>
    rintro D V hD ⟨N,hSI,hRS,-⟩ hK
    rw[backL_len,hol]at hSI
    have c8:V.cell? ⟨q8,0,none⟩=some (.slice (some ⟨gS,0,none⟩) n n):=hRS.rst.b8.cell 0
    have HSQ:Hid (N.length=n∧∀y,Nod n y→Near n (fun x:Int=>rdL c.nodes x.toNat) (fun x:Int=>bat (ptB c) x.toNat=true) (nrf N) (nrf PL) y):=Lib.hid ⟨hSI.len,fun y hy=>by
     have h1:=hSI.all HPC.out HO5.out hy
     rw[HRD.out,HPT.out]at h1
     exact h1⟩
    have HRS:=Lib.hid hRS
    have HD:=Lib.hid hD
    have HK2:=Lib.hid hK
    clear hSI hRS hK
    go_wp2
    have hR9:=HRS.out.turn (B:=w7.heap.size) (row:=some D) hwz.1 ⟨grownBy_putObj' V D (.deferred none),fun r e=>by cases e;exact⟨HD.out,_,HK2.out,rfl⟩⟩
    refine⟨by simp,.inl ⟨_,_,rfl,run_takeDeferred HK2.out,?_⟩⟩
    exact⟨_,results_tmp rfl _ _ _,gS,N,rfl,hR9.rst.st,HSQ.out.1,⟨PL,HPC.out,HSQ.out.2⟩,joinB HB1.out (joinB HB2.out hR9.rst.bel)⟩
theorem idx_nod{n:Nat}{z:Int} :isIdx n z=true↔Nod n z:=by
 unfold isIdx Nod
 simp
def slN:Value→Nat
 | .slice _ n _=>n
 |_=>0
set_option maxRecDepth 100000 in
set_option maxHeartbeats 8000000 in
theorem doms_ok(c:Ck)(L:List Int)(A0 A1 A2 A3:Option Addr)(n n1 n2 n3 c0 c1 c2 c3:Nat)(w:World)(x:Nat)(hx:x<n)(G:G5 c n L)(hT:Tabs w)(hc:Cir w w.heap.size (.agg #[.slice A0 n c0,.slice A1 n1 c1,.slice A2 n2 c2,.slice A3 n3 c3]) c):
 Calls Tryd.prog 11 #[.agg #[.slice A0 n c0,.slice A1 n1 c1,.slice A2 n2 c2,.slice A3 n3 c3],.int .i64 (x:Int)] w fun e w'=>∃A T,e=.returned (.tuple #[.slice A T.length T.length,.int .i64 0])∧DomL n (fun x:Int=>rdL c.nodes x.toNat) (fun x:Int=>bat (ptB c) x.toNat=true) L (x:Int) T∧Is w' w'.heap.size (.slice A T.length T.length) T∧BelW w w':=by
 obtain⟨W1,HW1⟩:=named (w.alloc (.cells #[.slice A0 n c0,.slice A1 n1 c1,.slice A2 n2 c2,.slice A3 n3 c3] 27))
 have hb1:BelW w W1:=by rw[HW1.out];exact below_new (Below.refl _ _) _
 have hfr:Fr W1 w.heap.size 27 [.slice A0 n c0,.slice A1 n1 c1,.slice A2 n2 c2,.slice A3 n3 c3]:=by rw[HW1.out];exact Fr.made _ _ _ rfl
 obtain⟨q,HQ⟩:=named w.heap.size
 rw[←HQ.out]at hfr
 have HQ2:=Lib.hid HQ.out
 have HCE:Hid (∀W,BelW W1 W→W.cell? ⟨q,0,none⟩=some (.slice A0 n c0)∧W.cell? ⟨q,1,none⟩=some (.slice A1 n1 c1)∧W.cell? ⟨q,2,none⟩=some (.slice A2 n2 c2)∧W.cell? ⟨q,3,none⟩=some (.slice A3 n3 c3)):=Lib.hid fun W h=>⟨(hfr.below h).cell 0,(hfr.below h).cell 1,(hfr.below h).cell 2,(hfr.below h).cell 3⟩
 have HC1:Hid (∀W,BelW W1 W→Cir W W.heap.size (.agg #[.slice A0 n c0,.slice A1 n1 c1,.slice A2 n2 c2,.slice A3 n3 c3]) c):=Lib.hid fun W h=>(hc.below (joinB hb1 h)).more (Below.size (joinB hb1 h))
 have hord:=(order_20 c _ W1 W1.heap.size (Nat.le_refl _) (hT.below hb1) (HC1.out W1 (Below.refl _ _)) (by rw[G.len];exact G.few)).mono (R':=fun e w'=>∃d O,e=.returned (.tuple #[.slice (some ⟨d,0,none⟩) n n,.int .i64 0])∧Row w' d O∧Ord5 L n O∧BelW W1 w') fun e w' ⟨h1,h2⟩=>by
  rcases h2 with⟨-,-,L',R,d,h3,-,h4,-,h6,h7⟩| ⟨h3,-⟩
  ·rw[h3.unique G.wf G.lvl,G.len]at h4
   rw[G.len]at h6
   exact⟨d,R,h6,h7,ord5_of h4 G.bnd,h1⟩
  ·exact absurd G.ok h3
 have HORD:=Lib.hid hord
 have hn:=G.few
 have HIS:Hid (∀z W,Calls Tryd.prog 30 #[.agg #[.slice A0 n c0,.slice A1 n1 c1,.slice A2 n2 c2,.slice A3 n3 c3],.int .i64 z] W fun e w'=>e=.returned (.bool (isIdx n z))∧BelW W w'):=Lib.hid fun z W=>isnode_any A0 A1 A2 A3 n n1 n2 n3 c0 c1 c2 c3 z W (by unfold maxLen;omega)
 have HNR:Hid (∀W d O,BelW W1 W→Ord5 L n O→Row W d O→Calls Tryd.prog 31 #[.agg #[.slice A0 n c0,.slice A1 n1 c1,.slice A2 n2 c2,.slice A3 n3 c3],.slice (some ⟨d,0,none⟩) n n] W fun e w'=>∃g N,e=.returned (.slice (some ⟨g,0,none⟩) n n)∧Row w' g N∧N.length=n∧(∃Pl,Plc O n Pl∧∀y,Nod n y→Near n (fun x:Int=>rdL c.nodes x.toNat) (fun x:Int=>bat (ptB c) x.toNat=true) (nrf N) (nrf Pl) y)∧BelW W w'):=Lib.hid fun W d O h h1 h2=>nearest_any c L O A0 A1 A2 A3 n n1 n2 n3 c0 c1 c2 c3 d W G (HC1.out W h) h1 h2
 have HG:=Lib.hid G
 have HB1:=Lib.hid hb1
 have hxi:isIdx n (x:Int)=true:=idx_nod.2 ⟨by omega,by omega⟩
 have hi1:=HIS.out (x:Int)
 rw[hxi]at hi1
 have HI1:=Lib.hid hi1
 obtain⟨i1,hi1',hz0,hz1,hz2⟩:=info_parts info_int
 have HI:=Lib.hid (And.intro hi1' (And.intro hz0 (And.intro hz1 hz2)))
 obtain⟨x0,x1,x2,x3⟩:=HCE.out W1 (Below.refl _ _)
 have hx2:(x:Int)<(n:Int):=by omega
 clear hi1 hi1' hz0 hz1 hz2 hc hb1 hfr hord hT G hxi
 go_enter Tryd.func11,Tryd.ntmps11
 go_upto_region 1 with (fail)
 rw[←HW1.out,←HQ2.out]
 go_upto_region 2 with (go_at_call 20;(with_reducible refine HORD.out.mono ?_);rintro e w2 ⟨d,O,rfl,h1,h2,h3⟩;have HRO:=Lib.hid h1;have HO5:=Lib.hid h2;have HB2:=Lib.hid h3;clear h1 h2 h3 x0 x1 x2 x3)
 obtain⟨x0,x1,x2,x3⟩:=HCE.out w2 HB2.out
 go_upto_region 6 with (go_at_call 30;(with_reducible refine (HI1.out _).mono ?_);rintro e w3 ⟨rfl,h1⟩;have HB3:=Lib.hid h1;clear h1 x0 x1 x2 x3)
 have HNR3:=Lib.hid (HNR.out w3 d O (joinB HB2.out HB3.out) HO5.out (HRO.out.below HB3.out))
 obtain⟨x0,x1,x2,x3⟩:=HCE.out w3 (joinB HB2.out HB3.out)
 go_upto_region 7 with (go_at_call 31;(with_reducible refine HNR3.out.mono ?_);rintro e w4 ⟨g,N,rfl,h1,h2,h3,h4⟩;have HRN:=Lib.hid h1;have HLN:=Lib.hid h2;have HPN:=Lib.hid h3;have HB4:=Lib.hid h4;clear h1 h2 h3 h4 x0 x1 x2 x3)
 have HB14:Hid (BelW W1 w4):=Lib.hid (joinB HB2.out (joinB HB3.out HB4.out))
 obtain⟨Pl,hPl,hNear⟩:=HPN.out
 have HNE:=Lib.hid hNear
 have HPL:Hid (∀y,Nod n y→0≤nrf Pl y∧nrf Pl y<(n:Int)):=Lib.hid fun y hy=>hPl.lt HO5.out hy
 have hdl:=domL_of hNear HPL.out HG.out.inr HG.out.up (x:=(x:Int)) ⟨by omega,by omega⟩
 have HDL:=Lib.hid hdl.1
 have HCP:=Lib.hid hdl.2
 have HCN:Hid (∀W,BelW w4 W→∀k:Nat,k<n→W.cell? ⟨g,k,none⟩=some (.int .i64 (nrf N (k:Int)))):=Lib.hid fun W h k hk=>by rw[nrf_nat];exact (HRN.out.below h).cell (by rw[HLN.out];exact hk)
 have y0:=HCN.out w4 (Below.refl _ _) x hx
 obtain⟨z0,HZ0⟩:=named (nrf N (x:Int))
 rw[←HZ0.out]at y0 HDL HCP
 obtain⟨T,HTT⟩:=named (chF (nrf N) n n z0)
 rw[←HTT.out]at HDL
 have HTL:Hid (T.length≤n):=Lib.hid (by
  rw[HTT.out]
  have:∀(k:Nat) (z:Int),(chF (nrf N) n k z).length≤k:=fun k=>by
   induction k with
   |zero=>intro z;exact Nat.le_refl _
   |succ k ih=>intro z;unfold chF;split<;>simp;exact ih _
  exact this n z0)
 have HTQ:=Lib.hid HTT.out
 clear hPl hNear hdl HTT HZ0
 go_wp2
 go_loopw [9,10] (fun sv iv wr=>∃(acc:List Int) (k:Nat) (z:Int),iv=.int .i64 z∧acc.length+k=n∧Hid (T=acc++chF (nrf N) n k z)∧Hid (Cpt n (fun x:Int=>rdL c.nodes x.toNat) (fun x:Int=>bat (ptB c) x.toNat=true) (nrf Pl) k z)∧Hid (BelW w4 wr)∧Hid (Stk wr w4.heap.size sv acc)) (fun sv _ _=>n-slN sv)
 case atStart=>exact⟨[],n,z0,rfl,by simp,HTQ,HCP,Lib.hid (Below.refl _ _),Lib.hid (Stk.nil _ _)⟩
 case round=>
  clear HTQ HCP y0
  obtain⟨acc,k,z,rfl,hak,HTQ,HCP,HB,HST⟩:=hrel
  obtain⟨A6,c6,rfl,hle6,hc6,hsh⟩:=HST.out.shape
  obtain⟨x0,x1,x2,x3⟩:=HCE.out wr (joinB HB14.out HB.out)
  have HIZ:=Lib.hid (HIS.out z wr)
  cases hz:isIdx n z
  ·rw[hz]at HIZ
   have hnz:¬Nod n z:=fun g=>by rw[idx_nod.2 g]at hz;cases hz
   have hacc:acc=T:=by
    have:=HTQ.out
    rw[chF_out hnz,List.append_nil]at this
    exact this.symm
   subst hacc
   clear hnz hz
   have HC6:=Lib.hid hc6
   have HLT:=Lib.hid (And.intro hsh hle6)
   clear hsh hle6 hc6
   obtain⟨l6,HL6⟩:=named acc.length
   rw[←HL6.out]at HLT hak
   rw[←HL6.out]
   have HR6:Hid (∀W,BelW wr W→Is W W.heap.size (.slice A6 l6 l6) acc):=Lib.hid fun W h=>by
    have h1:=(HST.out.below h).reads l6 (by rw[HL6.out];exact Nat.le_refl _) (by have:=HTL.out;unfold maxLen;omega)
    rw[←HL6.out]at h1
    exact h1
   have HCLP:Hid (∀W,Calls Tryd.prog 32 #[.slice A6 l6 c6] W fun e w'=>e=.returned (.slice A6 l6 l6)∧W=w'):=Lib.hid fun W=>clip_any A6 l6 c6 W HLT.out.1 HLT.out.2 HC6.out
   clear hak
   go_wp2_with (first
    |(go_at_call 30;(with_reducible refine HIZ.out.mono ?_);rintro e w5 ⟨rfl,h1⟩;have HB5:=Lib.hid h1;clear h1 x0 x1 x2 x3)
    |(go_at_call 32;(with_reducible refine (HCLP.out _).mono ?_);rintro e w6 ⟨rfl,rfl⟩))
   refine bodyPost_ret (results_tmp2 rfl _ _ _) rfl ?_
   refine⟨A6,acc,(by rw[←HL6.out];rfl),HDL.out,by rw[←HL6.out];exact HR6.out _ HB5.out,joinB HB1.out (joinB HB14.out (joinB HB.out HB5.out))⟩
  ·rw[hz]at HIZ
   have hnd:=idx_nod.1 hz
   have hnd1:=hnd.1
   have hnd2:=hnd.2
   have hpz:=HPL.out z hnd
   obtain⟨k',rfl⟩:∃k',k=k'+1:=⟨k-1,by
    rcases HCP.out with g| ⟨-,-,g⟩
    ·exact absurd hnd g
    ·omega⟩
   have hTE:T=(acc++[z])++chF (nrf N) n k' (nrf N z):=by
    have h1:=HTQ.out
    unfold chF at h1
    rw[if_pos (show 0≤z∧z<(n:Int) from hnd)]at h1
    rw[h1,List.append_assoc]
    rfl
   have HTE:=Lib.hid hTE
   have HCP2:=Lib.hid (HCP.out.next HNE.out hnd)
   obtain⟨zn,rfl⟩:∃zn:Nat,z=(zn:Int):=⟨z.toNat,by omega⟩
   obtain⟨u,HU⟩:=named (nrf N (zn:Int))
   rw[←HU.out]at HTE HCP2
   have hol:acc.length≤20:=by omega
   clear hTE hpz HTQ HCP hz hnd hsh
   go_wp2_with (first
    |(go_at_call 30;(with_reducible refine HIZ.out.mono ?_);rintro e w5 ⟨rfl,h1⟩;have HST5:=Lib.hid (HST.out.below h1);have HBB5:Hid (Below w4.heap.size w4 w5):=Lib.hid (joinB HB.out h1);have hsz5:w4.heap.size≤w5.heap.size:=Below.size HBB5.out;clear h1 x0 x1 x2 x3)
    |(at_builtin;refine wpList_append_own_at _ rfl _ _ 25 rfl w4.heap.size 3 i1 (.int .i64 0) 1 8 Tryd.underlying25 HI.out.1 HI.out.2.1 HI.out.2.2.1 HI.out.2.2.2 rfl (by decide) _ _ _ rfl (World.ownsRow.alloc HST5.out _) ⟨w5.heap.size,0,none⟩ 1 1 [.int .i64 (zn:Int)] rfl rfl (by have:=one_new w5 (.int .i64 (zn:Int)) 3;simpa using this) (ints_oneCell .i64 [(zn:Int)]) (by unfold maxLen;omega) (by omega) (by simp;omega) ?_;intro v' w6 hown' hgrow hnil hloc;have HF:=Lib.hid (push_own hsz5 HBB5.out HST5.out hown' hgrow);have HZ:=Lib.hid hgrow.size;have y1:=HCN.out w6 HF.out.1 zn (by omega);rw[←HU.out]at y1;clear hown' hgrow hnil hloc))
   go_roundw
   case rel=>exact⟨acc++[(zn:Int)],k',u,rfl,by simp;omega,HTE,HCP2,Lib.hid HF.out.1,Lib.hid HF.out.2⟩
   case measure=>
    obtain⟨A7,c7,hv7,-⟩:=HF.out.2.shape
    rw[hv7]
    simp only[slN,List.length_append,List.length_cons,List.length_nil]
    omega
set_option maxRecDepth 100000 in
set_option maxHeartbeats 4000000 in
theorem regions_bad(c:Ck)(A0 A1 A2 A3:Option Addr)(n n1 n2 n3 c0 c1 c2 c3:Nat)(w:World)(hT:Tabs w)(hc:Cir w w.heap.size (.agg #[.slice A0 n c0,.slice A1 n1 c1,.slice A2 n2 c2,.slice A3 n3 c3]) c)(hf:c.nodes.length≤20)(hz:chkErr c≠0):
 Calls Tryd.prog 13 #[.agg #[.slice A0 n c0,.slice A1 n1 c1,.slice A2 n2 c2,.slice A3 n3 c3]] w fun e w'=>e=.returned (.tuple #[.slice none 0 0,.int .i64 (chkErr c)])∧BelW w w':=by
 obtain⟨W1,HW1⟩:=named (w.alloc (.cells #[.slice A0 n c0,.slice A1 n1 c1,.slice A2 n2 c2,.slice A3 n3 c3] 27))
 have hb1:BelW w W1:=by rw[HW1.out];exact below_new (Below.refl _ _) _
 have hfr:Fr W1 w.heap.size 27 [.slice A0 n c0,.slice A1 n1 c1,.slice A2 n2 c2,.slice A3 n3 c3]:=by rw[HW1.out];exact Fr.made _ _ _ rfl
 obtain⟨q,HQ⟩:=named w.heap.size
 rw[←HQ.out]at hfr
 have HQ2:=Lib.hid HQ.out
 have HCE:Hid (∀W,BelW W1 W→W.cell? ⟨q,0,none⟩=some (.slice A0 n c0)∧W.cell? ⟨q,1,none⟩=some (.slice A1 n1 c1)∧W.cell? ⟨q,2,none⟩=some (.slice A2 n2 c2)∧W.cell? ⟨q,3,none⟩=some (.slice A3 n3 c3)):=Lib.hid fun W h=>⟨(hfr.below h).cell 0,(hfr.below h).cell 1,(hfr.below h).cell 2,(hfr.below h).cell 3⟩
 have HC1:Hid (∀W,BelW W1 W→Cir W W.heap.size (.agg #[.slice A0 n c0,.slice A1 n1 c1,.slice A2 n2 c2,.slice A3 n3 c3]) c):=Lib.hid fun W h=>(hc.below (joinB hb1 h)).more (Below.size (joinB hb1 h))
 have hord:=(order_20 c _ W1 W1.heap.size (Nat.le_refl _) (hT.below hb1) (HC1.out W1 (Below.refl _ _)) hf).mono (R':=fun e w'=>e=.returned (.tuple #[.slice none 0 0,.int .i64 (chkErr c)])∧BelW W1 w') fun e w' ⟨h1,h2⟩=>by
  rcases h2 with⟨h3,-⟩| ⟨-,h3⟩
  ·exact absurd h3 hz
  ·exact⟨h3,h1⟩
 obtain⟨r,HR⟩:=named (chkErr c)
 rw[←HR.out]at hord hz
 rw[←HR.out]
 have q0:(r != 0)=true:=by simpa using hz
 have q1:(r==0)=false:=by simpa using hz
 have HORD:=Lib.hid hord
 have HB1:=Lib.hid hb1
 obtain⟨x0,x1,x2,x3⟩:=HCE.out W1 (Below.refl _ _)
 clear hc hb1 hfr hord hT hz HR
 go_enter Tryd.func13,Tryd.ntmps13
 go_upto_region 1 with (fail)
 rw[←HW1.out,←HQ2.out]
 go_upto_region 2 with (go_at_call 20;(with_reducible refine HORD.out.mono ?_);rintro e w2 ⟨rfl,h3⟩;have HB2:=Lib.hid h3;clear h3 x0 x1 x2 x3)
 go_wp2
 refine bodyPost_ret (results_tmp2 rfl _ _ _) rfl ?_
 exact⟨rfl,joinB HB1.out HB2.out⟩
set_option maxRecDepth 100000 in
set_option maxHeartbeats 4000000 in
theorem doms_bad(c:Ck)(A0 A1 A2 A3:Option Addr)(n n1 n2 n3 c0 c1 c2 c3:Nat)(w:World)(z:Int)(hT:Tabs w)(hc:Cir w w.heap.size (.agg #[.slice A0 n c0,.slice A1 n1 c1,.slice A2 n2 c2,.slice A3 n3 c3]) c)(hf:c.nodes.length≤20)(hz:chkErr c≠0):
 Calls Tryd.prog 11 #[.agg #[.slice A0 n c0,.slice A1 n1 c1,.slice A2 n2 c2,.slice A3 n3 c3],.int .i64 z] w fun e w'=>e=.returned (.tuple #[.slice none 0 0,.int .i64 (chkErr c)])∧BelW w w':=by
 obtain⟨W1,HW1⟩:=named (w.alloc (.cells #[.slice A0 n c0,.slice A1 n1 c1,.slice A2 n2 c2,.slice A3 n3 c3] 27))
 have hb1:BelW w W1:=by rw[HW1.out];exact below_new (Below.refl _ _) _
 have hfr:Fr W1 w.heap.size 27 [.slice A0 n c0,.slice A1 n1 c1,.slice A2 n2 c2,.slice A3 n3 c3]:=by rw[HW1.out];exact Fr.made _ _ _ rfl
 obtain⟨q,HQ⟩:=named w.heap.size
 rw[←HQ.out]at hfr
 have HQ2:=Lib.hid HQ.out
 have HCE:Hid (∀W,BelW W1 W→W.cell? ⟨q,0,none⟩=some (.slice A0 n c0)∧W.cell? ⟨q,1,none⟩=some (.slice A1 n1 c1)∧W.cell? ⟨q,2,none⟩=some (.slice A2 n2 c2)∧W.cell? ⟨q,3,none⟩=some (.slice A3 n3 c3)):=Lib.hid fun W h=>⟨(hfr.below h).cell 0,(hfr.below h).cell 1,(hfr.below h).cell 2,(hfr.below h).cell 3⟩
 have HC1:Hid (∀W,BelW W1 W→Cir W W.heap.size (.agg #[.slice A0 n c0,.slice A1 n1 c1,.slice A2 n2 c2,.slice A3 n3 c3]) c):=Lib.hid fun W h=>(hc.below (joinB hb1 h)).more (Below.size (joinB hb1 h))
 have hord:=(order_20 c _ W1 W1.heap.size (Nat.le_refl _) (hT.below hb1) (HC1.out W1 (Below.refl _ _)) hf).mono (R':=fun e w'=>e=.returned (.tuple #[.slice none 0 0,.int .i64 (chkErr c)])∧BelW W1 w') fun e w' ⟨h1,h2⟩=>by
  rcases h2 with⟨h3,-⟩| ⟨-,h3⟩
  ·exact absurd h3 hz
  ·exact⟨h3,h1⟩
 obtain⟨r,HR⟩:=named (chkErr c)
 rw[←HR.out]at hord hz
 rw[←HR.out]
 have q0:(r != 0)=true:=by simpa using hz
 have q1:(r==0)=false:=by simpa using hz
 have HORD:=Lib.hid hord
 have HB1:=Lib.hid hb1
 obtain⟨x0,x1,x2,x3⟩:=HCE.out W1 (Below.refl _ _)
 clear hc hb1 hfr hord hT hz HR
 go_enter Tryd.func11,Tryd.ntmps11
 go_upto_region 1 with (fail)
 rw[←HW1.out,←HQ2.out]
 go_upto_region 2 with (go_at_call 20;(with_reducible refine HORD.out.mono ?_);rintro e w2 ⟨rfl,h3⟩;have HB2:=Lib.hid h3;clear h3 x0 x1 x2 x3)
 go_wp2
 refine bodyPost_ret (results_tmp2 rfl _ _ _) rfl ?_
 exact⟨rfl,joinB HB1.out HB2.out⟩
set_option maxRecDepth 100000 in
set_option maxHeartbeats 4000000 in
theorem stems_bad(c:Ck)(A0 A1 A2 A3:Option Addr)(n n1 n2 n3 c0 c1 c2 c3:Nat)(w:World)(hT:Tabs w)(hc:Cir w w.heap.size (.agg #[.slice A0 n c0,.slice A1 n1 c1,.slice A2 n2 c2,.slice A3 n3 c3]) c)(hf:c.nodes.length≤20)(hz:chkErr c≠0):
 Calls Tryd.prog 14 #[.agg #[.slice A0 n c0,.slice A1 n1 c1,.slice A2 n2 c2,.slice A3 n3 c3]] w fun e w'=>e=.returned (.tuple #[.slice none 0 0,.int .i64 (chkErr c)])∧BelW w w':=by
 obtain⟨W1,HW1⟩:=named (w.alloc (.cells #[.slice A0 n c0,.slice A1 n1 c1,.slice A2 n2 c2,.slice A3 n3 c3] 27))
 have hb1:BelW w W1:=by rw[HW1.out];exact below_new (Below.refl _ _) _
 have hfr:Fr W1 w.heap.size 27 [.slice A0 n c0,.slice A1 n1 c1,.slice A2 n2 c2,.slice A3 n3 c3]:=by rw[HW1.out];exact Fr.made _ _ _ rfl
 obtain⟨q,HQ⟩:=named w.heap.size
 rw[←HQ.out]at hfr
 have HQ2:=Lib.hid HQ.out
 have HCE:Hid (∀W,BelW W1 W→W.cell? ⟨q,0,none⟩=some (.slice A0 n c0)∧W.cell? ⟨q,1,none⟩=some (.slice A1 n1 c1)∧W.cell? ⟨q,2,none⟩=some (.slice A2 n2 c2)∧W.cell? ⟨q,3,none⟩=some (.slice A3 n3 c3)):=Lib.hid fun W h=>⟨(hfr.below h).cell 0,(hfr.below h).cell 1,(hfr.below h).cell 2,(hfr.below h).cell 3⟩
 have HC1:Hid (∀W,BelW W1 W→Cir W W.heap.size (.agg #[.slice A0 n c0,.slice A1 n1 c1,.slice A2 n2 c2,.slice A3 n3 c3]) c):=Lib.hid fun W h=>(hc.below (joinB hb1 h)).more (Below.size (joinB hb1 h))
 have hord:=regions_bad c A0 A1 A2 A3 n n1 n2 n3 c0 c1 c2 c3 W1 (hT.below hb1) (HC1.out W1 (Below.refl _ _)) hf hz
 obtain⟨r,HR⟩:=named (chkErr c)
 rw[←HR.out]at hord hz
 rw[←HR.out]
 have q0:(r != 0)=true:=by simpa using hz
 have q1:(r==0)=false:=by simpa using hz
 have HORD:=Lib.hid hord
 have HB1:=Lib.hid hb1
 obtain⟨x0,x1,x2,x3⟩:=HCE.out W1 (Below.refl _ _)
 clear hc hb1 hfr hord hT hz HR
 go_enter Tryd.func14,Tryd.ntmps14
 go_upto_region 1 with (fail)
 rw[←HW1.out,←HQ2.out]
 go_upto_region 2 with (go_at_call 13;(with_reducible refine HORD.out.mono ?_);rintro e w2 ⟨rfl,h3⟩;have HB2:=Lib.hid h3;clear h3 x0 x1 x2 x3)
 have hb3:=Lib.hid (below_new (joinB HB1.out HB2.out) (.cells #[.slice none 0 0] 25))
 go_wp2
 refine bodyPost_ret (results_tmp2 rfl _ _ _) rfl ?_
 exact⟨rfl,hb3.out⟩
set_option maxRecDepth 100000 in
set_option maxHeartbeats 4000000 in
theorem doms_arg(c:Ck)(A0 A1 A2 A3:Option Addr)(n n1 n2 n3 c0 c1 c2 c3:Nat)(w:World)(z:Int)(hT:Tabs w)(hc:Cir w w.heap.size (.agg #[.slice A0 n c0,.slice A1 n1 c1,.slice A2 n2 c2,.slice A3 n3 c3]) c)(hf:c.nodes.length≤20)(hk:chkErr c=0)(hn:c.nodes.length=n)(hz:isIdx n z=false):
 Calls Tryd.prog 11 #[.agg #[.slice A0 n c0,.slice A1 n1 c1,.slice A2 n2 c2,.slice A3 n3 c3],.int .i64 z] w fun e w'=>e=.returned (.tuple #[.slice none 0 0,.int .i64 1])∧BelW w w':=by
 obtain⟨W1,HW1⟩:=named (w.alloc (.cells #[.slice A0 n c0,.slice A1 n1 c1,.slice A2 n2 c2,.slice A3 n3 c3] 27))
 have hb1:BelW w W1:=by rw[HW1.out];exact below_new (Below.refl _ _) _
 have hfr:Fr W1 w.heap.size 27 [.slice A0 n c0,.slice A1 n1 c1,.slice A2 n2 c2,.slice A3 n3 c3]:=by rw[HW1.out];exact Fr.made _ _ _ rfl
 obtain⟨q,HQ⟩:=named w.heap.size
 rw[←HQ.out]at hfr
 have HQ2:=Lib.hid HQ.out
 have HCE:Hid (∀W,BelW W1 W→W.cell? ⟨q,0,none⟩=some (.slice A0 n c0)∧W.cell? ⟨q,1,none⟩=some (.slice A1 n1 c1)∧W.cell? ⟨q,2,none⟩=some (.slice A2 n2 c2)∧W.cell? ⟨q,3,none⟩=some (.slice A3 n3 c3)):=Lib.hid fun W h=>⟨(hfr.below h).cell 0,(hfr.below h).cell 1,(hfr.below h).cell 2,(hfr.below h).cell 3⟩
 have HC1:Hid (∀W,BelW W1 W→Cir W W.heap.size (.agg #[.slice A0 n c0,.slice A1 n1 c1,.slice A2 n2 c2,.slice A3 n3 c3]) c):=Lib.hid fun W h=>(hc.below (joinB hb1 h)).more (Below.size (joinB hb1 h))
 have hord:=(order_20 c _ W1 W1.heap.size (Nat.le_refl _) (hT.below hb1) (HC1.out W1 (Below.refl _ _)) hf).mono (R':=fun e w'=>∃d,e=.returned (.tuple #[.slice (some ⟨d,0,none⟩) n n,.int .i64 0])∧BelW W1 w') fun e w' ⟨h1,h2⟩=>by
  rcases h2 with⟨-,-,L',R,d,-,-,-,-,h6,-⟩| ⟨h3,-⟩
  ·rw[hn]at h6
   exact⟨d,h6,h1⟩
  ·exact absurd hk h3
 have HORD:=Lib.hid hord
 have hi1:=fun W=>isnode_any A0 A1 A2 A3 n n1 n2 n3 c0 c1 c2 c3 z W (by unfold maxLen;omega)
 rw[hz]at hi1
 have HI1:=Lib.hid hi1
 have HB1:=Lib.hid hb1
 obtain⟨x0,x1,x2,x3⟩:=HCE.out W1 (Below.refl _ _)
 clear hc hb1 hfr hord hT hz hk hi1
 go_enter Tryd.func11,Tryd.ntmps11
 go_upto_region 1 with (fail)
 rw[←HW1.out,←HQ2.out]
 go_upto_region 2 with (go_at_call 20;(with_reducible refine HORD.out.mono ?_);rintro e w2 ⟨d,rfl,h3⟩;have HB2:=Lib.hid h3;clear h3 x0 x1 x2 x3)
 obtain⟨x0,x1,x2,x3⟩:=HCE.out w2 HB2.out
 go_wp2_with (go_at_call 30;(with_reducible refine (HI1.out _).mono ?_);rintro e w3 ⟨rfl,h1⟩;have HB3:=Lib.hid h1;clear h1 x0 x1 x2 x3)
 refine bodyPost_ret (results_tmp2 rfl _ _ _) rfl ?_
 exact⟨rfl,joinB HB1.out (joinB HB2.out HB3.out)⟩
end Go.Proofs.YtjdjcaobkmpoeaaDoor
