/- The texts Sf9 R16 Apb. -/
import Derived.Test.YtemjmfpcopfdbaaGreatDoorM31
import Derived.Test.YtemjmfpcopfdbaaGreatDoorM16
import Derived.Deep.AppendLies
import Derived.Test.YtemjmfpcopfdbaaGreatDoorM36
import Derived.Test.YtemjmfpcopfdbaaGreatDoorM07
import Derived.Test.YtemjmfpcopfdbaaGreatDoorM06
import Derived.Deep.RegionLawGrows
import Derived.Deep.Upon
namespace Go.Proofs.YtemjmfpcopfdbaaGreatDoor
open Go.RowKit
def sfw(c:Ck)(ns:Nat)(l:List Int)(k i:Nat):List (List Int):=(List.range i).map fun i=>takL9 l (posS c.mems ns k+i*(c.mems.getD k default).data.length) (c.mems.getD k default).data.length
def sfW(c:Ck)(ns:Nat)(l:List Int)(k:Nat):List (List (List Int)):=(List.range k).map fun k=>sfw c ns l k (blN c.mems k)
def sfR(c:Ck)(ns:Nat)(l:List Int)(k:Nat):List (List Int):=(List.range k).map fun k=>takL9 l (posS c.mems ns k+blN c.mems k*(c.mems.getD k default).data.length) (c.mems.getD k default).data.length
theorem sfw_len(c:Ck)(ns:Nat)(l:List Int)(k i:Nat):(sfw c ns l k i).length=i:=by simp[sfw]
theorem sfW_len(c:Ck)(ns:Nat)(l:List Int)(k:Nat):(sfW c ns l k).length=k:=by simp[sfW]
theorem sfR_len(c:Ck)(ns:Nat)(l:List Int)(k:Nat):(sfR c ns l k).length=k:=by simp[sfR]
theorem sfw_succ(c:Ck)(ns:Nat)(l:List Int)(k i:Nat):sfw c ns l k (i+1)=sfw c ns l k i++[takL9 l (posS c.mems ns k+i*(c.mems.getD k default).data.length) (c.mems.getD k default).data.length]:=by simp[sfw,List.range_succ]
theorem sfW_succ(c:Ck)(ns:Nat)(l:List Int)(k:Nat):sfW c ns l (k+1)=sfW c ns l k++[sfw c ns l k (blN c.mems k)]:=by simp[sfW,List.range_succ]
theorem sfR_succ(c:Ck)(ns:Nat)(l:List Int)(k:Nat):sfR c ns l (k+1)=sfR c ns l k++[takL9 l (posS c.mems ns k+blN c.mems k*(c.mems.getD k default).data.length) (c.mems.getD k default).data.length]:=by simp[sfR,List.range_succ]
set_option maxRecDepth 100000 in
set_option maxHeartbeats 8000000 in
theorem sof9_any(c:Ck)(l:List Int)(A A0 A1 A2 A3:Option Addr)(n n1 m n3 c0 c1 c2 c3 ml cl ns:Nat)(w:World)(hC:Cir w w.heap.size (.agg #[.slice A0 n c0,.slice A1 n1 c1,.slice A2 m c2,.slice A3 n3 c3]) c) (hL:Ks w w.heap.size (.slice A ml cl) l) (h0:∀x∈l,0≤x∧x≤255) (hsz:c.nodes.length≤1000000) (hns:(ofTo c.nodes [14] c.nodes.length).length=ns) (hns1:ns≤1000000) (hm1:m≤1000)
 (hp:∀k,k<m→(c.mems.getD k default).addr.length≤8∧(c.mems.getD k default).data.length≤1000) (hpos:∀k,k<m→posS c.mems ns (k+1)≤10000000):
 Calls Tryz.prog 23 #[.agg #[.slice A ml cl],.agg #[.slice A0 n c0,.slice A1 n1 c1,.slice A2 m c2,.slice A3 n3 c3]] w fun e w'=>∃A7 c7 Aa1 ca1 Aa2 ca2,e=.returned (.agg #[.slice A7 ns c7,.slice Aa1 m ca1,.slice Aa2 m ca2])∧OwnS w' w.heap.size A7 Aa1 Aa2 ns m m c7 ca1 ca2 (sofS c ns m l)∧BelW w w':=by
 have hM:Ms w w.heap.size (.slice A2 m c2) c.mems:=by
  obtain⟨y0,y1,y2,y3,e,-,-,hM,-⟩:=id hC
  simp only[Value.agg.injEq,Array.mk.injEq,List.cons.injEq,and_true]at e
  obtain⟨-,-,rfl,-⟩:=e
  exact hM
 obtain⟨A',b0,o0,c',e,hA,-,-,hc⟩:=id hM
 simp only[Value.slice.injEq]at e
 obtain⟨rfl,hml,rfl⟩:=e
 rw[←hml]at hA hc
 obtain⟨W0,HW0⟩:=named (((w.alloc (.cells #[.slice A ml cl] 29)).alloc (.cells #[.slice A0 n c0,.slice A1 n1 c1,.slice A2 m c2,.slice A3 n3 c3] 39)).alloc (.cells #[.slice none 0 0,.slice none 0 0,.slice none 0 0] 45))
 have hb0:BelW w W0:=by rw[HW0.out];exact below_new (below_new (below_new (Below.refl _ _) _) _) _
 have hfv:Fr W0 w.heap.size 29 [.slice A ml cl]:=by rw[HW0.out];exact Fr.alloc (Fr.alloc (Fr.made _ [.slice A ml cl] _ rfl) _) _
 have hfc:Fr W0 (w.heap.size+1) 39 [.slice A0 n c0,.slice A1 n1 c1,.slice A2 m c2,.slice A3 n3 c3]:=by rw[HW0.out];exact Fr.alloc (Fr.made _ [.slice A0 n c0,.slice A1 n1 c1,.slice A2 m c2,.slice A3 n3 c3] _ (by simp)) _
 have hft:Fr W0 (w.heap.size+1+1) 45 [.slice none 0 0,.slice none 0 0,.slice none 0 0]:=by rw[HW0.out];exact Fr.made _ [.slice none 0 0,.slice none 0 0,.slice none 0 0] _ (by simp)
 have hus:W0.heap.size=w.heap.size+1+1+1:=by rw[HW0.out];simp
 obtain⟨W1,HW1⟩:=named (W0.alloc (.cells #[.slice none 0 0,.slice none 0 0,.slice none 0 0] 45))
 have hb01:BelW W0 W1:=by rw[HW1.out];exact below_new (Below.refl _ _) _
 have hfu:Fr W1 W0.heap.size 45 [.slice none 0 0,.slice none 0 0,.slice none 0 0]:=by rw[HW1.out];exact Fr.made _ [.slice none 0 0,.slice none 0 0,.slice none 0 0] _ rfl
 rw[hus]at hfu
 obtain⟨s,HS⟩:=named w.heap.size
 have HSW:Hid (w.heap.size≤s):=Lib.hid (by rw[HS.out];exact Nat.le_refl _)
 obtain⟨u,HU⟩:=named (s+1+1+1)
 rw[←HS.out]at hfv hfc hft hfu hus
 rw[←HU.out]at hfu hus
 have HUS:=Lib.hid hus
 have HCE:Hid (∀W,BelW W0 W→W.cell? ⟨s,0,none⟩=some (.slice A ml cl)∧W.cell? ⟨s+1,0,none⟩=some (.slice A0 n c0)∧W.cell? ⟨s+1,1,none⟩=some (.slice A1 n1 c1)∧W.cell? ⟨s+1,2,none⟩=some (.slice A2 m c2)∧W.cell? ⟨s+1,3,none⟩=some (.slice A3 n3 c3)):=Lib.hid fun W h=>⟨(hfv.below h).cell 0,(hfc.below h).cell 0,(hfc.below h).cell 1,(hfc.below h).cell 2,(hfc.below h).cell 3⟩
 have HFT:=Lib.hid hft
 have HFV:Hid (∀W,BelW W0 W→Fr W s 29 [.slice A ml cl]):=Lib.hid fun W h=>hfv.below h
 have HFU:=Lib.hid hfu
 have HB0:Hid (∀W,BelW W0 W→BelW w W):=Lib.hid fun W h=>joinB hb0 h
 have HOF:Hid (∀W,BelW W0 W→Calls Tryz.prog 43 #[.agg #[.slice A0 n c0,.slice A1 n1 c1,.slice A2 m c2,.slice A3 n3 c3],.int .u8 14] W fun e w'=>∃A c,e=.returned (.slice A ns c)∧BelW W w'):=Lib.hid fun W h=>
  (refOf_any c 14 _ W W.heap.size (Nat.le_refl _) ((hC.below (joinB hb0 h)).more (Below.size (joinB hb0 h))) hsz).mono fun e w' ⟨⟨s',he,hi⟩,hb⟩=>by
    obtain⟨A9,_,_,c9,rfl,-⟩:=id hi
    exact⟨A9,c9,by rw[he,hns],hb⟩
 have HTK:Hid (∀W (B at0 k:Nat),BelW W0 W→B≤W.heap.size→at0≤10000000→k≤1000000→Calls Tryz.prog 64 #[.slice A ml cl,.int .i64 (at0:Int),.int .i64 (k:Int)] W fun e w'=>∃A c,e=.returned (.slice A k c)∧VStk w' B (.slice A k c) (takL9 l at0 k)∧BelW W w'):=Lib.hid fun W B at0 k h hBW ha hk=>by
  have hbw:=joinB hb0 h
  refine (taken9_any l at0 ha k hk A ml cl W W.heap.size (Nat.le_refl _) (Arr.keep stays_u8 hL (Below.size hbw) fun _ hp=>Below.cell hbw hp) h0).mono fun e w' ⟨v,he,hv,hb⟩=>?_
  obtain⟨A9,c9,rfl,-⟩:=hv.form
  rw[takL9_len]at he
  have hv:=hv.low hBW
  rw[takL9_len]at hv
  exact⟨A9,c9,he,hv,hb⟩
 have HMM:Hid (∀k,k<m→∃(Aa Ad2:Option Addr) (ca cd2:Nat),A2=some ⟨b0,o0,none⟩∧∀W,BelW W0 W→W.cell? ⟨b0,o0+k*3,none⟩=some (.slice Aa (c.mems.getD k default).addr.length ca)∧W.cell? ⟨b0,o0+k*3+1,none⟩=some (.slice Ad2 (c.mems.getD k default).data.length cd2)):=Lib.hid fun k hk=>by
  obtain⟨hlb,x,y,e0,e1,e2,h4,h5⟩:=hc k hk
  obtain⟨Aa,ba,oa,ca,rfl,-⟩:=id h4
  obtain⟨Ad2,bd,od,cd2,rfl,-⟩:=id h5
  refine⟨Aa,Ad2,ca,cd2,hA (by omega),fun W h=>?_⟩
  have h:=joinB hb0 h
  have hk:∀j,W.cell? ⟨b0,j,none⟩=w.cell? ⟨b0,j,none⟩:=fun j=>Below.cell h (p:=⟨b0,j,none⟩) hlb
  exact⟨by rw[hk];exact e0,by rw[hk];exact e1⟩
 have HTK0:Hid (∀W,BelW W0 W→Calls Tryz.prog 64 #[.slice A ml cl,.int .i64 0,.int .i64 (ns:Int)] W fun e w'=>∃A c,e=.returned (.slice A ns c)∧VStk w' W0.heap.size (.slice A ns c) (takL9 l 0 ns)∧BelW W w'):=Lib.hid fun W h=>HTK.out W W0.heap.size 0 ns h (Below.size h) (by omega) hns1
 have HPK:=Lib.hid hp
 have HPO:=Lib.hid hpos
 have HB01:=Lib.hid hb01
 obtain⟨i2,hj1,hj2,hj3,hj4⟩:=info_parts info_vals
 have HJ:=Lib.hid (And.intro hj1 (And.intro hj2 (And.intro hj3 hj4)))
 clear hj1 hj2 hj3 hj4
 obtain⟨i3,hj1,hj2,hj3,hj4⟩:=info_parts info_wds
 have HI3:=Lib.hid (And.intro hj1 (And.intro hj2 (And.intro hj3 hj4)))
 clear hj1 hj2 hj3 hj4
 obtain⟨x0,y0,y1,y2,y3⟩:=HCE.out W1 hb01
 have z0:=hfu.cell 0
 have z1:=hfu.cell 1
 have z2:=hfu.cell 2
 have g0:=hfu.frozen 0
 clear hM hC hL h0 hsz hns hp hpos hml hc hA hb0 hfv hfc hft hus hb01 hfu
 go_enter Tryz.func23,Tryz.ntmps23
 go_upto_region 2 with (fail)
 rw[←HW0.out,←HW1.out,←HS.out,←HU.out]
 go_upto_region 4 with (first
  |(go_at_call 43;(with_reducible refine (HOF.out _ HB01.out).mono ?_);rintro e w2 ⟨A9,c9,rfl,hb2⟩;have HB2:Hid (BelW W1 w2):=Lib.hid hb2;clear x0 y0 y1 y2 y3 z0 z1 z2 g0;obtain⟨x0,y0,y1,y2,y3⟩:=HCE.out w2 (joinB HB01.out hb2);have z0:=(HFU.out.below hb2).cell 0;have g0:=(HFU.out.below hb2).frozen 0;have hb02:BelW W0 w2:=joinB HB01.out hb2;clear hb2)
  |(go_at_call 64;(with_reducible refine (HTK0.out _ hb02).mono ?_);rintro e w3 ⟨A7,c7,rfl,hv3,hb3⟩;have HB3:Hid (BelW W1 w3):=Lib.hid (joinB HB2.out hb3);have HV3:=Lib.hid hv3;clear x0 y0 y1 y2 y3 z0 g0;have z0:=(HFU.out.below HB3.out).cell 0;have g0:=(HFU.out.below HB3.out).frozen 0;clear hb3 hv3))
 obtain⟨W4,HW4⟩:=named (w3.setCell ⟨u,0,none⟩ (.slice A7 ns c7))
 rw[←HW4.out]
 have hfu3:=HFU.out.below HB3.out
 have hb4:BelW W0 W4:=by rw[HW4.out];exact (joinB HB01.out HB3.out).setCell (p:=⟨u,0,none⟩) (by show W0.heap.size≤u;rw[HUS.out,HU.out];exact Nat.le_refl _) _
 have hfu4:Fr W4 u 45 [.slice A7 ns c7,.slice none 0 0,.slice none 0 0]:=by rw[HW4.out];exact hfu3.set 0 _
 have hv4:VStk W4 W0.heap.size (.slice A7 ns c7) (takL9 l 0 ns):=by rw[HW4.out];exact HV3.out.setF hfu3 (by decide) 0 _
 have HI4:=Lib.hid (And.intro hb4 (And.intro hfu4 hv4))
 clear hb4 hfu4 hv4 hfu3 z0 g0 hb02
 go_wp2
 go_loopw [6,7] (fun at0 ci wr=>∃(k:Nat) (Aa1:Option Addr) (ca1:Nat) (Aa2:Option Addr) (ca2:Nat),k≤m∧at0=.int .i64 (posS c.mems ns k:Nat)∧ci=.int .i64 k∧BelW W0 wr∧Fr wr u 45 [.slice A7 ns c7,.slice Aa1 k ca1,.slice Aa2 k ca2]∧VStk wr W0.heap.size (.slice A7 ns c7) (takL9 l 0 ns)∧WWX (.slice Aa2 k ca2) wr W0.heap.size (.slice Aa1 k ca1) (sfW c ns l k)∧WS wr W0.heap.size (.slice Aa2 k ca2) (sfR c ns l k)) (fun _ ci _=>m-(intOf ci).toNat)
 case atStart=>exact⟨0,none,0,none,0,Nat.zero_le _,rfl,rfl,HI4.out.1,HI4.out.2.1,HI4.out.2.2,WWX.nil _ _ _,WS.nil _ _⟩
 case round=>
  obtain⟨k,Aa1,ca1,Aa2,ca2,hkm,rfl,rfl,hb,hfu,hv,hww,hws⟩:=hrel
  obtain⟨V0,rfl⟩:∃V0:World,V0=wr:=⟨_,rfl⟩
  by_cases hk:k<m
  ·have hk2:(k:Int)<(m:Int):=by omega
   obtain⟨Aa,Ad2,ca,cd2,rfl,hmm⟩:=HMM.out k hk
   obtain⟨p5,p6⟩:=HPK.out k hk
   obtain⟨b,rfl⟩:∃z,z=b0:=⟨_,rfl⟩
   obtain⟨o,rfl⟩:∃z,z=o0:=⟨_,rfl⟩
   obtain⟨e0,e1⟩:=hmm V0 hb
   have hpk:=HPO.out k hk
   have hps:posS c.mems ns (k+1)=posS c.mems ns k+blN c.mems k*(c.mems.getD k default).data.length+(c.mems.getD k default).data.length:=rfl
   have HSU:Hid (∀i,sfw c ns l k (i+1)=sfw c ns l k i++[takL9 l (posS c.mems ns k+i*(c.mems.getD k default).data.length) (c.mems.getD k default).data.length]):=Lib.hid fun i=>sfw_succ c ns l k i
   have HWSU:=Lib.hid (sfW_succ c ns l k)
   have HRSU:=Lib.hid (sfR_succ c ns l k)
   have hnw:blN c.mems k=2^(c.mems.getD k default).addr.length:=rfl
   have HMMK:=Lib.hid hmm
   obtain⟨p,HP⟩:=named (posS c.mems ns k)
   obtain⟨nw,HNW⟩:=named (blN c.mems k)
   obtain⟨la,HLA⟩:=named (c.mems.getD k default).addr.length
   obtain⟨dl,HDL⟩:=named (c.mems.getD k default).data.length
   rw[←HP.out]at HSU HRSU hps
   rw[←HNW.out]at hnw hps HWSU HRSU
   rw[←HLA.out]at hnw p5 e0
   rw[←HDL.out]at p6 e1 HSU HRSU hps
   rw[←HP.out]
   have HPS:=Lib.hid hps
   have hnwb:nw≤256:=by rw[hnw];exact Nat.le_trans (Nat.pow_le_pow_right (by decide) p5) (by decide)
   rw[hps]at hpk
   obtain⟨x0,y0,y1,y2,y3⟩:=HCE.out V0 hb
   have HIN:=Lib.hid (And.intro hb (And.intro hfu (And.intro hv (And.intro hww hws))))
   clear hmm hps hb hfu hv hww hws
   have hw64:wrap64 (2^la)=(nw:Int):=by
    have h1:(2^la:Int)=(nw:Int):=by rw[hnw];simp
    rw[h1];unfold wrap64;omega
   clear hnw
   go_wp2
   go_loopw [6,9,10] (fun at0 sv ci wr=>∃(i:Nat) (Aw:Option Addr) (cw:Nat),i≤nw∧at0=.int .i64 (p+i*dl:Nat)∧sv=.slice Aw i cw∧ci=.int .i64 i∧BelW V0 wr∧WS wr V0.heap.size (.slice Aw i cw) (sfw c ns l k i)) (fun _ _ ci _=>nw-(intOf ci).toNat)
   case atStart=>exact⟨0,none,0,Nat.zero_le _,by rw[Nat.zero_mul,Nat.add_zero],rfl,rfl,Below.refl _ _,WS.nil _ _⟩
   case round=>
    clear x0 y0 y1 y2 y3 e0 e1
    obtain⟨i,Aw,cw,hin,rfl,rfl,rfl,hbv,hwi⟩:=hrel
    have hb:=joinB HIN.out.1 hbv
    obtain⟨x0,y0,y1,y2,y3⟩:=HCE.out wr hb
    obtain⟨e0,e1⟩:=HMMK.out wr hb
    rw[←HLA.out]at e0
    rw[←HDL.out]at e1
    have HBV:=Lib.hid hbv
    have HWI:=Lib.hid hwi
    have HBB:=Lib.hid hb
    by_cases hi:i<nw
    ·have hi2:(i:Int)<(nw:Int):=by omega
     have hidl:i*dl+dl≤nw*dl:=by rw[←Nat.succ_mul];exact Nat.mul_le_mul_right _ hi
     have hsu:=HSU.out i
     obtain⟨pi,HPI⟩:=named (p+i*dl)
     rw[←HPI.out]
     rw[←HPI.out]at hsu
     have hpi:pi+dl≤10000000:=by rw[HPI.out];omega
     have HTK1:=Lib.hid (HTK.out wr V0.heap.size pi dl hb (Below.size hbv) (by omega) (by omega))
     have HSUI:=Lib.hid hsu
     have HPN:Hid (((p+(i+1)*dl:Nat):Int)=(pi:Int)+(dl:Int)):=Lib.hid (by rw[HPI.out,Nat.succ_mul];omega)
     clear hsu hb hbv hwi hidl
     go_upto_region 13 with (first
      |(go_at_call 64;(with_reducible refine HTK1.out.mono ?_);rintro e w5 ⟨A5,c5,rfl,hv5,hb5⟩;have HV5:=Lib.hid hv5;have HB5:Hid (BelW V0 w5):=Lib.hid (joinB HBV.out hb5);obtain⟨vs,q1,q2,q3⟩:=HWI.out.below hb5;rw[sfw_len]at q2;have Q1:=Lib.hid q1;have Q2:=Lib.hid q2;have Q3:=Lib.hid q3;have HSZ5:=Lib.hid (Below.size HB5.out);clear hv5 hb5 q1 q2 q3)
      |(at_builtin;refine wpList_append_own_at _ rfl _ _ 43 rfl V0.heap.size 41 i2 (.slice none 0 0) 1 24 Tryz.underlying43 HJ.out.1 HJ.out.2.1 HJ.out.2.2.1 HJ.out.2.2.2 rfl (by decide) _ _ _ rfl (World.ownsRow.alloc Q2.out _) ⟨w5.heap.size,0,none⟩ 1 1 [.slice A5 dl c5] rfl rfl (by have:=one_new w5 (.slice A5 dl c5) 41;simpa using this) (by intro u hu;obtain rfl:=List.mem_singleton.1 hu;rfl) (by unfold maxLen;omega) (by omega) (by have:=HSZ5.out;simp;omega) ?_;intro v6 w6 hown6 hgrow6 hnil6 hloc6;obtain⟨A6,c6,rfl⟩:=own_sl hown6;have HO6:=Lib.hid (And.intro hown6 hgrow6);clear hown6 hgrow6 hnil6 hloc6))
     have hp6:BelW V0 w6∧WS w6 V0.heap.size (.slice A6 (i+1) c6) (sfw c ns l k (i+1)):=by
      have hg6:(w5.alloc (.cells #[.slice A5 dl c5] 41)).grownBy w6 (Value.slice Aw i cw).ownBlock:=HO6.out.2
      rw[HSUI.out]
      refine WS.push (A:=A5) (c:=c5) HB5.out Q1.out (by rw[sfw_len];exact Q2.out) Q3.out hg6 ?_ ?_
      ·rw[sfw_len,takL9_len];exact HO6.out.1
      ·rw[takL9_len];exact HV5.out
     have HP6:=Lib.hid hp6
     clear hp6
     go_wp2
     go_roundw
     case rel=>exact⟨i+1,A6,c6,by omega,by rw[HPN.out],rfl,by go_num,HP6.out.1,HP6.out.2⟩
     case measure=>simp[intOf];omega
    ·obtain rfl:nw=i:=by omega
     obtain⟨pe,HPE⟩:=named (p+nw*dl)
     rw[←HPE.out]
     rw[←HPE.out]at hpk
     have HRSU2:Hid (sfR c ns l (k+1)=sfR c ns l k++[takL9 l pe dl]):=Lib.hid (by rw[HRSU.out,HPE.out])
     have HPS2:Hid (posS c.mems ns (k+1)=pe+dl):=Lib.hid (by rw[HPS.out,HPE.out])
     have HSWI:=Lib.hid (hwi.low (Below.size HIN.out.1))
     have hfu:=HIN.out.2.1.below hbv
     have HFUW:=Lib.hid hfu
     have HVW:=Lib.hid (HIN.out.2.2.1.below hbv)
     have HWWW:=Lib.hid (HIN.out.2.2.2.1.below hbv)
     have HRDW:=Lib.hid (HIN.out.2.2.2.2.below hbv)
     have HAP:Hid (Apart (.slice Aa2 k ca2) (.slice Aw nw cw)):=Lib.hid (by
      rcases ho:(Value.slice Aw nw cw).ownBlock with _|q
      ·exact .inl ho
      ·refine .inr fun e=>?_
       rw[ho]at e
       have h1:=(hwi.lt ho).1
       have h2:=(HIN.out.2.2.2.2.lt e.symm).2
       omega)
     obtain⟨vs,q1,q2,q3⟩:=HWWW.out
     rw[sfW_len]at q2
     have Q1:=Lib.hid q1;have Q2:=Lib.hid q2;have Q3:=Lib.hid q3
     have HSZW:=Lib.hid (Below.size hb)
     have z1:=hfu.cell 1
     have f1:=hfu.frozen 1
     clear hbv hwi hb hfu q1 q2 q3
     go_upto_region 15 with (at_builtin;refine wpList_append_own_at _ rfl _ _ 42 rfl W0.heap.size 43 i3 (.slice none 0 0) 1 24 Tryz.underlying42 HI3.out.1 HI3.out.2.1 HI3.out.2.2.1 HI3.out.2.2.2 rfl (by decide) _ _ _ rfl (World.ownsRow.alloc Q2.out _) ⟨wr.heap.size,0,none⟩ 1 1 [.slice Aw nw cw] rfl rfl (by have:=one_new wr (.slice Aw nw cw) 43;simpa using this) (by intro u hu;obtain rfl:=List.mem_singleton.1 hu;rfl) (by unfold maxLen;omega) (by omega) (by have:=HSZW.out;simp;omega) ?_;intro v7 w7 hown7 hgrow7 hnil7 hloc7;obtain⟨A8,c8,rfl⟩:=own_sl hown7;have HO7:=Lib.hid (And.intro hown7 hgrow7);have hfu7:=HFUW.out.grownT Q2.out (by decide) hgrow7;have HFU7:=Lib.hid hfu7;have z1:=hfu7.cell 1;have f1:=hfu7.frozen 1;clear hown7 hgrow7 hnil7 hloc7 hfu7)
     have hp7:BelW W0 w7∧WWX (.slice Aa2 k ca2) w7 W0.heap.size (.slice A8 (k+1) c8) (sfW c ns l (k+1)):=by
      have hg7:(wr.alloc (.cells #[.slice Aw nw cw] 43)).grownBy w7 (Value.slice Aa1 k ca1).ownBlock:=HO7.out.2
      rw[HWSU.out]
      refine WWX.push (A:=Aw) (c:=cw) HBB.out Q1.out (by rw[sfW_len];exact Q2.out) Q3.out hg7 ?_ ?_ ?_
      ·rw[sfW_len,sfw_len];exact HO7.out.1
      ·rw[sfw_len];exact HSWI.out
      ·rw[sfw_len];exact HAP.out
     have hn7:BelW wr (wr.alloc (.cells #[.slice Aw nw cw] 43)):=below_new (Below.refl _ _) _
     have hg7:(wr.alloc (.cells #[.slice Aw nw cw] 43)).grownBy w7 (Value.slice Aa1 k ca1).ownBlock:=HO7.out.2
     have hv7:=(HVW.out.below hn7).keptT (World.ownsRow.alloc Q2.out _) (by decide) hg7
     have hr7:=(HRDW.out.below hn7).keptT (World.ownsRow.alloc Q2.out _) (by decide) (by decide) hg7
     obtain⟨W8,HW8⟩:=named (w7.setCell ⟨u,1,none⟩ (.slice A8 (k+1) c8))
     rw[←HW8.out]
     have hfu8:Fr W8 u 45 [.slice A7 ns c7,.slice A8 (k+1) c8,.slice Aa2 k ca2]:=by rw[HW8.out];exact HFU7.out.set 1 _
     have hb8:BelW W0 W8:=by rw[HW8.out];exact hp7.1.setCell (p:=⟨u,1,none⟩) (by show W0.heap.size≤u;rw[HUS.out];exact Nat.le_refl _) _
     have hv8:VStk W8 W0.heap.size (.slice A7 ns c7) (takL9 l 0 ns):=by rw[HW8.out];exact hv7.setF HFU7.out (by decide) 1 _
     have hww8:WWX (.slice Aa2 k ca2) W8 W0.heap.size (.slice A8 (k+1) c8) (sfW c ns l (k+1)):=by rw[HW8.out];exact hp7.2.setF HFU7.out (by decide) (by decide) (by decide) 1 _
     have hr8:WS W8 W0.heap.size (.slice Aa2 k ca2) (sfR c ns l k):=by rw[HW8.out];exact hr7.setF HFU7.out (by decide) (by decide) 1 _
     have HI8:=Lib.hid (And.intro hb8 (And.intro hfu8 (And.intro hv8 (And.intro hww8 hr8))))
     have HS15:Hid (∀W,BelW W8 W→W.cell? ⟨s,0,none⟩=some (.slice A ml cl)∧W.cell? ⟨u,2,none⟩=some (.slice Aa2 k ca2)):=Lib.hid fun W h=>⟨(HCE.out W (joinB HI8.out.1 h)).1,(HI8.out.2.1.below h).cell 2⟩
     have HD8:Hid (BelW W8 W8.drew):=Lib.hid (BelW.drew (Below.refl _ _))
     have HT15:=Lib.hid (HTK.out W8.drew W0.heap.size pe dl (joinB hb8 HD8.out) (Below.size (joinB hb8 HD8.out)) (by omega) (by omega))
     have HS0:=Lib.hid (HS15.out _ HD8.out)
     clear hp7 hn7 hg7 hv7 hr7 hfu8 hb8 hv8 hww8 hr8 x0 y0 y1 y2 y3 e0 e1 z1 f1
     refine AnyX.start (S:=(fun w'=>w'.cell? ⟨s,0,none⟩=some (.slice A ml cl)∧w'.cell? ⟨u,2,none⟩=some (.slice Aa2 k ca2))) (t:=10) (by kernel_rfl) ?_
     refine AnyX.take (i:=0) (oi:=⟨some 63,_,_,_,_,_⟩) (v:=.pointer (some ⟨u,2,none⟩)) rfl rfl (by kernel_rfl) (by kernel_rfl) (by kernel_rfl) (by kernel_rfl) (fun _ _ _ h=>h) (Or.inl ⟨by rfl,?_⟩) HS0.out ?_
     ·intro w' hSw
      obtain⟨k0',k1'⟩:=hSw
      first|(go_simp;done)|(go_simp;with_reducible rfl)|(go_simp;intro hh;exfalso;omega)
     simp only[Act.put,List.setIfInBounds_toArray,List.set_cons_zero,List.set_cons_succ]
     refine AnyX.take (i:=1) (oi:=⟨some 64,_,_,_,_,_⟩) (v:=.slice Aa2 k ca2) rfl rfl (by kernel_rfl) (by kernel_rfl) (by kernel_rfl) (by kernel_rfl) (fun _ _ _ h=>h) (Or.inl ⟨by rfl,?_⟩) HS0.out ?_
     ·intro w' hSw
      obtain⟨k0',k1'⟩:=hSw
      first|(go_simp;done)|(go_simp;with_reducible rfl)|(go_simp;intro hh;exfalso;omega)
     simp only[Act.put,List.setIfInBounds_toArray,List.set_cons_zero,List.set_cons_succ]
     refine AnyX.take (i:=2) (oi:=⟨some 65,_,_,_,_,_⟩) (v:=.pointer (some ⟨s,0,none⟩)) rfl rfl (by kernel_rfl) (by kernel_rfl) (by kernel_rfl) (by kernel_rfl) (fun _ _ _ h=>h) (Or.inl ⟨by rfl,?_⟩) HS0.out ?_
     ·intro w' hSw
      obtain⟨k0',k1'⟩:=hSw
      first|(go_simp;done)|(go_simp;with_reducible rfl)|(go_simp;intro hh;exfalso;omega)
     simp only[Act.put,List.setIfInBounds_toArray,List.set_cons_zero,List.set_cons_succ]
     refine AnyX.take (i:=3) (oi:=⟨some 66,_,_,_,_,_⟩) (v:=.slice A ml cl) rfl rfl (by kernel_rfl) (by kernel_rfl) (by kernel_rfl) (by kernel_rfl) (fun _ _ _ h=>h) (Or.inl ⟨by rfl,?_⟩) HS0.out ?_
     ·intro w' hSw
      obtain⟨k0',k1'⟩:=hSw
      first|(go_simp;done)|(go_simp;with_reducible rfl)|(go_simp;intro hh;exfalso;omega)
     simp only[Act.put,List.setIfInBounds_toArray,List.set_cons_zero,List.set_cons_succ]
     refine AnyX.take (i:=4) (oi:=⟨some 67,_,_,_,_,_⟩) (v:=.int .i64 (pe:Int)) rfl rfl (by kernel_rfl) (by kernel_rfl) (by kernel_rfl) (by kernel_rfl) (fun _ _ _ h=>h) (Or.inl ⟨by rfl,?_⟩) HS0.out ?_
     ·intro w' hSw
      obtain⟨k0',k1'⟩:=hSw
      first|(go_simp;done)|(go_simp;with_reducible rfl)|(go_simp;intro hh;exfalso;omega)
     simp only[Act.put,List.setIfInBounds_toArray,List.set_cons_zero,List.set_cons_succ]
     refine AnyX.take (i:=5) (oi:=⟨some 68,_,_,_,_,_⟩) (v:=.int .i64 (dl:Int)) rfl rfl (by kernel_rfl) (by kernel_rfl) (by kernel_rfl) (by kernel_rfl) (fun _ _ _ h=>h) (Or.inl ⟨by rfl,?_⟩) HS0.out ?_
     ·intro w' hSw
      obtain⟨k0',k1'⟩:=hSw
      first|(go_simp;done)|(go_simp;with_reducible rfl)|(go_simp;intro hh;exfalso;omega)
     simp only[Act.put,List.setIfInBounds_toArray,List.set_cons_zero,List.set_cons_succ]
     refine AnyX.one (i:=6) (o:=⟨some 69,_,_,_,_,_⟩) (by kernel_rfl) rfl (fun K' hK=>?_)
     have HK:=Lib.hid hK
     clear hK
     go_simp
     go_at_call 64
     (with_reducible refine HT15.out.mono ?_)
     rintro e w9 ⟨A5,c5,rfl,hv9,hb9⟩
     have hb89:BelW W8 w9:=joinB HD8.out hb9
     have HV9:=Lib.hid hv9
     have HB9:=Lib.hid hb89
     have hs9:=HS15.out _ hb89
     have hrd9:=HI8.out.2.2.2.2.below hb89
     obtain⟨vs9,r1,r2,r3⟩:=hrd9
     rw[sfR_len]at r2
     have R1:=Lib.hid r1
     have R2:=Lib.hid r2
     have R3:=Lib.hid r3
     have HSZ9:=Lib.hid (Below.size (joinB HI8.out.1 hb89))
     clear hv9 hb9 hb89 r1 r2 r3
     refine HK.out _ _ (fun _=>hs9) ?_
     clear HK
     (try simp only[Act.put,List.setIfInBounds_toArray,List.set_cons_zero,List.set_cons_succ])
     refine AnyX.one (i:=7) (o:=⟨some 70,_,_,_,_,_⟩) (by kernel_rfl) rfl (fun K' hK=>?_)
     have HK:=Lib.hid hK
     clear hK
     go_simp
     refine HK.out _ _ (fun _=>HS15.out _ (BelW.alloc HB9.out _)) ?_
     clear HK
     (try simp only[Act.put,List.setIfInBounds_toArray,List.set_cons_zero,List.set_cons_succ])
     refine AnyX.one (i:=8) (o:=⟨some 71,_,_,_,_,_⟩) (by kernel_rfl) rfl (fun K' hK=>?_)
     have HK:=Lib.hid hK
     clear hK
     refine step_append_lies _ (by rfl) (.tmp 64) (.tmp 70) 43 (by rfl) W0.heap.size 41 i2 (.slice none 0 0) 1 24 Tryz.underlying43 HJ.out.1 HJ.out.2.1 HJ.out.2.2.1 HJ.out.2.2.2 rfl (by decide) (.slice Aa2 k ca2) k vs9 (by simp[Act.eval,Act.put]) (World.ownsRow.alloc R2.out _) ⟨w9.heap.size,0,none⟩ 1 1 [.slice A5 dl c5] (by simp[Act.eval,Act.put]) rfl (one_new w9 _ _) (by intro u hu;obtain rfl:=List.mem_singleton.1 hu;rfl) (by decide) (by unfold maxLen;omega) (by omega) (by have:=HSZ9.out;simp;omega) _ rfl ?_
     intro g9 c9' w10 hown10 hgrow10 hat10 hlt10
     have hfu10:=(HI8.out.2.1.below HB9.out).grownT R2.out (by decide) hgrow10
     have hs10:w10.cell? ⟨s,0,none⟩=some (.slice A ml cl)∧w10.cell? ⟨u,2,none⟩=some (.slice Aa2 k ca2):=⟨((HFV.out w9 (joinB HI8.out.1 HB9.out)).grownT R2.out (by decide) hgrow10).cell 0,hfu10.cell 2⟩
     have HO10:=Lib.hid (And.intro hown10 (And.intro hgrow10 hat10))
     have HFU10:=Lib.hid hfu10
     have f2:=hfu10.frozen 2
     clear hown10 hgrow10 hat10 hlt10 hfu10
     refine HK.out _ _ (fun _=>hs10) ?_
     clear HK
     (try simp only[Act.put,List.setIfInBounds_toArray,List.set_cons_zero,List.set_cons_succ])
     refine AnyX.one (i:=9) (o:=⟨some 72,_,_,_,_,_⟩) (by kernel_rfl) rfl (fun K' hK=>?_)
     have HK:=Lib.hid hK
     clear hK
     go_simp
     refine HK.out _ _ (fun _=>hs10) ?_
     clear HK
     (try simp only[Act.put,List.setIfInBounds_toArray,List.set_cons_zero,List.set_cons_succ])
     refine AnyX.one (i:=10) (o:=⟨none,_,_,_,_,_⟩) (by kernel_rfl) rfl (fun K' hK=>?_)
     have HK:=Lib.hid hK
     clear hK
     obtain⟨k0',k1'⟩:=hs10
     go_simp
     refine HK.out _ _ (fun h=>absurd rfl h) ?_
     clear HK
     (try simp only[Act.put,List.setIfInBounds_toArray,List.set_cons_zero,List.set_cons_succ])
     refine AnyX.done (by kernel_rfl) ?_ _
     have hp10:BelW W0 w10∧WS w10 W0.heap.size (.slice (some ⟨g9,0,none⟩) (k+1) c9') (sfR c ns l (k+1)):=by
      have hg10:(w9.alloc (.cells #[.slice A5 dl c5] 41)).grownBy w10 (Value.slice Aa2 k ca2).ownBlock:=HO10.out.2.1
      rw[HRSU2.out]
      refine WS.push (A:=A5) (c:=c5) (joinB HI8.out.1 HB9.out) R1.out (by rw[sfR_len];exact R2.out) R3.out hg10 ?_ ?_
      ·rw[sfR_len,takL9_len];exact HO10.out.1
      ·rw[takL9_len];exact HV9.out
     have hg10:(w9.alloc (.cells #[.slice A5 dl c5] 41)).grownBy w10 (Value.slice Aa2 k ca2).ownBlock:=HO10.out.2.1
     have hn9:BelW w9 (w9.alloc (.cells #[.slice A5 dl c5] 41)):=below_new (Below.refl _ _) _
     have hv10:=((HI8.out.2.2.1.below HB9.out).below hn9).keptT (World.ownsRow.alloc R2.out _) (by decide) hg10
     have hww10:WWX (.slice (some ⟨g9,0,none⟩) (k+1) c9') w10 W0.heap.size (.slice A8 (k+1) c8) (sfW c ns l (k+1)):=by
      refine ((HI8.out.2.2.2.1.below HB9.out).below hn9).grow (World.ownsRow.alloc R2.out _) hg10 ?_
      rcases HO10.out.2.2 with h|h
      ·exact .inl h.symm
      ·exact .inr (by rw[h];rfl)
     obtain⟨W11,HW11⟩:=named (w10.setCell ⟨u,2,none⟩ (.slice (some ⟨g9,0,none⟩) (k+1) c9'))
     rw[←HW11.out]
     have HF11:Hid (BelW W0 W11∧Fr W11 u 45 [.slice A7 ns c7,.slice A8 (k+1) c8,.slice (some ⟨g9,0,none⟩) (k+1) c9']∧VStk W11 W0.heap.size (.slice A7 ns c7) (takL9 l 0 ns)∧WWX (.slice (some ⟨g9,0,none⟩) (k+1) c9') W11 W0.heap.size (.slice A8 (k+1) c8) (sfW c ns l (k+1))∧WS W11 W0.heap.size (.slice (some ⟨g9,0,none⟩) (k+1) c9') (sfR c ns l (k+1))):=Lib.hid (by
      rw[HW11.out]
      exact⟨hp10.1.setCell (p:=⟨u,2,none⟩) (by show W0.heap.size≤u;rw[HUS.out];exact Nat.le_refl _) _,HFU10.out.set 2 _,hv10.setF HFU10.out (by decide) 2 _,hww10.setF HFU10.out (by decide) (by decide) (by decide) 2 _,hp10.2.setF HFU10.out (by decide) (by decide) 2 _⟩)
     clear hp10 hg10 hn9 hv10 hww10 f2 hs9
     go_wp2
     go_roundw
     case rel=>exact⟨k+1,A8,c8,some ⟨g9,0,none⟩,c9',by omega,by rw[HPS2.out];go_num,by go_num,HF11.out.1,HF11.out.2.1,HF11.out.2.2.1,HF11.out.2.2.2.1,HF11.out.2.2.2.2⟩
     case measure=>simp[intOf];omega
  ·obtain rfl:m=k:=by omega
   obtain⟨x0,y0,y1,y2,y3⟩:=HCE.out V0 hb
   have z0:=hfu.cell 0
   have z1:=hfu.cell 1
   have z2:=hfu.cell 2
   have hfr:=HFT.out.below hb
   have t0:=hfr.cell 0
   have t1:=hfr.cell 1
   have t2:=hfr.cell 2
   have f0:=hfr.frozen 0
   have f1:=hfr.frozen 1
   have f2:=hfr.frozen 2
   have hlt:s+1+1<W0.heap.size:=by rw[HUS.out,HU.out];omega
   have hle:w.heap.size≤s+1+1:=by have:=HSW.out;omega
   have hown:OwnS V0 W0.heap.size A7 Aa1 Aa2 ns m m c7 ca1 ca2 (sofS c ns m l):=⟨hv,hww.wws,hws⟩
   have HOW:=Lib.hid (((hown.setS (a:=⟨s+1+1,0,none⟩) hlt (.slice A7 ns c7)).setS (a:=⟨s+1+1,1,none⟩) hlt (.slice Aa1 m ca1)).setS (a:=⟨s+1+1,2,none⟩) hlt (.slice Aa2 m ca2))
   have HBE:=Lib.hid ((((HB0.out V0 hb).setCell (p:=⟨s+1+1,0,none⟩) hle (.slice A7 ns c7)).setCell (p:=⟨s+1+1,1,none⟩) hle (.slice Aa1 m ca1)).setCell (p:=⟨s+1+1,2,none⟩) hle (.slice Aa2 m ca2))
   have HQ:=Lib.hid (((hfr.set 0 (.slice A7 ns c7)).set 1 (.slice Aa1 m ca1)).set 2 (.slice Aa2 m ca2))
   have HLO:Hid (w.heap.size≤W0.heap.size):=Lib.hid (by omega)
   clear hb hfu hv hww hws hfr hlt hle hown
   go_wp2
   refine bodyPost_ret (results_cell_row rfl _ _ _ _ _ _ _ rfl HQ.out Tryz.underlying45 rfl (by kernel_rfl)) rfl ?_
   exact⟨A7,c7,Aa1,ca1,Aa2,ca2,rfl,HOW.out.low HLO.out,HBE.out⟩
def Gkq(a:Act)(v19 v128 v129 v130 v132:Value):Act:=(((((a.put (some 19) v19).put (some 128) v128).put (some 129) v129).put (some 130) v130).put (some 132) v132)
section
variable (a:Act) (v19 v128 v129 v130 v132 u:Value)
end
structure Ikq(Al:Option Addr)(n cl:Nat)(l:List Int)(c:Ck)(ns m:Nat)(wb:World)(b1 b2 b3 b5 b6 b7:Bool)(v19 v128 v129 v130 v132:Value)(w:World):Prop where
 bel:BelW wb w
 row:b2=false→BStk w wb.heap.size (.slice Al n cl) l
 s1:b1=true→b2=false→∃g,v128=.slice (some ⟨g,0,none⟩) 1 1∧Fr w g 5 [.int .u8 1]
 s2:b2=true→b7=false→∃A cc,v129=.slice A (n+1) cc∧Ks w w.heap.size (.slice A (n+1) cc) (l++[1])
 s3:b3=true→∃A cc,v129=.slice A (n+1) cc∧v130=.agg #[.slice A (n+1) cc]
 s5:b5=true→∃A0 A1 A2 k0 k1 k2,v132=.agg #[.slice A0 ns k0,.slice A1 m k1,.slice A2 m k2]∧OwnS w wb.heap.size A0 A1 A2 ns m m k0 k1 k2 (sofS c ns m (l++[1]))∧(b7=true→∃g,v19=.pointer (some ⟨g,0,none⟩)∧wb.heap.size≤g∧Fr w g 45 [.slice A0 ns k0,.slice A1 m k1,.slice A2 m k2])
 s6:b6=true→b7=false→∃g lx,v19=.pointer (some ⟨g,0,none⟩)∧wb.heap.size≤g∧lx.length=3∧Fr w g 45 lx
 d2:b2=true→b1=true
 d3:b3=true→b2=true
 d5:b5=true→b3=true
 d7:b7=true→b5=true
 d76:b7=true→b6=true
section
variable {Al:Option Addr} {n cl:Nat} {l:List Int} {c:Ck} {ns m:Nat} {wb:World} {b1 b2 b3 b5 b6 b7:Bool} {v19 v128 v129 v130 v132:Value} {w w':World}
end
end Go.Proofs.YtemjmfpcopfdbaaGreatDoor
