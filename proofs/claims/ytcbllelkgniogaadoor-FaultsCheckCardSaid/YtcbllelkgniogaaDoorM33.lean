/- The texts Brp. -/
import Derived.Test.YtcbllelkgniogaaDoorM29
import Derived.Test.YtcbllelkgniogaaDoorM15
namespace Go.Proofs.YtcbllelkgniogaaDoor
open Go.RowKit
attribute [local go_sem] Oper.semAt_some
def encP(x:Nat×Nat):Array Value:=#[.int .i64 (x.1:Int),.int .i64 (x.2:Int)]
def triC(c:Ck)(k:Nat):Bool:=(c.nodes.getD k default).kind==12
def relC(c:Ck)(a b:Nat):Bool:=depF (rdQ c) c.nodes.length b a||depF (rdQ c) c.nodes.length a b
def cdC(c:Ck)(a b:Nat):Bool:= !triC c a&& !relC c a b&& !triC c b
def prsC(c:Ck):List (Nat×Nat):=prsP (cdC c) c.nodes.length
theorem Kr.cir{B:Nat}{ts:List TypeId}{W V:World}{v:Value}{c:Ck}(h:Kr B ts W V)(hc:Cir W B v c)(hB:B≤W.heap.size):Cir V V.heap.size v c:=
 hc.keep (Nat.le_trans hB h.1) fun q hq=>World.cell?_of_block (h.2.1 q.block hq (Nat.lt_of_lt_of_le hq hB))
theorem bit_u64(x a:Nat)(hx:x<18446744073709551616):bits .and .u64 ((x:Int)/2^a) 1=if x.testBit a=true then 1 else 0:=by
 have e:((x:Int)/2^a)=((x/2^a:Nat):Int):=by simp
 have h:=u64_and_nat (x/2^a) 1 (Nat.lt_of_le_of_lt (Nat.div_le_self _ _) hx) (by decide)
 rw[e]
 refine (show bits .and .u64 ((x/2^a:Nat):Int) ((1:Nat):Int)=_ from h).trans ?_
 rw[Nat.and_one_is_mod,Nat.testBit_eq_decide_div_mod_eq]
 have h2:x/2^a%2<2:=Nat.mod_lt _ (by decide)
 generalize x/2^a%2=m at h2
 have:m=0∨m=1:=by omega
 rcases this with rfl|rfl<;>rfl
theorem relAll{c:Ck}{n:Nat}{L:List Int}(G:G5 c n L){ord:List Nat}(hO:OrdF (rdQ c) n ord){a b:Nat}(ha:a<n)(hb:b<n):((relW (rdQ c) ord n 0 n).getD b 0).testBit a=relC c a b:=by
 have h:=relW_bit hO (Nat.zero_le n) (Nat.le_refl n) a (by omega) b hb
 rw[Nat.zero_add]at h
 unfold relC
 rw[G.len]
 rw[Bool.eq_iff_iff,h,Bool.or_eq_true,depF_iff hO hb a n (Nat.le_refl _),depF_iff hO ha b n (Nat.le_refl _)]
set_option maxRecDepth 100000 in
set_option maxHeartbeats 8000000 in
theorem pairs_in{c:Ck}{n:Nat}{L:List Int}(G:G5 c n L)(u B q n1 n2 n3 c0 c1 c2 c3 l:Nat)(A0 A1 A2 A3:Option Addr)(ts:List TypeId)(hu:1≤u)(hTC:39 ∉ ts)(hTU:97 ∉ ts)(J:Nat→World→Prop)
 (hst:∀k V V',J k V→Below V.heap.size V V'→J k V')
 (hY:∀k x V,(prsC c)[k]? =some x→J k V→YieldAt Fence.wide (u-1) Tryd.prog l (encP x) V fun e V'=>e=.returned (.bool true)∧J (k+1) V'∧Kr B ts V V'∧KeepsFrom B V V')
 (W:World) (hT:Tabs W) (hBW:B≤W.heap.size) (hq:Fr W q 39 [.slice A0 n c0,.slice A1 n1 c1,.slice A2 n2 c2,.slice A3 n3 c3]) (hc:Cir W B (.agg #[.slice A0 n c0,.slice A1 n1 c1,.slice A2 n2 c2,.slice A3 n3 c3]) c) (h0:J 0 W):
 CallsIn Fence.wide u Tryd.prog 66 #[.func (.yield l) #[] #[],.pointer (some ⟨q,0,none⟩)] W fun e W'=>(∃v,e=.returned v)∧J (prsC c).length W':=by
 refine callsIn_of_wp Tryd.func66 rfl trivial ?_ rfl
 simp only[Tryd.ntmps66,List.size_toArray,List.length_cons,List.length_nil,Nat.reduceAdd,Nat.reduceSub,Array.replicate_succ,Array.replicate_zero,List.push_toArray,List.append_toArray,List.nil_append,List.cons_append]
 obtain⟨cd,HCD⟩:=named (cdC c)
 have hpr:prsC c=preP cd n n 0:=by unfold prsC prsP;rw[G.len,HCD.out]
 rw[hpr]at hY ⊢
 have HR:=Lib.hid (Kr.rel B ts)
 have HY:=Lib.hid hY
 have HST:=Lib.hid hst
 have x0:W.cell? ⟨q,0,none⟩=some (.slice A0 n c0):=hq.cell 0
 have x1:W.cell? ⟨q,1,none⟩=some (.slice A1 n1 c1):=hq.cell 1
 have x2:W.cell? ⟨q,2,none⟩=some (.slice A2 n2 c2):=hq.cell 2
 have x3:W.cell? ⟨q,3,none⟩=some (.slice A3 n3 c3):=hq.cell 3
 have HQ:Hid (∀V,Kr B ts W V→V.cell? ⟨q,0,none⟩=some (.slice A0 n c0)∧V.cell? ⟨q,1,none⟩=some (.slice A1 n1 c1)∧V.cell? ⟨q,2,none⟩=some (.slice A2 n2 c2)∧V.cell? ⟨q,3,none⟩=some (.slice A3 n3 c3)):=Lib.hid fun V h=>⟨(h.row hq hTC).cell 0,(h.row hq hTC).cell 1,(h.row hq hTC).cell 2,(h.row hq hTC).cell 3⟩
 have HTRI:Hid (∀V k u,Kr B ts W V→k<n→CallsIn Fence.wide u Tryd.prog 36 #[.agg #[.slice A0 n c0,.slice A1 n1 c1,.slice A2 n2 c2,.slice A3 n3 c3],.int .i64 (k:Int)] V fun e w'=>e=.returned (.bool (triC c k))∧BelW V w'):=Lib.hid fun V k u h hk=>callsIn_wide.2 (isTri_any c A0 A1 A2 A3 n n1 n2 n3 c0 c1 c2 c3 k V (h.cir hc hBW) hk)
 have HO:Hid (∀u,CallsIn Fence.wide u Tryd.prog 49 #[.agg #[.slice A0 n c0,.slice A1 n1 c1,.slice A2 n2 c2,.slice A3 n3 c3]] W fun e w'=>∃ord d,e=.returned (.tuple #[.slice (some ⟨d,0,none⟩) n n,.int .i64 0])∧BelW W w'∧OrdF (rdQ c) n ord∧d<w'.heap.size∧∀V,BelW w' V→∀j,j<n→V.cell? ⟨d,0+j,none⟩=some (.int .i64 ((ord.getD j 0:Nat):Int))):=Lib.hid fun u=>callsIn_wide.2 (order_f G _ W B hBW hT hc)
 have HREL:Hid (∀(ord:List Nat) (d:Nat) (w2:World),BelW W w2→OrdF (rdQ c) n ord→d<w2.heap.size→(∀V,BelW w2 V→∀j,j<n→V.cell? ⟨d,0+j,none⟩=some (.int .i64 ((ord.getD j 0:Nat):Int)))→
  ∃xs:List Nat,xs.length=n∧(∀i,xs.getD i 0<18446744073709551616)∧(∀a b,a<n→b<n→(xs.getD b 0).testBit a=relC c a b)∧∀wr (a:Nat) u,BelW w2 wr→a=0→0<n→CallsIn Fence.wide u Tryd.prog 50 #[.agg #[.slice A0 n c0,.slice A1 n1 c1,.slice A2 n2 c2,.slice A3 n3 c3],.slice (some ⟨d,0,none⟩) n n,.int .i64 (a:Int),.int .i64 (n:Int)] wr fun r w'=>∃g,r=.returned (.slice (some ⟨g,0,none⟩) n n)∧Fr w' g 97 (U64 xs)∧BelW wr w'):=Lib.hid fun ord d w2 h2 hO hd hcd=>by
  refine⟨relW (rdQ c) ord n 0 n,relW_len _ _ _ _ _,fun i=>?_,fun a b ha hb=>relAll G hO ha hb,fun wr a u h3 ha hn0=>callsIn_wide.2 ?_⟩
  ·refine Nat.lt_of_lt_of_le (relW_lt _ _ _ _ _ i) ?_
   have:=G.few
   exact (Nat.pow_le_pow_right (by decide) (show n-0≤64 by omega))
  ·subst ha
   have hbw:BelW W wr:=joinB h2 h3
   obtain⟨nb,no,hA,hin⟩:=rel_nodes G (Nat.le_trans hBW (Below.size hbw)) (hc.below (Below.mono hbw hBW))
   obtain rfl:=hA hn0
   refine (relatives_any (fun k=>(c.nodes.getD k default).kind) (fun k=>(c.nodes.getD k default).ins.map Int.toNat) ord A1 A2 A3 n n1 n2 n3 c0 c1 c2 c3 nb no d 0 n 0 n wr (by have:=G.few;omega) (by omega) (by omega) (by have:=G.few;omega) hin (rel_ins G) (fun V hV=>hcd V (joinB h3 hV)) (fun j hj=>hO.lt j hj) hO.len (Nat.lt_of_lt_of_le hd (Below.size h3))).mono ?_
   rintro r w' ⟨g,rfl,-,hf,hbb⟩
   exact⟨g,rfl,hf,hbb⟩
 have HJ0:=Lib.hid h0
 have HPZ:Hid (preP cd n 0 0=[]):=Lib.hid (preP_zero cd n)
 have HCE:Hid (∀a b,cd a b=(!triC c a&& !relC c a b&& !triC c b)):=Lib.hid fun a b=>by rw[HCD.out];rfl
 have hn20:=G.few
 clear hY hst hq hc h0 hpr hTC hT HCD G
 have hfo:Fence.wide.fn 49:=trivial
 have hfr:Fence.wide.fn 50:=trivial
 have hft:Fence.wide.fn 36:=trivial
 gi_upto_region 3 with (gi_at_call 49;(with_reducible refine (HO.out _).mono ?_);rintro e w2 ⟨ord,d,rfl,h1,h2,h3,h4⟩;have HB2:Hid (BelW W w2):=Lib.hid h1;have HR2:=Lib.hid (HREL.out ord d w2 h1 h2 h3 h4);clear h1 h2 h3 h4 x0 x1 x2 x3;obtain⟨x0,x1,x2,x3⟩:=HQ.out w2 (HR.out.below HB2.out))
 obtain⟨xs,hxl,hxlt,hxb,hrel⟩:=HR2.out
 have HXL:=Lib.hid hxl
 have HXT:=Lib.hid hxlt
 have HXB:=Lib.hid hxb
 have HRC:=Lib.hid hrel
 have HJ1:Hid (J (preP cd n 0 0).length w2):=Lib.hid (by rw[HPZ.out];exact HST.out _ _ _ HJ0.out HB2.out)
 have HK1:Hid (Kr B ts W w2):=Lib.hid (HR.out.below HB2.out)
 have HZ1:Hid ((0:Nat)=0→BelW w2 w2):=Lib.hid fun _=>Below.refl _ _
 clear hxl hxlt hxb hrel HR2 HREL HO HJ0 HB2 x0 x1 x2 x3
 gi_loopw [5,17] (fun s5 i wr=>∃a:Nat,a≤n∧i=.int .i64 (a:Int)∧Hid (J (preP cd n a 0).length wr)∧Hid (Kr B ts W wr)∧Hid (a=0→BelW w2 wr)∧((a=0∧s5=.slice none 0 0)∨(0<a∧∃g,s5=.slice (some ⟨g,0,none⟩) n n∧Hid (Fr wr g 97 (U64 xs))))) (fun _ i _=>n-(intOf i).toNat)
 case atStart=>exact⟨0,Nat.zero_le _,rfl,HJ1,HK1,HZ1,.inl ⟨rfl,rfl⟩⟩
 case round=>
  clear HJ1 HK1 HZ1
  obtain⟨a,ha,rfl,HJ,HK,HZ,hs⟩:=hrel
  by_cases han:a<n
  ·have han2:(a:Int)<(n:Int):=by omega
   have hmod:(a:Int)%64=(a:Int):=by omega
   gi_upto_region 6 with (fail)
   rw[hmod]
   gi_upto_if 23 with fail
   gi_cut [5] from 22 (fun s5 wx=>∃g,s5=.slice (some ⟨g,0,none⟩) n n∧Hid (J (preP cd n a 0).length wx)∧Hid (Kr B ts W wx)∧Hid (Fr wx g 97 (U64 xs)))
   case first=>
    rcases hs with⟨h0,rfl⟩| ⟨h0,g,rfl,HF⟩
    ·have t0:((a:Int)==0)=true:=by simp[h0]
     have hm1:(n:Int)<(a:Int)+64:=by omega
     have hm2:¬(a:Int)+64<(n:Int):=by omega
     have hn0:0<n:=by omega
     obtain⟨x0,x1,x2,x3⟩:=HQ.out wr HK.out
     have HZ2:=Lib.hid (HZ.out h0)
     have H0:=Lib.hid h0
     clear h0
     gi_wp2_with (gi_at_call 50;(with_reducible refine (HRC.out wr a _ HZ2.out H0.out hn0).mono ?_);rintro e w3 ⟨g,rfl,h1,h2⟩;have HF:=Lib.hid h1;have HB3:Hid (BelW wr w3):=Lib.hid h2;clear h1 h2 x0 x1 x2 x3)
     gi_meet
     exact⟨g,rfl,Lib.hid (HST.out _ _ _ HJ.out HB3.out),Lib.hid (HR.out.trans HK.out (HR.out.below HB3.out)),HF⟩
    ·have t0:((a:Int)==0)=false:=by simp;omega
     gi_wp2
     gi_meet
     exact⟨g,rfl,HJ,HK,HF⟩
   clear HJ HK HZ hs
   obtain⟨g,rfl,HJ,HK,HF⟩:=hcut
   have HAN:=Lib.hid han
   obtain⟨ta,HTA⟩:=named (triC c a)
   have HT1:Hid (∀V u,Kr B ts W V→CallsIn Fence.wide u Tryd.prog 36 #[.agg #[.slice A0 n c0,.slice A1 n1 c1,.slice A2 n2 c2,.slice A3 n3 c3],.int .i64 (a:Int)] V fun e w'=>e=.returned (.bool ta)∧BelW V w'):=Lib.hid fun V u h=>by rw[HTA.out];exact HTRI.out V a u h han
   obtain⟨x0,x1,x2,x3⟩:=HQ.out wc HK.out
   clear ha han
   cases ta
   ·gi_upto_region 9 with (gi_at_call 36;(with_reducible refine (HT1.out _ _ HK.out).mono ?_);rintro e w3 ⟨rfl,h1⟩;have HB3:Hid (BelW wc w3):=Lib.hid h1;clear h1 x0 x1 x2 x3)
    have HJ3:Hid (J (preP cd n a 0).length w3):=Lib.hid (HST.out _ _ _ HJ.out HB3.out)
    have HK3:Hid (Kr B ts W w3):=Lib.hid (HR.out.trans HK.out (HR.out.below HB3.out))
    have HF3:Hid (Fr w3 g 97 (U64 xs)):=Lib.hid (HF.out.below HB3.out)
    obtain⟨x0,x1,x2,x3⟩:=HQ.out w3 HK3.out
    clear HJ HK HF HB3 HT1
    gi_wp2
    clear x0 x1 x2 x3
    gi_loopw [40] (fun s40 wr=>∃b:Nat,b≤n∧s40=.int .i64 (b:Int)∧Hid (J (preP cd n a b).length wr)∧Hid (Kr B ts W wr)∧Hid (Fr wr g 97 (U64 xs))) (fun s40 _=>n-(intOf s40).toNat)
    case atStart=>exact⟨0,Nat.zero_le _,rfl,HJ3,HK3,HF3⟩
    case round=>
     clear HJ3 HK3 HF3
     obtain⟨b,hb,rfl,HJ,HK,HF⟩:=hrel
     by_cases hbn:b<n
     ·have hb2:(b:Int)<(n:Int):=by omega
      obtain⟨x,HX⟩:=named (xs.getD b 0)
      have z1:wr.cell? ⟨g,b,none⟩=some (.int .u64 ((x:Nat):Int)):=by rw[HX.out];exact (HF.out.cell b).trans (U64_at (by rw[HXL.out];exact hbn))
      have HBIT:Hid (x.testBit a=relC c a b):=Lib.hid (by rw[HX.out];exact HXB.out a b HAN.out hbn)
      obtain⟨y0,y1,y2,y3⟩:=HQ.out wr HK.out
      have hbit:=bit_u64 x a (by rw[HX.out];exact HXT.out b)
      rw[HBIT.out]at hbit
      have HBN:=Lib.hid hbn
      have HTB:Hid (∀V u,Kr B ts W V→CallsIn Fence.wide u Tryd.prog 36 #[.agg #[.slice A0 n c0,.slice A1 n1 c1,.slice A2 n2 c2,.slice A3 n3 c3],.int .i64 (b:Int)] V fun e w'=>e=.returned (.bool (triC c b))∧BelW V w'):=Lib.hid fun V u h=>HTRI.out V b u h hbn
      have HCB:Hid (cd a b=(!relC c a b&& !triC c b)):=Lib.hid (by rw[HCE.out,←HTA.out];rfl)
      obtain⟨tr,HTR⟩:=named (relC c a b)
      obtain⟨tb,HTBB⟩:=named (triC c b)
      rw[←HTR.out]at hbit HCB
      rw[←HTBB.out]at HTB HCB
      clear hb hbn HX HBIT HTR HTBB
      cases tr
      ·rw[if_neg (by decide)]at hbit
       cases tb
       ·have HAT:Hid ((preP cd n n 0)[(preP cd n a b).length]? =some (a,b)):=Lib.hid (preP_at cd HAN.out HBN.out HCB.out)
        have HNX:Hid ((preP cd n a (b+1)).length=(preP cd n a b).length+1):=Lib.hid (by rw[preP_succ,if_pos (show cd a b=true from HCB.out)];simp)
        gi_wp2_with (gi_at_call 36;(with_reducible refine (HTB.out _ _ HK.out).mono ?_);rintro e w4 ⟨rfl,h1⟩;have HB4:Hid (BelW wr w4):=Lib.hid h1;have HJ4:=Lib.hid (HST.out _ _ _ HJ.out h1);clear h1 y0 y1 y2 y3 z1;have HYK:Hid (YieldAt Fence.wide (u-1) Tryd.prog l #[.int .i64 (a:Int),.int .i64 (b:Int)] w4 fun e V'=>e=.returned (.bool true)∧J ((preP cd n a b).length+1) V'∧Kr B ts w4 V'∧KeepsFrom B w4 V'):=Lib.hid (HY.out _ _ w4 HAT.out HJ4.out);obtain⟨fn,tmps,assign,body,hy,hR⟩:=HYK.out;clear HYK)
        refine hR.mono ?_
        rintro e W3 ⟨rfl,hJ3,hk3,-⟩
        have HJ5:Hid (J (preP cd n a (b+1)).length W3):=Lib.hid (by rw[HNX.out];exact hJ3)
        have HK5:Hid (Kr B ts w4 W3):=Lib.hid hk3
        clear hy hR hJ3 hk3
        gi_wp2
        go_roundw
        case rel=>exact⟨b+1,HBN.out,by go_num,HJ5,Lib.hid (HR.out.trans HK.out (HR.out.trans (HR.out.below HB4.out) HK5.out)),Lib.hid (HK5.out.row (HF.out.below HB4.out) hTU)⟩
        case measure=>have:=HBN.out;simp[intOf];omega
       ·have HNX:Hid ((preP cd n a (b+1)).length=(preP cd n a b).length):=Lib.hid (by rw[preP_succ,if_neg (by rw[HCB.out];decide),List.append_nil])
        gi_wp2_with (gi_at_call 36;(with_reducible refine (HTB.out _ _ HK.out).mono ?_);rintro e w4 ⟨rfl,h1⟩;have HB4:Hid (BelW wr w4):=Lib.hid h1;have HJ4:=Lib.hid (HST.out _ _ _ HJ.out h1);clear h1 y0 y1 y2 y3 z1)
        rename_i K hK rr hh ww heq
        refine⟨fun _ _=>trivial,?_⟩
        refine hK _ _ ?_
        clear hK heq
        gi_wp2
        go_roundw
        case rel=>exact⟨b+1,HBN.out,by go_num,Lib.hid (by rw[HNX.out];exact HJ4.out),Lib.hid (HR.out.trans HK.out (HR.out.below HB4.out)),Lib.hid (HF.out.below HB4.out)⟩
        case measure=>have:=HBN.out;simp[intOf];omega
      ·rw[if_pos rfl]at hbit
       have HNX:Hid ((preP cd n a (b+1)).length=(preP cd n a b).length):=Lib.hid (by rw[preP_succ,if_neg (by rw[HCB.out];simp),List.append_nil])
       gi_wp2
       rename_i K hK rr hh ww heq
       refine⟨fun _ _=>trivial,?_⟩
       refine hK _ _ ?_
       clear hK heq
       gi_wp2
       go_roundw
       case rel=>exact⟨b+1,HBN.out,by go_num,Lib.hid (by rw[HNX.out];exact HJ.out),HK,HF⟩
       case measure=>have:=HBN.out;simp[intOf];omega
     ·obtain rfl:n=b:=by omega
      gi_wp2
      go_roundw
      case rel=>exact⟨a+1,HAN.out,by go_num,Lib.hid (by rw[preP_next];exact HJ.out),HK,Lib.hid (fun h=>absurd h (by omega)),.inr ⟨by omega,g,rfl,HF⟩⟩
      case measure=>have:=HAN.out;simp[intOf];omega
   ·gi_wp2_with (gi_at_call 36;(with_reducible refine (HT1.out _ _ HK.out).mono ?_);rintro e w3 ⟨rfl,h1⟩;have HB3:Hid (BelW wc w3):=Lib.hid h1;clear h1 x0 x1 x2 x3)
    have HJ3:Hid (J (preP cd n (a+1) 0).length w3):=Lib.hid (by
     have e:preP cd n (a+1) 0=preP cd n a 0:=by
      rw[preP_next]
      exact preP_none cd n a fun b _=>by rw[HCE.out,←HTA.out];rfl
     rw[e]
     exact HST.out _ _ _ HJ.out HB3.out)
    go_roundw
    case rel=>exact⟨a+1,HAN.out,by go_num,HJ3,Lib.hid (HR.out.trans HK.out (HR.out.below HB3.out)),Lib.hid (fun h=>absurd h (by omega)),.inr ⟨by omega,g,rfl,Lib.hid (HF.out.below HB3.out)⟩⟩
    case measure=>have:=HAN.out;simp[intOf];omega
  ·obtain rfl:n=a:=by omega
   gi_wp2
   go_end0
   exact⟨⟨_,rfl⟩,HJ.out⟩
end Go.Proofs.YtcbllelkgniogaaDoor
