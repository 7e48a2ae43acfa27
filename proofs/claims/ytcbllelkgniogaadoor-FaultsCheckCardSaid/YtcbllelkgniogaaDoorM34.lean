/- The texts Brg. -/
import Derived.Test.YtcbllelkgniogaaDoorM33
import Derived.Test.YtcbllelkgniogaaDoorM14
namespace Go.Proofs.YtcbllelkgniogaaDoor
open Go.RowKit
attribute [local go_sem] Oper.semAt_some
def hiB(m:Int):Nat:=if m=3 then 0 else 1
def brow(m:Int)(x:Nat×Nat):List Ft:=if m=2∧x.2<x.1 then [] else (List.range (hiB m+1)).map fun(v:Nat)=>(⟨m,(x.1:Int),-1,(v:Int),(x.2:Int)⟩:Ft)
def brL(c:Ck)(m:Int):List Ft:=(prsC c).flatMap (brow m)
def brN(c:Ck)(m:Int)(k:Nat):Nat:=(((prsC c).take k).flatMap (brow m)).length
theorem pairs_inF(F:Fence)(u:Nat)(A0 A1 A2 A3:Option Addr)(n n1 n2 n3 c0 c1 c2 c3:Nat)(w:World)(h24:F.fn 56)(hro:F.round=none):
 CallsIn F u Tryd.prog 56 #[.agg #[.slice A0 n c0,.slice A1 n1 c1,.slice A2 n2 c2,.slice A3 n3 c3]] w fun e w'=>e=.returned (.func (.func 66) #[] #[.pointer (some ⟨w.heap.size,0,none⟩)])∧Fr w' w.heap.size 39 [.slice A0 n c0,.slice A1 n1 c1,.slice A2 n2 c2,.slice A3 n3 c3]∧BelW w w':=by
 refine callsIn_of_wp Tryd.func56 rfl h24 ?_ hro
 simp only[Tryd.ntmps56,List.size_toArray,List.length_cons,List.length_nil,Nat.reduceAdd,Nat.reduceSub,Array.replicate_succ,Array.replicate_zero,List.push_toArray,List.append_toArray,List.nil_append,List.cons_append]
 gi_wp2
 go_ret
 exact⟨rfl,Fr.made _ _ _ rfl,below_new (Below.refl _ _) _⟩
set_option maxRecDepth 100000 in
set_option maxHeartbeats 8000000 in
theorem brg_in{c:Ck}{n:Nat}{L:List Int}(G:G5 c n L)(u B qc qm n1 n2 n3 c0 c1 c2 c3 l:Nat)(m:Int)(A0 A1 A2 A3:Option Addr)(ts:List TypeId)(hu:4≤u)(hm:m=2∨m=3)(hTC:39 ∉ ts)(hTU:97 ∉ ts)(hTM:28 ∉ ts)(hTY:92 ∉ ts)(J:Nat→World→Prop)
 (W:World) (hst:OwnFrom W.heap.size J) (hBW:B≤W.heap.size)
 (hY:∀k x V,(brL c m)[k]? =some x→J k V→YieldAt Fence.wide (u-3) Tryd.prog l (encF x) V fun e V'=>e=.returned (.bool true)∧J (k+1) V'∧Kr B ts V V'∧KeepsFrom B V V')
 (hT:Tabs W) (hqc:Fr W qc 39 [.slice A0 n c0,.slice A1 n1 c1,.slice A2 n2 c2,.slice A3 n3 c3]) (hqm:Fr W qm 28 [.int .u8 m]) (hc:Cir W B (.agg #[.slice A0 n c0,.slice A1 n1 c1,.slice A2 n2 c2,.slice A3 n3 c3]) c) (h0:J 0 W):
 CallsIn Fence.wide u Tryd.prog 55 #[.func (.yield l) #[] #[],.pointer (some ⟨qc,0,none⟩),.pointer (some ⟨qm,0,none⟩)] W fun e W'=>(∃v,e=.returned v)∧J (brL c m).length W':=by
 refine callsIn_of_wp_marks Tryd.func55 rfl trivial ?_ rfl
 simp only[Tryd.ntmps55,List.size_toArray,List.length_cons,List.length_nil,Nat.reduceAdd,Nat.reduceSub,Array.replicate_succ,Array.replicate_zero,List.push_toArray,List.append_toArray,List.nil_append,List.cons_append]
 obtain⟨W1,HW1⟩:=named (W.alloc (.cells #[.func (.yield l) #[] #[]] 92))
 have hb1:BelW W W1:=by rw[HW1.out];exact below_new (Below.refl _ _) _
 have hfy:Fr W1 W.heap.size 92 [.func (.yield l) #[] #[]]:=by rw[HW1.out];exact Fr.made _ _ _ rfl
 have hz1:W1.heap.size=W.heap.size+1:=by rw[HW1.out];simp
 have hfc:=hqc.below hb1
 have x0:W1.cell? ⟨qc,0,none⟩=some (.slice A0 n c0):=hfc.cell 0
 have x1:W1.cell? ⟨qc,1,none⟩=some (.slice A1 n1 c1):=hfc.cell 1
 have x2:W1.cell? ⟨qc,2,none⟩=some (.slice A2 n2 c2):=hfc.cell 2
 have x3:W1.cell? ⟨qc,3,none⟩=some (.slice A3 n3 c3):=hfc.cell 3
 gi_upto_region 1 with fail
 rw[←HW1.out]
 have HB1:=Lib.hid hb1
 have HFY:=Lib.hid hfy
 have HFM:=Lib.hid (hqm.below hb1)
 have HZ1:=Lib.hid hz1
 have HST:=Lib.hid hst
 have HJ0:=Lib.hid (own_below hst h0 hb1)
 have HY:=Lib.hid hY
 have HSEQ:Hid (∀(qn:Nat) (l':Nat) (J':Nat→World→Prop) (W':World),BelW W W'→Fr W' qn 39 [.slice A0 n c0,.slice A1 n1 c1,.slice A2 n2 c2,.slice A3 n3 c3]→(∀k V V',J' k V→Below V.heap.size V V'→J' k V')→(∀k x V,(prsC c)[k]? =some x→J' k V→YieldAt Fence.wide (u-1-1) Tryd.prog l' (encP x) V fun e V'=>e=.returned (.bool true)∧J' (k+1) V'∧Kr B ts V V'∧KeepsFrom B V V')→J' 0 W'→
  CallsIn Fence.wide (u-1) Tryd.prog 66 #[.func (.yield l') #[] #[],.pointer (some ⟨qn,0,none⟩)] W' fun e W'=>(∃v,e=.returned v)∧J' (prsC c).length W'):=Lib.hid fun qn l' J' W' hb hf hs hy hj=>
  pairs_in G (u-1) B qn n1 n2 n3 c0 c1 c2 c3 l' A0 A1 A2 A3 ts (by omega) hTC hTU J' hs hy W' (hT.below hb) (Nat.le_trans hBW (Below.size hb)) hf (hc.below (Below.mono hb hBW)) hj
 have HBW:=Lib.hid hBW
 have HHI:Hid (∀l u V,CallsIn (Fence.wide.inRound l) u Tryd.prog 35 #[.int .u8 m] V fun e w'=>e=.returned (.int .u8 ((hiB m:Nat):Int))∧V=w'):=Lib.hid fun l u V=>CallsIn.inRound l ((callsIn_wide.2 (highest_any m V)).mono fun e w' ⟨h1,h2⟩=>⟨by rw[h1];unfold hiB;split<;>rfl,h2⟩)
 obtain⟨hb,HHB⟩:=named (hiB m)
 rw[←HHB.out]at HHI
 have HHL:Hid (hb≤1):=Lib.hid (by rw[HHB.out];unfold hiB;split<;>omega)
 have HROW:Hid (∀x:Nat×Nat,brow m x=if m=2∧x.2<x.1 then [] else (List.range (hb+1)).map fun(v:Nat)=>(⟨m,(x.1:Int),-1,(v:Int),(x.2:Int)⟩:Ft)):=Lib.hid fun x=>by rw[HHB.out];rfl
 clear hb1 hfy hfc hz1 hst h0 hY hc hqc hqm hBW hT hTC hTU G
 have hfp:Fence.wide.fn 56:=trivial
 have hfh:Fence.wide.fn 35:=trivial
 have h1u:1≤u:=by omega
 gi_wp2_with (gi_at_call 56;(with_reducible refine (pairs_inF Fence.wide _ A0 A1 A2 A3 n n1 n2 n3 c0 c1 c2 c3 W1 hfp rfl).mono ?_);rintro e w2 ⟨rfl,h1,h2⟩;have HF2:=Lib.hid h1;have HB2:Hid (BelW W1 w2):=Lib.hid h2;clear h1 h2 x0 x1 x2 x3)
 obtain⟨qn,HQN⟩:=named W1.heap.size
 rw[←HQN.out]at HF2
 rw[←HQN.out]
 have HSZ:Hid (W.heap.size+1≤w2.heap.size):=Lib.hid (by have:=Below.size HB2.out;have:=HZ1.out;omega)
 refine range_t (F:=Fence.wide) (n:=u) (m:=u-1-1) (B0:=B) (K:=Kr B ts) (encs:=encP) (zs:=prsC c) (Kr.rel B ts) ?hB0 rfl (by omega) rfl trivial (fun _ _=>rfl) ?hseq (fun _=>rfl)
  (fun k V=>J (brN c m k) V∧Fr V W.heap.size 92 [.func (.yield l) #[] #[]]∧Fr V qm 28 [.int .u8 m]) ?hI ⟨own_below (B:=W.heap.size) HST.out HJ0.out HB2.out,HFY.out.below HB2.out,HFM.out.below HB2.out⟩
  (fun x a' V=>a'= { tmps:=#[.func (.yield l) #[] #[],.pointer (some ⟨qc,0,none⟩),.pointer (some ⟨qm,0,none⟩),.pointer (some ⟨W.heap.size,0,none⟩),.int .i64 (x.1:Int),.int .i64 (x.2:Int),undef,.agg #[.slice A0 n c0,.slice A1 n1 c1,.slice A2 n2 c2,.slice A3 n3 c3],.func (.func 66) #[] #[.pointer (some ⟨qn,0,none⟩)],.int .i64 (x.1:Int),.int .i64 (x.2:Int),undef,undef,undef,undef,undef,undef,undef,undef,undef,undef,undef,undef,undef,undef,undef,undef,undef,undef,undef,undef,undef,undef,undef],defers:=[] }) ?hAx ?hassign ?hbody ?hdone
 case hB0=>have:=HSZ.out;have:=HBW.out;omega
 case hseq=>
  intro l' J' W' hb2 hst' hY' h0'
  exact HSEQ.out qn l' J' W' (joinB HB1.out (joinB HB2.out hb2)) (HF2.out.below hb2) (fun k V V' h hb=>own_below hst' h hb) hY' h0'
 case hI=>exact fun k V V' row ⟨h1,h2,h3⟩ hg hr=>⟨HST.out _ V V' row h1 hg fun r e=>⟨by have:=(hr r e).1;have:=HSZ.out;omega,(hr r e).2⟩,fr_turn h2 hg fun r e=>(hr r e).2,fr_turn h3 hg fun r e=>(hr r e).2⟩
 case hAx=>exact fun x a' _ V V' row h hg hr=>h
 case hassign=>
  intro l' k x V K' hx hI hK
  have HK:=Lib.hid hK
  clear hK hI
  obtain⟨a,b⟩:=x
  simp[encP]
  gi_wp2
  exact HK.out _ _ (Below.refl _ _) rfl
 case hbody=>
  rintro l' k x a' V hl hx ⟨hJ,hfy,hfm⟩ rfl
  obtain⟨bk,HBK⟩:=named (brN c m k)
  rw[←HBK.out]at hJ
  have HSC1:brN c m (k+1)=brN c m k+(brow m x).length:=flat_succ (brow m) (prsC c) hx
  rw[←HBK.out]at HSC1
  have HAT1:∀j,j<(brow m x).length→(brL c m)[brN c m k+j]? =(brow m x)[j]? :=fun j hj=>flat_at (brow m) (prsC c) hx hj
  rw[←HBK.out]at HAT1
  obtain⟨a,b⟩:=x
  have hrw:=HROW.out (a,b)
  rw[hrw]at HSC1 HAT1
  have HJ:Hid (J (bk+0) V):=Lib.hid hJ
  have HF:Hid (Fr V W.heap.size 92 [.func (.yield l) #[] #[]]∧Fr V qm 28 [.int .u8 m]):=Lib.hid ⟨hfy,hfm⟩
  have HKV:Hid (KeepsFrom B V V∧Kr B ts V V):=Lib.hid ⟨KeepsFrom.refl _ _,(Kr.rel B ts).below (Below.refl _ _)⟩
  have y1:V.cell? ⟨qm,0,none⟩=some (.int .u8 m):=hfm.cell 0
  have h3u:1≤u-1-1:=by omega
  have hbl:=HHL.out
  have hadd:IntKind.u8.wrap ((hb:Int)+1)=(hb:Int)+1:=by rw[IntKind.wrap_u8];omega
  clear hJ hfy hfm hx hrw HBK
  by_cases hsk:m=2∧b<a
  ·rw[if_pos hsk]at HSC1
   have HSC:Hid (brN c m (k+1)=bk):=Lib.hid (by rw[HSC1];rfl)
   clear HSC1 HAT1
   obtain⟨rfl,hba⟩:=hsk
   have hba2:(b:Int)<(a:Int):=by omega
   gi_wp2
   exact⟨HKV.out.1,HKV.out.2,by rw[HSC.out];exact HJ.out,HF.out.1,HF.out.2⟩
  ·rw[if_neg hsk]at HSC1 HAT1
   have HSC:Hid (bk+(hb+1)=brN c m (k+1)):=Lib.hid (by rw[HSC1];simp)
   have HAT:Hid (∀j,j<hb+1→(brL c m)[bk+j]? =some ⟨m,(a:Int),-1,(j:Int),(b:Int)⟩):=Lib.hid fun j hj=>by
    refine (HAT1 j (by simpa using hj)).trans ?_
    simp[hj]
   clear HSC1 HAT1
   by_cases hm2:m=2
   ·have hba:¬b<a:=fun h=>hsk ⟨hm2,h⟩
    have hba2:¬(b:Int)<(a:Int):=by omega
    have q0:(m==2)=true:=by simp[hm2]
    have HM2:=Lib.hid hm2
    clear hsk hba hm2 hm
    gi_upto_region 6 with (gi_at_call 35;(with_reducible refine (HHI.out _ _ _).mono ?_);rintro e w1 ⟨rfl,rfl⟩)
    clear y1
    gi_loopw [21] (fun i wr=>∃j:Nat,j≤hb+1∧i=.int .u8 (j:Int)∧Hid (J (bk+j) wr)∧Hid (Fr wr W.heap.size 92 [.func (.yield l) #[] #[]]∧Fr wr qm 28 [.int .u8 m])∧Hid (KeepsFrom B V wr∧Kr B ts V wr)) (fun i _=>hb+1-(intOf i).toNat)
    case atStart=>exact⟨0,Nat.zero_le _,rfl,HJ,HF,HKV⟩
    case round=>
     clear HJ HF HKV
     obtain⟨j,hj,rfl,HJ,HF,HKV⟩:=hrel
     by_cases hjl:j<hb+1
     ·have hj2:(j:Int)<(hb:Int)+1:=by omega
      have y0:wr.cell? ⟨W.heap.size,0,none⟩=some (.func (.yield l) #[] #[]):=HF.out.1.cell 0
      have y1:wr.cell? ⟨qm,0,none⟩=some (.int .u8 m):=HF.out.2.cell 0
      have HYK:Hid (YieldAt Fence.wide (u-3) Tryd.prog l #[.agg #[.int .u8 m,.int .i64 (a:Int),.int .i64 (-1),.int .u8 (j:Int),.int .i64 (b:Int)]] wr fun e V'=>e=.returned (.bool true)∧J (bk+j+1) V'∧Kr B ts wr V'∧KeepsFrom B wr V'):=Lib.hid (HY.out _ _ wr (HAT.out j hjl) HJ.out)
      obtain⟨fn,tmps,assign,body,hy,hR⟩:=HYK.out
      clear HYK
      have hR2:RoundIn (Fence.wide.inRound l') (u-1-1-1) Tryd.prog l fn tmps assign body wr (fun e V'=>e=.returned (.bool true)∧J (bk+j+1) V'∧Kr B ts wr V'∧KeepsFrom B wr V'):=by
       have e3:u-3=u-1-1-1:=by omega
       rw[e3]at hR
       exact hR
      clear hR
      gi_wp2
      refine RoundIn.mono hR2 ?_
      rintro e W3 ⟨rfl,hJ3,hk3,hc3⟩
      have HJ3:=Lib.hid hJ3
      have HK3:=Lib.hid (And.intro hk3 hc3)
      clear hy hR2 hJ3 hk3 hc3 y0 y1
      gi_wp2
      go_roundw
      case rel=>exact⟨j+1,by omega,by go_num,HJ3,Lib.hid ⟨HK3.out.1.row HF.out.1 hTY,HK3.out.1.row HF.out.2 hTM⟩,Lib.hid ⟨HKV.out.1.trans HK3.out.2,(Kr.rel B ts).trans HKV.out.2 HK3.out.1⟩⟩
      case measure=>simp[intOf];omega
     ·obtain rfl:j=hb+1:=by omega
      rw[HSC.out]at HJ
      gi_wp2
      exact⟨HKV.out.1,HKV.out.2,HJ.out,HF.out.1,HF.out.2⟩
   ·have q0:(m==2)=false:=by simp[hm2]
    clear hsk hm2 hm
    gi_upto_region 6 with (gi_at_call 35;(with_reducible refine (HHI.out _ _ _).mono ?_);rintro e w1 ⟨rfl,rfl⟩)
    clear y1
    gi_loopw [21] (fun i wr=>∃j:Nat,j≤hb+1∧i=.int .u8 (j:Int)∧Hid (J (bk+j) wr)∧Hid (Fr wr W.heap.size 92 [.func (.yield l) #[] #[]]∧Fr wr qm 28 [.int .u8 m])∧Hid (KeepsFrom B V wr∧Kr B ts V wr)) (fun i _=>hb+1-(intOf i).toNat)
    case atStart=>exact⟨0,Nat.zero_le _,rfl,HJ,HF,HKV⟩
    case round=>
     clear HJ HF HKV
     obtain⟨j,hj,rfl,HJ,HF,HKV⟩:=hrel
     by_cases hjl:j<hb+1
     ·have hj2:(j:Int)<(hb:Int)+1:=by omega
      have y0:wr.cell? ⟨W.heap.size,0,none⟩=some (.func (.yield l) #[] #[]):=HF.out.1.cell 0
      have y1:wr.cell? ⟨qm,0,none⟩=some (.int .u8 m):=HF.out.2.cell 0
      have HYK:Hid (YieldAt Fence.wide (u-3) Tryd.prog l #[.agg #[.int .u8 m,.int .i64 (a:Int),.int .i64 (-1),.int .u8 (j:Int),.int .i64 (b:Int)]] wr fun e V'=>e=.returned (.bool true)∧J (bk+j+1) V'∧Kr B ts wr V'∧KeepsFrom B wr V'):=Lib.hid (HY.out _ _ wr (HAT.out j hjl) HJ.out)
      obtain⟨fn,tmps,assign,body,hy,hR⟩:=HYK.out
      clear HYK
      have hR2:RoundIn (Fence.wide.inRound l') (u-1-1-1) Tryd.prog l fn tmps assign body wr (fun e V'=>e=.returned (.bool true)∧J (bk+j+1) V'∧Kr B ts wr V'∧KeepsFrom B wr V'):=by
       have e3:u-3=u-1-1-1:=by omega
       rw[e3]at hR
       exact hR
      clear hR
      gi_wp2
      refine RoundIn.mono hR2 ?_
      rintro e W3 ⟨rfl,hJ3,hk3,hc3⟩
      have HJ3:=Lib.hid hJ3
      have HK3:=Lib.hid (And.intro hk3 hc3)
      clear hy hR2 hJ3 hk3 hc3 y0 y1
      gi_wp2
      go_roundw
      case rel=>exact⟨j+1,by omega,by go_num,HJ3,Lib.hid ⟨HK3.out.1.row HF.out.1 hTY,HK3.out.1.row HF.out.2 hTM⟩,Lib.hid ⟨HKV.out.1.trans HK3.out.2,(Kr.rel B ts).trans HKV.out.2 HK3.out.1⟩⟩
      case measure=>simp[intOf];omega
     ·obtain rfl:j=hb+1:=by omega
      rw[HSC.out]at HJ
      gi_wp2
      exact⟨HKV.out.1,HKV.out.2,HJ.out,HF.out.1,HF.out.2⟩
 case hdone=>
  rintro D V hD ⟨hJ,hfy,hfm⟩ hK
  have HJ:=Lib.hid hJ
  have HD:=Lib.hid hD
  have HK2:=Lib.hid hK
  clear hJ hfy hfm hK
  gi_wp2
  have hg:=grownBy_putObj' V D (.deferred none)
  have hJ9:J (brL c m).length (V.putObj D (.deferred none)):=by
   have e:brN c m (prsC c).length=(brL c m).length:=by unfold brN;rw[List.take_length];rfl
   rw[←e]
   exact HST.out _ V _ _ HJ.out hg fun r e=>by cases e;exact⟨by have:=HD.out;have:=HSZ.out;omega,_,HK2.out,rfl⟩
  refine⟨by simp,.inl ⟨_,_,rfl,run_takeDeferred HK2.out,?_⟩⟩
  exact⟨_,results_none rfl _ _ _,⟨_,rfl⟩,hJ9⟩
end Go.Proofs.YtcbllelkgniogaaDoor
