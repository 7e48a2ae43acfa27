/- The texts Fq4. -/
import Derived.Test.YtcbllelkgniogaaDoorM13
namespace Go.Proofs.YtcbllelkgniogaaDoor
open Go.RowKit
attribute [local go_sem] Oper.semAt_some
def encF(f:Ft):Array Value:=#[.agg #[.int .u8 f.md,.int .i64 f.nd,.int .i64 f.pn,.int .u8 f.vl,.int .i64 f.ot]]
theorem stkL_at(c:Ck)(m:Int){k:Nat}{x:Int×Int}(h:(lnsL c)[k]? =some x):(stkL c m)[2*k]? =some ⟨m,x.1,x.2,0,0⟩∧(stkL c m)[2*k+1]? =some ⟨m,x.1,x.2,1,0⟩:=by
 have:=flat2_at (fun x:Int×Int=>((⟨m,x.1,x.2,0,0⟩:Ft),(⟨m,x.1,x.2,1,0⟩:Ft))) (lnsL c) k
 rw[h]at this
 exact this
set_option maxHeartbeats 1000000 in
theorem lines_inF(F:Fence)(u:Nat)(A0 A1 A2 A3:Option Addr)(n n1 n2 n3 c0 c1 c2 c3:Nat)(w:World)(h24:F.fn 24)(hro:F.round=none):
 CallsIn F u Tryd.prog 24 #[.agg #[.slice A0 n c0,.slice A1 n1 c1,.slice A2 n2 c2,.slice A3 n3 c3]] w fun e w'=>e=.returned (.func (.func 42) #[] #[.pointer (some ⟨w.heap.size,0,none⟩)])∧Fr w' w.heap.size 39 [.slice A0 n c0,.slice A1 n1 c1,.slice A2 n2 c2,.slice A3 n3 c3]∧BelW w w':=by
 refine callsIn_of_wp Tryd.func24 rfl h24 ?_ hro
 simp only[Tryd.ntmps24,List.size_toArray,List.length_cons,List.length_nil,Nat.reduceAdd,Nat.reduceSub,Array.replicate_succ,Array.replicate_zero,List.push_toArray,List.append_toArray,List.nil_append,List.cons_append]
 gi_wp2
 go_ret
 exact⟨rfl,Fr.made _ _ _ rfl,below_new (Below.refl _ _) _⟩
set_option maxRecDepth 100000 in
set_option maxHeartbeats 8000000 in
theorem stk_in(c:Ck)(F:Fence)(u B qc qm n n1 n2 n3 c0 c1 c2 c3 l:Nat)(m:Int)(A0 A1 A2 A3:Option Addr)(ts:List TypeId)(h44:F.fn 44)(h42:F.fn 42)(h24:F.fn 24)(hro:F.round=none)(hu:4≤u)(hTC:39 ∉ ts)(hTN:53 ∉ ts)(hTL:30 ∉ ts)(hTM:28 ∉ ts)(hTY:92 ∉ ts)(hnm:n≤1000000)(hp:∀k,k<n→(c.nodes.getD k default).ins.length≤1000000)(J:Nat→World→Prop)
 (W:World) (hst:OwnFrom W.heap.size J) (hBW:B≤W.heap.size)
 (hY:∀k x V,(stkL c m)[k]? =some x→J k V→YieldAt F (u-3) Tryd.prog l (encF x) V fun e V'=>e=.returned (.bool true)∧J (k+1) V'∧Kr B ts V V'∧KeepsFrom B V V')
 (hqc:Fr W qc 39 [.slice A0 n c0,.slice A1 n1 c1,.slice A2 n2 c2,.slice A3 n3 c3]) (hqm:Fr W qm 28 [.int .u8 m]) (hc:Cir W B (.agg #[.slice A0 n c0,.slice A1 n1 c1,.slice A2 n2 c2,.slice A3 n3 c3]) c) (h0:J 0 W):
 CallsIn F u Tryd.prog 44 #[.func (.yield l) #[] #[],.pointer (some ⟨qc,0,none⟩),.pointer (some ⟨qm,0,none⟩)] W fun e W'=>(∃v,e=.returned v)∧J (stkL c m).length W':=by
 refine callsIn_of_wp_marks Tryd.func44 rfl h44 ?_ hro
 simp only[Tryd.ntmps44,List.size_toArray,List.length_cons,List.length_nil,Nat.reduceAdd,Nat.reduceSub,Array.replicate_succ,Array.replicate_zero,List.push_toArray,List.append_toArray,List.nil_append,List.cons_append]
 obtain⟨W1,HW1⟩:=named (W.alloc (.cells #[.func (.yield l) #[] #[]] 92))
 have hb1:BelW W W1:=by rw[HW1.out];exact below_new (Below.refl _ _) _
 have hfy:Fr W1 W.heap.size 92 [.func (.yield l) #[] #[]]:=by rw[HW1.out];exact Fr.made _ _ _ rfl
 have hz1:W1.heap.size=W.heap.size+1:=by rw[HW1.out];simp
 have hfc:=hqc.below hb1
 have x0:W1.cell? ⟨qc,0,none⟩=some (.slice A0 n c0):=hfc.cell 0
 have x1:W1.cell? ⟨qc,1,none⟩=some (.slice A1 n1 c1):=hfc.cell 1
 have x2:W1.cell? ⟨qc,2,none⟩=some (.slice A2 n2 c2):=hfc.cell 2
 have x3:W1.cell? ⟨qc,3,none⟩=some (.slice A3 n3 c3):=hfc.cell 3
 gi_upto_region 1 with fail
 rw[←HW1.out]
 have HB1:=Lib.hid hb1
 have HFY:=Lib.hid hfy
 have HFC:=Lib.hid hfc
 have HFM:=Lib.hid (hqm.below hb1)
 have HZ1:=Lib.hid hz1
 have HST:=Lib.hid hst
 have HJ0:=Lib.hid (own_below hst h0 hb1)
 have HY:=Lib.hid hY
 obtain⟨hn,-,b,o,hA0,hbB,hcc⟩:=cir_nodes hc
 have HCC:Hid (∀W',BelW W W'→∀k,k<n→(c.nodes.getD k default).ins.length≤1000000∧∃A4 c4,W'.cell? ⟨b,o+k*4,none⟩=some (.int .u8 (c.nodes.getD k default).kind)∧W'.cell? ⟨b,o+k*4+1,none⟩=some (.slice A4 (c.nodes.getD k default).ins.length c4)∧W'.cell? ⟨b,o+k*4+2,none⟩=some (.int .i64 (c.nodes.getD k default).mem)∧W'.cell? ⟨b,o+k*4+3,none⟩=some (.int .i64 (c.nodes.getD k default).bit)):=Lib.hid fun W' h k hk=>by
  obtain⟨A4,c4,g0,g1,g2,g3⟩:=hcc k hk
  have hb:b<W.heap.size:=Nat.lt_of_lt_of_le (hbB (by omega)) hBW
  exact⟨hp k hk,A4,c4,(Below.cell h (p:=⟨b,o+k*4,none⟩) hb).trans g0,(Below.cell h (p:=⟨b,o+k*4+1,none⟩) hb).trans g1,(Below.cell h (p:=⟨b,o+k*4+2,none⟩) hb).trans g2,(Below.cell h (p:=⟨b,o+k*4+3,none⟩) hb).trans g3⟩
 have HN:=Lib.hid hn
 have HA0:=Lib.hid hA0
 have HBB:=Lib.hid hbB
 have HP:=Lib.hid hp
 clear hb1 hfy hfc hz1 hst h0 hY hc hcc hn hA0 hbB hqc hqm hp
 have h1u:1≤u:=by omega
 gi_wp2_with (gi_at_call 24;(with_reducible refine (lines_inF F _ A0 A1 A2 A3 n n1 n2 n3 c0 c1 c2 c3 W1 h24 hro).mono ?_);rintro e w2 ⟨rfl,h1,h2⟩;have HF2:=Lib.hid h1;have HB2:Hid (BelW W1 w2):=Lib.hid h2;clear h1 h2 x0 x1 x2 x3)
 obtain⟨qn,HQN⟩:=named W1.heap.size
 rw[←HQN.out]at HF2
 rw[←HQN.out]
 have HSZ:Hid (W.heap.size+1≤w2.heap.size):=Lib.hid (by have:=Below.size HB2.out;have:=HZ1.out;omega)
 refine range_t (F:=F) (n:=u) (m:=u-1-1) (B0:=B) (K:=Kr B ts) (encs:=encL) (zs:=lnsL c) (Kr.rel B ts) (by have:=HSZ.out;omega) hro (by omega) rfl h42 (fun _ _=>rfl) ?hseq (fun _=>rfl)
  (fun k V=>J (2*k) V∧Fr V W.heap.size 92 [.func (.yield l) #[] #[]]∧Fr V qm 28 [.int .u8 m]) ?hI ⟨by have:=HSZ.out;exact own_below HST.out HJ0.out HB2.out,HFY.out.below HB2.out,HFM.out.below HB2.out⟩
  (fun x a' V=>∃p tm,Fr V p 30 [.int .i64 x.1,.int .i64 x.2]∧a'= { tmps:=#[.func (.yield l) #[] #[],.pointer (some ⟨qc,0,none⟩),.pointer (some ⟨qm,0,none⟩),.pointer (some ⟨W.heap.size,0,none⟩),.pointer (some ⟨p,0,none⟩),undef,.agg #[.slice A0 n c0,.slice A1 n1 c1,.slice A2 n2 c2,.slice A3 n3 c3],.func (.func 42) #[] #[.pointer (some ⟨qn,0,none⟩)],tm,undef,undef,undef,undef,undef,undef,undef,undef,undef,undef,undef],defers:=[] }) ?hAx ?hassign ?hbody ?hdone
 case hseq=>
  intro l' J' W' hb hst' hY' h0'
  have hbw:BelW W W':=joinB HB1.out (joinB HB2.out hb)
  have e:lnsL c=lnsN c.nodes n:=by unfold lnsL;rw[HN.out]
  rw[e]at hY' ⊢
  exact lines_in F (u-1) B qn b o n n1 n2 n3 c0 c1 c2 c3 l' A0 A1 A2 A3 ts c.nodes h42 hro (by omega) hTC hTN HN.out HA0.out hnm J' (fun k V V' h hb=>own_below hst' h hb) hY' W' (HF2.out.below hb) HBB.out (HCC.out W' hbw) h0'
 case hI=>exact fun k V V' row ⟨h1,h2,h3⟩ hg hr=>⟨HST.out _ V V' row h1 hg fun r e=>⟨by have:=(hr r e).1;have:=HSZ.out;omega,(hr r e).2⟩,fr_turn h2 hg fun r e=>(hr r e).2,fr_turn h3 hg fun r e=>(hr r e).2⟩
 case hAx=>exact fun x a' _ V V' row ⟨p,tm,h2,h3⟩ hg hr=>⟨p,tm,fr_turn h2 hg fun r e=>(hr r e).2,h3⟩
 case hassign=>
  intro l' k x V K' hx hI hK
  have HK:=Lib.hid hK
  clear hK hI
  obtain⟨xa,xb⟩:=x
  simp[encL]
  gi_wp2
  refine HK.out _ _ ?_ ⟨V.heap.size,.agg #[.int .i64 xa,.int .i64 xb],?_,rfl⟩
  ·exact below_new (Below.refl _ _) _
  ·exact Fr.made _ _ _ rfl
 case hbody=>
  rintro l' k x a' V hl hx ⟨hJ,hfy,hfm⟩ ⟨p,tm,hfp,rfl⟩
  have HAT:Hid (∀j:Nat,j<2→(stkL c m)[2*k+j]? =some ⟨m,x.1,x.2,(j:Int),0⟩):=Lib.hid fun j hj=>by
   have h1:=stkL_at c m hx
   have h2:j=0∨j=1:=by omega
   rcases h2 with rfl|rfl
   ·exact h1.1
   ·exact h1.2
  obtain⟨xa,xb⟩:=x
  have HJ:Hid (J (2*k+0) V):=Lib.hid hJ
  have HF:Hid (Fr V W.heap.size 92 [.func (.yield l) #[] #[]]∧Fr V qm 28 [.int .u8 m]∧Fr V p 30 [.int .i64 xa,.int .i64 xb]):=Lib.hid ⟨hfy,hfm,hfp⟩
  have HKV:Hid (KeepsFrom B V V∧Kr B ts V V):=Lib.hid ⟨KeepsFrom.refl _ _,(Kr.rel B ts).below (Below.refl _ _)⟩
  have h3u:1≤u-1-1:=by omega
  clear hJ hfy hfm hfp hx
  gi_wp2
  gi_loopw [9] (fun i wr=>∃j:Nat,j≤2∧i=.int .u8 (j:Int)∧Hid (J (2*k+j) wr)∧Hid (Fr wr W.heap.size 92 [.func (.yield l) #[] #[]]∧Fr wr qm 28 [.int .u8 m]∧Fr wr p 30 [.int .i64 xa,.int .i64 xb])∧Hid (KeepsFrom B V wr∧Kr B ts V wr)) (fun i _=>2-(intOf i).toNat)
  case atStart=>exact⟨0,Nat.zero_le _,rfl,HJ,HF,HKV⟩
  case round=>
   clear HJ HF HKV
   obtain⟨j,hj,rfl,HJ,HF,HKV⟩:=hrel
   by_cases hjl:j<2
   ·have hj2:(j:Int)<2:=by omega
    have y0:wr.cell? ⟨W.heap.size,0,none⟩=some (.func (.yield l) #[] #[]):=HF.out.1.cell 0
    have y1:wr.cell? ⟨qm,0,none⟩=some (.int .u8 m):=HF.out.2.1.cell 0
    have y2:wr.cell? ⟨p,0,none⟩=some (.int .i64 xa):=HF.out.2.2.cell 0
    have y3:wr.cell? ⟨p,1,none⟩=some (.int .i64 xb):=HF.out.2.2.cell 1
    have HYK:Hid (YieldAt F (u-3) Tryd.prog l #[.agg #[.int .u8 m,.int .i64 xa,.int .i64 xb,.int .u8 (j:Int),.int .i64 0]] wr fun e V'=>e=.returned (.bool true)∧J (2*k+j+1) V'∧Kr B ts wr V'∧KeepsFrom B wr V'):=Lib.hid (HY.out _ _ wr (HAT.out j hjl) HJ.out)
    obtain⟨fn,tmps,assign,body,hy,hR⟩:=HYK.out
    clear HYK
    have hR2:RoundIn (F.inRound l') (u-1-1-1) Tryd.prog l fn tmps assign body wr (fun e V'=>e=.returned (.bool true)∧J (2*k+j+1) V'∧Kr B ts wr V'∧KeepsFrom B wr V'):=by
     have e3:u-3=u-1-1-1:=by omega
     rw[e3]at hR
     exact hR
    clear hR
    gi_wp2
    refine RoundIn.mono hR2 ?_
    rintro e W3 ⟨rfl,hJ3,hk3,hc3⟩
    have HJ3:=Lib.hid hJ3
    have HK3:=Lib.hid (And.intro hk3 hc3)
    clear hy hR2 hJ3 hk3 hc3 y0 y1 y2 y3
    gi_wp2
    go_roundw
    case rel=>exact⟨j+1,by omega,by go_num,HJ3,Lib.hid ⟨HK3.out.1.row HF.out.1 hTY,HK3.out.1.row HF.out.2.1 hTM,HK3.out.1.row HF.out.2.2 hTL⟩,Lib.hid ⟨HKV.out.1.trans HK3.out.2,(Kr.rel B ts).trans HKV.out.2 HK3.out.1⟩⟩
    case measure=>simp[intOf];omega
   ·obtain rfl:j=2:=by omega
    gi_wp2
    exact⟨HKV.out.1,HKV.out.2,HJ.out,HF.out.1,HF.out.2.1⟩
 case hdone=>
  rintro D V hD ⟨hJ,hfy,hfm⟩ hK
  have HJ:=Lib.hid hJ
  have HD:=Lib.hid hD
  have HK2:=Lib.hid hK
  clear hJ hfy hfm hK
  gi_wp2
  have hg:=grownBy_putObj' V D (.deferred none)
  have hJ9:J (stkL c m).length (V.putObj D (.deferred none)):=by
   rw[stkL_len]
   exact HST.out _ V _ _ HJ.out hg fun r e=>by cases e;exact⟨by have:=HD.out;have:=HSZ.out;omega,_,HK2.out,rfl⟩
  refine⟨by simp,.inl ⟨_,_,rfl,run_takeDeferred HK2.out,?_⟩⟩
  exact⟨_,results_none rfl _ _ _,⟨_,rfl⟩,hJ9⟩
end Go.Proofs.YtcbllelkgniogaaDoor
