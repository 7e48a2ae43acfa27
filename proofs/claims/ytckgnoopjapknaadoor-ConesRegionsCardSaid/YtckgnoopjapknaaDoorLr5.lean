import Derived.Test.YtckgnoopjapknaaDoorM41
import Derived.Test.YtckgnoopjapknaaDoorM36
namespace Go.Proofs.YtckgnoopjapknaaDoor
open Go.RowKit
def Y8(CV:Value)(n g k:Nat)(z:Int)(i:Nat)(v:Value)(_:World):Prop:=
 (i=0→v=.slice (some ⟨g,0,none⟩) n n)∧(i=1→v=.int .i64 (k:Int))∧(i=2→v=.pointer (some ⟨g,0+k,none⟩))∧(i=3→v=.int .i64 z)∧(i=4→v=CV)∧(i=5→v=.int .i64 (k:Int))∧(i=6→v=.int .i64 z)∧(i=7→v=.bool (z != z))
theorem Y8.next{CV:Value}{n g k:Nat}{z:Int}(i:Nat)(v:Value)(W W':World)(h:Y8 CV n g k z i v W)(_:Below W.heap.size W W'):Y8 CV n g k z i v W':=h
theorem Y8.v0{CV v:Value}{n g k:Nat}{z:Int}{W:World}(h:v=.slice (some ⟨g,0,none⟩) n n):Y8 CV n g k z 0 v W:=⟨(fun _=>h),(by simp),(by simp),(by simp),(by simp),(by simp),(by simp),(by simp)⟩
theorem Y8.v1{CV v:Value}{n g k:Nat}{z:Int}{W:World}(h:v=.int .i64 (k:Int)):Y8 CV n g k z 1 v W:=⟨(by simp),(fun _=>h),(by simp),(by simp),(by simp),(by simp),(by simp),(by simp)⟩
theorem Y8.v2{CV v:Value}{n g k:Nat}{z:Int}{W:World}(h:v=.pointer (some ⟨g,0+k,none⟩)):Y8 CV n g k z 2 v W:=⟨(by simp),(by simp),(fun _=>h),(by simp),(by simp),(by simp),(by simp),(by simp)⟩
theorem Y8.v3{CV v:Value}{n g k:Nat}{z:Int}{W:World}(h:v=.int .i64 z):Y8 CV n g k z 3 v W:=⟨(by simp),(by simp),(by simp),(fun _=>h),(by simp),(by simp),(by simp),(by simp)⟩
theorem Y8.v4{CV v:Value}{n g k:Nat}{z:Int}{W:World}(h:v=CV):Y8 CV n g k z 4 v W:=⟨(by simp),(by simp),(by simp),(by simp),(fun _=>h),(by simp),(by simp),(by simp)⟩
theorem Y8.v5{CV v:Value}{n g k:Nat}{z:Int}{W:World}(h:v=.int .i64 (k:Int)):Y8 CV n g k z 5 v W:=⟨(by simp),(by simp),(by simp),(by simp),(by simp),(fun _=>h),(by simp),(by simp)⟩
theorem Y8.v6{CV v:Value}{n g k:Nat}{z:Int}{W:World}(h:v=.int .i64 z):Y8 CV n g k z 6 v W:=⟨(by simp),(by simp),(by simp),(by simp),(by simp),(by simp),(fun _=>h),(by simp)⟩
theorem Y8.v7{CV v:Value}{n g k:Nat}{z:Int}{W:World}(h:v=.bool (z != z)):Y8 CV n g k z 7 v W:=⟨(by simp),(by simp),(by simp),(by simp),(by simp),(by simp),(by simp),(fun _=>h)⟩
theorem any_take{l:List Int}{j:Nat}{s:Int}(hj:j<l.length):(l.take (j+1)).any (fun y=>y==s)=((l.take j).any (fun y=>y==s)||(l.getD j 0==s)):=by
 rw[List.take_succ_eq_append_getElem hj,List.any_append,List.getD_eq_getElem?_getD,List.getElem?_eq_getElem hj]
 simp
set_option maxRecDepth 100000 in
set_option maxHeartbeats 8000000 in
theorem lawRg(x:Cx)(hx:Cok x)(sG sA:Value)(w:World)(hT:Tabs w)(hG:Gs w w.heap.size sG x.gates)(hA:Ks w w.heap.size sA x.outs):
 Calls Tryd.prog 7 #[.agg #[.int .u8 x.inN,.int .u8 x.dffs,.int .u8 x.d0,.int .u8 x.d1,.bool x.bus,.bool x.mem,.int .u8 x.p0,.int .u8 x.p1,.int .u8 x.p2,.int .u8 x.p3,sG,sA]] w fun e w'=>e=.returned (.bool true)∧Below w.heap.size w w':=by
 obtain⟨L,V0⟩:=vld_c x hx
 have hz:=sizeN_le x
 have HOF:Hid (∀W,Below w.heap.size w W→∀n,n=sizeN x→Calls Tryd.prog 24 #[.agg #[.int .u8 x.inN,.int .u8 x.dffs,.int .u8 x.d0,.int .u8 x.d1,.bool x.bus,.bool x.mem,.int .u8 x.p0,.int .u8 x.p1,.int .u8 x.p2,.int .u8 x.p3,sG,sA]] W
  fun e w'=>∃A0 A1 A2 A3 n1 n2 n3 c0 c1 c2 c3,e=.returned (.agg #[.slice A0 n c0,.slice A1 n1 c1,.slice A2 n2 c2,.slice A3 n3 c3])∧Below w.heap.size w w'∧
   LC (ofC x) w w'.heap.size A0 A1 A2 A3 n n1 n2 n3 c0 c1 c2 c3 (w'.alloc (.cells #[.slice A0 n c0,.slice A1 n1 c1,.slice A2 n2 c2,.slice A3 n3 c3] 27))):=
  Lib.hid fun W hb n hn=>ofc_c x hx hT hG hA hb hn
 clear hT hG hA hx
 obtain⟨n,HN⟩:=named (sizeN x)
 rw[←HN.out]at V0 hz
 obtain⟨c,HC0⟩:=named (ofC x)
 rw[←HC0.out]at V0
 have HV:=Lib.hid V0
 have HG:Hid (G5 c n L):=Lib.hid ⟨V0.ok,V0.lvl,V0.len.symm,by have:=V0.few;omega⟩
 have HBX:Hid (Below w.heap.size w (w.alloc (.cells #[.int .u8 x.inN,.int .u8 x.dffs,.int .u8 x.d0,.int .u8 x.d1,.bool x.bus,.bool x.mem,.int .u8 x.p0,.int .u8 x.p1,.int .u8 x.p2,.int .u8 x.p3,sG,sA] 49))):=Lib.hid (below_new (Below.refl _ _) _)
 have hn1:0<n:=hz.1
 have hn20:n<20:=V0.few
 clear V0 hz
 have HOBL:Hid ((obsN c).length≤1000000000):=Lib.hid HG.out.obl
 go_enter Tryd.func7,Tryd.ntmps7
 go_upto_region 2 with (go_at_call 24;(with_reducible refine (HOF.out _ HBX.out n HN.out).mono ?_);rintro e w1 ⟨A0,A1,A2,A3,n1,n2,n3,c0,c1,c2,c3,rfl,hb,hl⟩;rw[←HC0.out]at hl;have HL0:=Lib.hid hl;clear hb hl)
 obtain⟨W1,HW1⟩:=named (w1.alloc (.cells #[.slice A0 n c0,.slice A1 n1 c1,.slice A2 n2 c2,.slice A3 n3 c3] 27))
 rw[←HW1.out]at HL0
 rw[←HW1.out]
 obtain⟨q,HQ⟩:=named w1.heap.size
 rw[←HQ.out]at HL0
 rw[←HQ.out]
 clear HW1 HQ HOF HBX
 have HCE:Hid (∀W,BelW W1 W→W.cell? ⟨q,0,none⟩=some (.slice A0 n c0)∧W.cell? ⟨q,1,none⟩=some (.slice A1 n1 c1)∧W.cell? ⟨q,2,none⟩=some (.slice A2 n2 c2)∧W.cell? ⟨q,3,none⟩=some (.slice A3 n3 c3)):=Lib.hid fun W h=>(HL0.out.next h).cells
 have HC:Hid (∀W,BelW W1 W→Tabs W∧Cir W W.heap.size (.agg #[.slice A0 n c0,.slice A1 n1 c1,.slice A2 n2 c2,.slice A3 n3 c3]) c):=Lib.hid fun W h=>⟨(HL0.out.next h).tabs,(HL0.out.next h).all⟩
 have HW0:Hid (Below w.heap.size w W1):=Lib.hid HL0.out.bel
 have HLV:Hid (∀W,BelW W1 W→Calls Tryd.prog 11 #[] W fun e w'=>e=.returned (.bool true)∧BelW W w'):=Lib.hid fun W h=>lives5_any W (HC.out W h).1
 have HPT:Hid (∀W,BelW W1 W→PtsC c (.agg #[.slice A0 n c0,.slice A1 n1 c1,.slice A2 n2 c2,.slice A3 n3 c3]) n W):=Lib.hid fun W h V hv=>refpts_any c A0 A1 A2 A3 n n1 n2 n3 c0 c1 c2 c3 V (HC.out V (joinB h hv)).2 (by omega) HOBL.out
 have HRG:=Lib.hid (regions_ok c L A0 A1 A2 A3 n n1 n2 n3 c0 c1 c2 c3 W1 HG.out (HC.out W1 (Below.refl _ _)).1 (HC.out W1 (Below.refl _ _)).2)
 obtain⟨x0,x1,x2,x3⟩:=HCE.out W1 (Below.refl _ _)
 go_upto_region 3 with (go_at_call 18;(with_reducible refine HRG.out.mono ?_);rintro e w2 ⟨g,rfl,h1,h2⟩;have HR2:=Lib.hid h1;have HB2:Hid (BelW W1 w2):=Lib.hid h2;clear h1 h2 x0 x1 x2 x3)
 have HRP:Hid (∀W,BelW W1 W→Calls Tryd.prog 18 #[.agg #[.slice A0 n c0,.slice A1 n1 c1,.slice A2 n2 c2,.slice A3 n3 c3]] W (RegP (stemL c) n W)):=Lib.hid fun W h=>by
  refine (regions_ok c L A0 A1 A2 A3 n n1 n2 n3 c0 c1 c2 c3 W HG.out (HC.out W h).1 (HC.out W h).2).mono fun e w' ⟨g,he,hr,hb⟩=>?_
  have hl:(stemL c).length=n:=by rw[stemL_len];exact HG.out.len
  have hi:=hr.is (by unfold maxLen;omega)
  rw[hl]at hi
  exact⟨_,_,he,hi,hb⟩
 have HSM:=Lib.hid (stems_ok A0 A1 A2 A3 n n1 n2 n3 c0 c1 c2 c3 (stemL c) w2 (by omega) fun W h=>HRP.out W (joinB HB2.out h))
 obtain⟨x0,x1,x2,x3⟩:=HCE.out w2 HB2.out
 have HNL:Hid ((nwL (fun i=>(stemL c).getD i 0==(i:Int)) n).length≤n):=Lib.hid (nwL_len _ _)
 obtain⟨SL,HSL⟩:=named (nwL (fun i=>(stemL c).getD i 0==(i:Int)) n)
 rw[←HSL.out]at HSM HNL
 go_upto_region 4 with (go_at_call 19;(with_reducible refine HSM.out.mono ?_);rintro e w3 ⟨A3s,rfl,h1,h2⟩;have HS3:=Lib.hid h1;have HB23:=Lib.hid h2;clear h1 h2 x0 x1 x2 x3)
 have HB3:Hid (BelW W1 w3):=Lib.hid (joinB HB2.out HB23.out)
 obtain⟨x0,x1,x2,x3⟩:=HCE.out w3 HB3.out
 have hsl:(stemL c).length=n:=by rw[stemL_len];exact HG.out.len
 have HRW:Hid (∀W,BelW w3 W→∀k:Nat,k<n→W.cell? ⟨g,k,none⟩=some (.int .i64 ((stemL c).getD k 0))):=Lib.hid fun W h k hk=>by
  have h1:=(HR2.out.below (joinB HB23.out h)).cell (j:=k) (by omega)
  rw[h1];unfold lat;rw[Int.toNat_natCast]
 have hnn:(n:Int)≤1000000:=by omega
 go_wp2
 go_loopw [8,9] (fun sv iv wr=>∃k:Nat,k≤n∧iv=.int .i64 k∧Hid (Stk wr w3.heap.size sv (nwL (fun i=>(stemL c).getD i 0==(i:Int)) k))∧Hid (BelW w3 wr)) (fun _ iv _=>n-(intOf iv).toNat)
 case atStart=>exact⟨0,Nat.zero_le _,rfl,Lib.hid (Stk.nil _ _),Lib.hid (Below.refl _ _)⟩
 case round=>
  obtain⟨k,hk,rfl,HST,HB⟩:=hrel
  obtain⟨A6,c6,rfl,hle6,hc6,hsh⟩:=HST.out.shape
  have hnl:=nwL_len (fun i=>(stemL c).getD i 0==(i:Int)) k
  by_cases hlt:k<n
  ·have hk2:(k:Int)<(n:Int):=by omega
   have HBW:Hid (BelW W1 wr):=Lib.hid (joinB HB3.out HB.out)
   have hsz:w3.heap.size≤wr.heap.size:=Below.size HB.out
   have hsu:=nwL_succ (fun i=>(stemL c).getD i 0==(i:Int)) k
   have HSA:=Lib.hid (stemL_at HG.out hlt)
   have y0:=HRW.out wr HB.out k hlt
   have HSQ:Hid (∀z:Int,z=(stemL c).getD k 0→Stm (fun x:Int=>rdL c.nodes x.toNat) (fun x:Int=>bat (ptB c) x.toNat=true) (k:Int) z∧Nod n z):=Lib.hid fun z hz=>by rw[hz];exact HSA.out
   have HSU:Hid (∀z:Int,z=(stemL c).getD k 0→nwL (fun i=>(stemL c).getD i 0==(i:Int)) (k+1)=nwL (fun i=>(stemL c).getD i 0==(i:Int)) k++(if (z==(k:Int))=true then [(k:Int)] else [])):=Lib.hid fun z hz=>by rw[hz];exact hsu
   clear hsu
   obtain⟨z,HZ⟩:=named ((stemL c).getD k 0)
   have HZS:=Lib.hid (HSQ.out z HZ.out)
   have HZU:=Lib.hid (HSU.out z HZ.out)
   rw[←HZ.out]at y0
   have HSTM:Hid (∀W,BelW W1 W→Calls Tryd.prog 30 #[.agg #[.slice A0 n c0,.slice A1 n1 c1,.slice A2 n2 c2,.slice A3 n3 c3],.int .i64 (k:Int)] W fun e w'=>∃v,e=.returned v∧Below W.heap.size W w'∧Y8 (.agg #[.slice A0 n c0,.slice A1 n1 c1,.slice A2 n2 c2,.slice A3 n3 c3]) n g k z 6 v w'):=Lib.hid fun W h=>by
    refine (stem5_any c L A0 A1 A2 A3 n n1 n2 n3 c0 c1 c2 c3 (fun i hi=>Nat.le_trans (HG.out.deps i hi) (by decide)) (by omega) HG.out.hl1 HG.out.hl2 _ k W rfl hlt (HC.out W h).2 (HPT.out W h)).mono fun e w' ⟨s,he,_,hs,hb⟩=>?_
    have:=hs.uniq HZS.out.1
    exact⟨_,he,hb,Y8.v6 (by rw[this])⟩
   have HZE:=Lib.hid HZ.out
   clear HZ
   have HCD:Hid (wr.drew.cell? ⟨g,0+k,none⟩=some (.int .i64 z)∧g<wr.heap.size):=Lib.hid ⟨by rw[Nat.zero_add];exact y0,Nat.lt_of_lt_of_le HR2.out.lt (Nat.le_trans (Below.size HB23.out) hsz)⟩
   have HBD:Hid (BelW W1 wr.drew):=Lib.hid (Below.drew HBW.out)
   go_upto_region 10 with (fail)
   clear x0 x1 x2 x3
   refine AnyX.start (S:=fun _=>True) (t:=7) (by kernel_rfl) ?_
   refine AnyX.factsGo [53,54,55,56,57,58,59,60] (Y8 (.agg #[.slice A0 n c0,.slice A1 n1 c1,.slice A2 n2 c2,.slice A3 n3 c3]) n g k z) _ _ (by decide) ?hts (by decide) Y8.next (by kernel_rfl) (by kernel_rfl) ?hst ?hdo
   case hts => intro t ht; simp only [List.mem_cons, List.not_mem_nil, or_false] at ht; rcases ht with rfl | rfl | rfl | rfl | rfl | rfl | rfl | rfl <;> (show _ < Array.size _; simp)
   case hst=>
    intro i t a w' hD hF hB hdep
    have hBW:BelW W1 w':=joinB HBD.out hB
    have hi6:i<8:=(List.getElem?_eq_some_iff.1 hD).1
    obtain⟨y0,y1,y2,y3⟩:=HCE.out w' hBW
    rcases (by omega:i=0∨i=1∨i=2∨i=3∨i=4∨i=5∨i=6∨i=7) with rfl|rfl|rfl|rfl|rfl|rfl|rfl|rfl<;>obtain rfl:=Option.some.inj hD
    ·exact fop_move rfl rfl rfl rfl (by rw[hF.eval (by decide)];rfl) (Y8.v0 rfl)
    ·exact fop_move rfl rfl rfl rfl (by rw[hF.eval (by decide)];rfl) (Y8.v1 rfl)
    ·exact fop_index rfl rfl rfl rfl rfl ((hdep _ 0 53 rfl rfl (by kernel_rfl)).1 rfl) ((hdep _ 1 54 rfl rfl (by kernel_rfl)).2.1 rfl) hlt (Y8.v2 rfl)
    ·exact fop_loadI rfl rfl rfl rfl rfl ((hdep _ 2 55 rfl rfl (by kernel_rfl)).2.2.1 rfl) ((Below.cell hB (p:=⟨g,0+k,none⟩) HCD.out.2).trans HCD.out.1) (Y8.v3 rfl)
    ·exact fop_loadC rfl rfl rfl rfl rfl (by rw[hF.eval (by decide)];rfl) y0 y1 y2 y3 (Y8.v4 rfl)
    ·exact fop_move rfl rfl rfl rfl (by rw[hF.eval (by decide)];rfl) (Y8.v5 rfl)
    ·exact fop_call2 rfl rfl rfl rfl (fun _ _=>rfl) ((hdep _ 4 57 rfl rfl (by kernel_rfl)).2.2.2.2.1 rfl) ((hdep _ 5 58 rfl rfl (by kernel_rfl)).2.2.2.2.2.1 rfl) (HSTM.out w' hBW)
    ·exact fop_neqI rfl rfl rfl rfl rfl ((hdep _ 3 56 rfl rfl (by kernel_rfl)).2.2.2.1 rfl) ((hdep _ 6 59 rfl rfl (by kernel_rfl)).2.2.2.2.2.2.1 rfl) (Y8.v7 rfl)
   intro v w4 hb4 hF
   have e0:=(hF 0 (by decide)).1 rfl
   have e1:=(hF 1 (by decide)).2.1 rfl
   have e2:=(hF 2 (by decide)).2.2.1 rfl
   have e3:=(hF 3 (by decide)).2.2.2.1 rfl
   have e4:=(hF 4 (by decide)).2.2.2.2.1 rfl
   have e5:=(hF 5 (by decide)).2.2.2.2.2.1 rfl
   have e6:=(hF 6 (by decide)).2.2.2.2.2.2.1 rfl
   have e7:=(hF 7 (by decide)).2.2.2.2.2.2.2 rfl
   have ez:(z != z)=false:=by simp
   rw[ez]at e7
   simp only[putsF,Nat.zero_add,Nat.reduceAdd,e0,e1,e2,e3,e4,e5,e6,e7,Act.put,List.setIfInBounds_toArray,List.set_cons_zero,List.set_cons_succ]
   have hbr4:BelW wr w4:=(Below.drew (Below.refl _ _)).trans hb4
   have HBR4:=Lib.hid hbr4
   have HB4:Hid (BelW w3 w4):=Lib.hid (joinB HB.out hbr4)
   have HST4:=Lib.hid (HST.out.below hbr4)
   have hsz4:w3.heap.size≤w4.heap.size:=Below.size HB4.out
   clear e0 e1 e2 e3 e4 e5 e6 e7 ez hF hb4 hbr4 HB HST hsz HCD HBD y0 HBW
   refine AnyX.done (by kernel_rfl) ?_ _
   have y0:w4.cell? ⟨g,k,none⟩=some (.int .i64 z):=by
    have h1:=HRW.out w4 HB4.out k hlt
    rw[h1,HZE.out]
   have hnl1:=nwL_len (fun i=>(stemL c).getD i 0==(i:Int)) k
   obtain⟨LN,HLN⟩:=named (nwL (fun i=>(stemL c).getD i 0==(i:Int)) k)
   rw[←HLN.out]at HZU HST4 hnl1 hle6 hsh
   rw[←HLN.out]
   clear hnl
   obtain⟨x0,x1,x2,x3⟩:=HCE.out w4 (joinB HB3.out HB4.out)
   cases hq:(z==(k:Int))
   ·have HZN:Hid (nwL (fun i=>(stemL c).getD i 0==(i:Int)) (k+1)=LN):=Lib.hid (by rw[HZU.out,hq,if_neg (by decide),List.append_nil])
    have HDO:=Lib.hid (doms_ok c L A0 A1 A2 A3 n n1 n2 n3 c0 c1 c2 c3 w4 k hlt HG.out (HC.out w4 (joinB HB3.out HB4.out)).1 (HC.out w4 (joinB HB3.out HB4.out)).2)
    have hzk:¬z=(k:Int):=by simpa using hq
    have HZK:=Lib.hid hzk
    clear hzk hsh hle6
    obtain⟨nLN,HNLN⟩:=named LN.length
    rw[←HNLN.out]at HST4 hnl1
    rw[←HNLN.out]
    go_upto_region 15 with (go_at_call 16;(with_reducible refine HDO.out.mono ?_);rintro e w5 ⟨A5,T,rfl,h1,h2,h3⟩;have HDL:=Lib.hid h1;have HT5:=Lib.hid h2;have HB5:=Lib.hid h3;clear h1 h2 h3 x0 x1 x2 x3 y0)
    have HB35:Hid (BelW w3 w5):=Lib.hid (joinB HB4.out HB5.out)
    have hml:=Arr.len HT5.out
    have HTI:Hid (∀j,j<T.length→(T.take (j+1)).any (fun y=>y==z)=((T.take j).any (fun y=>y==z)||(T.getD j 0==z))):=Lib.hid fun j hj=>any_take hj
    have HTF:Hid ((T.take T.length).any (fun y=>y==z)=true↔Sn (fun x:Int=>rdL c.nodes x.toNat) (fun x:Int=>bat (ptB c) x.toNat=true) (-1) (k:Int)):=Lib.hid (by
     rw[List.take_length,List.any_eq_true]
     constructor
     ·rintro⟨y,hy,e⟩
      obtain rfl:y=z:=by simpa using e
      exact ((HDL.out.mem y (HDL.out.nod y hy)).1 hy).2.1
     ·intro h
      refine⟨z,(HDL.out.mem z HZS.out.2).2 ⟨HZK.out,h,?_⟩,by simp⟩
      exact HZS.out.1.dom ⟨by omega,by omega⟩ HG.out.inr HG.out.up HZK.out)
    have HT0:Hid ((T.take 0).any (fun y=>y==z)=false):=Lib.hid (by simp)
    obtain⟨A5',b5,o5,c5,e,hA5,-,-,hc5⟩:=HT5.out.opens
    simp only[Value.slice.injEq]at e
    obtain⟨rfl,-,rfl⟩:=e
    have HA5:=Lib.hid hA5
    have HC5:=Lib.hid hc5
    have hmt:T.length≤1000000:=by
     have h1:T.length≤n:=by
      have hnd:T.Nodup:=HDL.out.up.imp fun {a b} hab e=>by subst e;omega
      have h2:=List.Nodup.length_le_of_subset (l₂:=(List.range n).map fun(j:Nat)=>(j:Int)) hnd fun y hy=>by
       have h3:=HDL.out.nod y hy
       exact List.mem_map.2 ⟨y.toNat,List.mem_range.2 (by have:=h3.1;have:=h3.2;omega),by have:=h3.1;omega⟩
      simpa using h2
     omega
    obtain⟨m,HM⟩:=named T.length
    rw[←HM.out]at HTI HTF HA5 HC5 hmt
    rw[←HM.out]
    clear hA5 hc5 hml
    go_wp2
    go_loopw [12,13] (fun bv iv wr=>∃j:Nat,j≤m∧iv=.int .i64 j∧bv=.bool ((T.take j).any (fun y=>y==z))∧Hid (BelW w5 wr)) (fun _ iv _=>m-(intOf iv).toNat)
    case atStart=>exact⟨0,Nat.zero_le _,rfl,by rw[HT0.out],Lib.hid (Below.refl _ _)⟩
    case round=>
     obtain⟨j,hj,rfl,rfl,HB⟩:=hrel
     by_cases hjl:j<m
     ·have hj2:(j:Int)<(m:Int):=by omega
      obtain rfl:=HA5.out (by omega)
      have hc0:=(HC5.out j hjl)
      have y1:wr.cell? ⟨b5,o5+j,none⟩=some (.int .i64 (T.getD j 0)):=(Below.cell HB.out (p:=⟨b5,o5+j,none⟩) hc0.1).trans hc0.2
      have y2:wr.cell? ⟨g,k,none⟩=some (.int .i64 z):=by
       rw[HRW.out wr (joinB HB35.out HB.out) k hlt,HZE.out]
      have hti:=HTI.out j hjl
      obtain⟨u,HU⟩:=named (T.getD j 0)
      rw[←HU.out]at y1 hti
      obtain⟨t,HTT⟩:=named ((T.take j).any (fun y=>y==z))
      rw[←HTT.out]at hti
      rw[←HTT.out]
      have HTN:=Lib.hid hti
      obtain⟨t2,HT2⟩:∃t2,(u==z)=t2:=⟨_,rfl⟩
      have HTN2:Hid ((T.take (j+1)).any (fun y=>y==z)=(t||t2)):=Lib.hid (by rw[HTN.out,HT2])
      clear hc0 hti HU HTT
      cases t
      ·cases t2
       ·go_upto_region 19 with (fail)
        go_quiet (fail)
        go_wp2
        go_roundw
        case rel=>exact⟨j+1,by omega,by go_num,by rw[HTN2.out];rfl,Lib.hid (belW_drewN HB.out _)⟩
        case measure=>simp[intOf];omega
       ·go_upto_region 19 with (fail)
        go_quiet (fail)
        go_wp2
        go_roundw
        case rel=>exact⟨j+1,by omega,by go_num,by rw[HTN2.out];rfl,Lib.hid (belW_drewN HB.out _)⟩
        case measure=>simp[intOf];omega
      ·go_upto_region 19 with (fail)
       go_quiet (fail)
       go_wp2
       go_roundw
       case rel=>exact⟨j+1,by omega,by go_num,by rw[HTN2.out];rfl,Lib.hid (belW_drewN HB.out _)⟩
       case measure=>simp[intOf];omega
     ·obtain rfl:m=j:=by omega
      have HBW9:Hid (BelW W1 wr):=Lib.hid (joinB HB3.out (joinB HB35.out HB.out))
      obtain⟨x0,x1,x2,x3⟩:=HCE.out wr HBW9.out
      obtain⟨t,HTT⟩:=named ((T.take m).any (fun y=>y==z))
      have HSE:Hid (Calls Tryd.prog 31 #[.agg #[.slice A0 n c0,.slice A1 n1 c1,.slice A2 n2 c2,.slice A3 n3 c3],.int .i64 (k:Int),.int .i64 (-1)] wr fun e w'=>e=.returned (.bool t)∧BelW wr w'):=Lib.hid (by
       refine (seen5_any c L A0 A1 A2 A3 n n1 n2 n3 c0 c1 c2 c3 wr (HC.out wr HBW9.out).2 (HPT.out wr HBW9.out) k (-1) hlt (by omega) HG.out.hl0 HG.out.hl1 HG.out.hl2).mono fun e w' ⟨b,he,hb,hw⟩=>?_
       have:b=t:=by
        rw[HTT.out]
        exact Bool.eq_iff_iff.2 (hb.trans HTF.out.symm)
       subst this
       exact⟨he,hw⟩)
      have HST9:=Lib.hid (HST4.out.below (joinB HB5.out HB.out))
      rw[←HTT.out]
      have hbb:(t != t)=false:=by simp
      clear HTT
      cases t
      ·go_wp2_with (go_at_call 31;(with_reducible refine HSE.out.mono ?_);rintro e w7 ⟨rfl,h1⟩;have HB7:=Lib.hid h1;clear h1 x0 x1 x2 x3)
       go_roundw
       case rel=>exact⟨k+1,by omega,by go_num,by rw[HZN.out];exact Lib.hid (HNLN.out▸HST9.out.below HB7.out),Lib.hid (joinB HB35.out (joinB HB.out HB7.out))⟩
       case measure=>simp[intOf];omega
      ·go_wp2_with (go_at_call 31;(with_reducible refine HSE.out.mono ?_);rintro e w7 ⟨rfl,h1⟩;have HB7:=Lib.hid h1;clear h1 x0 x1 x2 x3)
       go_roundw
       case rel=>exact⟨k+1,by omega,by go_num,by rw[HZN.out];exact Lib.hid (HNLN.out▸HST9.out.below HB7.out),Lib.hid (joinB HB35.out (joinB HB.out HB7.out))⟩
       case measure=>simp[intOf];omega
   ·have HZN:Hid (nwL (fun i=>(stemL c).getD i 0==(i:Int)) (k+1)=LN++[(k:Int)]):=Lib.hid (by rw[HZU.out,hq,if_pos rfl])
    obtain⟨i1,hi1',hz0,hz1,hz2⟩:=info_parts info_int
    have HI:=Lib.hid (And.intro hi1' (And.intro hz0 (And.intro hz1 hz2)))
    clear hi1' hz0 hz1 hz2 x0 x1 x2 x3 hsh hle6
    go_wp2_with (at_builtin;refine wpList_append_own_at _ rfl _ _ 25 rfl w3.heap.size 3 i1 (.int .i64 0) 1 8 Tryd.underlying25 HI.out.1 HI.out.2.1 HI.out.2.2.1 HI.out.2.2.2 rfl (by decide) _ _ _ rfl (World.ownsRow.alloc HST4.out _) ⟨w4.heap.size,0,none⟩ 1 1 [.int .i64 (k:Int)] rfl rfl (by have:=one_new w4 (.int .i64 (k:Int)) 3;simpa using this) (ints_oneCell .i64 [(k:Int)]) (by unfold maxLen;omega) (by omega) (by simp;omega) ?_;intro v' w6 hown' hgrow hnil hloc;have HF:=Lib.hid (push_own hsz4 HB4.out HST4.out hown' hgrow);have HZ:=Lib.hid hgrow.size;clear hown' hgrow hnil hloc)
    go_roundw
    case rel=>exact⟨k+1,by omega,by go_num,by rw[HZN.out];exact Lib.hid HF.out.2,Lib.hid HF.out.1⟩
    case measure=>simp[intOf];omega
  ·obtain rfl:n=k:=by omega
   have HIS:Hid (Is wr wr.heap.size (.slice A6 SL.length c6) SL):=Lib.hid (by
    have h1:=HST.out.all (by have:=HNL.out;rw[←HSL.out];unfold maxLen;omega)
    rw[←HSL.out]at h1
    exact h1)
   have HIS3:Hid (Is wr wr.heap.size (.slice A3s SL.length SL.length) SL):=Lib.hid ((HS3.out.below HB.out).more (Below.size HB.out))
   have HIN:Hid (Calls Tryd.prog 20 #[.slice A3s SL.length SL.length,.slice A6 SL.length c6] wr fun e w'=>e=.returned (.int .i64 0)∧BelW wr w'):=Lib.hid ((ints_any SL SL A3s SL.length _ wr _ _ HIS3.out HIS.out).mono fun e w' ⟨h1,k,h2⟩=>⟨by rw[h1];simp[intsR],by rw[h2];exact belW_drewN (Below.refl _ _) k⟩)
   rw[←HSL.out]
   obtain⟨nSL,HNS⟩:=named SL.length
   rw[←HNS.out]at HIN
   rw[←HNS.out]
   clear hnl hle6 hc6 hsh
   go_wp2_with (first
    |(go_at_call 20;(with_reducible refine HIN.out.mono ?_);rintro e w7 ⟨rfl,h1⟩;have HB7:Hid (BelW W1 w7):=Lib.hid (joinB HB3.out (joinB HB.out h1));clear h1)
    |(go_at_call 11;(with_reducible refine (HLV.out w7 HB7.out).mono ?_);rintro e w8 ⟨rfl,h1⟩;have HB8:=Lib.hid h1;clear h1))
   go_ret
   exact⟨rfl,joinB HW0.out (joinB HB7.out HB8.out)⟩
end Go.Proofs.YtckgnoopjapknaaDoor
