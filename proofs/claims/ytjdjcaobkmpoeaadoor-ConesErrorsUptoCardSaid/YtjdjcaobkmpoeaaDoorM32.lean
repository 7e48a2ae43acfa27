/- The texts Kme. -/
import Derived.Test.YtjdjcaobkmpoeaaDoorM31
namespace Go.Proofs.YtjdjcaobkmpoeaaDoor
open Go.RowKit
theorem pinB_le(R:List Bool)(l:List Int):pinB R l≤l.length:=List.countP_le_length
theorem pinB_take{R:List Bool}{l:List Int}{k:Nat}(hk:k<l.length):pinB R (l.take (k+1))=pinB R (l.take k)+(if bat R (l.getD k 0).toNat=true then 1 else 0):=by
 rw[List.take_succ_eq_append_getElem hk,pinB_snoc,List.getD_eq_getElem?_getD,List.getElem?_eq_getElem hk];rfl
set_option maxHeartbeats 4000000 in
theorem meet1_any(n i q7 q8 gR gD B:Nat)(R:List Bool)(DR:Nat→List Int)(W:World)(hi:i<n)(hn:n≤1000000)(hR:BRow W gR R)(hl:R.length=n)(hD:NxR W B gD 0 n DR)(hin:Inr n (DR i))(hm:(DR i).length≤1000000)(c7:W.cell? ⟨q7,0,none⟩=some (.slice (some ⟨gR,0,none⟩) n n))(c8:W.cell? ⟨q8,0,none⟩=some (.slice (some ⟨gD,0,none⟩) n n)):
 Calls Tryd.prog 34 #[.int .i64 (i:Int),.pointer (some ⟨q8,0,none⟩),.pointer (some ⟨q7,0,none⟩)] W fun e w'=>e=.returned (.bool (decide (1<pinB R (DR i))))∧w'=W:=by
 obtain⟨A1,c1',cn,hin2⟩:=hD.2 i hi
 rw[Nat.zero_add]at cn
 obtain⟨A1',b,ob,cb,e,hA1,-,-,hcn⟩:=hin2.opens
 simp only[Value.slice.injEq]at e
 obtain⟨rfl,-,rfl⟩:=e
 obtain⟨l,HL⟩:=named (DR i)
 rw[←HL.out]at cn hcn hA1 hin hm
 rw[←HL.out]
 have HPT:Hid (∀k,k<l.length→pinB R (l.take (k+1))=pinB R (l.take k)+(if bat R (l.getD k 0).toNat=true then 1 else 0)):=Lib.hid fun k hk=>pinB_take hk
 have HPF:Hid (pinB R (l.take l.length)=pinB R l):=Lib.hid (by rw[List.take_length])
 have HPL:Hid (∀k,pinB R (l.take k)≤1000000):=Lib.hid fun k=>Nat.le_trans (pinB_le R _) (Nat.le_trans (by rw[List.length_take];exact Nat.min_le_right _ _) hm)
 have HIN:Hid (∀k,k<l.length→∃z:Nat,z<n∧l.getD k 0=(z:Int)):=Lib.hid fun k hk=>by
  have h1:=hin (l.getD k 0) (by rw[List.getD_eq_getElem?_getD,List.getElem?_eq_getElem hk];exact List.getElem_mem _)
  exact⟨(l.getD k 0).toNat,by omega,by omega⟩
 have HRC:Hid (∀z:Nat,z<n→W.cell? ⟨gR,z,none⟩=some (.bool (bat R z))):=Lib.hid fun z hz=>hR.cell (by unfold bat;rw[List.getD_eq_getElem?_getD,List.getElem?_eq_getElem (by omega)];rfl)
 have HP0:Hid (pinB R (l.take 0)=0):=Lib.hid rfl
 have HCN:=Lib.hid hcn
 have HA1:=Lib.hid hA1
 have hi2:(i:Int)<(n:Int):=by omega
 obtain⟨m,HM⟩:=named l.length
 rw[←HM.out]at cn HCN HA1 HPT HPF HIN hm
 clear hR hl hD hin hin2 hcn hA1
 go_enter Tryd.func34,Tryd.ntmps34
 go_wp2
 go_loopw [5,13] (fun pv iv wr=>∃k:Nat,k≤m∧iv=.int .i64 k∧pv=.int .i64 (pinB R (l.take k):Nat)∧wr=W) (fun _ iv _=>m-(intOf iv).toNat)
 case atStart=>exact⟨0,Nat.zero_le _,rfl,by rw[HP0.out];rfl,rfl⟩
 case round=>
  obtain⟨k,hk,rfl,rfl,rfl⟩:=hrel
  have hpb:=HPL.out k
  by_cases hlt:k<m
  ·have hk2:(k:Int)<(m:Int):=by omega
   obtain rfl:=HA1.out (by omega)
   obtain⟨z,hz,ez⟩:=HIN.out k hlt
   have hc0:=(HCN.out k hlt).2
   have hsu:=HPT.out k hlt
   rw[ez,Int.toNat_natCast]at hsu
   rw[ez]at hc0
   have hcr:=HRC.out z hz
   have hz2:(z:Int)<(n:Int):=by omega
   obtain⟨p1,HP1⟩:=named (pinB R (l.take (k+1)))
   have hpb1:=HPL.out (k+1)
   rw[←HP1.out]at hsu hpb1
   obtain⟨p0,HP0'⟩:=named (pinB R (l.take k))
   rw[←HP0'.out]at hsu hpb
   rw[←HP0'.out]
   obtain⟨t,HT⟩:=named (bat R z)
   rw[←HT.out]at hsu hcr
   clear ez
   cases t
   ·obtain rfl:p1=p0:=by rw[hsu,if_neg (by decide),Nat.add_zero]
    clear hsu HP0'
    go_wp2
    go_roundw
    case rel=>exact⟨k+1,by omega,by go_num,by rw[←HP1.out],trivial⟩
    case measure=>simp[intOf];omega
   ·obtain rfl:p1=p0+1:=by rw[hsu,if_pos rfl]
    clear hsu
    go_wp2
    go_roundw
    case rel=>exact⟨k+1,by omega,by go_num,by rw[←HP1.out];rfl,trivial⟩
    case measure=>simp[intOf];omega
  ·obtain rfl:m=k:=by omega
   have hpf:=HPF.out
   rw[hpf]
   rw[hpf]at hpb
   obtain⟨p,HP⟩:=named (pinB R l)
   rw[←HP.out]at hpb
   rw[←HP.out]
   have hd:decide ((1:Int)<(p:Int))=decide (1<p):=decide_eq_decide.2 (by omega)
   clear hpf
   go_wp2
   go_ret
   exact⟨by rw[←HP.out];simp,rfl⟩
def Y5(CV:Value)(n B:Nat)(x:Int)(RD DR:Nat→List Int)(i:Nat)(v:Value)(W:World):Prop:=
 (i=0→v=.int .i64 x)∧(i=1→∃g,v=.slice (some ⟨g,0,none⟩) 1 1∧Fr W g 3 [.int .i64 x])∧(i=2→v=CV)∧(i=3→∃g xs,v=.slice (some ⟨g,0,none⟩) n n∧NxR W W.heap.size g 0 n RD∧Fr W g 25 xs)∧(i=4→∃g R,v=.slice (some ⟨g,0,none⟩) n n∧BRow W g R∧Vis RD n (List.replicate n false) [x] R)∧(i=5→v=CV)∧(i=6→∃g xs,v=.slice (some ⟨g,0,none⟩) n n∧NxR W W.heap.size g 0 n DR∧Fr W g 25 xs)∧(i=7→∃q,v=.pointer (some ⟨q,0,none⟩)∧B≤q∧Fr W q 41 [.slice none 0 0])∧(i=8→∃q,v=.pointer (some ⟨q,0,none⟩)∧B≤q∧Fr W q 58 [.slice none 0 0])
theorem Y5.next{CV:Value}{n B:Nat}{x:Int}{RD DR:Nat→List Int}(i:Nat)(v:Value)(W W':World)(h:Y5 CV n B x RD DR i v W)(hb:Below W.heap.size W W'):Y5 CV n B x RD DR i v W':=by
 obtain⟨h0,h1,h2,h3,h4,h5,h6,h7,h8⟩:=h
 refine⟨h0,fun e=>?_,h2,fun e=>?_,fun e=>?_,h5,fun e=>?_,fun e=>?_,fun e=>?_⟩
 ·obtain⟨g,a,b⟩:=h1 e;exact⟨g,a,b.below hb⟩
 ·obtain⟨g,xs,a,b,c⟩:=h3 e;exact⟨g,xs,a,b.next hb,c.below hb⟩
 ·obtain⟨g,R,a,b,c⟩:=h4 e;exact⟨g,R,a,b.below hb,c⟩
 ·obtain⟨g,xs,a,b,c⟩:=h6 e;exact⟨g,xs,a,b.next hb,c.below hb⟩
 ·obtain⟨g,a,b,c⟩:=h7 e;exact⟨g,a,b,c.below hb⟩
 ·obtain⟨g,a,b,c⟩:=h8 e;exact⟨g,a,b,c.below hb⟩
theorem Y5.v0{CV v:Value}{n B:Nat}{x:Int}{RD DR:Nat→List Int}{W:World}(h:v=.int .i64 x):Y5 CV n B x RD DR 0 v W:=⟨(fun _=>h),(by simp),(by simp),(by simp),(by simp),(by simp),(by simp),(by simp),(by simp)⟩
theorem Y5.v1{CV v:Value}{n B:Nat}{x:Int}{RD DR:Nat→List Int}{W:World}(h:∃g,v=.slice (some ⟨g,0,none⟩) 1 1∧Fr W g 3 [.int .i64 x]):Y5 CV n B x RD DR 1 v W:=⟨(by simp),(fun _=>h),(by simp),(by simp),(by simp),(by simp),(by simp),(by simp),(by simp)⟩
theorem Y5.v2{CV v:Value}{n B:Nat}{x:Int}{RD DR:Nat→List Int}{W:World}(h:v=CV):Y5 CV n B x RD DR 2 v W:=⟨(by simp),(by simp),(fun _=>h),(by simp),(by simp),(by simp),(by simp),(by simp),(by simp)⟩
theorem Y5.v3{CV v:Value}{n B:Nat}{x:Int}{RD DR:Nat→List Int}{W:World}(h:∃g xs,v=.slice (some ⟨g,0,none⟩) n n∧NxR W W.heap.size g 0 n RD∧Fr W g 25 xs):Y5 CV n B x RD DR 3 v W:=⟨(by simp),(by simp),(by simp),(fun _=>h),(by simp),(by simp),(by simp),(by simp),(by simp)⟩
theorem Y5.v4{CV v:Value}{n B:Nat}{x:Int}{RD DR:Nat→List Int}{W:World}(h:∃g R,v=.slice (some ⟨g,0,none⟩) n n∧BRow W g R∧Vis RD n (List.replicate n false) [x] R):Y5 CV n B x RD DR 4 v W:=⟨(by simp),(by simp),(by simp),(by simp),(fun _=>h),(by simp),(by simp),(by simp),(by simp)⟩
theorem Y5.v5{CV v:Value}{n B:Nat}{x:Int}{RD DR:Nat→List Int}{W:World}(h:v=CV):Y5 CV n B x RD DR 5 v W:=⟨(by simp),(by simp),(by simp),(by simp),(by simp),(fun _=>h),(by simp),(by simp),(by simp)⟩
theorem Y5.v6{CV v:Value}{n B:Nat}{x:Int}{RD DR:Nat→List Int}{W:World}(h:∃g xs,v=.slice (some ⟨g,0,none⟩) n n∧NxR W W.heap.size g 0 n DR∧Fr W g 25 xs):Y5 CV n B x RD DR 6 v W:=⟨(by simp),(by simp),(by simp),(by simp),(by simp),(by simp),(fun _=>h),(by simp),(by simp)⟩
theorem Y5.v7{CV v:Value}{n B:Nat}{x:Int}{RD DR:Nat→List Int}{W:World}(h:∃q,v=.pointer (some ⟨q,0,none⟩)∧B≤q∧Fr W q 41 [.slice none 0 0]):Y5 CV n B x RD DR 7 v W:=⟨(by simp),(by simp),(by simp),(by simp),(by simp),(by simp),(by simp),(fun _=>h),(by simp)⟩
theorem Y5.v8{CV v:Value}{n B:Nat}{x:Int}{RD DR:Nat→List Int}{W:World}(h:∃q,v=.pointer (some ⟨q,0,none⟩)∧B≤q∧Fr W q 58 [.slice none 0 0]):Y5 CV n B x RD DR 8 v W:=⟨(by simp),(by simp),(by simp),(by simp),(by simp),(by simp),(by simp),(by simp),(fun _=>h)⟩
theorem fr_one{w:World}{g:Nat}{x:Int}(h:Fr w g 3 [.int .i64 x]):Is w w.heap.size (.slice (some ⟨g,0,none⟩) 1 1) [x]:=(Fr.row (l:=[x]) h (by show 1≤maxLen;unfold maxLen;decide)).is (by show 1≤maxLen;unfold maxLen;decide)
set_option maxRecDepth 100000 in
set_option maxHeartbeats 4000000 in
theorem meets_bad(c:Ck)(A0 A1 A2 A3:Option Addr)(n n1 n2 n3 c0 c1 c2 c3:Nat)(w:World)(z:Int)(hT:Tabs w)(hc:Cir w w.heap.size (.agg #[.slice A0 n c0,.slice A1 n1 c1,.slice A2 n2 c2,.slice A3 n3 c3]) c)(hz:ckI c [z]≠0):
 Calls Tryd.prog 12 #[.agg #[.slice A0 n c0,.slice A1 n1 c1,.slice A2 n2 c2,.slice A3 n3 c3],.int .i64 z] w fun e w'=>e=.returned (.tuple #[.slice none 0 0,.int .i64 (ckI c [z])])∧BelW w w':=by
 obtain⟨W1,HW1⟩:=named (w.alloc (.cells #[.slice A0 n c0,.slice A1 n1 c1,.slice A2 n2 c2,.slice A3 n3 c3] 27))
 have hb1:BelW w W1:=by rw[HW1.out];exact below_new (Below.refl _ _) _
 have hfr:Fr W1 w.heap.size 27 [.slice A0 n c0,.slice A1 n1 c1,.slice A2 n2 c2,.slice A3 n3 c3]:=by rw[HW1.out];exact Fr.made _ _ _ rfl
 obtain⟨q,HQ⟩:=named w.heap.size
 rw[←HQ.out]at hfr
 have HQ2:=Lib.hid HQ.out
 have HCE:Hid (∀W,BelW W1 W→W.cell? ⟨q,0,none⟩=some (.slice A0 n c0)∧W.cell? ⟨q,1,none⟩=some (.slice A1 n1 c1)∧W.cell? ⟨q,2,none⟩=some (.slice A2 n2 c2)∧W.cell? ⟨q,3,none⟩=some (.slice A3 n3 c3)):=Lib.hid fun W h=>⟨(hfr.below h).cell 0,(hfr.below h).cell 1,(hfr.below h).cell 2,(hfr.below h).cell 3⟩
 have HC1:Hid (∀W,BelW W1 W→Cir W W.heap.size (.agg #[.slice A0 n c0,.slice A1 n1 c1,.slice A2 n2 c2,.slice A3 n3 c3]) c):=Lib.hid fun W h=>(hc.below (joinB hb1 h)).more (Below.size (joinB hb1 h))
 obtain⟨V2,HV2⟩:=named (W1.alloc (.cells #[.int .i64 z] 3))
 have hv2:BelW W1 V2:=by rw[HV2.out];exact below_new (Below.refl _ _) _
 have hf2:Fr V2 W1.heap.size 3 [.int .i64 z]:=by rw[HV2.out];exact Fr.made _ _ _ rfl
 have hck:=check5_any c [z] _ A0 A1 A2 A3 n n1 n2 n3 c0 c1 c2 c3 V2 (hT.below (joinB hb1 hv2)) (HC1.out V2 hv2) (fr_one hf2)
 obtain⟨r,HR⟩:=named (ckI c [z])
 rw[←HR.out]at hck hz
 rw[←HR.out]
 obtain⟨g,HGG⟩:=named W1.heap.size
 rw[←HGG.out]at hck
 have q0:(r != 0)=true:=by simpa using hz
 have q1:(r==0)=false:=by simpa using hz
 have HCK:=Lib.hid hck
 have HB1:=Lib.hid (joinB hb1 hv2)
 have HGG2:=Lib.hid HGG.out
 have HV22:=Lib.hid HV2.out
 obtain⟨x0,x1,x2,x3⟩:=HCE.out W1 (Below.refl _ _)
 clear hc hb1 hfr hck hT hz HR hv2 hf2 HV2 HGG
 go_enter Tryd.func12,Tryd.ntmps12
 go_upto_region 1 with (fail)
 rw[←HW1.out,←HQ2.out]
 go_upto_region 2 with (rw[←HV22.out,←HGG2.out];go_at_call 25;(with_reducible refine HCK.out.mono ?_);rintro e w2 ⟨rfl,h3⟩;have HB2:=Lib.hid h3;clear h3 x0 x1 x2 x3)
 go_wp2
 refine bodyPost_ret (results_tmp2 rfl _ _ _) rfl ?_
 exact⟨rfl,joinB HB1.out HB2.out⟩
set_option maxRecDepth 100000 in
set_option maxHeartbeats 8000000 in
theorem meets_ok(c:Ck)(L:List Int)(A0 A1 A2 A3:Option Addr)(n n1 n2 n3 c0 c1 c2 c3:Nat)(w:World)(x:Nat)(hx:x<n)(G:G5 c n L)(hT:Tabs w)(hc:Cir w w.heap.size (.agg #[.slice A0 n c0,.slice A1 n1 c1,.slice A2 n2 c2,.slice A3 n3 c3]) c):
 Calls Tryd.prog 12 #[.agg #[.slice A0 n c0,.slice A1 n1 c1,.slice A2 n2 c2,.slice A3 n3 c3],.int .i64 (x:Int)] w fun e w'=>∃A R T,e=.returned (.tuple #[.slice A T.length T.length,.int .i64 0])∧Vis (rdL c.nodes) n (List.replicate n false) [(x:Int)] R∧T=nwL (fun i=>decide (1<pinB R (dep c.nodes (i:Int)))) n∧Is w' w'.heap.size (.slice A T.length T.length) T∧BelW w w':=by
 obtain⟨W1,HW1⟩:=named (w.alloc (.cells #[.slice A0 n c0,.slice A1 n1 c1,.slice A2 n2 c2,.slice A3 n3 c3] 27))
 have hb1:BelW w W1:=by rw[HW1.out];exact below_new (Below.refl _ _) _
 have hfr:Fr W1 w.heap.size 27 [.slice A0 n c0,.slice A1 n1 c1,.slice A2 n2 c2,.slice A3 n3 c3]:=by rw[HW1.out];exact Fr.made _ _ _ rfl
 obtain⟨q,HQ⟩:=named w.heap.size
 rw[←HQ.out]at hfr
 have HQ2:=Lib.hid HQ.out
 have HCE:Hid (∀W,BelW W1 W→W.cell? ⟨q,0,none⟩=some (.slice A0 n c0)∧W.cell? ⟨q,1,none⟩=some (.slice A1 n1 c1)∧W.cell? ⟨q,2,none⟩=some (.slice A2 n2 c2)∧W.cell? ⟨q,3,none⟩=some (.slice A3 n3 c3)):=Lib.hid fun W h=>⟨(hfr.below h).cell 0,(hfr.below h).cell 1,(hfr.below h).cell 2,(hfr.below h).cell 3⟩
 have HC1:Hid (∀W,BelW W1 W→Cir W W.heap.size (.agg #[.slice A0 n c0,.slice A1 n1 c1,.slice A2 n2 c2,.slice A3 n3 c3]) c):=Lib.hid fun W h=>(hc.below (joinB hb1 h)).more (Below.size (joinB hb1 h))
 obtain⟨V2,HV2⟩:=named (W1.alloc (.cells #[.int .i64 (x:Int)] 3))
 have hv2:BelW W1 V2:=by rw[HV2.out];exact below_new (Below.refl _ _) _
 have hf2:Fr V2 W1.heap.size 3 [.int .i64 (x:Int)]:=by rw[HV2.out];exact Fr.made _ _ _ rfl
 have hck:=check5_any c [(x:Int)] _ A0 A1 A2 A3 n n1 n2 n3 c0 c1 c2 c3 V2 (hT.below (joinB hb1 hv2)) (HC1.out V2 hv2) (fr_one hf2)
 rw[show ckI c [(x:Int)]=0 from by
  unfold ckI
  rw[if_pos G.ok,if_neg]
  intro h
  unfold anyP badI at h
  have:isIdx n (x:Int)=true:=idx_nod.2 ⟨by omega,by omega⟩
  rw[G.len]at h
  simp[this]at h]at hck
 obtain⟨g0,HGG⟩:=named W1.heap.size
 rw[←HGG.out]at hck
 have HCK:=Lib.hid hck
 have HB12:=Lib.hid hv2
 have HGG2:=Lib.hid HGG.out
 have HV22:=Lib.hid HV2.out
 have hn:=G.few
 have HG:=Lib.hid G
 have hrds:∀B W,BelW W1 W→Calls Tryd.prog 29 #[.agg #[.slice A0 n c0,.slice A1 n1 c1,.slice A2 n2 c2,.slice A3 n3 c3]] W fun e w'=>∃v,e=.returned v∧Below W.heap.size W w'∧Y5 (.agg #[.slice A0 n c0,.slice A1 n1 c1,.slice A2 n2 c2,.slice A3 n3 c3]) n B (x:Int) (rdL c.nodes) (fun j=>dep c.nodes (j:Int)) 3 v w':=fun B W h=>by
  refine (readers_own c _ W (HC1.out W h) (by rw[G.len];have:=G.few;omega) G.np).mono fun e w' ⟨g,h1,h2,h3,xs,h4⟩=>?_
  rw[G.len]at h1 h2
  exact⟨_,h1,h3,Y5.v3 ⟨g,xs,rfl,h2,h4⟩⟩
 have hdrs:∀B W,BelW W1 W→Calls Tryd.prog 28 #[.agg #[.slice A0 n c0,.slice A1 n1 c1,.slice A2 n2 c2,.slice A3 n3 c3]] W fun e w'=>∃v,e=.returned v∧Below W.heap.size W w'∧Y5 (.agg #[.slice A0 n c0,.slice A1 n1 c1,.slice A2 n2 c2,.slice A3 n3 c3]) n B (x:Int) (rdL c.nodes) (fun j=>dep c.nodes (j:Int)) 6 v w':=fun B W h=>by
  refine (drivers_own c _ W (HC1.out W h) (by rw[G.len];have:=G.few;omega)).mono fun e w' ⟨g,h1,h2,h3,xs,h4⟩=>?_
  rw[G.len]at h1 h2
  exact⟨_,h1,h3,Y5.v6 ⟨g,xs,rfl,h2,h4⟩⟩
 have hrch:∀B W g g3,Is W W.heap.size (.slice (some ⟨g,0,none⟩) 1 1) [(x:Int)]→NxR W W.heap.size g3 0 n (rdL c.nodes)→Calls Tryd.prog 27 #[.slice (some ⟨g,0,none⟩) 1 1,.slice (some ⟨g3,0,none⟩) n n] W fun e w'=>∃v,e=.returned v∧Below W.heap.size W w'∧Y5 (.agg #[.slice A0 n c0,.slice A1 n1 c1,.slice A2 n2 c2,.slice A3 n3 c3]) n B (x:Int) (rdL c.nodes) (fun j=>dep c.nodes (j:Int)) 4 v w':=fun B W g g3 h1 h2=>by
  refine (reach_any [(x:Int)] _ g3 0 n n (rdL c.nodes) W h1 (fun y hy=>(by have e:y=(x:Int):=(by simpa using hy);omega)) h2 G.inr' (by omega)).mono fun e w' ⟨gR,R,e1,e2,e3,e4⟩=>?_
  exact⟨_,e1,e4,Y5.v4 ⟨gR,R,rfl,e2,e3⟩⟩
 have HRDS:=Lib.hid hrds
 have HDRS:=Lib.hid hdrs
 have HRCH:=Lib.hid hrch
 have HDI:Hid (∀i,i<n→Inr n (dep c.nodes (i:Int))∧(dep c.nodes (i:Int)).length≤1000000):=Lib.hid fun i hi=>⟨G.depi i,Nat.le_trans (G.deps i hi) (by decide)⟩
 obtain⟨RD,HRD⟩:=named (rdL c.nodes)
 obtain⟨DR,HDR⟩:=named (fun j:Nat=>dep c.nodes (j:Int))
 have HDE:Hid (∀j:Nat,dep c.nodes (j:Int)=DR j):=Lib.hid fun j=>by rw[HDR.out]
 rw[←HRD.out,←HDR.out]at HRDS HDRS HRCH
 rw[←HRD.out]
 have HDI2:Hid (∀i,i<n→Inr n (DR i)∧(DR i).length≤1000000):=Lib.hid fun i hi=>by rw[←HDE.out];exact HDI.out i hi
 have HB1:=Lib.hid hb1
 obtain⟨x0,x1,x2,x3⟩:=HCE.out W1 (Below.refl _ _)
 clear hc hb1 hfr hck hT hv2 hf2 HV2 HGG hrds hdrs hrch HDI HDR G
 go_enter Tryd.func12,Tryd.ntmps12
 go_upto_region 1 with (fail)
 rw[←HW1.out,←HQ2.out]
 go_upto_region 2 with (rw[←HV22.out,←HGG2.out];go_at_call 25;(with_reducible refine HCK.out.mono ?_);rintro e w2 ⟨rfl,h3⟩;have HB2:Hid (BelW W1 w2):=Lib.hid (joinB HB12.out h3);clear h3 x0 x1 x2 x3)
 go_upto_region 4 with (fail)
 have HBD:Hid (BelW W1 w2.drew):=Lib.hid (joinB HB2.out (Below.drew (Below.refl _ _)))
 refine AnyX.start (S:=fun _=>True) (t:=10) (by kernel_rfl) ?_
 refine AnyX.factsGo [16,17,18,19,20,21,22,7,8] (Y5 (.agg #[.slice A0 n c0,.slice A1 n1 c1,.slice A2 n2 c2,.slice A3 n3 c3]) n w2.heap.size (x:Int) RD DR) _ _ (by decide) ?hts (by decide) Y5.next (by kernel_rfl) (by kernel_rfl) ?hst ?hdo
 case hts => intro t ht; simp only [List.mem_cons, List.not_mem_nil, or_false] at ht; rcases ht with rfl | rfl | rfl | rfl | rfl | rfl | rfl | rfl | rfl <;> (show _ < Array.size _; simp)
 case hst=>
  intro i t a w' hD hF hB hdep
  have hBW:BelW W1 w':=joinB HBD.out hB
  have hi6:i<9:=(List.getElem?_eq_some_iff.1 hD).1
  obtain⟨y0,y1,y2,y3⟩:=HCE.out w' hBW
  rcases (by omega:i=0∨i=1∨i=2∨i=3∨i=4∨i=5∨i=6∨i=7∨i=8) with rfl|rfl|rfl|rfl|rfl|rfl|rfl|rfl|rfl<;>obtain rfl:=Option.some.inj hD
  ·exact fop_move rfl rfl rfl rfl (by rw[hF.eval (by decide)];rfl) (Y5.v0 rfl)
  ·exact fop_build1 rfl rfl rfl rfl rfl ((hdep _ 0 16 rfl rfl (by kernel_rfl)).1 rfl) fun w' h=>Y5.v1 ⟨_,rfl,h⟩
  ·exact fop_loadC rfl rfl rfl rfl rfl (by rw[hF.eval (by decide)];rfl) y0 y1 y2 y3 (Y5.v2 rfl)
  ·exact fop_call1 rfl rfl rfl rfl (fun _ _=>rfl) ((hdep _ 2 18 rfl rfl (by kernel_rfl)).2.2.1 rfl) (HRDS.out _ w' hBW)
  ·obtain⟨g1,e1,f1⟩:=(hdep _ 1 17 rfl rfl (by kernel_rfl)).2.1 rfl
   obtain⟨g3,xs3,e3,f3,-⟩:=(hdep _ 3 19 rfl rfl (by kernel_rfl)).2.2.2.1 rfl
   exact fop_call2 rfl rfl rfl rfl (fun _ _=>rfl) e1 e3 (HRCH.out _ w' g1 g3 (fr_one f1) f3)
  ·exact fop_loadC rfl rfl rfl rfl rfl (by rw[hF.eval (by decide)];rfl) y0 y1 y2 y3 (Y5.v5 rfl)
  ·exact fop_call1 rfl rfl rfl rfl (fun _ _=>rfl) ((hdep _ 5 21 rfl rfl (by kernel_rfl)).2.2.2.2.2.1 rfl) (HDRS.out _ w' hBW)
  ·exact fop_allocB rfl rfl rfl rfl rfl fun w' h=>Y5.v7 ⟨_,rfl,(by have:=Below.size hB;exact this),h⟩
  ·exact fop_allocR rfl rfl rfl rfl rfl fun w' h=>Y5.v8 ⟨_,rfl,(by have:=Below.size hB;exact this),h⟩
 intro v w3 hb3 hF
 have HB3:=Lib.hid hb3
 have e0:=(hF 0 (by decide)).1 rfl
 obtain⟨g1,e1,-⟩:=(hF 1 (by decide)).2.1 rfl
 have e2:=(hF 2 (by decide)).2.2.1 rfl
 obtain⟨g3,xs3,e3,-,-⟩:=(hF 3 (by decide)).2.2.2.1 rfl
 obtain⟨gR,R,e4,hr4,hv4⟩:=(hF 4 (by decide)).2.2.2.2.1 rfl
 have e5:=(hF 5 (by decide)).2.2.2.2.2.1 rfl
 obtain⟨gD,xs6,e6,hn6,hx6⟩:=(hF 6 (by decide)).2.2.2.2.2.2.1 rfl
 obtain⟨q7,e7,l7,h7⟩:=(hF 7 (by decide)).2.2.2.2.2.2.2.1 rfl
 obtain⟨q8,e8,l8,h8⟩:=(hF 8 (by decide)).2.2.2.2.2.2.2.2 rfl
 have HBX:=Lib.hid (Bx2.made (w0:=w2) (joinB (Below.drew (Below.refl _ _)) hb3) h7 h8 l7 l8 hr4 hn6 hx6)
 have HVI:=Lib.hid hv4
 have HH7:=Lib.hid (And.intro h8 (And.intro (h8.apart5 h7 (by decide)) (And.intro h7 trivial)))
 simp only[putsF,Nat.zero_add,Nat.reduceAdd,e0,e1,e2,e3,e4,e5,e6,e7,e8,Act.put,List.setIfInBounds_toArray,List.set_cons_zero,List.set_cons_succ]
 clear e0 e1 e2 e3 e4 e5 e6 e7 e8 hF hr4 hn6 hx6 hb3 l7 l8 hv4
 have z0:=h7.cell 0
 have z1:=h7.frozen 0
 clear h7 h8
 show AnyX _ _ _ _ _ _ 2 #[true,true,true,true,true,true,true,true,true,false,false] _ _
 refine AnyX.one (i:=9) (o:=⟨none,_,_,_,_,_⟩) (by kernel_rfl) rfl (fun K' hK=>?_)
 have HK:=Lib.hid hK
 clear hK
 go_simp
 refine HK.out _ _ (fun _=>trivial) ?_
 clear HK z0 z1
 (try simp only[Act.put,List.setIfInBounds_toArray,List.set_cons_zero,List.set_cons_succ])
 have z0:=(HH7.out.1.ne_t HH7.out.2.2.1 (by decide) (grown_cell w3 q7 (.slice (some ⟨gR,0,none⟩) n n))).cell 0
 have z1:=(HH7.out.1.ne_t HH7.out.2.2.1 (by decide) (grown_cell w3 q7 (.slice (some ⟨gR,0,none⟩) n n))).frozen 0
 refine AnyX.one (i:=10) (o:=⟨none,_,_,_,_,_⟩) (by kernel_rfl) rfl (fun K' hK=>?_)
 have HK:=Lib.hid hK
 clear hK
 go_simp
 refine HK.out _ _ (fun h=>absurd rfl h) ?_
 clear HK z0 z1 HH7
 (try simp only[Act.put,List.setIfInBounds_toArray,List.set_cons_zero,List.set_cons_succ])
 refine AnyX.done (by kernel_rfl) ?_ _
 obtain⟨W4,HW4⟩:=named ((w3.setCell ⟨q7,0,none⟩ (.slice (some ⟨gR,0,none⟩) n n)).setCell ⟨q8,0,none⟩ (.slice (some ⟨gD,0,none⟩) n n))
 rw[←HW4.out]at HBX
 rw[←HW4.out]
 clear HW4 HB3 HBD
 have HNW:=Lib.hid (nw_meet n (fun i=>decide (1<pinB R (DR i))) q8 q7 W4 (by omega) fun W h i hi=>by
  have h9:=HBX.out.next h
  exact meet1_any n i q7 q8 gR gD W.heap.size R DR W hi (by omega) h9.row HVI.out.len h9.nxt (HDI2.out i hi).1 (HDI2.out i hi).2 (h9.b6.cell 0) (h9.b7.cell 0))
 have y8:W4.cell? ⟨q8,0,none⟩=some (.slice (some ⟨gD,0,none⟩) n n):=HBX.out.b7.cell 0
 obtain⟨T,HT⟩:=named (nwL (fun i=>decide (1<pinB R (DR i))) n)
 rw[←HT.out]at HNW
 unfold OfPost at HNW
 have HTT:Hid (T=nwL (fun i=>decide (1<pinB R (dep c.nodes (i:Int)))) n):=Lib.hid (by
  rw[HT.out]
  congr 1
  funext i
  rw[HDE.out])
 clear HT
 go_wp2_with (go_at_call 33;(with_reducible refine HNW.out.mono ?_);rintro e w5 ⟨A5,rfl,h1,h2⟩;have H1:=Lib.hid h1;have HB5:=Lib.hid h2;clear h1 h2)
 refine bodyPost_ret (results_tmp2 rfl _ _ _) rfl ?_
 exact⟨A5,R,T,rfl,HVI.out,HTT.out,H1.out,joinB HB1.out (joinB HB2.out (joinB HBX.out.bel HB5.out))⟩
end Go.Proofs.YtjdjcaobkmpoeaaDoor
