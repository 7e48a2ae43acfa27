/- The texts Kdo Kme. -/
import Derived.Test.YtckgnoopjapknaaDoorM36
namespace Go.Proofs.YtckgnoopjapknaaDoor
open Go.RowKit
theorem idx_nod{n:Nat}{z:Int} :isIdx n z=true↔Nod n z:=by
 unfold isIdx Nod
 simp
def slN:Value→Nat
 | .slice _ n _=>n
 |_=>0
set_option maxRecDepth 100000 in
set_option maxHeartbeats 8000000 in
theorem doms_ok(c:Ck)(L:List Int)(A0 A1 A2 A3:Option Addr)(n n1 n2 n3 c0 c1 c2 c3:Nat)(w:World)(x:Nat)(hx:x<n)(G:G5 c n L)(hT:Tabs w)(hc:Cir w w.heap.size (.agg #[.slice A0 n c0,.slice A1 n1 c1,.slice A2 n2 c2,.slice A3 n3 c3]) c):
 Calls Tryd.prog 16 #[.agg #[.slice A0 n c0,.slice A1 n1 c1,.slice A2 n2 c2,.slice A3 n3 c3],.int .i64 (x:Int)] w fun e w'=>∃A T,e=.returned (.tuple #[.slice A T.length T.length,.int .i64 0])∧DomL n (fun x:Int=>rdL c.nodes x.toNat) (fun x:Int=>bat (ptB c) x.toNat=true) L (x:Int) T∧Is w' w'.heap.size (.slice A T.length T.length) T∧BelW w w':=by
 obtain⟨W1,HW1⟩:=named (w.alloc (.cells #[.slice A0 n c0,.slice A1 n1 c1,.slice A2 n2 c2,.slice A3 n3 c3] 27))
 have hb1:BelW w W1:=by rw[HW1.out];exact below_new (Below.refl _ _) _
 have hfr:Fr W1 w.heap.size 27 [.slice A0 n c0,.slice A1 n1 c1,.slice A2 n2 c2,.slice A3 n3 c3]:=by rw[HW1.out];exact Fr.made _ _ _ rfl
 obtain⟨q,HQ⟩:=named w.heap.size
 rw[←HQ.out]at hfr
 have HQ2:=Lib.hid HQ.out
 have HCE:Hid (∀W,BelW W1 W→W.cell? ⟨q,0,none⟩=some (.slice A0 n c0)∧W.cell? ⟨q,1,none⟩=some (.slice A1 n1 c1)∧W.cell? ⟨q,2,none⟩=some (.slice A2 n2 c2)∧W.cell? ⟨q,3,none⟩=some (.slice A3 n3 c3)):=Lib.hid fun W h=>⟨(hfr.below h).cell 0,(hfr.below h).cell 1,(hfr.below h).cell 2,(hfr.below h).cell 3⟩
 have HC1:Hid (∀W,BelW W1 W→Cir W W.heap.size (.agg #[.slice A0 n c0,.slice A1 n1 c1,.slice A2 n2 c2,.slice A3 n3 c3]) c):=Lib.hid fun W h=>(hc.below (joinB hb1 h)).more (Below.size (joinB hb1 h))
 have hord:=(order_20 c _ W1 W1.heap.size (Nat.le_refl _) (hT.below hb1) (HC1.out W1 (Below.refl _ _)) (by rw[G.len];exact G.few)).mono (R':=fun e w'=>∃d O,e=.returned (.tuple #[.slice (some ⟨d,0,none⟩) n n,.int .i64 0])∧Row w' d O∧Ord5 L n O∧BelW W1 w') fun e w' ⟨h1,h2⟩=>by
  rcases h2 with⟨-,-,L',R,d,h3,-,h4,-,h6,h7⟩| ⟨h3,-⟩
  ·rw[h3.unique G.wf G.lvl,G.len]at h4
   rw[G.len]at h6
   exact⟨d,R,h6,h7,ord5_of h4 G.bnd,h1⟩
  ·exact absurd G.ok h3
 have HORD:=Lib.hid hord
 have hn:=G.few
 have HIS:Hid (∀z W,Calls Tryd.prog 43 #[.agg #[.slice A0 n c0,.slice A1 n1 c1,.slice A2 n2 c2,.slice A3 n3 c3],.int .i64 z] W fun e w'=>e=.returned (.bool (isIdx n z))∧BelW W w'):=Lib.hid fun z W=>isnode_any A0 A1 A2 A3 n n1 n2 n3 c0 c1 c2 c3 z W (by unfold maxLen;omega)
 have HNR:Hid (∀W d O,BelW W1 W→Ord5 L n O→Row W d O→Calls Tryd.prog 44 #[.agg #[.slice A0 n c0,.slice A1 n1 c1,.slice A2 n2 c2,.slice A3 n3 c3],.slice (some ⟨d,0,none⟩) n n] W fun e w'=>∃g N,e=.returned (.slice (some ⟨g,0,none⟩) n n)∧Row w' g N∧N.length=n∧(∃Pl,Plc O n Pl∧∀y,Nod n y→Near n (fun x:Int=>rdL c.nodes x.toNat) (fun x:Int=>bat (ptB c) x.toNat=true) (nrf N) (nrf Pl) y)∧BelW W w'):=Lib.hid fun W d O h h1 h2=>nearest_any c L O A0 A1 A2 A3 n n1 n2 n3 c0 c1 c2 c3 d W G (HC1.out W h) h1 h2
 have HG:=Lib.hid G
 have HB1:=Lib.hid hb1
 have hxi:isIdx n (x:Int)=true:=idx_nod.2 ⟨by omega,by omega⟩
 have hi1:=HIS.out (x:Int)
 rw[hxi]at hi1
 have HI1:=Lib.hid hi1
 obtain⟨i1,hi1',hz0,hz1,hz2⟩:=info_parts info_int
 have HI:=Lib.hid (And.intro hi1' (And.intro hz0 (And.intro hz1 hz2)))
 obtain⟨x0,x1,x2,x3⟩:=HCE.out W1 (Below.refl _ _)
 have hx2:(x:Int)<(n:Int):=by omega
 clear hi1 hi1' hz0 hz1 hz2 hc hb1 hfr hord hT G hxi
 go_enter Tryd.func16,Tryd.ntmps16
 go_upto_region 1 with (fail)
 rw[←HW1.out,←HQ2.out]
 go_upto_region 2 with (go_at_call 28;(with_reducible refine HORD.out.mono ?_);rintro e w2 ⟨d,O,rfl,h1,h2,h3⟩;have HRO:=Lib.hid h1;have HO5:=Lib.hid h2;have HB2:=Lib.hid h3;clear h1 h2 h3 x0 x1 x2 x3)
 obtain⟨x0,x1,x2,x3⟩:=HCE.out w2 HB2.out
 go_upto_region 6 with (go_at_call 43;(with_reducible refine (HI1.out _).mono ?_);rintro e w3 ⟨rfl,h1⟩;have HB3:=Lib.hid h1;clear h1 x0 x1 x2 x3)
 have HNR3:=Lib.hid (HNR.out w3 d O (joinB HB2.out HB3.out) HO5.out (HRO.out.below HB3.out))
 obtain⟨x0,x1,x2,x3⟩:=HCE.out w3 (joinB HB2.out HB3.out)
 go_upto_region 7 with (go_at_call 44;(with_reducible refine HNR3.out.mono ?_);rintro e w4 ⟨g,N,rfl,h1,h2,h3,h4⟩;have HRN:=Lib.hid h1;have HLN:=Lib.hid h2;have HPN:=Lib.hid h3;have HB4:=Lib.hid h4;clear h1 h2 h3 h4 x0 x1 x2 x3)
 have HB14:Hid (BelW W1 w4):=Lib.hid (joinB HB2.out (joinB HB3.out HB4.out))
 obtain⟨Pl,hPl,hNear⟩:=HPN.out
 have HNE:=Lib.hid hNear
 have HPL:Hid (∀y,Nod n y→0≤nrf Pl y∧nrf Pl y<(n:Int)):=Lib.hid fun y hy=>hPl.lt HO5.out hy
 have hdl:=domL_of hNear HPL.out HG.out.inr HG.out.up (x:=(x:Int)) ⟨by omega,by omega⟩
 have HDL:=Lib.hid hdl.1
 have HCP:=Lib.hid hdl.2
 have HCN:Hid (∀W,BelW w4 W→∀k:Nat,k<n→W.cell? ⟨g,k,none⟩=some (.int .i64 (nrf N (k:Int)))):=Lib.hid fun W h k hk=>by rw[nrf_nat];exact (HRN.out.below h).cell (by rw[HLN.out];exact hk)
 have y0:=HCN.out w4 (Below.refl _ _) x hx
 obtain⟨z0,HZ0⟩:=named (nrf N (x:Int))
 rw[←HZ0.out]at y0 HDL HCP
 obtain⟨T,HTT⟩:=named (chF (nrf N) n n z0)
 rw[←HTT.out]at HDL
 have HTL:Hid (T.length≤n):=Lib.hid (by
  rw[HTT.out]
  have:∀(k:Nat) (z:Int),(chF (nrf N) n k z).length≤k:=fun k=>by
   induction k with
   |zero=>intro z;exact Nat.le_refl _
   |succ k ih=>intro z;unfold chF;split<;>simp;exact ih _
  exact this n z0)
 have HTQ:=Lib.hid HTT.out
 clear hPl hNear hdl HTT HZ0
 go_wp2
 go_loopw [9,10] (fun sv iv wr=>∃(acc:List Int) (k:Nat) (z:Int),iv=.int .i64 z∧acc.length+k=n∧Hid (T=acc++chF (nrf N) n k z)∧Hid (Cpt n (fun x:Int=>rdL c.nodes x.toNat) (fun x:Int=>bat (ptB c) x.toNat=true) (nrf Pl) k z)∧Hid (BelW w4 wr)∧Hid (Stk wr w4.heap.size sv acc)) (fun sv _ _=>n-slN sv)
 case atStart=>exact⟨[],n,z0,rfl,by simp,HTQ,HCP,Lib.hid (Below.refl _ _),Lib.hid (Stk.nil _ _)⟩
 case round=>
  clear HTQ HCP y0
  obtain⟨acc,k,z,rfl,hak,HTQ,HCP,HB,HST⟩:=hrel
  obtain⟨A6,c6,rfl,hle6,hc6,hsh⟩:=HST.out.shape
  obtain⟨x0,x1,x2,x3⟩:=HCE.out wr (joinB HB14.out HB.out)
  have HIZ:=Lib.hid (HIS.out z wr)
  cases hz:isIdx n z
  ·rw[hz]at HIZ
   have hnz:¬Nod n z:=fun g=>by rw[idx_nod.2 g]at hz;cases hz
   have hacc:acc=T:=by
    have:=HTQ.out
    rw[chF_out hnz,List.append_nil]at this
    exact this.symm
   subst hacc
   clear hnz hz
   have HC6:=Lib.hid hc6
   have HLT:=Lib.hid (And.intro hsh hle6)
   clear hsh hle6 hc6
   obtain⟨l6,HL6⟩:=named acc.length
   rw[←HL6.out]at HLT hak
   rw[←HL6.out]
   have HR6:Hid (∀W,BelW wr W→Is W W.heap.size (.slice A6 l6 l6) acc):=Lib.hid fun W h=>by
    have h1:=(HST.out.below h).reads l6 (by rw[HL6.out];exact Nat.le_refl _) (by have:=HTL.out;unfold maxLen;omega)
    rw[←HL6.out]at h1
    exact h1
   have HCLP:Hid (∀W,Calls Tryd.prog 45 #[.slice A6 l6 c6] W fun e w'=>e=.returned (.slice A6 l6 l6)∧W=w'):=Lib.hid fun W=>clip_any A6 l6 c6 W HLT.out.1 HLT.out.2 HC6.out
   clear hak
   go_wp2_with (first
    |(go_at_call 43;(with_reducible refine HIZ.out.mono ?_);rintro e w5 ⟨rfl,h1⟩;have HB5:=Lib.hid h1;clear h1 x0 x1 x2 x3)
    |(go_at_call 45;(with_reducible refine (HCLP.out _).mono ?_);rintro e w6 ⟨rfl,rfl⟩))
   refine bodyPost_ret (results_tmp2 rfl _ _ _) rfl ?_
   refine⟨A6,acc,(by rw[←HL6.out];rfl),HDL.out,by rw[←HL6.out];exact HR6.out _ HB5.out,joinB HB1.out (joinB HB14.out (joinB HB.out HB5.out))⟩
  ·rw[hz]at HIZ
   have hnd:=idx_nod.1 hz
   have hnd1:=hnd.1
   have hnd2:=hnd.2
   have hpz:=HPL.out z hnd
   obtain⟨k',rfl⟩:∃k',k=k'+1:=⟨k-1,by
    rcases HCP.out with g| ⟨-,-,g⟩
    ·exact absurd hnd g
    ·omega⟩
   have hTE:T=(acc++[z])++chF (nrf N) n k' (nrf N z):=by
    have h1:=HTQ.out
    unfold chF at h1
    rw[if_pos (show 0≤z∧z<(n:Int) from hnd)]at h1
    rw[h1,List.append_assoc]
    rfl
   have HTE:=Lib.hid hTE
   have HCP2:=Lib.hid (HCP.out.next HNE.out hnd)
   obtain⟨zn,rfl⟩:∃zn:Nat,z=(zn:Int):=⟨z.toNat,by omega⟩
   obtain⟨u,HU⟩:=named (nrf N (zn:Int))
   rw[←HU.out]at HTE HCP2
   have hol:acc.length≤20:=by omega
   clear hTE hpz HTQ HCP hz hnd hsh
   go_wp2_with (first
    |(go_at_call 43;(with_reducible refine HIZ.out.mono ?_);rintro e w5 ⟨rfl,h1⟩;have HST5:=Lib.hid (HST.out.below h1);have HBB5:Hid (Below w4.heap.size w4 w5):=Lib.hid (joinB HB.out h1);have hsz5:w4.heap.size≤w5.heap.size:=Below.size HBB5.out;clear h1 x0 x1 x2 x3)
    |(at_builtin;refine wpList_append_own_at _ rfl _ _ 25 rfl w4.heap.size 3 i1 (.int .i64 0) 1 8 Tryd.underlying25 HI.out.1 HI.out.2.1 HI.out.2.2.1 HI.out.2.2.2 rfl (by decide) _ _ _ rfl (World.ownsRow.alloc HST5.out _) ⟨w5.heap.size,0,none⟩ 1 1 [.int .i64 (zn:Int)] rfl rfl (by have:=one_new w5 (.int .i64 (zn:Int)) 3;simpa using this) (ints_oneCell .i64 [(zn:Int)]) (by unfold maxLen;omega) (by omega) (by simp;omega) ?_;intro v' w6 hown' hgrow hnil hloc;have HF:=Lib.hid (push_own hsz5 HBB5.out HST5.out hown' hgrow);have HZ:=Lib.hid hgrow.size;have y1:=HCN.out w6 HF.out.1 zn (by omega);rw[←HU.out]at y1;clear hown' hgrow hnil hloc))
   go_roundw
   case rel=>exact⟨acc++[(zn:Int)],k',u,rfl,by simp;omega,HTE,HCP2,Lib.hid HF.out.1,Lib.hid HF.out.2⟩
   case measure=>
    obtain⟨A7,c7,hv7,-⟩:=HF.out.2.shape
    rw[hv7]
    simp only[slN,List.length_append,List.length_cons,List.length_nil]
    omega
theorem pinB_le(R:List Bool)(l:List Int):pinB R l≤l.length:=List.countP_le_length
theorem pinB_take{R:List Bool}{l:List Int}{k:Nat}(hk:k<l.length):pinB R (l.take (k+1))=pinB R (l.take k)+(if bat R (l.getD k 0).toNat=true then 1 else 0):=by
 rw[List.take_succ_eq_append_getElem hk,pinB_snoc,List.getD_eq_getElem?_getD,List.getElem?_eq_getElem hk];rfl
set_option maxHeartbeats 4000000 in
theorem meet1_any(n i q7 q8 gR gD B:Nat)(R:List Bool)(DR:Nat→List Int)(W:World)(hi:i<n)(hn:n≤1000000)(hR:BRow W gR R)(hl:R.length=n)(hD:NxR W B gD 0 n DR)(hin:Inr n (DR i))(hm:(DR i).length≤1000000)(c7:W.cell? ⟨q7,0,none⟩=some (.slice (some ⟨gR,0,none⟩) n n))(c8:W.cell? ⟨q8,0,none⟩=some (.slice (some ⟨gD,0,none⟩) n n)):
 Calls Tryd.prog 47 #[.int .i64 (i:Int),.pointer (some ⟨q8,0,none⟩),.pointer (some ⟨q7,0,none⟩)] W fun e w'=>e=.returned (.bool (decide (1<pinB R (DR i))))∧w'=W:=by
 obtain⟨A1,c1',cn,hin2⟩:=hD.2 i hi
 rw[Nat.zero_add]at cn
 obtain⟨A1',b,ob,cb,e,hA1,-,-,hcn⟩:=hin2.opens
 simp only[Value.slice.injEq]at e
 obtain⟨rfl,-,rfl⟩:=e
 obtain⟨l,HL⟩:=named (DR i)
 rw[←HL.out]at cn hcn hA1 hin hm
 rw[←HL.out]
 have HPT:Hid (∀k,k<l.length→pinB R (l.take (k+1))=pinB R (l.take k)+(if bat R (l.getD k 0).toNat=true then 1 else 0)):=Lib.hid fun k hk=>pinB_take hk
 have HPF:Hid (pinB R (l.take l.length)=pinB R l):=Lib.hid (by rw[List.take_length])
 have HPL:Hid (∀k,pinB R (l.take k)≤1000000):=Lib.hid fun k=>Nat.le_trans (pinB_le R _) (Nat.le_trans (by rw[List.length_take];exact Nat.min_le_right _ _) hm)
 have HIN:Hid (∀k,k<l.length→∃z:Nat,z<n∧l.getD k 0=(z:Int)):=Lib.hid fun k hk=>by
  have h1:=hin (l.getD k 0) (by rw[List.getD_eq_getElem?_getD,List.getElem?_eq_getElem hk];exact List.getElem_mem _)
  exact⟨(l.getD k 0).toNat,by omega,by omega⟩
 have HRC:Hid (∀z:Nat,z<n→W.cell? ⟨gR,z,none⟩=some (.bool (bat R z))):=Lib.hid fun z hz=>hR.cell (by unfold bat;rw[List.getD_eq_getElem?_getD,List.getElem?_eq_getElem (by omega)];rfl)
 have HP0:Hid (pinB R (l.take 0)=0):=Lib.hid rfl
 have HCN:=Lib.hid hcn
 have HA1:=Lib.hid hA1
 have hi2:(i:Int)<(n:Int):=by omega
 obtain⟨m,HM⟩:=named l.length
 rw[←HM.out]at cn HCN HA1 HPT HPF HIN hm
 clear hR hl hD hin hin2 hcn hA1
 go_enter Tryd.func47,Tryd.ntmps47
 go_wp2
 go_loopw [5,13] (fun pv iv wr=>∃k:Nat,k≤m∧iv=.int .i64 k∧pv=.int .i64 (pinB R (l.take k):Nat)∧wr=W) (fun _ iv _=>m-(intOf iv).toNat)
 case atStart=>exact⟨0,Nat.zero_le _,rfl,by rw[HP0.out];rfl,rfl⟩
 case round=>
  obtain⟨k,hk,rfl,rfl,rfl⟩:=hrel
  have hpb:=HPL.out k
  by_cases hlt:k<m
  ·have hk2:(k:Int)<(m:Int):=by omega
   obtain rfl:=HA1.out (by omega)
   obtain⟨z,hz,ez⟩:=HIN.out k hlt
   have hc0:=(HCN.out k hlt).2
   have hsu:=HPT.out k hlt
   rw[ez,Int.toNat_natCast]at hsu
   rw[ez]at hc0
   have hcr:=HRC.out z hz
   have hz2:(z:Int)<(n:Int):=by omega
   obtain⟨p1,HP1⟩:=named (pinB R (l.take (k+1)))
   have hpb1:=HPL.out (k+1)
   rw[←HP1.out]at hsu hpb1
   obtain⟨p0,HP0'⟩:=named (pinB R (l.take k))
   rw[←HP0'.out]at hsu hpb
   rw[←HP0'.out]
   obtain⟨t,HT⟩:=named (bat R z)
   rw[←HT.out]at hsu hcr
   clear ez
   cases t
   ·obtain rfl:p1=p0:=by rw[hsu,if_neg (by decide),Nat.add_zero]
    clear hsu HP0'
    go_wp2
    go_roundw
    case rel=>exact⟨k+1,by omega,by go_num,by rw[←HP1.out],trivial⟩
    case measure=>simp[intOf];omega
   ·obtain rfl:p1=p0+1:=by rw[hsu,if_pos rfl]
    clear hsu
    go_wp2
    go_roundw
    case rel=>exact⟨k+1,by omega,by go_num,by rw[←HP1.out];rfl,trivial⟩
    case measure=>simp[intOf];omega
  ·obtain rfl:m=k:=by omega
   have hpf:=HPF.out
   rw[hpf]
   rw[hpf]at hpb
   obtain⟨p,HP⟩:=named (pinB R l)
   rw[←HP.out]at hpb
   rw[←HP.out]
   have hd:decide ((1:Int)<(p:Int))=decide (1<p):=decide_eq_decide.2 (by omega)
   clear hpf
   go_wp2
   go_ret
   exact⟨by rw[←HP.out];simp,rfl⟩
def Y5(CV:Value)(n B:Nat)(x:Int)(RD DR:Nat→List Int)(i:Nat)(v:Value)(W:World):Prop:=
 (i=0→v=.int .i64 x)∧(i=1→∃g,v=.slice (some ⟨g,0,none⟩) 1 1∧Fr W g 3 [.int .i64 x])∧(i=2→v=CV)∧(i=3→∃g xs,v=.slice (some ⟨g,0,none⟩) n n∧NxR W W.heap.size g 0 n RD∧Fr W g 25 xs)∧(i=4→∃g R,v=.slice (some ⟨g,0,none⟩) n n∧BRow W g R∧Vis RD n (List.replicate n false) [x] R)∧(i=5→v=CV)∧(i=6→∃g xs,v=.slice (some ⟨g,0,none⟩) n n∧NxR W W.heap.size g 0 n DR∧Fr W g 25 xs)∧(i=7→∃q,v=.pointer (some ⟨q,0,none⟩)∧B≤q∧Fr W q 41 [.slice none 0 0])∧(i=8→∃q,v=.pointer (some ⟨q,0,none⟩)∧B≤q∧Fr W q 66 [.slice none 0 0])
theorem Y5.next{CV:Value}{n B:Nat}{x:Int}{RD DR:Nat→List Int}(i:Nat)(v:Value)(W W':World)(h:Y5 CV n B x RD DR i v W)(hb:Below W.heap.size W W'):Y5 CV n B x RD DR i v W':=by
 obtain⟨h0,h1,h2,h3,h4,h5,h6,h7,h8⟩:=h
 refine⟨h0,fun e=>?_,h2,fun e=>?_,fun e=>?_,h5,fun e=>?_,fun e=>?_,fun e=>?_⟩
 ·obtain⟨g,a,b⟩:=h1 e;exact⟨g,a,b.below hb⟩
 ·obtain⟨g,xs,a,b,c⟩:=h3 e;exact⟨g,xs,a,b.next hb,c.below hb⟩
 ·obtain⟨g,R,a,b,c⟩:=h4 e;exact⟨g,R,a,b.below hb,c⟩
 ·obtain⟨g,xs,a,b,c⟩:=h6 e;exact⟨g,xs,a,b.next hb,c.below hb⟩
 ·obtain⟨g,a,b,c⟩:=h7 e;exact⟨g,a,b,c.below hb⟩
 ·obtain⟨g,a,b,c⟩:=h8 e;exact⟨g,a,b,c.below hb⟩
theorem Y5.v0{CV v:Value}{n B:Nat}{x:Int}{RD DR:Nat→List Int}{W:World}(h:v=.int .i64 x):Y5 CV n B x RD DR 0 v W:=⟨(fun _=>h),(by simp),(by simp),(by simp),(by simp),(by simp),(by simp),(by simp),(by simp)⟩
theorem Y5.v1{CV v:Value}{n B:Nat}{x:Int}{RD DR:Nat→List Int}{W:World}(h:∃g,v=.slice (some ⟨g,0,none⟩) 1 1∧Fr W g 3 [.int .i64 x]):Y5 CV n B x RD DR 1 v W:=⟨(by simp),(fun _=>h),(by simp),(by simp),(by simp),(by simp),(by simp),(by simp),(by simp)⟩
theorem Y5.v2{CV v:Value}{n B:Nat}{x:Int}{RD DR:Nat→List Int}{W:World}(h:v=CV):Y5 CV n B x RD DR 2 v W:=⟨(by simp),(by simp),(fun _=>h),(by simp),(by simp),(by simp),(by simp),(by simp),(by simp)⟩
theorem Y5.v3{CV v:Value}{n B:Nat}{x:Int}{RD DR:Nat→List Int}{W:World}(h:∃g xs,v=.slice (some ⟨g,0,none⟩) n n∧NxR W W.heap.size g 0 n RD∧Fr W g 25 xs):Y5 CV n B x RD DR 3 v W:=⟨(by simp),(by simp),(by simp),(fun _=>h),(by simp),(by simp),(by simp),(by simp),(by simp)⟩
theorem Y5.v4{CV v:Value}{n B:Nat}{x:Int}{RD DR:Nat→List Int}{W:World}(h:∃g R,v=.slice (some ⟨g,0,none⟩) n n∧BRow W g R∧Vis RD n (List.replicate n false) [x] R):Y5 CV n B x RD DR 4 v W:=⟨(by simp),(by simp),(by simp),(by simp),(fun _=>h),(by simp),(by simp),(by simp),(by simp)⟩
theorem Y5.v5{CV v:Value}{n B:Nat}{x:Int}{RD DR:Nat→List Int}{W:World}(h:v=CV):Y5 CV n B x RD DR 5 v W:=⟨(by simp),(by simp),(by simp),(by simp),(by simp),(fun _=>h),(by simp),(by simp),(by simp)⟩
theorem Y5.v6{CV v:Value}{n B:Nat}{x:Int}{RD DR:Nat→List Int}{W:World}(h:∃g xs,v=.slice (some ⟨g,0,none⟩) n n∧NxR W W.heap.size g 0 n DR∧Fr W g 25 xs):Y5 CV n B x RD DR 6 v W:=⟨(by simp),(by simp),(by simp),(by simp),(by simp),(by simp),(fun _=>h),(by simp),(by simp)⟩
theorem Y5.v7{CV v:Value}{n B:Nat}{x:Int}{RD DR:Nat→List Int}{W:World}(h:∃q,v=.pointer (some ⟨q,0,none⟩)∧B≤q∧Fr W q 41 [.slice none 0 0]):Y5 CV n B x RD DR 7 v W:=⟨(by simp),(by simp),(by simp),(by simp),(by simp),(by simp),(by simp),(fun _=>h),(by simp)⟩
theorem Y5.v8{CV v:Value}{n B:Nat}{x:Int}{RD DR:Nat→List Int}{W:World}(h:∃q,v=.pointer (some ⟨q,0,none⟩)∧B≤q∧Fr W q 66 [.slice none 0 0]):Y5 CV n B x RD DR 8 v W:=⟨(by simp),(by simp),(by simp),(by simp),(by simp),(by simp),(by simp),(by simp),(fun _=>h)⟩
theorem fr_one{w:World}{g:Nat}{x:Int}(h:Fr w g 3 [.int .i64 x]):Is w w.heap.size (.slice (some ⟨g,0,none⟩) 1 1) [x]:=(Fr.row (l:=[x]) h (by show 1≤maxLen;unfold maxLen;decide)).is (by show 1≤maxLen;unfold maxLen;decide)
set_option maxRecDepth 100000 in
set_option maxHeartbeats 8000000 in
theorem meets_ok(c:Ck)(L:List Int)(A0 A1 A2 A3:Option Addr)(n n1 n2 n3 c0 c1 c2 c3:Nat)(w:World)(x:Nat)(hx:x<n)(G:G5 c n L)(hT:Tabs w)(hc:Cir w w.heap.size (.agg #[.slice A0 n c0,.slice A1 n1 c1,.slice A2 n2 c2,.slice A3 n3 c3]) c):
 Calls Tryd.prog 17 #[.agg #[.slice A0 n c0,.slice A1 n1 c1,.slice A2 n2 c2,.slice A3 n3 c3],.int .i64 (x:Int)] w fun e w'=>∃A R T,e=.returned (.tuple #[.slice A T.length T.length,.int .i64 0])∧Vis (rdL c.nodes) n (List.replicate n false) [(x:Int)] R∧T=nwL (fun i=>decide (1<pinB R (dep c.nodes (i:Int)))) n∧Is w' w'.heap.size (.slice A T.length T.length) T∧BelW w w':=by
 obtain⟨W1,HW1⟩:=named (w.alloc (.cells #[.slice A0 n c0,.slice A1 n1 c1,.slice A2 n2 c2,.slice A3 n3 c3] 27))
 have hb1:BelW w W1:=by rw[HW1.out];exact below_new (Below.refl _ _) _
 have hfr:Fr W1 w.heap.size 27 [.slice A0 n c0,.slice A1 n1 c1,.slice A2 n2 c2,.slice A3 n3 c3]:=by rw[HW1.out];exact Fr.made _ _ _ rfl
 obtain⟨q,HQ⟩:=named w.heap.size
 rw[←HQ.out]at hfr
 have HQ2:=Lib.hid HQ.out
 have HCE:Hid (∀W,BelW W1 W→W.cell? ⟨q,0,none⟩=some (.slice A0 n c0)∧W.cell? ⟨q,1,none⟩=some (.slice A1 n1 c1)∧W.cell? ⟨q,2,none⟩=some (.slice A2 n2 c2)∧W.cell? ⟨q,3,none⟩=some (.slice A3 n3 c3)):=Lib.hid fun W h=>⟨(hfr.below h).cell 0,(hfr.below h).cell 1,(hfr.below h).cell 2,(hfr.below h).cell 3⟩
 have HC1:Hid (∀W,BelW W1 W→Cir W W.heap.size (.agg #[.slice A0 n c0,.slice A1 n1 c1,.slice A2 n2 c2,.slice A3 n3 c3]) c):=Lib.hid fun W h=>(hc.below (joinB hb1 h)).more (Below.size (joinB hb1 h))
 obtain⟨V2,HV2⟩:=named (W1.alloc (.cells #[.int .i64 (x:Int)] 3))
 have hv2:BelW W1 V2:=by rw[HV2.out];exact below_new (Below.refl _ _) _
 have hf2:Fr V2 W1.heap.size 3 [.int .i64 (x:Int)]:=by rw[HV2.out];exact Fr.made _ _ _ rfl
 have hck:=check5_any c [(x:Int)] _ A0 A1 A2 A3 n n1 n2 n3 c0 c1 c2 c3 V2 (hT.below (joinB hb1 hv2)) (HC1.out V2 hv2) (fr_one hf2)
 rw[show ckI c [(x:Int)]=0 from by
  unfold ckI
  rw[if_pos G.ok,if_neg]
  intro h
  unfold anyP badI at h
  have:isIdx n (x:Int)=true:=idx_nod.2 ⟨by omega,by omega⟩
  rw[G.len]at h
  simp[this]at h]at hck
 obtain⟨g0,HGG⟩:=named W1.heap.size
 rw[←HGG.out]at hck
 have HCK:=Lib.hid hck
 have HB12:=Lib.hid hv2
 have HGG2:=Lib.hid HGG.out
 have HV22:=Lib.hid HV2.out
 have hn:=G.few
 have HG:=Lib.hid G
 have hrds:∀B W,BelW W1 W→Calls Tryd.prog 42 #[.agg #[.slice A0 n c0,.slice A1 n1 c1,.slice A2 n2 c2,.slice A3 n3 c3]] W fun e w'=>∃v,e=.returned v∧Below W.heap.size W w'∧Y5 (.agg #[.slice A0 n c0,.slice A1 n1 c1,.slice A2 n2 c2,.slice A3 n3 c3]) n B (x:Int) (rdL c.nodes) (fun j=>dep c.nodes (j:Int)) 3 v w':=fun B W h=>by
  refine (readers_own c _ W (HC1.out W h) (by rw[G.len];have:=G.few;omega) G.np).mono fun e w' ⟨g,h1,h2,h3,xs,h4⟩=>?_
  rw[G.len]at h1 h2
  exact⟨_,h1,h3,Y5.v3 ⟨g,xs,rfl,h2,h4⟩⟩
 have hdrs:∀B W,BelW W1 W→Calls Tryd.prog 41 #[.agg #[.slice A0 n c0,.slice A1 n1 c1,.slice A2 n2 c2,.slice A3 n3 c3]] W fun e w'=>∃v,e=.returned v∧Below W.heap.size W w'∧Y5 (.agg #[.slice A0 n c0,.slice A1 n1 c1,.slice A2 n2 c2,.slice A3 n3 c3]) n B (x:Int) (rdL c.nodes) (fun j=>dep c.nodes (j:Int)) 6 v w':=fun B W h=>by
  refine (drivers_own c _ W (HC1.out W h) (by rw[G.len];have:=G.few;omega)).mono fun e w' ⟨g,h1,h2,h3,xs,h4⟩=>?_
  rw[G.len]at h1 h2
  exact⟨_,h1,h3,Y5.v6 ⟨g,xs,rfl,h2,h4⟩⟩
 have hrch:∀B W g g3,Is W W.heap.size (.slice (some ⟨g,0,none⟩) 1 1) [(x:Int)]→NxR W W.heap.size g3 0 n (rdL c.nodes)→Calls Tryd.prog 40 #[.slice (some ⟨g,0,none⟩) 1 1,.slice (some ⟨g3,0,none⟩) n n] W fun e w'=>∃v,e=.returned v∧Below W.heap.size W w'∧Y5 (.agg #[.slice A0 n c0,.slice A1 n1 c1,.slice A2 n2 c2,.slice A3 n3 c3]) n B (x:Int) (rdL c.nodes) (fun j=>dep c.nodes (j:Int)) 4 v w':=fun B W g g3 h1 h2=>by
  refine (reach_any [(x:Int)] _ g3 0 n n (rdL c.nodes) W h1 (fun y hy=>(by have e:y=(x:Int):=(by simpa using hy);omega)) h2 G.inr' (by omega)).mono fun e w' ⟨gR,R,e1,e2,e3,e4⟩=>?_
  exact⟨_,e1,e4,Y5.v4 ⟨gR,R,rfl,e2,e3⟩⟩
 have HRDS:=Lib.hid hrds
 have HDRS:=Lib.hid hdrs
 have HRCH:=Lib.hid hrch
 have HDI:Hid (∀i,i<n→Inr n (dep c.nodes (i:Int))∧(dep c.nodes (i:Int)).length≤1000000):=Lib.hid fun i hi=>⟨G.depi i,Nat.le_trans (G.deps i hi) (by decide)⟩
 obtain⟨RD,HRD⟩:=named (rdL c.nodes)
 obtain⟨DR,HDR⟩:=named (fun j:Nat=>dep c.nodes (j:Int))
 have HDE:Hid (∀j:Nat,dep c.nodes (j:Int)=DR j):=Lib.hid fun j=>by rw[HDR.out]
 rw[←HRD.out,←HDR.out]at HRDS HDRS HRCH
 rw[←HRD.out]
 have HDI2:Hid (∀i,i<n→Inr n (DR i)∧(DR i).length≤1000000):=Lib.hid fun i hi=>by rw[←HDE.out];exact HDI.out i hi
 have HB1:=Lib.hid hb1
 obtain⟨x0,x1,x2,x3⟩:=HCE.out W1 (Below.refl _ _)
 clear hc hb1 hfr hck hT hv2 hf2 HV2 HGG hrds hdrs hrch HDI HDR G
 go_enter Tryd.func17,Tryd.ntmps17
 go_upto_region 1 with (fail)
 rw[←HW1.out,←HQ2.out]
 go_upto_region 2 with (rw[←HV22.out,←HGG2.out];go_at_call 38;(with_reducible refine HCK.out.mono ?_);rintro e w2 ⟨rfl,h3⟩;have HB2:Hid (BelW W1 w2):=Lib.hid (joinB HB12.out h3);clear h3 x0 x1 x2 x3)
 go_upto_region 4 with (fail)
 have HBD:Hid (BelW W1 w2.drew):=Lib.hid (joinB HB2.out (Below.drew (Below.refl _ _)))
 refine AnyX.start (S:=fun _=>True) (t:=10) (by kernel_rfl) ?_
 refine AnyX.factsGo [16,17,18,19,20,21,22,7,8] (Y5 (.agg #[.slice A0 n c0,.slice A1 n1 c1,.slice A2 n2 c2,.slice A3 n3 c3]) n w2.heap.size (x:Int) RD DR) _ _ (by decide) ?hts (by decide) Y5.next (by kernel_rfl) (by kernel_rfl) ?hst ?hdo
 case hts => intro t ht; simp only [List.mem_cons, List.not_mem_nil, or_false] at ht; rcases ht with rfl | rfl | rfl | rfl | rfl | rfl | rfl | rfl | rfl <;> (show _ < Array.size _; simp)
 case hst=>
  intro i t a w' hD hF hB hdep
  have hBW:BelW W1 w':=joinB HBD.out hB
  have hi6:i<9:=(List.getElem?_eq_some_iff.1 hD).1
  obtain⟨y0,y1,y2,y3⟩:=HCE.out w' hBW
  rcases (by omega:i=0∨i=1∨i=2∨i=3∨i=4∨i=5∨i=6∨i=7∨i=8) with rfl|rfl|rfl|rfl|rfl|rfl|rfl|rfl|rfl<;>obtain rfl:=Option.some.inj hD
  ·exact fop_move rfl rfl rfl rfl (by rw[hF.eval (by decide)];rfl) (Y5.v0 rfl)
  ·exact fop_build1 rfl rfl rfl rfl rfl ((hdep _ 0 16 rfl rfl (by kernel_rfl)).1 rfl) fun w' h=>Y5.v1 ⟨_,rfl,h⟩
  ·exact fop_loadC rfl rfl rfl rfl rfl (by rw[hF.eval (by decide)];rfl) y0 y1 y2 y3 (Y5.v2 rfl)
  ·exact fop_call1 rfl rfl rfl rfl (fun _ _=>rfl) ((hdep _ 2 18 rfl rfl (by kernel_rfl)).2.2.1 rfl) (HRDS.out _ w' hBW)
  ·obtain⟨g1,e1,f1⟩:=(hdep _ 1 17 rfl rfl (by kernel_rfl)).2.1 rfl
   obtain⟨g3,xs3,e3,f3,-⟩:=(hdep _ 3 19 rfl rfl (by kernel_rfl)).2.2.2.1 rfl
   exact fop_call2 rfl rfl rfl rfl (fun _ _=>rfl) e1 e3 (HRCH.out _ w' g1 g3 (fr_one f1) f3)
  ·exact fop_loadC rfl rfl rfl rfl rfl (by rw[hF.eval (by decide)];rfl) y0 y1 y2 y3 (Y5.v5 rfl)
  ·exact fop_call1 rfl rfl rfl rfl (fun _ _=>rfl) ((hdep _ 5 21 rfl rfl (by kernel_rfl)).2.2.2.2.2.1 rfl) (HDRS.out _ w' hBW)
  ·exact fop_allocB rfl rfl rfl rfl rfl fun w' h=>Y5.v7 ⟨_,rfl,(by have:=Below.size hB;exact this),h⟩
  ·exact fop_allocR rfl rfl rfl rfl rfl fun w' h=>Y5.v8 ⟨_,rfl,(by have:=Below.size hB;exact this),h⟩
 intro v w3 hb3 hF
 have HB3:=Lib.hid hb3
 have e0:=(hF 0 (by decide)).1 rfl
 obtain⟨g1,e1,-⟩:=(hF 1 (by decide)).2.1 rfl
 have e2:=(hF 2 (by decide)).2.2.1 rfl
 obtain⟨g3,xs3,e3,-,-⟩:=(hF 3 (by decide)).2.2.2.1 rfl
 obtain⟨gR,R,e4,hr4,hv4⟩:=(hF 4 (by decide)).2.2.2.2.1 rfl
 have e5:=(hF 5 (by decide)).2.2.2.2.2.1 rfl
 obtain⟨gD,xs6,e6,hn6,hx6⟩:=(hF 6 (by decide)).2.2.2.2.2.2.1 rfl
 obtain⟨q7,e7,l7,h7⟩:=(hF 7 (by decide)).2.2.2.2.2.2.2.1 rfl
 obtain⟨q8,e8,l8,h8⟩:=(hF 8 (by decide)).2.2.2.2.2.2.2.2 rfl
 have HBX:=Lib.hid (Bx2.made (w0:=w2) (joinB (Below.drew (Below.refl _ _)) hb3) h7 h8 l7 l8 hr4 hn6 hx6)
 have HVI:=Lib.hid hv4
 have HH7:=Lib.hid (And.intro h8 (And.intro (h8.apart5 h7 (by decide)) (And.intro h7 trivial)))
 simp only[putsF,Nat.zero_add,Nat.reduceAdd,e0,e1,e2,e3,e4,e5,e6,e7,e8,Act.put,List.setIfInBounds_toArray,List.set_cons_zero,List.set_cons_succ]
 clear e0 e1 e2 e3 e4 e5 e6 e7 e8 hF hr4 hn6 hx6 hb3 l7 l8 hv4
 have z0:=h7.cell 0
 have z1:=h7.frozen 0
 clear h7 h8
 show AnyX _ _ _ _ _ _ 2 #[true,true,true,true,true,true,true,true,true,false,false] _ _
 refine AnyX.one (i:=9) (o:=⟨none,_,_,_,_,_⟩) (by kernel_rfl) rfl (fun K' hK=>?_)
 have HK:=Lib.hid hK
 clear hK
 go_simp
 refine HK.out _ _ (fun _=>trivial) ?_
 clear HK z0 z1
 (try simp only[Act.put,List.setIfInBounds_toArray,List.set_cons_zero,List.set_cons_succ])
 have z0:=(HH7.out.1.ne_t HH7.out.2.2.1 (by decide) (grown_cell w3 q7 (.slice (some ⟨gR,0,none⟩) n n))).cell 0
 have z1:=(HH7.out.1.ne_t HH7.out.2.2.1 (by decide) (grown_cell w3 q7 (.slice (some ⟨gR,0,none⟩) n n))).frozen 0
 refine AnyX.one (i:=10) (o:=⟨none,_,_,_,_,_⟩) (by kernel_rfl) rfl (fun K' hK=>?_)
 have HK:=Lib.hid hK
 clear hK
 go_simp
 refine HK.out _ _ (fun h=>absurd rfl h) ?_
 clear HK z0 z1 HH7
 (try simp only[Act.put,List.setIfInBounds_toArray,List.set_cons_zero,List.set_cons_succ])
 refine AnyX.done (by kernel_rfl) ?_ _
 obtain⟨W4,HW4⟩:=named ((w3.setCell ⟨q7,0,none⟩ (.slice (some ⟨gR,0,none⟩) n n)).setCell ⟨q8,0,none⟩ (.slice (some ⟨gD,0,none⟩) n n))
 rw[←HW4.out]at HBX
 rw[←HW4.out]
 clear HW4 HB3 HBD
 have HNW:=Lib.hid (nw_meet n (fun i=>decide (1<pinB R (DR i))) q8 q7 W4 (by omega) fun W h i hi=>by
  have h9:=HBX.out.next h
  exact meet1_any n i q7 q8 gR gD W.heap.size R DR W hi (by omega) h9.row HVI.out.len h9.nxt (HDI2.out i hi).1 (HDI2.out i hi).2 (h9.b6.cell 0) (h9.b7.cell 0))
 have y8:W4.cell? ⟨q8,0,none⟩=some (.slice (some ⟨gD,0,none⟩) n n):=HBX.out.b7.cell 0
 obtain⟨T,HT⟩:=named (nwL (fun i=>decide (1<pinB R (DR i))) n)
 rw[←HT.out]at HNW
 unfold OfPost at HNW
 have HTT:Hid (T=nwL (fun i=>decide (1<pinB R (dep c.nodes (i:Int)))) n):=Lib.hid (by
  rw[HT.out]
  congr 1
  funext i
  rw[HDE.out])
 clear HT
 go_wp2_with (go_at_call 46;(with_reducible refine HNW.out.mono ?_);rintro e w5 ⟨A5,rfl,h1,h2⟩;have H1:=Lib.hid h1;have HB5:=Lib.hid h2;clear h1 h2)
 refine bodyPost_ret (results_tmp2 rfl _ _ _) rfl ?_
 exact⟨A5,R,T,rfl,HVI.out,HTT.out,H1.out,joinB HB1.out (joinB HB2.out (joinB HBX.out.bel HB5.out))⟩
end Go.Proofs.YtckgnoopjapknaaDoor
