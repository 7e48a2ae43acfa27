/- The texts Kra Krs. -/
import Derived.Test.YtckgnoopjapknaaDoorM34
import Derived.Test.YtckgnoopjapknaaDoorM21
namespace Go.Proofs.YtckgnoopjapknaaDoor
open Go.RowKit
theorem rds_mem{nodes:List Nd}{i k:Nat}(hi:i<nodes.length):0<rds nodes i (k:Int)↔(i:Int)∈rdL nodes k:=by
 unfold rds
 rw[List.count_pos_iff,mem_rdL]
 have e:dep nodes (i:Int)=depsOf (nodes.getD i default):=by unfold dep;rw[Int.toNat_natCast]
 rw[e]
 exact⟨fun h=>⟨by omega,by omega,h⟩,fun h=>h.2.2⟩
set_option maxRecDepth 100000 in
set_option maxHeartbeats 8000000 in
theorem reach5_any(c:Ck)(L:List Int)(A0 A1 A2 A3:Option Addr)(n n1 n2 n3 c0 c1 c2 c3:Nat)(w:World)(hc:Cir w w.heap.size (.agg #[.slice A0 n c0,.slice A1 n1 c1,.slice A2 n2 c2,.slice A3 n3 c3]) c)(f:Nat)(nt:Int)(hf:f<n)(hsz:n≤1000000)
 (hl0:∀j:Nat,j<n→0≤lat L j) (hl1:∀j:Nat,j<n→lat L j<(n:Int)) (hl2:∀x y:Nat,x<n→(y:Int)∈rdL c.nodes x→lat L x<lat L y):
 Calls Tryd.prog 25 #[.agg #[.slice A0 n c0,.slice A1 n1 c1,.slice A2 n2 c2,.slice A3 n3 c3],.int .i64 (f:Int),.int .i64 nt] w fun e w'=>∃g R,e=.returned (.slice (some ⟨g,0,none⟩) n n)∧BRow w' g R∧R.length=n∧(∀j:Nat,bat R j=true↔Rv (fun x:Int=>rdL c.nodes x.toNat) nt (f:Int) (j:Int))∧BelW w w':=by
 have hn:=cir_len hc
 have hnf:Nod n (f:Int):=⟨by omega,by omega⟩
 have hin:∀x,Nod n x→Inr n ((fun x:Int=>rdL c.nodes x.toNat) x):=fun x _=>by rw[←hn];exact rdL_inr c.nodes x.toNat
 have hl3:∀x y:Nat,x<n→(y:Int)∈(fun x:Int=>rdL c.nodes x.toNat) (x:Int)→lat L x<lat L y:=fun x y h1 h2=>hl2 x y h1 (by simpa using h2)
 obtain⟨nx,HNX⟩:=named (fun x:Int=>rdL c.nodes x.toNat)
 have HRM:Hid (∀i k:Nat,i<n→(0<rds c.nodes i (k:Int)↔(i:Int)∈nx (k:Int))):=Lib.hid fun i k hi=>by
  rw[rds_mem (by omega),HNX.out]
  simp
 rw[←HNX.out]at hin hl3
 rw[←HNX.out]
 have HST:Hid (∀R0 r R,Rc nx n L nt f r R0→Ri nx n nt f R0 n 0 R→Rc nx n L nt f (r+1) R):=Lib.hid fun R0 r R h0 h=>Ri.stop h0 hnf hin hl3 h
 have HAL:Hid (∀R,Rc nx n L nt f n R→∀j:Nat,bat R j=true↔Rv nx nt (f:Int) (j:Int)):=Lib.hid fun R h j=>h.all hnf hin hl1 j
 obtain⟨t,HT⟩:=named ((f:Int) != nt)
 have HS0:Hid (Rc nx n L nt f 0 ((List.replicate n false).set f t)):=Lib.hid (by
  have:=Rc.start (nx:=nx) (L:=L) (nt:=nt) hnf hl0 hin (b:=t) (by rw[HT.out];simp[bne,BEq.beq])
  simpa using this)
 obtain⟨W1,HW1⟩:=named (w.alloc (.cells #[.slice A0 n c0,.slice A1 n1 c1,.slice A2 n2 c2,.slice A3 n3 c3] 27))
 have hb1:BelW w W1:=by rw[HW1.out];exact below_new (Below.refl _ _) _
 have hfr:Fr W1 w.heap.size 27 [.slice A0 n c0,.slice A1 n1 c1,.slice A2 n2 c2,.slice A3 n3 c3]:=by rw[HW1.out];exact Fr.made _ _ _ rfl
 obtain⟨q,HQ⟩:=named w.heap.size
 rw[←HQ.out]at hfr
 have HQ2:=Lib.hid HQ.out
 have HF:=Lib.hid hfr
 have HCE:Hid (∀W,BelW W1 W→W.cell? ⟨q,0,none⟩=some (.slice A0 n c0)∧W.cell? ⟨q,1,none⟩=some (.slice A1 n1 c1)∧W.cell? ⟨q,2,none⟩=some (.slice A2 n2 c2)∧W.cell? ⟨q,3,none⟩=some (.slice A3 n3 c3)):=Lib.hid fun W h=>⟨(hfr.below h).cell 0,(hfr.below h).cell 1,(hfr.below h).cell 2,(hfr.below h).cell 3⟩
 have HRDS:Hid (∀W,BelW W1 W→∀i k:Nat,i<n→Calls Tryd.prog 53 #[.agg #[.slice A0 n c0,.slice A1 n1 c1,.slice A2 n2 c2,.slice A3 n3 c3],.int .i64 (i:Int),.int .i64 (k:Int)] W fun e w'=>e=.returned (.int .i64 (rds c.nodes i (k:Int):Nat))∧BelW W w'):=Lib.hid fun W h i k hi=>reads5_any c A0 A1 A2 A3 n n1 n2 n3 c0 c1 c2 c3 W ((hc.below (joinB hb1 h)).more (Below.size (joinB hb1 h))) i (k:Int) hi
 obtain⟨g,HG⟩:=named W1.heap.size
 have HG2:=Lib.hid HG.out
 have HB1:=Lib.hid hb1
 obtain⟨i0,hi,hz0,hz1',hz2⟩:=info_parts info_bool
 have HI:=Lib.hid (And.intro hi (And.intro hz0 (And.intro hz1' hz2)))
 obtain⟨x0,x1,x2,x3⟩:=HCE.out W1 (Below.refl _ _)
 have hf2:(f:Int)<(n:Int):=by omega
 have q0:=HT.out.symm
 clear hi hz0 hz1' hz2 hc hnf hin hl0 hl1 hl2 hl3 hb1 hfr hn HNX
 go_enter Tryd.func25,Tryd.ntmps25
 go_upto_region 1 with (fail)
 rw[←HW1.out,←HQ2.out]
 go_upto_region 2 with (at_make;refine wpList_make_full _ rfl _ _ 41 rfl W1.heap.size 4 i0 (.bool false) 1 Tryd.underlying41 HI.out.1 HI.out.2.1 HI.out.2.2.1 .i64 .i64 _ _ n rfl rfl rfl rfl ?b2 ?b3 ?b4 ?_)
 case b2=>rw[HI.out.2.2.2];omega
 case b3=>unfold maxLen;omega
 case b4=>exact Nat.le_refl _
 intro w2 hown hgr
 rw[made_false]at hown
 rw[←HG2.out]at hown
 have hR:BRow w2 g (List.replicate n false):=by unfold BRow;rw[List.length_replicate];exact hown
 have hb2:BelW W1 w2:=(Below.refl _ _).grown hgr (Nat.le_refl _) (fun k h=>by cases h)
 have e3:=hR.frozen f
 rw[←HG2.out]
 obtain⟨W3,HW3⟩:=named (w2.setCell ⟨g,f,none⟩ (.bool t))
 have HR3:Hid (BRow W3 g ((List.replicate n false).set f t)):=Lib.hid (by rw[HW3.out];exact hR.set f t)
 have HB3:Hid (BelW W1 W3):=Lib.hid (by rw[HW3.out];exact hb2.setCell (p:=⟨g,f,none⟩) (by rw[HG2.out];exact Nat.le_refl _) _)
 have e4:w2.cell? ⟨g,f,none⟩=some (.bool false):=hR.cell (by rw[List.getElem?_replicate,if_pos hf])
 clear hown hgr hR hb2 x0 x1 x2 x3
 go_upto_region 3 with (fail)
 (try rw[←HW3.out])
 clear e3 e4 q0
 go_wp2
 go_loopw [8] (fun i wr=>∃(r:Nat) (R:List Bool),r≤n∧i=.int .i64 r∧Hid (BRow wr g R)∧Hid (BelW W1 wr)∧Hid (Rc nx n L nt f r R)) (fun i _=>n-(intOf i).toNat)
 case atStart=>exact⟨0,_,Nat.zero_le _,rfl,HR3,HB3,HS0⟩
 case round=>
  clear HS0 HR3 HB3
  obtain⟨r,R0,hr,rfl,HBR,HBW,HRC⟩:=hrel
  obtain⟨x0,-⟩:=HCE.out wr HBW.out
  by_cases hlt:r<n
  ·have hr2:(r:Int)<(n:Int):=by omega
   have HRI:=Lib.hid (Ri.start HRC.out)
   go_wp2
   go_loopw [9] (fun i wr=>∃(j:Nat) (R:List Bool),j≤n∧i=.int .i64 j∧Hid (BRow wr g R)∧Hid (BelW W1 wr)∧Hid (Ri nx n nt f R0 j 0 R)) (fun i _=>n-(intOf i).toNat)
   case atStart=>exact⟨0,R0,Nat.zero_le _,rfl,HBR,HBW,HRI⟩
   case round=>
    clear HRI HBR HBW x0
    obtain⟨j,R1,hj,rfl,HBR,HBW,HRI⟩:=hrel
    obtain⟨x0,-⟩:=HCE.out wr HBW.out
    by_cases hjl:j<n
    ·have hj2:(j:Int)<(n:Int):=by omega
     go_wp2
     go_loopw [10] (fun i wr=>∃(k:Nat) (R:List Bool),k≤n∧i=.int .i64 k∧Hid (BRow wr g R)∧Hid (BelW W1 wr)∧Hid (Ri nx n nt f R0 j k R)) (fun i _=>n-(intOf i).toNat)
     case atStart=>exact⟨0,R1,Nat.zero_le _,rfl,HBR,HBW,HRI⟩
     case round=>
      clear HRI HBR HBW x0
      obtain⟨k,R,hk,rfl,HBR,HBW,HRI⟩:=hrel
      obtain⟨x0,x1,x2,x3⟩:=HCE.out wr HBW.out
      by_cases hkl:k<n
      ·have hk2:(k:Int)<(n:Int):=by omega
       have hlen:=HRI.out.len
       obtain⟨y,HY⟩:=named (bat R k)
       have e2:wr.cell? ⟨g,k,none⟩=some (.bool y):=HBR.out.cell (by rw[HY.out,List.getElem?_eq_getElem (by omega)];unfold bat;rw[List.getD_eq_getElem?_getD,List.getElem?_eq_getElem (by omega)];rfl)
       have HY2:=Lib.hid HY.out.symm
       clear HY hlen
       cases y
       ·have HK:Hid (Ri nx n nt f R0 j (k+1) R):=Lib.hid (HRI.out.keep fun h=>by rw[HY2.out]at h;exact absurd h.1 (by decide))
        clear HY2
        go_wp2
        go_roundw
        case rel=>exact⟨k+1,R,by omega,by go_num,HBR,HBW,HK⟩
        case measure=>simp[intOf];omega
       ·cases hv:((j:Int) != nt)
        ·have HK:Hid (Ri nx n nt f R0 j (k+1) R):=Lib.hid (HRI.out.keep fun h=>by
          have:=h.2.1
          simp at hv
          exact this hv)
         clear HY2
         go_wp2
         go_roundw
         case rel=>exact⟨k+1,R,by omega,by go_num,HBR,HBW,HK⟩
         case measure=>simp[intOf];omega
        ·have HNE:Hid ((j:Int)≠nt):=Lib.hid (by simpa using hv)
         have HM:=Lib.hid (HRM.out j k hjl)
         have HRD:=Lib.hid (HRDS.out wr HBW.out j k hjl)
         obtain⟨m,HMM⟩:=named (rds c.nodes j (k:Int))
         rw[←HMM.out]at HM HRD
         clear HMM
         by_cases hm:0<m
         ·have hm2:(0:Int)<(m:Int):=by omega
          have HK:Hid (Ri nx n nt f R0 j (k+1) (R.set j true)):=Lib.hid (HRI.out.put hjl HY2.out HNE.out (HM.out.1 hm))
          clear HM HY2 HNE
          go_upto_region 13 with (go_at_call 53;(with_reducible refine HRD.out.mono ?_);rintro e w5 ⟨rfl,hb⟩;have hB5:=HBR.out.below hb;have e3:=hB5.frozen j;have HB5:=Lib.hid hB5;have HBW5:Hid (BelW W1 w5):=Lib.hid (joinB HBW.out hb);clear hb hB5 x0 x1 x2 x3 e2)
          have HB6:Hid (BRow (w5.setCell ⟨g,j,none⟩ (.bool true)) g (R.set j true)):=Lib.hid (HB5.out.set j true)
          have HBW6:Hid (BelW W1 (w5.setCell ⟨g,j,none⟩ (.bool true))):=Lib.hid (HBW5.out.setCell (p:=⟨g,j,none⟩) (by rw[HG2.out];exact Nat.le_refl _) _)
          obtain⟨y2,e4⟩:∃y2,w5.cell? ⟨g,j,none⟩=some (.bool y2):=⟨_,HB5.out.cell (List.getElem?_eq_getElem (by rw[HRI.out.len];exact hjl))⟩
          go_wp2
          go_roundw
          case rel=>exact⟨k+1,_,by omega,by go_num,HB6,HBW6,HK⟩
          case measure=>simp[intOf];omega
         ·obtain rfl:m=0:=by omega
          have HK:Hid (Ri nx n nt f R0 j (k+1) R):=Lib.hid (HRI.out.keep fun h=>absurd (HM.out.2 h.2.2) (Nat.lt_irrefl 0))
          clear HM HY2 HNE
          go_wp2_with (go_at_call 53;(with_reducible refine HRD.out.mono ?_);rintro e w5 ⟨rfl,hb⟩;have HB5:Hid (BRow w5 g R):=Lib.hid (HBR.out.below hb);have HBW5:Hid (BelW W1 w5):=Lib.hid (joinB HBW.out hb);clear hb x0 x1 x2 x3 e2)
          go_roundw
          case rel=>exact⟨k+1,R,by omega,by go_num,HB5,HBW5,HK⟩
          case measure=>simp[intOf];omega
      ·obtain rfl:n=k:=by omega
       have HRW:=Lib.hid HRI.out.row
       go_wp2
       go_roundw
       case rel=>exact⟨j+1,R,by omega,by go_num,HBR,HBW,HRW⟩
       case measure=>simp[intOf];omega
    ·obtain rfl:n=j:=by omega
     have HNX:=Lib.hid (HST.out R0 r R1 HRC.out HRI.out)
     go_wp2
     go_roundw
     case rel=>exact⟨r+1,R1,by omega,by go_num,HBR,HBW,HNX⟩
     case measure=>simp[intOf];omega
  ·obtain rfl:n=r:=by omega
   have HEN:=Lib.hid (HAL.out R0 HRC.out)
   have HLN:=Lib.hid HRC.out.len
   go_wp2
   go_ret
   exact⟨g,R0,rfl,HBR.out,HLN.out,HEN.out,joinB HB1.out HBW.out⟩
def PtsC(c:Ck)(v:Value)(n:Nat)(w:World):Prop:=∀W,BelW w W→Calls Tryd.prog 23 #[v] W fun e w'=>∃g,e=.returned (.slice (some ⟨g,0,none⟩) n n)∧BRow w' g (ptB c)∧BelW W w'
set_option maxRecDepth 100000 in
set_option maxHeartbeats 8000000 in
theorem seen5_any(c:Ck)(L:List Int)(A0 A1 A2 A3:Option Addr)(n n1 n2 n3 c0 c1 c2 c3:Nat)(w:World)(hc:Cir w w.heap.size (.agg #[.slice A0 n c0,.slice A1 n1 c1,.slice A2 n2 c2,.slice A3 n3 c3]) c)(hpt:PtsC c (.agg #[.slice A0 n c0,.slice A1 n1 c1,.slice A2 n2 c2,.slice A3 n3 c3]) n w)(f:Nat)(nt:Int)(hf:f<n)(hsz:n≤1000000)
 (hl0:∀j:Nat,j<n→0≤lat L j) (hl1:∀j:Nat,j<n→lat L j<(n:Int)) (hl2:∀x y:Nat,x<n→(y:Int)∈rdL c.nodes x→lat L x<lat L y):
 Calls Tryd.prog 31 #[.agg #[.slice A0 n c0,.slice A1 n1 c1,.slice A2 n2 c2,.slice A3 n3 c3],.int .i64 (f:Int),.int .i64 nt] w fun e w'=>∃b:Bool,e=.returned (.bool b)∧(b=true↔Sn (fun x:Int=>rdL c.nodes x.toNat) (fun x:Int=>bat (ptB c) x.toNat=true) nt (f:Int))∧BelW w w':=by
 have hn:=cir_len hc
 have hnf:Nod n (f:Int):=⟨by omega,by omega⟩
 have hin:∀x,Nod n x→Inr n ((fun x:Int=>rdL c.nodes x.toNat) x):=fun x _=>by rw[←hn];exact rdL_inr c.nodes x.toNat
 have HYES:Hid (∀R,(∀j:Nat,bat R j=true↔Rv (fun x:Int=>rdL c.nodes x.toNat) nt (f:Int) (j:Int))→∀k:Nat,bat R k=true→bat (ptB c) k=true→Sn (fun x:Int=>rdL c.nodes x.toNat) (fun x:Int=>bat (ptB c) x.toNat=true) nt (f:Int)):=Lib.hid fun R h k h1 h2=>sn_iff.2 ⟨_,(h k).1 h1,by simpa using h2⟩
 have HNO:Hid (∀R,(∀j:Nat,bat R j=true↔Rv (fun x:Int=>rdL c.nodes x.toNat) nt (f:Int) (j:Int))→(∀k:Nat,k<n→¬(bat R k=true∧bat (ptB c) k=true))→¬Sn (fun x:Int=>rdL c.nodes x.toNat) (fun x:Int=>bat (ptB c) x.toNat=true) nt (f:Int)):=Lib.hid fun R h h2 hs=>by
  obtain⟨x,h3,h4⟩:=sn_iff.1 hs
  have h5:=h3.nod hnf hin
  have e:((x.toNat:Nat):Int)=x:=Int.toNat_of_nonneg h5.1
  have h5b:=h5.2
  refine h2 x.toNat (by omega) ⟨(h _).2 (by rw[e];exact h3),h4⟩
 obtain⟨S,HSN⟩:=named (Sn (fun x:Int=>rdL c.nodes x.toNat) (fun x:Int=>bat (ptB c) x.toNat=true) nt (f:Int))
 rw[←HSN.out]at HYES HNO
 rw[←HSN.out]
 clear HSN
 obtain⟨W1,HW1⟩:=named (w.alloc (.cells #[.slice A0 n c0,.slice A1 n1 c1,.slice A2 n2 c2,.slice A3 n3 c3] 27))
 have hb1:BelW w W1:=by rw[HW1.out];exact below_new (Below.refl _ _) _
 have hfr:Fr W1 w.heap.size 27 [.slice A0 n c0,.slice A1 n1 c1,.slice A2 n2 c2,.slice A3 n3 c3]:=by rw[HW1.out];exact Fr.made _ _ _ rfl
 obtain⟨q,HQ⟩:=named w.heap.size
 rw[←HQ.out]at hfr
 have HQ2:=Lib.hid HQ.out
 have HCE:Hid (∀W,BelW W1 W→W.cell? ⟨q,0,none⟩=some (.slice A0 n c0)∧W.cell? ⟨q,1,none⟩=some (.slice A1 n1 c1)∧W.cell? ⟨q,2,none⟩=some (.slice A2 n2 c2)∧W.cell? ⟨q,3,none⟩=some (.slice A3 n3 c3)):=Lib.hid fun W h=>⟨(hfr.below h).cell 0,(hfr.below h).cell 1,(hfr.below h).cell 2,(hfr.below h).cell 3⟩
 have HRE:=Lib.hid (reach5_any c L A0 A1 A2 A3 n n1 n2 n3 c0 c1 c2 c3 W1 ((hc.below hb1).more (Below.size hb1)) f nt hf hsz hl0 hl1 hl2)
 have HPT:Hid (∀W,BelW W1 W→Calls Tryd.prog 23 #[.agg #[.slice A0 n c0,.slice A1 n1 c1,.slice A2 n2 c2,.slice A3 n3 c3]] W fun e w'=>∃g,e=.returned (.slice (some ⟨g,0,none⟩) n n)∧BRow w' g (ptB c)∧BelW W w'):=Lib.hid fun W h=>hpt W (joinB hb1 h)
 have HPL:Hid ((ptB c).length=n):=Lib.hid (by rw[ptB_len,hn])
 have HB1:=Lib.hid hb1
 obtain⟨x0,x1,x2,x3⟩:=HCE.out W1 (Below.refl _ _)
 clear hc hpt hnf hin hl0 hl1 hl2 hb1 hfr hn
 go_enter Tryd.func31,Tryd.ntmps31
 go_upto_region 1 with (fail)
 rw[←HW1.out,←HQ2.out]
 go_upto_region 2 with (go_at_call 25;(with_reducible refine HRE.out.mono ?_);rintro e w2 ⟨g1,R,rfl,h1,h2,h3,h4⟩;have HR1:=Lib.hid h1;have HRL:=Lib.hid h2;have HRV:=Lib.hid h3;have HB2:=Lib.hid h4;clear h1 h2 h3 h4 x0 x1 x2 x3)
 obtain⟨x0,x1,x2,x3⟩:=HCE.out w2 HB2.out
 obtain⟨PB,HPB⟩:=named (ptB c)
 have HY:=Lib.hid (HYES.out R HRV.out)
 have HN:=Lib.hid (HNO.out R HRV.out)
 rw[←HPB.out]at HPT HPL HY HN
 clear HYES HNO HPB HRV
 go_upto_region 3 with (go_at_call 23;(with_reducible refine (HPT.out w2 HB2.out).mono ?_);rintro e w3 ⟨g2,rfl,h1,h2⟩;have HP1:=Lib.hid h1;have HR2:Hid (BRow w3 g1 R):=Lib.hid (HR1.out.below h2);have HB3:Hid (BelW W1 w3):=Lib.hid (joinB HB2.out h2);clear h1 h2 x0 x1 x2 x3)
 clear HR1 HB2 HPT HRE
 go_wp2
 go_loopw [9] (fun i wr=>∃k:Nat,k≤n∧i=.int .i64 k∧Hid (∀j:Nat,j<k→¬(bat R j=true∧bat PB j=true))∧Hid (BRow wr g1 R)∧Hid (BRow wr g2 PB)∧Hid (BelW W1 wr)) (fun i _=>n-(intOf i).toNat)
 case atStart=>exact⟨0,Nat.zero_le _,rfl,Lib.hid (fun j hj=>absurd hj (Nat.not_lt_zero j)),HR2,HP1,HB3⟩
 case round=>
  clear HR2 HP1 HB3
  obtain⟨k,hk,rfl,HK,HR,HP,HB⟩:=hrel
  by_cases hlt:k<n
  ·have hk2:(k:Int)<(n:Int):=by omega
   have hl1:=HRL.out
   have hl2:=HPL.out
   obtain⟨a,HA⟩:=named (bat R k)
   obtain⟨b,HBB⟩:=named (bat PB k)
   have e1:wr.cell? ⟨g1,k,none⟩=some (.bool a):=HR.out.cell (by rw[HA.out,List.getElem?_eq_getElem (by omega)];unfold bat;rw[List.getD_eq_getElem?_getD,List.getElem?_eq_getElem (by omega)];rfl)
   have e2:wr.cell? ⟨g2,k,none⟩=some (.bool b):=HP.out.cell (by rw[HBB.out,List.getElem?_eq_getElem (by omega)];unfold bat;rw[List.getD_eq_getElem?_getD,List.getElem?_eq_getElem (by omega)];rfl)
   have HNX:Hid (¬(a=true∧b=true)→∀j:Nat,j<k+1→¬(bat R j=true∧bat PB j=true)):=Lib.hid fun h j hj=>by
    rcases Nat.lt_or_ge j k with h1|h1
    ·exact HK.out j h1
    ·obtain rfl:j=k:=by omega
     rw[←HA.out,←HBB.out];exact h
   have HYS:Hid (a=true→b=true→S):=Lib.hid fun h1 h2=>HY.out k (by rw[←HA.out];exact h1) (by rw[←HBB.out];exact h2)
   clear HA HBB HK hl1 hl2
   cases a
   ·have HN1:=Lib.hid (HNX.out (by simp))
    clear HNX HYS
    go_wp2
    go_roundw
    case rel=>exact⟨k+1,by omega,by go_num,HN1,HR,HP,HB⟩
    case measure=>simp[intOf];omega
   ·cases b
    ·have HN1:=Lib.hid (HNX.out (by simp))
     clear HNX HYS
     go_wp2
     go_roundw
     case rel=>exact⟨k+1,by omega,by go_num,HN1,HR,HP,HB⟩
     case measure=>simp[intOf];omega
    ·have HS:=Lib.hid (HYS.out rfl rfl)
     clear HNX HYS
     go_wp2
     go_ret
     exact⟨true,rfl,⟨fun _=>HS.out,fun _=>rfl⟩,joinB HB1.out HB.out⟩
  ·obtain rfl:n=k:=by omega
   have HS:=Lib.hid (HN.out HK.out)
   go_wp2
   go_ret
   exact⟨false,rfl,⟨(fun h=>by cases h),fun h=>absurd h HS.out⟩,joinB HB1.out HB.out⟩
set_option maxRecDepth 100000 in
set_option maxHeartbeats 8000000 in
theorem dom5_any(c:Ck)(L:List Int)(A0 A1 A2 A3:Option Addr)(n n1 n2 n3 c0 c1 c2 c3:Nat)(w:World)(hc:Cir w w.heap.size (.agg #[.slice A0 n c0,.slice A1 n1 c1,.slice A2 n2 c2,.slice A3 n3 c3]) c)(hpt:PtsC c (.agg #[.slice A0 n c0,.slice A1 n1 c1,.slice A2 n2 c2,.slice A3 n3 c3]) n w)(f:Nat)(hf:f<n)(hsz:n≤1000000)
 (hl0:∀j:Nat,j<n→0≤lat L j) (hl1:∀j:Nat,j<n→lat L j<(n:Int)) (hl2:∀x y:Nat,x<n→(y:Int)∈rdL c.nodes x→lat L x<lat L y):
 Calls Tryd.prog 26 #[.agg #[.slice A0 n c0,.slice A1 n1 c1,.slice A2 n2 c2,.slice A3 n3 c3],.int .i64 (f:Int)] w fun e w'=>∃g R,e=.returned (.slice (some ⟨g,0,none⟩) n n)∧BRow w' g R∧R.length=n∧(∀i:Nat,i<n→(bat R i=true↔i≠f∧Sn (fun x:Int=>rdL c.nodes x.toNat) (fun x:Int=>bat (ptB c) x.toNat=true) (-1) (f:Int)∧¬Sn (fun x:Int=>rdL c.nodes x.toNat) (fun x:Int=>bat (ptB c) x.toNat=true) (i:Int) (f:Int)))∧BelW w w':=by
 obtain⟨W1,HW1⟩:=named (w.alloc (.cells #[.slice A0 n c0,.slice A1 n1 c1,.slice A2 n2 c2,.slice A3 n3 c3] 27))
 have hb1:BelW w W1:=by rw[HW1.out];exact below_new (Below.refl _ _) _
 have hfr:Fr W1 w.heap.size 27 [.slice A0 n c0,.slice A1 n1 c1,.slice A2 n2 c2,.slice A3 n3 c3]:=by rw[HW1.out];exact Fr.made _ _ _ rfl
 obtain⟨q,HQ⟩:=named w.heap.size
 rw[←HQ.out]at hfr
 have HQ2:=Lib.hid HQ.out
 have HCE:Hid (∀W,BelW W1 W→W.cell? ⟨q,0,none⟩=some (.slice A0 n c0)∧W.cell? ⟨q,1,none⟩=some (.slice A1 n1 c1)∧W.cell? ⟨q,2,none⟩=some (.slice A2 n2 c2)∧W.cell? ⟨q,3,none⟩=some (.slice A3 n3 c3)):=Lib.hid fun W h=>⟨(hfr.below h).cell 0,(hfr.below h).cell 1,(hfr.below h).cell 2,(hfr.below h).cell 3⟩
 obtain⟨S,HSN⟩:=named (fun nt:Int=>Sn (fun x:Int=>rdL c.nodes x.toNat) (fun x:Int=>bat (ptB c) x.toNat=true) nt (f:Int))
 have HSE:Hid (∀W,BelW W1 W→∀nt:Int,Calls Tryd.prog 31 #[.agg #[.slice A0 n c0,.slice A1 n1 c1,.slice A2 n2 c2,.slice A3 n3 c3],.int .i64 (f:Int),.int .i64 nt] W fun e w'=>∃b:Bool,e=.returned (.bool b)∧(b=true↔S nt)∧BelW W w'):=Lib.hid fun W h nt=>by
  rw[HSN.out]
  exact seen5_any c L A0 A1 A2 A3 n n1 n2 n3 c0 c1 c2 c3 W ((hc.below (joinB hb1 h)).more (Below.size (joinB hb1 h))) (fun W' h'=>hpt W' (joinB (joinB hb1 h) h')) f nt hf hsz hl0 hl1 hl2
 have HGL:Hid (∀R:List Bool,(∀i:Nat,i<n→(bat R i=true↔i≠f∧S (-1)∧¬S (i:Int)))→∀i:Nat,i<n→(bat R i=true↔i≠f∧Sn (fun x:Int=>rdL c.nodes x.toNat) (fun x:Int=>bat (ptB c) x.toNat=true) (-1) (f:Int)∧¬Sn (fun x:Int=>rdL c.nodes x.toNat) (fun x:Int=>bat (ptB c) x.toNat=true) (i:Int) (f:Int))):=Lib.hid fun R h=>by rw[HSN.out]at h;exact h
 obtain⟨g,HG⟩:=named W1.heap.size
 have HG2:=Lib.hid HG.out
 have HB1:=Lib.hid hb1
 obtain⟨i0,hi,hz0,hz1',hz2⟩:=info_parts info_bool
 have HI:=Lib.hid (And.intro hi (And.intro hz0 (And.intro hz1' hz2)))
 obtain⟨x0,x1,x2,x3⟩:=HCE.out W1 (Below.refl _ _)
 have hf2:(f:Int)<(n:Int):=by omega
 clear hi hz0 hz1' hz2 hc hpt hl0 hl1 hl2 hb1 hfr HSN
 go_enter Tryd.func26,Tryd.ntmps26
 go_upto_region 1 with (fail)
 rw[←HW1.out,←HQ2.out]
 go_upto_region 2 with (at_make;refine wpList_make_full _ rfl _ _ 41 rfl W1.heap.size 4 i0 (.bool false) 1 Tryd.underlying41 HI.out.1 HI.out.2.1 HI.out.2.2.1 .i64 .i64 _ _ n rfl rfl rfl rfl ?b2 ?b3 ?b4 ?_)
 case b2=>rw[HI.out.2.2.2];omega
 case b3=>unfold maxLen;omega
 case b4=>exact Nat.le_refl _
 intro w2 hown hgr
 rw[made_false]at hown
 rw[←HG2.out]at hown
 have HR3:Hid (BRow w2 g (List.replicate n false)):=Lib.hid (by unfold BRow;rw[List.length_replicate];exact hown)
 have HB3:Hid (BelW W1 w2):=Lib.hid ((Below.refl _ _).grown hgr (Nat.le_refl _) (fun k h=>by cases h))
 rw[←HG2.out]
 clear hown hgr x0 x1 x2 x3
 go_wp2
 go_loopw [6] (fun i wr=>∃(k:Nat) (R:List Bool),k≤n∧i=.int .i64 k∧R.length=n∧Hid (∀j:Nat,j<k→(bat R j=true↔j≠f∧S (-1)∧¬S (j:Int)))∧Hid (BRow wr g R)∧Hid (BelW W1 wr)) (fun i _=>n-(intOf i).toNat)
 case atStart=>exact⟨0,_,Nat.zero_le _,rfl,List.length_replicate,Lib.hid (fun j hj=>absurd hj (Nat.not_lt_zero j)),HR3,HB3⟩
 case round=>
  clear HR3 HB3
  obtain⟨k,R,hk,rfl,hRl,HK,HR,HB⟩:=hrel
  obtain⟨x0,x1,x2,x3⟩:=HCE.out wr HB.out
  by_cases hlt:k<n
  ·have hk2:(k:Int)<(n:Int):=by omega
   have HNX:Hid (∀t:Bool,(t=true↔k≠f∧S (-1)∧¬S (k:Int))→∀j:Nat,j<k+1→(bat (R.set k t) j=true↔j≠f∧S (-1)∧¬S (j:Int))):=Lib.hid fun t ht j hj=>by
    rw[bat_set (by omega)]
    by_cases e:j=k
    ·subst e;rw[if_pos rfl];exact ht
    ·rw[if_neg e];exact HK.out j (by omega)
   have HLN:Hid (∀t:Bool,(R.set k t).length=n):=Lib.hid fun t=>by rw[List.length_set];exact hRl
   have HST:Hid (∀W,BRow W g R→∀t:Bool,BRow (W.setCell ⟨g,k,none⟩ (.bool t)) g (R.set k t)):=Lib.hid fun W h t=>h.set k t
   have HSB:Hid (∀W,BelW W1 W→∀t:Bool,BelW W1 (W.setCell ⟨g,k,none⟩ (.bool t))):=Lib.hid fun W h t=>h.setCell (p:=⟨g,k,none⟩) (by rw[HG2.out];exact Nat.le_refl _) _
   have HCL:Hid (∀W,BRow W g R→∃t:Bool,W.cell? ⟨g,k,none⟩=some (.bool t)):=Lib.hid fun W h=>⟨_,h.cell (List.getElem?_eq_getElem (by rw[hRl];exact hlt))⟩
   clear HK
   by_cases hkf:k=f
   ·subst hkf
    obtain⟨t0,e4⟩:=HCL.out wr HR.out
    have e3:=HR.out.frozen k
    have HN1:=Lib.hid (HNX.out false (by simp))
    have HR5:=Lib.hid (HST.out wr HR.out false)
    have HB5:=Lib.hid (HSB.out wr HB.out false)
    have HL5:=Lib.hid (HLN.out false)
    clear HNX HLN HST HSB HCL
    go_wp2
    go_roundw
    case rel=>exact⟨k+1,_,by omega,by go_num,HL5.out,HN1,HR5,HB5⟩
    case measure=>simp[intOf];omega
   ·have q1:((k:Int) != (f:Int))=true:=by simp;omega
    have q2:((k:Int)==(f:Int))=false:=by simp;omega
    have q3:¬(k:Int)=(f:Int):=by omega
    go_wp2_with (go_at_call 31;first
     |((with_reducible refine (HSE.out wr HB.out (-1)).mono ?_);rintro e w5 ⟨a,rfl,h1,h2⟩;have HS1:=Lib.hid h1;have HB5:Hid (BelW W1 w5):=Lib.hid (joinB HB.out h2);have HR5:Hid (BRow w5 g R):=Lib.hid (HR.out.below h2);clear h1 h2 x0 x1 x2 x3;obtain⟨t0,e4⟩:=HCL.out w5 HR5.out;have e3:=HR5.out.frozen k;obtain⟨x0,x1,x2,x3⟩:=HCE.out w5 HB5.out;cases a)
     |((with_reducible refine (HSE.out w5 HB5.out (k:Int)).mono ?_);rintro e w6 ⟨b,rfl,h1,h2⟩;have HS2:=Lib.hid h1;have HB6:Hid (BelW W1 w6):=Lib.hid (joinB HB5.out h2);have HR6:Hid (BRow w6 g R):=Lib.hid (HR5.out.below h2);clear h1 h2 x0 x1 x2 x3 e3 e4;obtain⟨t0,e4⟩:=HCL.out w6 HR6.out;have e3:=HR6.out.frozen k))
    ·have HN1:=Lib.hid (HNX.out false (iff_of_false (by decide) fun h=>by have:=HS1.out.2 h.2.1;cases this))
     have HR9:=Lib.hid (HST.out w5 HR5.out false)
     have HB9:=Lib.hid (HSB.out w5 HB5.out false)
     have HL9:=Lib.hid (HLN.out false)
     go_roundw
     case rel=>exact⟨k+1,_,by omega,by go_num,HL9.out,HN1,HR9,HB9⟩
     case measure=>simp[intOf];omega
    ·have HN1:=Lib.hid (HNX.out (!b) (by
      have h1:=by simpa using HS1.out
      have h2:=HS2.out
      cases b
      ·exact⟨fun _=>⟨hkf,h1,fun h=>by have:=h2.2 h;cases this⟩,fun _=>rfl⟩
      ·exact iff_of_false (by decide) fun h=>h.2.2 (h2.1 rfl)))
     have HR9:=Lib.hid (HST.out w6 HR6.out (!b))
     have HB9:=Lib.hid (HSB.out w6 HB6.out (!b))
     have HL9:=Lib.hid (HLN.out (!b))
     go_roundw
     case rel=>exact⟨k+1,_,by omega,by go_num,HL9.out,HN1,HR9,HB9⟩
     case measure=>simp[intOf];omega
  ·obtain rfl:n=k:=by omega
   have HE:=Lib.hid (HGL.out R HK.out)
   go_wp2
   go_ret
   exact⟨g,R,rfl,HR.out,hRl,HE.out,joinB HB1.out HB.out⟩
end Go.Proofs.YtckgnoopjapknaaDoor
