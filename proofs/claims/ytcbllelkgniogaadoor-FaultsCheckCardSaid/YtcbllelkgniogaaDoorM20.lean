/- The texts Rlt. -/
import Derived.Test.YtcbllelkgniogaaDoorM19
namespace Go.Proofs.YtcbllelkgniogaaDoor
open Go.RowKit
attribute [local go_sem] Oper.semAt_some
def NoP(Q:Exit→Act→World→Prop):Exit→Act→World→Prop
 | .panic _,_,_=>False
 | .outgrown,_,_=>False
 |e,a,w=>Q e a w
theorem backF_inv{xs:List Int}{k j:Nat}{z:Int}(h:(backL xs)[k]? =some (j,z)):xs.length=k+1+j∧z=xs.getD j 0:=by
 have hk:k<xs.length:=by
  have:=(List.getElem?_eq_some_iff.1 h).1
  rwa [backL_len]at this
 have h2:=backL_at xs (k:=k) (j:=xs.length-k-1) (by omega)
 rw[h]at h2
 simp only[Option.some.injEq,Prod.mk.injEq]at h2
 obtain⟨h3,h4⟩:=h2
 exact⟨by omega,by rw[h4,←h3]⟩
theorem L64.usF{n:Nat}{us ud:List Nat}(h:L64 n us)(h2:L64 n ud)(k:Nat):L64 n (usF us ud k):=by
 induction k with
 |zero=>exact h
 |succ k ih=>exact ih.set _ _ (Nat.or_lt_two_pow (n:=64) (ih.lt k) (h2.lt k))
set_option maxRecDepth 100000 in
set_option maxHeartbeats 8000000 in
theorem relatives_any(kd:Nat→Int)(rk:Nat→List Nat)(ord:List Nat)(A1 A2 A3:Option Addr)(n n1 n2 n3 c0 c1 c2 c3 nb no ob oo co a e:Nat)(w:World)(hn:n≤1000000)(hae:a≤e)(hen:e≤n)(h64:e≤a+64)
 (hin:∀k,k<n→∃A4 c4 md bt b4 o4,∀W,BelW w W→W.cell? ⟨nb,no+k*4,none⟩=some (.int .u8 (kd k))∧W.cell? ⟨nb,no+k*4+1,none⟩=some (.slice A4 (rk k).length c4)∧W.cell? ⟨nb,no+k*4+2,none⟩=some (.int .i64 md)∧W.cell? ⟨nb,no+k*4+3,none⟩=some (.int .i64 bt)∧∀j,j<(rk k).length→A4=some ⟨b4,o4,none⟩∧W.cell? ⟨b4,o4+j,none⟩=some (.int .i64 (((rk k).getD j 0:Nat):Int)))
 (hrk:∀k,k<n→(rk k).length≤1000000∧∀j,j<(rk k).length→(rk k).getD j 0<n)
 (hord:∀W,BelW w W→∀j,j<n→W.cell? ⟨ob,oo+j,none⟩=some (.int .i64 ((ord.getD j 0:Nat):Int))) (hol:∀j,j<n→ord.getD j 0<n) (hlen:ord.length=n) (hob:ob<w.heap.size):
 Calls Tryd.prog 50 #[.agg #[.slice (some ⟨nb,no,none⟩) n c0,.slice A1 n1 c1,.slice A2 n2 c2,.slice A3 n3 c3],.slice (some ⟨ob,oo,none⟩) n co,.int .i64 (a:Int),.int .i64 (e:Int)] w fun r w'=>∃g,r=.returned (.slice (some ⟨g,0,none⟩) n n)∧w.heap.size≤g∧Fr w' g 97 (U64 (relW (fun k=>if kd k=14 then [] else rk k) ord n a e))∧BelW w w':=by
 have HIN:=Lib.hid hin
 have HRK:=Lib.hid hrk
 have HORD:=Lib.hid hord
 have HOL:=Lib.hid hol
 have HLEN:=Lib.hid hlen
 have HOB:=Lib.hid hob
 clear hin hrk hord hol hlen hob
 obtain⟨i2,hi2,hz2,hy2,hx2⟩:=infoF_parts infoF_u64
 have HMK:Hid (∀w:World,(Instr.makeSlice 98 (.int .i64 (n:Int)) (.int .i64 (n:Int))).run Tryd.prog w=.ok (.slice (some ⟨w.heap.size,0,none⟩) n n) (w.alloc (.cells (zU n).toArray 97))):=Lib.hid fun w=>by
  have:=mkF_run (t:=98) Tryd.underlying98 hi2 hz2 n (by rw[hx2];omega) hn w
  rw[hy2,Nat.mul_one]at this
  simpa [zU]using this
 clear hi2 hz2 hy2 hx2
 refine (callsIn_wide (n:=9)).1 ?_
 refine callsIn_of_wp_marks Tryd.func50 rfl trivial ?_ rfl
 simp only[Tryd.ntmps50,List.size_toArray,List.length_cons,List.length_nil,Nat.reduceAdd,Nat.reduceSub,Array.replicate_succ,Array.replicate_zero,List.push_toArray,List.append_toArray,List.nil_append,List.cons_append]
 refine wpIn_wide.2 ?_
 generalize hQ:bodyPostM _ _ _ _ _=Q0
 have HQ:=Lib.hid hQ
 clear hQ
 refine wp_mono (Q:=NoP Q0) ?_ (fun e a w h=>by cases e<;>first|exact h|exact h.elim)
 go_upto_region 1 with (fail)
 obtain⟨W1,HW1⟩:=named (w.alloc (.cells #[.slice (some ⟨nb,no,none⟩) n c0,.slice A1 n1 c1,.slice A2 n2 c2,.slice A3 n3 c3] 39))
 have HB1:Hid (BelW w W1):=Lib.hid (by rw[HW1.out];exact below_new (Below.refl _ _) _)
 have HFC:Hid (Fr W1 w.heap.size 39 [.slice (some ⟨nb,no,none⟩) n c0,.slice A1 n1 c1,.slice A2 n2 c2,.slice A3 n3 c3]):=Lib.hid (by rw[HW1.out];exact Fr.made _ _ _ rfl)
 rw[←HW1.out]
 go_cut [9,10] from 22 to 27 (fun s9 s10 wx=>∃g1 g2 g3,s9=.slice (some ⟨g1,0,none⟩) n n∧s10=.pointer (some ⟨g3,0,none⟩)∧RelF W1 n g1 g2 g3 (zU n) (zU n) wx)
 case first=>
  have hmk:=HMK.out
  go_region
  all_goals go_wp2
  all_goals go_meet
  all_goals (first
   |exact⟨_,W1.heap.size,_,rfl,rfl,⟨Below.drew (below_new (below_new (below_new (Below.refl _ _) _) _) _),by omega,by omega,by omega,by omega,by omega,by omega,by first|exact fr3a _ _ _ _ _|exact fr3b _ _ _ _ _|exact fr3c _ _ _ _ _,by first|exact fr3a _ _ _ _ _|exact fr3b _ _ _ _ _|exact fr3c _ _ _ _ _,by first|exact fr3a _ _ _ _ _|exact fr3b _ _ _ _ _|exact fr3c _ _ _ _ _⟩⟩
   |exact⟨_,W1.heap.size+1,_,rfl,rfl,⟨Below.drew (below_new (below_new (below_new (Below.refl _ _) _) _) _),by omega,by omega,by omega,by omega,by omega,by omega,by first|exact fr3a _ _ _ _ _|exact fr3b _ _ _ _ _|exact fr3c _ _ _ _ _,by first|exact fr3a _ _ _ _ _|exact fr3b _ _ _ _ _|exact fr3c _ _ _ _ _,by first|exact fr3a _ _ _ _ _|exact fr3b _ _ _ _ _|exact fr3c _ _ _ _ _⟩⟩
   |exact⟨_,W1.heap.size+1+1,_,rfl,rfl,⟨Below.drew (below_new (below_new (below_new (Below.refl _ _) _) _) _),by omega,by omega,by omega,by omega,by omega,by omega,by first|exact fr3a _ _ _ _ _|exact fr3b _ _ _ _ _|exact fr3c _ _ _ _ _,by first|exact fr3a _ _ _ _ _|exact fr3b _ _ _ _ _|exact fr3c _ _ _ _ _,by first|exact fr3a _ _ _ _ _|exact fr3b _ _ _ _ _|exact fr3c _ _ _ _ _⟩⟩)
 obtain⟨g1,g2,g3,rfl,rfl,HRF⟩:=hcut
 rw[zU_eq]at HRF
 have HR0:=Lib.hid HRF
 clear HRF HMK
 have hd:(e:Int)-(a:Int)=((e-a:Nat):Int):=by omega
 go_upto_region 3 with (fail)
 go_loopw [31] (fun i wr=>∃k:Nat,k≤e-a∧i=.int .i64 (k:Int)∧Hid (RelF W1 n g1 g2 g3 (U64 (unitF n a k)) (U64 (unitF n a k)) wr)) (fun i _=>e-a-(intOf i).toNat)
 case atStart=>exact⟨0,Nat.zero_le _,rfl,HR0⟩
 case round=>
  obtain⟨k,hk,rfl,HR⟩:=hrel
  by_cases hke:k<e-a
  ·have hke2:(k:Int)<((e-a:Nat):Int):=by omega
   obtain⟨p,HP⟩:=named (a+k)
   have hak:(a:Int)+(k:Int)=(p:Int):=by have:=HP.out;omega
   have hp2:(p:Int)<(n:Int):=by have:=HP.out;omega
   have hp:p<n:=by omega
   have hpn:p≤1000000:=by omega
   obtain⟨us,HUS⟩:=named (unitF n a k)
   have hul:us.length=n:=by rw[HUS.out];exact unitF_len _ _ _
   have HR2:Hid (RelF W1 n g1 g2 g3 (U64 us) (U64 us) wr):=Lib.hid (by rw[HUS.out];exact HR.out)
   obtain⟨x,hx⟩:∃x:Nat,(U64 us)[p]? =some (.int .u64 (x:Int)):=⟨us.getD p 0,by simp[U64,List.getD_eq_getElem?_getD,List.getElem?_eq_getElem (show p<us.length by omega)]⟩
   have c1:wr.cell? ⟨g1,p,none⟩=some (.int .u64 (x:Int)):=(HR2.out.r1.cell p).trans hx
   have c2:wr.cell? ⟨g2,p,none⟩=some (.int .u64 (x:Int)):=(HR2.out.r2.cell p).trans hx
   have f1:=HR2.out.r1.frozen p
   have f2:=HR2.out.r2.frozen p
   have f3:wr.cell? ⟨g3,0,none⟩=some (.slice (some ⟨g2,0,none⟩) n n):=HR2.out.r3.cell 0
   have d12:=HR2.out.d12
   have d21:=HR2.out.d12.symm
   have d13:=HR2.out.d13
   have d31:=HR2.out.d13.symm
   have d23:=HR2.out.d23
   have d32:=HR2.out.d23.symm
   have hk64:(k:Int)<64:=by omega
   have hw:IntKind.i64.wrap (p:Int)=(p:Int):=by rw[IntKind.wrap_i64];omega
   have hw0:(0:Int)≤(p:Int):=by omega
   have hk0:(0:Int)≤(k:Int):=by omega
   have HKE:Hid (k+1≤e-a):=Lib.hid hke
   clear hx hul hk hke hae hen h64 hn hp hpn
   go_upto_region 5 with (fail)
   go_region
   go_wp2
   go_roundw
   case rel=>exact⟨k+1,HKE.out,by go_num,Lib.hid (by
    have e1:unitF n a (k+1)=us.set p (2^k):=by rw[HUS.out,HP.out];rfl
    rw[e1,pow_u64 k (by omega)]
    exact ((HR2.out.set1 p (2^k)).set2 p (2^k)).drew)⟩
   case measure=>have:=HKE.out;simp[intOf];omega
  ·obtain rfl:k=e-a:=by omega
   obtain⟨u0,HU0⟩:=named (unitF n a (e-a))
   have HL0:Hid (L64 n u0):=Lib.hid (by rw[HU0.out];exact unitF_64 _ _ _ (by omega))
   rw[←HU0.out]at HR
   obtain⟨rd,HRD⟩:=named (fun k=>if kd k=14 then [] else rk k)
   have HN:=Lib.hid hn
   clear hk hke hae hen h64 hd HR0
   have HR3:Hid (RelF W1 n g1 g2 g3 (U64 (usO rd u0 ord 0)) (U64 u0) wr):=HR
   clear HR
   go_upto_region 8 with (fail)
   go_loopw [51] (fun i wr=>∃j:Nat,j≤n∧i=.int .i64 (j:Int)∧Hid (RelF W1 n g1 g2 g3 (U64 (usO rd u0 ord j)) (U64 u0) wr)) (fun i _=>n-(intOf i).toNat)
   case atStart=>exact⟨0,Nat.zero_le _,rfl,HR3⟩
   case round=>
    clear HR3
    obtain⟨j,hj,rfl,HR⟩:=hrel
    by_cases hjn:j<n
    ·have hjn2:(j:Int)<(n:Int):=by omega
     have y0:=HORD.out _ (joinB HB1.out HR.out.bel) j hjn
     have hi:=HOL.out j hjn
     obtain⟨i,HI⟩:=named (ord.getD j 0)
     rw[←HI.out]at y0 hi
     obtain⟨A4,c4,md,bt,b4,o4,hW⟩:=HIN.out i hi
     have HW:=Lib.hid hW
     obtain⟨z0,z1,z2,z3,-⟩:=hW _ (joinB HB1.out HR.out.bel)
     have z4:wr.cell? ⟨w.heap.size,0,none⟩=some (.slice (some ⟨nb,no,none⟩) n c0):=(HFC.out.below HR.out.bel).cell 0
     have hi2:(i:Int)<(n:Int):=by omega
     have HJ:=Lib.hid hjn
     have HII:=Lib.hid hi
     obtain⟨mk,HMK2⟩:=named (rk i).length
     rw[←HMK2.out]at z1
     have HRDS:∃(A5:Option Addr) (m5 c5 b5 o5:Nat),m5=(rd i).length∧m5≤1000000∧(∀W,Calls Tryd.prog 61 #[.agg #[.int .u8 (kd i),.slice A4 mk c4,.int .i64 md,.int .i64 bt]] W fun e w'=>e=.returned (.slice A5 m5 c5)∧BelW W w')∧∀q,q<m5→A5=some ⟨b5,o5,none⟩∧(rd i).getD q 0<n∧∀W,BelW w W→W.cell? ⟨b5,o5+q,none⟩=some (.int .i64 (((rd i).getD q 0:Nat):Int)):=by
      rw[HRD.out]
      by_cases h14:kd i=14
      ·refine⟨none,0,0,0,0,by simp[h14],by omega,fun W=>(reads_any _ _ _ _ _ _ W).mono fun _ _ h=>⟨by rw[h.1,if_pos h14],h.2⟩,fun q hq=>absurd hq (by omega)⟩
      ·refine⟨A4,mk,c4,b4,o4,by simp[h14,HMK2.out],by rw[HMK2.out];exact (HRK.out i hi).1,fun W=>(reads_any _ _ _ _ _ _ W).mono fun _ _ h=>⟨by rw[h.1,if_neg h14],h.2⟩,fun q hq=>?_⟩
       rw[HMK2.out]at hq
       simp only[if_neg h14]
       exact⟨((hW w (Below.refl _ _)).2.2.2.2 q hq).1,(HRK.out i hi).2 q hq,fun W h=>((hW W h).2.2.2.2 q hq).2⟩
     obtain⟨A5,m5,c5,b5,o5,hm5,hm5b,hrds,hq5⟩:=HRDS
     have HM5:=Lib.hid hm5
     have HRDC:=Lib.hid hrds
     have HQ5:=Lib.hid hq5
     clear hW hj hjn hi hm5 hrds hq5
     go_upto_region 11 with (go_at_call 61;(with_reducible refine (HRDC.out _).mono ?_);rintro e w2 ⟨rfl,h1⟩;have HB2:Hid (BelW wr w2):=Lib.hid h1;clear h1 y0 z0 z1 z2 z3 z4)
     have HR4:Hid (RelF W1 n g1 g2 g3 (U64 (usI rd (usO rd u0 ord j) i 0)) (U64 u0) w2):=Lib.hid ⟨joinB HR.out.bel HB2.out,HR.out.l1,HR.out.l2,HR.out.l3,HR.out.d12,HR.out.d13,HR.out.d23,HR.out.r1.below HB2.out,HR.out.r2.below HB2.out,HR.out.r3.below HB2.out⟩
     have HL1:Hid (L64 n (usO rd u0 ord j)):=Lib.hid (HL0.out.usO j)
     have HSU:Hid (usI rd (usO rd u0 ord j) i m5=usO rd u0 ord (j+1)):=Lib.hid (by rw[HM5.out,HI.out];rfl)
     obtain⟨v0,HV0⟩:=named (usO rd u0 ord j)
     rw[←HV0.out]at HR4 HL1 HSU
     clear HR HB2 HV0
     go_loopw [62] (fun q wr=>∃m:Nat,m≤m5∧q=.int .i64 (m:Int)∧Hid (RelF W1 n g1 g2 g3 (U64 (usI rd v0 i m)) (U64 u0) wr)) (fun q _=>m5-(intOf q).toNat)
     case atStart=>exact⟨0,Nat.zero_le _,rfl,HR4⟩
     case round=>
      clear HR4
      obtain⟨m,hm,rfl,HR⟩:=hrel
      by_cases hmm:m<m5
      ·have hm2:(m:Int)<(m5:Int):=by omega
       obtain⟨rfl,hx,hcx⟩:=HQ5.out m hmm
       have y0:=hcx _ (joinB HB1.out HR.out.bel)
       have HNX:Hid (usN (usI rd v0 i m) i ((rd i).getD m 0)=usI rd v0 i (m+1)):=Lib.hid rfl
       have HL2:Hid (L64 n (usI rd v0 i m)):=Lib.hid (HL1.out.usI i m)
       obtain⟨x,HX⟩:=named ((rd i).getD m 0)
       rw[←HX.out]at y0 hx HNX
       obtain⟨us,HUS⟩:=named (usI rd v0 i m)
       rw[←HUS.out]at HR HNX HL2
       have hi:=HII.out
       have z1:wr.cell? ⟨g1,i,none⟩=some (.int .u64 ((us.getD i 0:Nat):Int)):=(HR.out.r1.cell i).trans (U64_at (by rw[HL2.out.len];exact hi))
       have z2:wr.cell? ⟨g1,x,none⟩=some (.int .u64 ((us.getD x 0:Nat):Int)):=(HR.out.r1.cell x).trans (U64_at (by rw[HL2.out.len];exact hx))
       have f1:=HR.out.r1.frozen i
       have hor:bits .or .u64 ((us.getD i 0:Nat):Int) ((us.getD x 0:Nat):Int)=((us.getD i 0|||us.getD x 0:Nat):Int):=u64_or_nat _ _ (HL2.out.lt i) (HL2.out.lt x)
       have HZ:Hid (us.set i (us.getD i 0|||us.getD x 0)=usI rd v0 i (m+1)):=Lib.hid HNX.out
       obtain⟨p1,HP1⟩:=named (us.getD i 0)
       obtain⟨p2,HP2⟩:=named (us.getD x 0)
       rw[←HP1.out]at z1 hor HZ
       rw[←HP2.out]at z2 hor HZ
       obtain⟨p3,HP3⟩:=named (p1|||p2)
       rw[←HP3.out]at hor HZ
       have hx2:(x:Int)<(n:Int):=by omega
       have hi2:(i:Int)<(n:Int):=by omega
       have HMM:=Lib.hid hmm
       clear hm hmm hcx HNX hx hi HUS HX HP1 HP2 HP3
       go_upto_region 13 with (fail)
       go_region
       go_wp2
       go_roundw
       case rel=>exact⟨m+1,HMM.out,by go_num,Lib.hid (by
        rw[←HZ.out]
        exact (HR.out.set1 i p3).drew)⟩
       case measure=>have:=HMM.out;simp[intOf];omega
      ·obtain rfl:m=m5:=by omega
       have HJ2:=HJ
       rw[HSU.out]at HR
       go_wp2
       go_roundw
       case rel=>exact⟨j+1,HJ2.out,by go_num,HR⟩
       case measure=>have:=HJ2.out;simp[intOf];omega
    ·obtain rfl:n=j:=by omega
     obtain⟨us,HUS⟩:=named (usO rd u0 ord n)
     rw[←HUS.out]at HR
     obtain⟨xs,HXS⟩:=named (ord.map fun x:Nat=>(x:Int))
     have HXL:Hid (xs.length=n):=Lib.hid (by rw[HXS.out,List.length_map,HLEN.out])
     have HXA:Hid (∀j,xs.getD j 0=((ord.getD j 0:Nat):Int)):=Lib.hid fun j=>by
      rw[HXS.out]
      simp only[List.getD_eq_getElem?_getD,List.getElem?_map]
      cases ord[j]? <;>rfl
     have HBK:=Lib.hid (backward_any (some ⟨ob,oo,none⟩) n co wr)
     clear HXS hj hjn
     go_upto_region 17 with (go_at_call 62;(with_reducible refine HBK.out.mono ?_);rintro e w7 ⟨rfl,h1,h2,h3⟩;have HBC:=Lib.hid h1;have HBS:=Lib.hid h2;have HB7:=Lib.hid h3;clear h1 h2 h3)
     have HR7:Hid (RelF W1 n g1 g2 g3 (U64 us) (U64 (udO rd u0 ord n 0)) w7):=Lib.hid (HR.out.next HB7.out)
     have HWZ:Hid (W1.heap.size≤w7.heap.size∧g1<w7.heap.size∧g2<w7.heap.size∧g3<w7.heap.size):=Lib.hid ⟨Below.size HR7.out.bel,HR7.out.r1.lt,HR7.out.r2.lt,HR7.out.r3.lt⟩
     have HWY:Hid (ob<w7.heap.size∧ob≠g2∧wr.heap.size<w7.heap.size∧wr.heap.size≠g2):=Lib.hid (by
      have h1:=HOB.out
      have h2:=Below.size HB1.out
      have h3:=HR.out.l2
      have h4:=HR.out.r2.lt
      have h5:=HBS.out
      have h6:=HWZ.out.1
      exact⟨by omega,by omega,h5,by omega⟩)
     have hwy:=HWY.out
     have hn2:=HN.out
     have hxl:=HXL.out
     refine (wpIn_wide (n:=9)).1 ?_
     refine range_all (F:=Fence.wide) (n:=9) (B:=w7.heap.size) (gx:=g2) (zs:=backL xs) rfl (by decide) rfl trivial (fun _ _=>rfl) (back_seq Fence.wide _ trivial rfl (by decide) wr.heap.size w7.heap.size g2 (some ⟨ob,oo,none⟩) ob oo co xs w7 (fun _=>rfl) (fun _=>⟨hwy.1,hwy.2.1⟩) (fun j hj=>by rw[HXA.out];exact HORD.out _ (joinB HB1.out HR7.out.bel) j (by omega)) (by omega) (Nat.le_refl _) hwy.2.2 (by rw[hxl];exact HBC.out)) (Nat.le_refl _) (fun _=>rfl)
      (fun k V=>RelF W1 n g1 g2 g3 (U64 us) (U64 (udO rd u0 ord n k)) V∧w7.heap.size≤V.heap.size) ?hI ?h0 ?at1 ?hassign ?hbody ?hdone
     case hI=>exact fun s W W' row ⟨h1,h2⟩ hg hr=>⟨h1.kept hg (fun r e=>(hr r e).1) HWZ.out,Nat.le_trans h2 hg.size⟩
     case h0=>exact⟨HR7.out,Nat.le_refl _⟩
     case hassign=>
      intro l x V K hK
      gi_wp2
      exact hK
     case hbody=>
      rintro l k ⟨j,z⟩ V hl hz ⟨hRF,hVZ⟩
      obtain⟨hkj,rfl⟩:=backF_inv hz
      rw[hxl]at hkj
      have hjn:j<n:=by omega
      have ej:n-1-k=j:=by omega
      have hz2:=HXA.out j
      rw[hz2]
      have hi:=HOL.out j hjn
      have HSD:Hid (udO rd u0 ord n (k+1)=udI rd (udO rd u0 ord n k) (ord.getD j 0) (rd (ord.getD j 0)).length):=Lib.hid (by rw[←ej];rfl)
      have HL1:Hid (L64 n (udO rd u0 ord n k)):=Lib.hid (HL0.out.udO k)
      obtain⟨i,HI⟩:=named (ord.getD j 0)
      rw[←HI.out]at hi HSD
      rw[←HI.out]
      obtain⟨A4,c4,md,bt,b4,o4,hW⟩:=HIN.out i hi
      have HR:=Lib.hid hRF
      obtain⟨z0,z1,z2,z3,-⟩:=hW _ (joinB HB1.out HR.out.bel)
      have z4:V.cell? ⟨w.heap.size,0,none⟩=some (.slice (some ⟨nb,no,none⟩) n c0):=(HFC.out.below HR.out.bel).cell 0
      have hi2:(i:Int)<(n:Int):=by omega
      have HII:=Lib.hid hi
      have HVZ:=Lib.hid hVZ
      obtain⟨mk,HMK2⟩:=named (rk i).length
      rw[←HMK2.out]at z1
      have HRDS:∃(A5:Option Addr) (m5 c5 b5 o5:Nat),m5=(rd i).length∧m5≤1000000∧(∀l u W,CallsIn (Fence.wide.inRound l) u Tryd.prog 61 #[.agg #[.int .u8 (kd i),.slice A4 mk c4,.int .i64 md,.int .i64 bt]] W fun e w'=>e=.returned (.slice A5 m5 c5)∧BelW W w')∧∀q,q<m5→A5=some ⟨b5,o5,none⟩∧(rd i).getD q 0<n∧∀W,BelW w W→W.cell? ⟨b5,o5+q,none⟩=some (.int .i64 (((rd i).getD q 0:Nat):Int)):=by
       rw[HRD.out]
       by_cases h14:kd i=14
       ·refine⟨none,0,0,0,0,by simp[h14],by omega,fun l u W=>CallsIn.inRound l ((reads_inF Fence.wide u _ _ _ _ _ _ W trivial rfl).mono fun _ _ h=>⟨by rw[h.1,if_pos h14],h.2⟩),fun q hq=>absurd hq (by omega)⟩
       ·refine⟨A4,mk,c4,b4,o4,by simp[h14,HMK2.out],by rw[HMK2.out];exact (HRK.out i hi).1,fun l u W=>CallsIn.inRound l ((reads_inF Fence.wide u _ _ _ _ _ _ W trivial rfl).mono fun _ _ h=>⟨by rw[h.1,if_neg h14],h.2⟩),fun q hq=>?_⟩
        rw[HMK2.out]at hq
        simp only[if_neg h14]
        exact⟨((hW w (Below.refl _ _)).2.2.2.2 q hq).1,(HRK.out i hi).2 q hq,fun W h=>((hW W h).2.2.2.2 q hq).2⟩
      obtain⟨A5,m5,c5,b5,o5,hm5,hm5b,hrds,hq5⟩:=HRDS
      have HM5:=Lib.hid hm5
      have HRDC:=Lib.hid hrds
      have HQ5:=Lib.hid hq5
      rw[←hm5]at HSD
      clear hW hkj hjn hi hm5 hrds hq5 ej hz hz2 hRF hVZ
      have hfn:Fence.wide.fn 61:=trivial
      gi_wp2_with (gi_at_call 61;(with_reducible refine (HRDC.out _ _ _).mono ?_);rintro e w2 ⟨rfl,h1⟩;have HB2:Hid (BelW V w2):=Lib.hid h1;clear h1 z0 z1 z2 z3 z4)
      have HR4:Hid (RelF W1 n g1 g2 g3 (U64 us) (U64 (udI rd (udO rd u0 ord n k) i 0)) w2):=Lib.hid (HR.out.next HB2.out)
      obtain⟨v0,HV0⟩:=named (udO rd u0 ord n k)
      rw[←HV0.out]at HR4 HL1 HSD
      have HKV:Hid (KeepsFrom w7.heap.size V w2∧Kx w7.heap.size g2 V w2∧w7.heap.size≤w2.heap.size):=Lib.hid ⟨(KeepsOthers.of_grownBy (row:=none) (grown_of HB2.out none) (fun j o e=>by cases e)).from _,Kx.of_below HB2.out HVZ.out,Nat.le_trans HVZ.out (Below.size HB2.out)⟩
      clear HR HB2 HV0
      gi_loopw [89] (fun q wr=>∃m:Nat,m≤m5∧q=.int .i64 (m:Int)∧Hid (RelF W1 n g1 g2 g3 (U64 us) (U64 (udI rd v0 i m)) wr)∧Hid (KeepsFrom w7.heap.size V wr∧Kx w7.heap.size g2 V wr∧w7.heap.size≤wr.heap.size)) (fun q _=>m5-(intOf q).toNat)
      case atStart=>exact⟨0,Nat.zero_le _,rfl,HR4,HKV⟩
      case round=>
       clear HR4 HKV
       obtain⟨m,hm,rfl,HR,HKV⟩:=hrel
       by_cases hmm:m<m5
       ·have hm2:(m:Int)<(m5:Int):=by omega
        obtain⟨rfl,hx,hcx⟩:=HQ5.out m hmm
        have y0:=hcx _ (joinB HB1.out HR.out.bel)
        have HNX:Hid (usN (udI rd v0 i m) ((rd i).getD m 0) i=udI rd v0 i (m+1)):=Lib.hid rfl
        have HL2:Hid (L64 n (udI rd v0 i m)):=Lib.hid (HL1.out.udI i m)
        obtain⟨x,HX⟩:=named ((rd i).getD m 0)
        rw[←HX.out]at y0 hx HNX
        obtain⟨ud,HUD⟩:=named (udI rd v0 i m)
        rw[←HUD.out]at HR HNX HL2
        have hi:=HII.out
        have z1:wr.cell? ⟨g2,i,none⟩=some (.int .u64 ((ud.getD i 0:Nat):Int)):=(HR.out.r2.cell i).trans (U64_at (by rw[HL2.out.len];exact hi))
        have z2:wr.cell? ⟨g2,x,none⟩=some (.int .u64 ((ud.getD x 0:Nat):Int)):=(HR.out.r2.cell x).trans (U64_at (by rw[HL2.out.len];exact hx))
        have f1:=HR.out.r2.frozen x
        have f3:wr.cell? ⟨g3,0,none⟩=some (.slice (some ⟨g2,0,none⟩) n n):=HR.out.r3.cell 0
        have hor:bits .or .u64 ((ud.getD x 0:Nat):Int) ((ud.getD i 0:Nat):Int)=((ud.getD x 0|||ud.getD i 0:Nat):Int):=u64_or_nat _ _ (HL2.out.lt x) (HL2.out.lt i)
        have HZ:Hid (ud.set x (ud.getD x 0|||ud.getD i 0)=udI rd v0 i (m+1)):=Lib.hid HNX.out
        obtain⟨p1,HP1⟩:=named (ud.getD i 0)
        obtain⟨p2,HP2⟩:=named (ud.getD x 0)
        rw[←HP1.out]at z1 hor HZ
        rw[←HP2.out]at z2 hor HZ
        obtain⟨p3,HP3⟩:=named (p2|||p1)
        rw[←HP3.out]at hor HZ
        have hx2:(x:Int)<(n:Int):=by omega
        have hi2:(i:Int)<(n:Int):=by omega
        have HMM:=Lib.hid hmm
        have HKW:Hid (∀v:Value,KeepsFrom w7.heap.size V (wr.drew.setCell ⟨g2,x,none⟩ v)∧Kx w7.heap.size g2 V (wr.drew.setCell ⟨g2,x,none⟩ v)∧w7.heap.size≤(wr.drew.setCell ⟨g2,x,none⟩ v).heap.size):=Lib.hid fun v=>⟨HKV.out.1.trans (((KeepsOthers.drew _).trans (KeepsOthers.setCell _ _ _)).from _),HKV.out.2.1.trans fun b _ hb=>heap_set_ne5 _ _ _ hb,by rw[World.size_setCell];exact HKV.out.2.2⟩
        clear hm hmm hcx HNX hx hi HUD HX HP1 HP2 HP3
        have HS0:Hid (wr.drew.cell? ⟨g3,0,none⟩=some (.slice (some ⟨g2,0,none⟩) n n)∧wr.drew.cell? ⟨g2,x,none⟩=some (.int .u64 (p2:Int))∧wr.drew.cell? ⟨g2,i,none⟩=some (.int .u64 (p1:Int))):=Lib.hid ⟨f3,z2,z1⟩
        have f9:wr.drew.frozen? ⟨g2,x,none⟩=false:=f1
        gi_upto_region 21 with (fail)
        refine AnyX.startIn (S:=fun w'=>w'.cell? ⟨g3,0,none⟩=some (.slice (some ⟨g2,0,none⟩) n n)∧w'.cell? ⟨g2,x,none⟩=some (.int .u64 (p2:Int))∧w'.cell? ⟨g2,i,none⟩=some (.int .u64 (p1:Int))) (t:=10) (by kernel_rfl) (by kernel_rfl) (fun a w h=>?hlo) ?_
        case hlo=>exact absurd (show Exit.outgrown=Exit.normal from h.1) (by simp)
        refine AnyX.take (i:=0) (oi:=⟨some 93,_,_,_,_,_⟩) (v:=.slice (some ⟨g2,0,none⟩) n n) rfl rfl (by kernel_rfl) (by kernel_rfl) (by kernel_rfl) (by kernel_rfl) (fun _ _ _ h=>h) (Or.inl ⟨by rfl,?_⟩) HS0.out ?_
        ·intro w' hSw
         obtain⟨k3,k2,k1⟩:=hSw
         first|(go_simp;done)|(go_simp;with_reducible rfl)|(go_simp;intro hh;exfalso;omega)
        simp only[Act.put,List.setIfInBounds_toArray,List.set_cons_zero,List.set_cons_succ]
        refine AnyX.take (i:=1) (oi:=⟨some 94,_,_,_,_,_⟩) (v:=.int .i64 (x:Int)) rfl rfl (by kernel_rfl) (by kernel_rfl) (by kernel_rfl) (by kernel_rfl) (fun _ _ _ h=>h) (Or.inl ⟨by rfl,?_⟩) HS0.out ?_
        ·intro w' hSw
         obtain⟨k3,k2,k1⟩:=hSw
         first|(go_simp;done)|(go_simp;with_reducible rfl)|(go_simp;intro hh;exfalso;omega)
        simp only[Act.put,List.setIfInBounds_toArray,List.set_cons_zero,List.set_cons_succ]
        refine AnyX.take (i:=2) (oi:=⟨some 95,_,_,_,_,_⟩) (v:=.pointer (some ⟨g2,x,none⟩)) rfl rfl (by kernel_rfl) (by kernel_rfl) (by kernel_rfl) (by kernel_rfl) (fun _ _ _ h=>h) (Or.inl ⟨by rfl,?_⟩) HS0.out ?_
        ·intro w' hSw
         obtain⟨k3,k2,k1⟩:=hSw
         first|(go_simp;done)|(go_simp;with_reducible rfl)|(go_simp;intro hh;exfalso;omega)
        simp only[Act.put,List.setIfInBounds_toArray,List.set_cons_zero,List.set_cons_succ]
        refine AnyX.take (i:=3) (oi:=⟨some 96,_,_,_,_,_⟩) (v:=.int .u64 (p2:Int)) rfl rfl (by kernel_rfl) (by kernel_rfl) (by kernel_rfl) (by kernel_rfl) (fun _ _ _ h=>h) (Or.inl ⟨by rfl,?_⟩) HS0.out ?_
        ·intro w' hSw
         obtain⟨k3,k2,k1⟩:=hSw
         first|(go_simp;done)|(go_simp;with_reducible rfl)|(go_simp;intro hh;exfalso;omega)
        simp only[Act.put,List.setIfInBounds_toArray,List.set_cons_zero,List.set_cons_succ]
        refine AnyX.take (i:=4) (oi:=⟨some 97,_,_,_,_,_⟩) (v:=.slice (some ⟨g2,0,none⟩) n n) rfl rfl (by kernel_rfl) (by kernel_rfl) (by kernel_rfl) (by kernel_rfl) (fun _ _ _ h=>h) (Or.inl ⟨by rfl,?_⟩) HS0.out ?_
        ·intro w' hSw
         obtain⟨k3,k2,k1⟩:=hSw
         first|(go_simp;done)|(go_simp;with_reducible rfl)|(go_simp;intro hh;exfalso;omega)
        simp only[Act.put,List.setIfInBounds_toArray,List.set_cons_zero,List.set_cons_succ]
        refine AnyX.take (i:=5) (oi:=⟨some 98,_,_,_,_,_⟩) (v:=.int .i64 (i:Int)) rfl rfl (by kernel_rfl) (by kernel_rfl) (by kernel_rfl) (by kernel_rfl) (fun _ _ _ h=>h) (Or.inl ⟨by rfl,?_⟩) HS0.out ?_
        ·intro w' hSw
         obtain⟨k3,k2,k1⟩:=hSw
         first|(go_simp;done)|(go_simp;with_reducible rfl)|(go_simp;intro hh;exfalso;omega)
        simp only[Act.put,List.setIfInBounds_toArray,List.set_cons_zero,List.set_cons_succ]
        refine AnyX.take (i:=6) (oi:=⟨some 99,_,_,_,_,_⟩) (v:=.pointer (some ⟨g2,i,none⟩)) rfl rfl (by kernel_rfl) (by kernel_rfl) (by kernel_rfl) (by kernel_rfl) (fun _ _ _ h=>h) (Or.inl ⟨by rfl,?_⟩) HS0.out ?_
        ·intro w' hSw
         obtain⟨k3,k2,k1⟩:=hSw
         first|(go_simp;done)|(go_simp;with_reducible rfl)|(go_simp;intro hh;exfalso;omega)
        simp only[Act.put,List.setIfInBounds_toArray,List.set_cons_zero,List.set_cons_succ]
        refine AnyX.take (i:=7) (oi:=⟨some 100,_,_,_,_,_⟩) (v:=.int .u64 (p1:Int)) rfl rfl (by kernel_rfl) (by kernel_rfl) (by kernel_rfl) (by kernel_rfl) (fun _ _ _ h=>h) (Or.inl ⟨by rfl,?_⟩) HS0.out ?_
        ·intro w' hSw
         obtain⟨k3,k2,k1⟩:=hSw
         first|(go_simp;done)|(go_simp;with_reducible rfl)|(go_simp;intro hh;exfalso;omega)
        simp only[Act.put,List.setIfInBounds_toArray,List.set_cons_zero,List.set_cons_succ]
        refine AnyX.take (i:=8) (oi:=⟨some 101,_,_,_,_,_⟩) (v:=.int .u64 (p3:Int)) rfl rfl (by kernel_rfl) (by kernel_rfl) (by kernel_rfl) (by kernel_rfl) (fun _ _ _ h=>h) (Or.inl ⟨by rfl,?_⟩) HS0.out ?_
        ·intro w' hSw
         obtain⟨k3,k2,k1⟩:=hSw
         first|(go_simp;done)|(go_simp;with_reducible rfl)|(go_simp;intro hh;exfalso;omega)
        simp only[Act.put,List.setIfInBounds_toArray,List.set_cons_zero,List.set_cons_succ]
        refine AnyX.take (i:=9) (oi:=⟨some 102,_,_,_,_,_⟩) (v:=.pointer (some ⟨g2,x,none⟩)) rfl rfl (by kernel_rfl) (by kernel_rfl) (by kernel_rfl) (by kernel_rfl) (fun _ _ _ h=>h) (Or.inl ⟨by rfl,?_⟩) HS0.out ?_
        ·intro w' hSw
         obtain⟨k3,k2,k1⟩:=hSw
         first|(go_simp;done)|(go_simp;with_reducible rfl)|(go_simp;intro hh;exfalso;omega)
        simp only[Act.put,List.setIfInBounds_toArray,List.set_cons_zero,List.set_cons_succ]
        refine AnyX.one (i:=10) (o:=⟨none,_,_,_,_,_⟩) (by kernel_rfl) rfl (fun K' hK=>?_)
        have HK:=Lib.hid hK
        clear hK
        go_simp
        refine HK.out _ _ (fun h=>absurd rfl h) ?_
        clear HK
        (try simp only[Act.put,List.setIfInBounds_toArray,List.set_cons_zero,List.set_cons_succ])
        refine AnyX.done (by kernel_rfl) ?_ _
        gi_wp2
        go_roundw
        case rel=>exact⟨m+1,HMM.out,by go_num,Lib.hid (by
         rw[←HZ.out]
         exact HR.out.drew.set2 x p3),HKW.out _⟩
        case measure=>have:=HMM.out;simp[intOf];omega
       ·obtain rfl:m5=m:=by omega
        rw[←HSD.out]at HR
        gi_wp2
        exact⟨HKV.out.1,HKV.out.2.1,HR.out,HKV.out.2.2⟩
     case hdone=>
      rintro D V hD ⟨hRF,hVZ⟩ hK
      rw[backL_len,hxl]at hRF
      obtain⟨ud,HUD⟩:=named (udO rd u0 ord n n)
      rw[←HUD.out]at hRF
      have HL5:Hid (L64 n us):=Lib.hid (by rw[HUS.out];exact HL0.out.usO n)
      have HL6:Hid (L64 n ud):=Lib.hid (by rw[HUD.out];exact HL0.out.udO n)
      have HDG:Hid (D≠g1∧w7.heap.size≤D):=Lib.hid ⟨by have:=HWZ.out.2.1;omega,hD⟩
      have HR9:Hid (RelF W1 n g1 g2 g3 (U64 (usF us ud 0)) (U64 ud) V):=Lib.hid hRF
      have HK9:Hid (V.heap[D]? =some (.deferred (some []))):=Lib.hid hK
      have x0:V.cell? ⟨g3,0,none⟩=some (.slice (some ⟨g2,0,none⟩) n n):=hRF.r3.cell 0
      have HEQ:Hid (usF us ud n=relW (fun k=>if kd k=14 then [] else rk k) ord n a e):=Lib.hid (by rw[HUS.out,HUD.out,HU0.out,HRD.out];rfl)
      clear hRF hVZ hK hD HU0 HRD HUS HUD hwy hn2 hxl
      go_upto_region 24 with (fail)
      clear x0
      go_loopw [106] (fun q wr=>∃k:Nat,k≤n∧q=.int .i64 (k:Int)∧Hid (RelF W1 n g1 g2 g3 (U64 (usF us ud k)) (U64 ud) wr)∧Hid (wr.heap[D]? =some (.deferred (some [])))) (fun q _=>n-(intOf q).toNat)
      case atStart=>exact⟨0,Nat.zero_le _,rfl,HR9,HK9⟩
      case round=>
       clear HR9 HK9
       obtain⟨k,hk,rfl,HR,HKD⟩:=hrel
       by_cases hkn:k<n
       ·have hk2:(k:Int)<(n:Int):=by omega
        obtain⟨uf,HUF⟩:=named (usF us ud k)
        have HL7:Hid (L64 n uf):=Lib.hid (by rw[HUF.out];exact HL5.out.usF HL6.out k)
        have HNX:Hid (uf.set k (uf.getD k 0|||ud.getD k 0)=usF us ud (k+1)):=Lib.hid (by rw[HUF.out];rfl)
        rw[←HUF.out]at HR
        have z1:wr.cell? ⟨g1,k,none⟩=some (.int .u64 ((uf.getD k 0:Nat):Int)):=(HR.out.r1.cell k).trans (U64_at (by rw[HL7.out.len];exact hkn))
        have z2:wr.cell? ⟨g2,k,none⟩=some (.int .u64 ((ud.getD k 0:Nat):Int)):=(HR.out.r2.cell k).trans (U64_at (by rw[HL6.out.len];exact hkn))
        have f1:=HR.out.r1.frozen k
        have hor:bits .or .u64 ((uf.getD k 0:Nat):Int) ((ud.getD k 0:Nat):Int)=((uf.getD k 0|||ud.getD k 0:Nat):Int):=u64_or_nat _ _ (HL7.out.lt k) (HL6.out.lt k)
        obtain⟨p1,HP1⟩:=named (uf.getD k 0)
        obtain⟨p2,HP2⟩:=named (ud.getD k 0)
        rw[←HP1.out]at z1 hor HNX
        rw[←HP2.out]at z2 hor HNX
        obtain⟨p3,HP3⟩:=named (p1|||p2)
        rw[←HP3.out]at hor HNX
        have HKN:=Lib.hid hkn
        clear hk hkn HUF HP1 HP2 HP3
        go_wp2
        go_roundw
        case rel=>exact⟨k+1,HKN.out,by go_num,Lib.hid (by rw[←HNX.out];exact HR.out.set1 k p3),Lib.hid (by rw[heap_set_ne5 _ _ _ HDG.out.1];exact HKD.out)⟩
        case measure=>have:=HKN.out;simp[intOf];omega
       ·obtain rfl:n=k:=by omega
        rw[HEQ.out]at HR
        go_wp2
        have h9:=HR.out.kept (B:=w7.heap.size) (row:=some D) (grownBy_putObj' _ D (.deferred none)) (fun r e=>by cases e;exact HDG.out.2) HWZ.out
        refine (show Q0 .ret _ _ from ?_)
        rw[←HQ.out]
        refine⟨by simp,.inl ⟨_,_,rfl,run_takeDeferred HKD.out,?_⟩⟩
        exact⟨_,results_tmp rfl _ _ _,g1,rfl,Nat.le_trans (Below.size HB1.out) h9.l1,h9.r1,joinB HB1.out h9.bel⟩
end Go.Proofs.YtcbllelkgniogaaDoor
