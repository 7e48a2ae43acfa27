/- . -/
import Derived.Test.YtjdjcaobkmpoeaaDoorRsa
import Derived.Test.YtjdjcaobkmpoeaaDoorM13
namespace Go.Proofs.YtjdjcaobkmpoeaaDoor
open Go.RowKit
theorem mem_getD0{l:List Int}{k:Nat}(h:k<l.length):l.getD k 0∈l:=by
 rw[List.getD_eq_getElem?_getD,List.getElem?_eq_getElem h];exact List.getElem_mem h
set_option maxRecDepth 100000 in
set_option maxHeartbeats 2000000 in
theorem rnode_any(c:Ck)(i:Nat)(hil:i<c.nodes.length)(v:Value)(w:World)(B:Nat)(hB:B≤w.heap.size)(hc:Cir w B v c):
 Calls Tryd.prog 46 #[v,.int .i64 (i:Int)] w fun e w'=>e=.returned (.int .i64 (nodeErr c (c.nodes.getD i default)))∧Below w.heap.size w w':=by
 obtain⟨y,HY⟩:=named (nodeErr c (c.nodes.getD i default))
 rw[←HY.out]
 have HALL:=Lib.hid (fun(l:List Int) (s:Value) (w1:World) (hb:Below w.heap.size w w1) (hs:Is w B s l)=>rall_any c l v s w1 B B (Nat.le_trans hB hb.size) (Nat.le_trans hB hb.size) (hc.below (hb.mono hB)) (hs.below (hb.mono hB)))
 obtain⟨v0,v1,v2,v3,rfl,hns,hss,hms,hos⟩:=hc
 obtain⟨A0,b0,o0,c0,rfl,hA0,-,hm0,hc0⟩:=hns
 obtain⟨A1,b1,o1,c1,rfl,-⟩:=hss
 obtain⟨A2,b2,o2,c2,rfl,hA2,-,hm2,hc2⟩:=hms
 obtain⟨A3,b3,o3,c3,rfl,-⟩:=hos
 obtain⟨hl0,s,e0,e1,e2,e3,hi4,hk0,hk1⟩:=hc0 i hil
 obtain⟨A4,b4,o4,c4,rfl,hA4,-,hm4,hc4⟩:=hi4.opens
 obtain rfl:=hA0 (by omega)
 have HC0:=Lib.hid hc0
 have HA2:=Lib.hid hA2
 have HC2:=Lib.hid hc2
 have HA4:=Lib.hid hA4
 have HC4:=Lib.hid hc4
 have HI4:=Lib.hid hi4
 unfold maxLen at hm0 hm2 hm4
 clear hA0 hc0 hA2 hc2 hA4 hc4 hi4
 obtain⟨x,HX⟩:=named (c.nodes.getD i default)
 rw[←HX.out]at e0 e1 e2 e3 hk0 hk1 HA4 HC4 HI4 hm4 HY
 have HYD:Hid (y=if 15<x.kind then 7 else if (x.ins.length:Int)<lo x.kind then 8 else if hi x.kind<(x.ins.length:Int) then 8 else if areIdx c.nodes.length x.ins=false then 1 else if x.kind=13∧anyP (notTri c) x.ins=true then 7 else if placeOk c x=false then 1 else 0):=HY
 have HPL:Hid (placeOk c x=if x.kind=15 then isIdx c.mems.length x.mem&&isIdx (c.mems.getD x.mem.toNat default).data.length x.bit else x.mem==0&&x.bit==0):=Lib.hid rfl
 have HAL:=Lib.hid (fun(w1:World) (hb:Below w.heap.size w w1)=>HALL.out x.ins _ w1 hb HI4.out)
 obtain⟨n,HN⟩:=named c.nodes.length
 obtain⟨n2,HN2⟩:=named c.mems.length
 rw[←HN.out]at hm0 hil HC0 HAL HYD
 rw[←HN2.out]at hm2 HA2 HC2 HAL HPL
 rw[←HN.out,←HN2.out]
 generalize c.names.length=n1 at HAL ⊢
 generalize c.outs.length=n3 at HAL ⊢
 obtain⟨kd,HKD⟩:=named x.kind
 obtain⟨md,HMD⟩:=named x.mem
 obtain⟨bd,HBD⟩:=named x.bit
 obtain⟨ni,HNI⟩:=named x.ins.length
 obtain⟨ix,HIX⟩:=named x.ins
 rw[←HKD.out]at e0 hk0 hk1 HYD HPL
 rw[←HMD.out]at e2 HPL
 rw[←HBD.out]at e3 HPL
 rw[←HNI.out]at e1 HA4 HC4 hm4 HYD HAL
 rw[←HIX.out]at HC4 HYD HAL HNI
 obtain⟨pl,HPV⟩:=named (placeOk c x)
 rw[←HPV.out]at HYD HPL
 obtain⟨ai,HAI⟩:=named (areIdx n ix)
 rw[←HAI.out]at HYD HAL
 have hal:∀w1,Below w.heap.size w w1→Calls Tryd.prog 48 #[.agg #[.slice (some ⟨b0,o0,none⟩) n c0,.slice A1 n1 c1,.slice A2 n2 c2,.slice A3 n3 c3],.slice A4 ni c4] w1 fun e w'=>e=.returned (.bool ai)∧Below w1.heap.size w1 w':=fun w1 hb=>HAL.out w1 hb
 clear HALL HAL HI4
 have HAL:=Lib.hid hal
 clear hal
 obtain⟨W2,HW2⟩:=named ((w.alloc (.cells #[.slice (some ⟨b0,o0,none⟩) n c0,.slice A1 n1 c1,.slice A2 n2 c2,.slice A3 n3 c3] 27)).alloc (.cells #[.int .u8 kd,.slice A4 ni c4,.int .i64 md,.int .i64 bd] 57))
 have hb2:Below w.heap.size w W2:=by rw[HW2.out];exact below_new (below_new (Below.refl _ _) _) _
 have hfa:Fr W2 w.heap.size 27 [.slice (some ⟨b0,o0,none⟩) n c0,.slice A1 n1 c1,.slice A2 n2 c2,.slice A3 n3 c3]:=by rw[HW2.out];exact Fr.alloc (Fr.made _ _ _ rfl) _
 have hfx:Fr W2 (w.heap.size+1) 57 [.int .u8 kd,.slice A4 ni c4,.int .i64 md,.int .i64 bd]:=by rw[HW2.out];exact Fr.made _ _ _ (by simp)
 have HCA:Hid (∀W,Below W2.heap.size W2 W→W.cell? ⟨w.heap.size,0,none⟩=some (.slice (some ⟨b0,o0,none⟩) n c0)∧W.cell? ⟨w.heap.size,1,none⟩=some (.slice A1 n1 c1)∧W.cell? ⟨w.heap.size,2,none⟩=some (.slice A2 n2 c2)∧W.cell? ⟨w.heap.size,3,none⟩=some (.slice A3 n3 c3)):=Lib.hid fun W hb=>⟨(hfa.below hb).cell 0,(hfa.below hb).cell 1,(hfa.below hb).cell 2,(hfa.below hb).cell 3⟩
 have HCX:Hid (∀W,Below W2.heap.size W2 W→W.cell? ⟨w.heap.size+1,0,none⟩=some (.int .u8 kd)∧W.cell? ⟨w.heap.size+1,1,none⟩=some (.slice A4 ni c4)∧W.cell? ⟨w.heap.size+1,2,none⟩=some (.int .i64 md)∧W.cell? ⟨w.heap.size+1,3,none⟩=some (.int .i64 bd)):=Lib.hid fun W hb=>⟨(hfx.below hb).cell 0,(hfx.below hb).cell 1,(hfx.below hb).cell 2,(hfx.below hb).cell 3⟩
 have HIN:Hid (kd≤15→∀W,Calls Tryd.prog 73 #[.int .u8 kd,.int .i64 ni] W fun e w'=>e=.returned (.bool (rinp kd ni))∧W=w'):=Lib.hid fun h W=>inputs_r kd ni hk0 h (by omega) W
 have HAL2:Hid (∀W,Below W2.heap.size W2 W→Calls Tryd.prog 48 #[.agg #[.slice (some ⟨b0,o0,none⟩) n c0,.slice A1 n1 c1,.slice A2 n2 c2,.slice A3 n3 c3],.slice A4 ni c4] W fun e w'=>e=.returned (.bool ai)∧Below W2.heap.size W2 w'):=Lib.hid fun W hb=>(HAL.out W (joinB hb2 hb)).mono fun e w' ⟨h1,h2⟩=>⟨h1,joinB hb h2⟩
 have HB2:=Lib.hid hb2
 have hw2:=hb2.size
 clear hb2 hfa hfx HAL
 have hrange:(i:Int)<n:=by omega
 have hlt0:b0<w.heap.size:=by omega
 have hne0:¬b0=w.heap.size:=by omega
 by_cases q0:15<kd
 ·have hy:y=7:=by rw[HYD.out];rw[if_pos q0]
  have HYF:=Lib.hid hy
  clear hy
  go_enter Tryd.func46,Tryd.ntmps46
  go_upto_region 2 with (fail)
  rw[←HW2.out]
  obtain⟨x0,x1,x2,x3⟩:=HCX.out W2 (Below.refl _ _)
  obtain⟨a0,a1,a2,a3⟩:=HCA.out W2 (Below.refl _ _)
  go_wp2
  go_ret
  exact⟨ret_int HYF.out.symm,HB2.out⟩
 cases q1:rinp kd (ni:Int)
 ·have hq:¬(lo kd≤(ni:Int)∧(ni:Int)≤hi kd):=fun h=>by rw[(rinp_iff hk0 q0 (by omega)).2 h]at q1;cases q1
  have hy:y=8:=by rw[HYD.out,if_neg q0];split;(·rfl);split;(·rfl);exact absurd ⟨by omega,by omega⟩ hq
  have HYF:=Lib.hid hy
  rw[q1]at HIN
  clear hy hq
  go_enter Tryd.func46,Tryd.ntmps46
  go_upto_region 2 with (fail)
  rw[←HW2.out]
  obtain⟨x0,x1,x2,x3⟩:=HCX.out W2 (Below.refl _ _)
  obtain⟨a0,a1,a2,a3⟩:=HCA.out W2 (Below.refl _ _)
  go_wp2_with (go_at_call 73;(with_reducible refine (HIN.out (by omega) _).mono ?_);rintro e w5 ⟨rfl,rfl⟩)
  go_ret
  exact⟨ret_int HYF.out.symm,HB2.out⟩
 have hq:=(rinp_iff hk0 q0 (by omega)).1 q1
 have HYE:Hid (y=if ai=false then 1 else if kd=13∧anyP (notTri c) ix=true then 7 else if pl=false then 1 else 0):=Lib.hid (by rw[HYD.out,if_neg q0,if_neg (by omega),if_neg (by omega)])
 rw[q1]at HIN
 clear hq q1 HYD
 cases ai
 ·have HYF:Hid (y=1):=HYE
  go_enter Tryd.func46,Tryd.ntmps46
  go_upto_region 2 with (fail)
  rw[←HW2.out]
  obtain⟨x0,x1,x2,x3⟩:=HCX.out W2 (Below.refl _ _)
  obtain⟨a0,a1,a2,a3⟩:=HCA.out W2 (Below.refl _ _)
  go_wp2_with (first|(go_at_call 73;(with_reducible refine (HIN.out (by omega) _).mono ?_);rintro e w5 ⟨rfl,rfl⟩)|(go_at_call 48;(with_reducible refine (HAL2.out _ (Below.refl _ _)).mono ?_);rintro e w6 ⟨rfl,hb⟩;have HB6:=Lib.hid hb;clear hb))
  go_ret
  exact⟨ret_int HYF.out.symm,joinB HB2.out HB6.out⟩
 have HYG:Hid (y=if kd=13∧anyP (notTri c) ix=true then 7 else if pl=false then 1 else 0):=HYE
 have HPIN:Hid (∀j,j<ni→A4=some ⟨b4,o4,none⟩∧∃p:Nat,ix.getD j 0=(p:Int)∧p<n∧∀W,Below W2.heap.size W2 W→W.cell? ⟨b4,o4+j,none⟩=some (.int .i64 (p:Int))∧W.cell? ⟨b0,o0+p*4,none⟩=some (.int .u8 (c.nodes.getD p default).kind)):=Lib.hid fun j hj=>by
  obtain⟨t1,t2⟩:=HC4.out j hj
  have t3:=areIdx_iff.1 HAI.out.symm _ (mem_getD0 (l:=ix) (k:=j) (by rw[←HNI.out];exact hj))
  refine⟨HA4.out (by omega),(ix.getD j 0).toNat,by omega,by omega,fun W hb=>⟨?_,?_⟩⟩
  ·rw[((joinB HB2.out hb).cell (p:=⟨b4,o4+j,none⟩) (by show b4<w.heap.size;omega)),t2,Int.toNat_of_nonneg t3.1]
  ·obtain⟨h1,s',h2,-⟩:=HC0.out (ix.getD j 0).toNat (by omega)
   exact ((joinB HB2.out hb).cell (p:=⟨b0,_,none⟩) (by show b0<w.heap.size;omega)).trans h2
 clear HC0 HC4 HYE HAI
 go_enter Tryd.func46,Tryd.ntmps46
 go_upto_region 2 with (fail)
 rw[←HW2.out]
 obtain⟨x0,x1,x2,x3⟩:=HCX.out W2 (Below.refl _ _)
 obtain⟨a0,a1,a2,a3⟩:=HCA.out W2 (Below.refl _ _)
 go_wp2_with (first|(go_at_call 73;(with_reducible refine (HIN.out (by omega) _).mono ?_);rintro e w5 ⟨rfl,rfl⟩)|(go_at_call 48;(with_reducible refine (HAL2.out _ (Below.refl _ _)).mono ?_);rintro e w6 ⟨rfl,hb⟩;have HB6:=Lib.hid hb;clear hb))
 clear x0 x1 x2 x3 a0 a1 a2 a3
 go_loopw [6] (fun i wr=>Below W2.heap.size W2 wr∧∃k:Nat,k≤ni∧i=.int .i64 k∧(kd≠13→k=0)∧∀j,j<k→notTri c (ix.getD j 0)=false) (fun i _=>ni-(intOf i).toNat)
 case atStart=>exact⟨HB6.out,0,Nat.zero_le _,rfl,fun _=>rfl,fun j hj=>absurd hj (by omega)⟩
 case round=>
  clear HB6
  obtain⟨hbr,k,hk,rfl,hk13,hno⟩:=hrel
  have HBR:=Lib.hid hbr
  have HNO:=Lib.hid hno
  obtain⟨x0,x1,x2,x3⟩:=HCX.out _ hbr
  obtain⟨a0,a1,a2,a3⟩:=HCA.out _ hbr
  clear hno
  by_cases h13:kd=13
  ·have t13:(kd==13)=true:=by rw[h13];rfl
   have t15:(kd != 15)=true:=by rw[h13];rfl
   have t15':(kd==15)=false:=by rw[h13];rfl
   have H13:=Lib.hid h13
   clear h13
   by_cases hlt:k<ni
   ·obtain⟨rfl,p,hp,hpn,hpw⟩:=HPIN.out k hlt
    obtain⟨z0,z1⟩:=hpw _ hbr
    have hnt:notTri c (ix.getD k 0)= !((c.nodes.getD p default).kind==12):=by rw[hp];unfold notTri;rw[Int.toNat_natCast]
    obtain⟨kp,HKP⟩:=named (c.nodes.getD p default).kind
    rw[←HKP.out]at z1 hnt
    clear hpw hbr
    by_cases h12:kp=12
    ·have HNT:Hid (notTri c (ix.getD k 0)=false):=Lib.hid (by rw[hnt,h12];rfl)
     subst h12
     clear hnt hp hk13
     go_wp2
     go_quiet (fail)
     go_wp2
     go_roundw
     case rel=>
      refine⟨below_drewN HBR.out _,k+1,by omega,by go_num,fun h=>absurd H13.out h,fun j hj=>?_⟩
      by_cases hjk:j=k
      ·rw[hjk];exact HNT.out
      ·exact HNO.out j (by omega)
     case measure=>simp[intOf];omega
    ·have t12:(kp != 12)=true:=by rw[bne_iff_ne];exact h12
     have hy:y=7:=by
      rw[HYG.out,if_pos ⟨H13.out,anyP_yes k (by rw[←HNI.out];exact hlt) (by rw[hnt];simpa using h12)⟩]
     have HYF:=Lib.hid hy
     clear hy hnt hp hk13 h12
     go_wp2
     go_quiet (fail)
     go_wp2
     go_ret
     exact⟨ret_int HYF.out.symm,joinB HB2.out (below_drewN HBR.out _)⟩
   ·obtain rfl:ni=k:=by omega
    have hpl:pl=(md==0&&bd==0):=by rw[HPL.out,if_neg (by have:=H13.out;omega)]
    have hany:anyP (notTri c) ix=false:=anyP_no fun j hj=>HNO.out j (by rw[HNI.out];exact hj)
    have HYH:Hid (y=if pl=false then 1 else 0):=Lib.hid (by rw[HYG.out,if_neg (fun h=>by rw[hany]at h;cases h.2)])
    have HPP:=Lib.hid hpl
    clear hpl hany hbr hk13
    cases m0:(md != 0)
    ·have e0':(md==0)=true:=by simpa using m0
     cases m1:(bd != 0)
     ·have e1':(bd==0)=true:=by simpa using m1
      have hy:y=0:=by rw[HYH.out,HPP.out,e0',e1'];rfl
      have HYF:=Lib.hid hy
      clear hy e0' e1'
      go_wp2
      go_quiet (fail)
      go_wp2
      go_ret
      exact⟨ret_int HYF.out.symm,joinB HB2.out (below_drewN HBR.out _)⟩
     ·have e1':(bd==0)=false:=by simpa using m1
      have hy:y=1:=by rw[HYH.out,HPP.out,e0',e1'];rfl
      have HYF:=Lib.hid hy
      clear hy e0' e1'
      go_wp2
      go_ret
      exact⟨ret_int HYF.out.symm,joinB HB2.out HBR.out⟩
    ·have e0':(md==0)=false:=by simpa using m0
     have hy:y=1:=by rw[HYH.out,HPP.out,e0'];rfl
     have HYF:=Lib.hid hy
     clear hy e0'
     go_wp2
     go_ret
     exact⟨ret_int HYF.out.symm,joinB HB2.out HBR.out⟩
  ·obtain rfl:=hk13 h13
   have t13:(kd==13)=false:=by rw[beq_eq_false_iff_ne];exact h13
   have HYH:Hid (y=if pl=false then 1 else 0):=Lib.hid (by rw[HYG.out,if_neg (fun h=>h13 h.1)])
   clear hbr hk13
   by_cases hn0:0<ni
   ·skip
    by_cases h15:kd=15
    ·have hpl:pl=(isIdx n2 md&&isIdx (c.mems.getD md.toNat default).data.length bd):=by rw[HPL.out,if_pos h15]
     have HPP:=Lib.hid hpl
     have t15:(kd != 15)=false:=by rw[h15];rfl
     have t15':(kd==15)=true:=by rw[h15];rfl
     have H15:=Lib.hid h15
     have qx0:=fun xx:Beh wr=>(HCX.out _ (joinB HBR.out xx.below)).1
     have qx1:=fun xx:Beh wr=>(HCX.out _ (joinB HBR.out xx.below)).2.1
     have qx2:=fun xx:Beh wr=>(HCX.out _ (joinB HBR.out xx.below)).2.2.1
     have qx3:=fun xx:Beh wr=>(HCX.out _ (joinB HBR.out xx.below)).2.2.2
     have qa2:=fun xx:Beh wr=>(HCA.out _ (joinB HBR.out xx.below)).2.2.1
     clear h15
     clear hpl
     cases s0:decide (md<0)
     ·have s0':=of_decide_eq_false s0
      cases s1:decide ((n2:Int)≤md)
      ·have s1':=of_decide_eq_false s1
       obtain⟨mn,rfl⟩:∃mn:Nat,md=(mn:Int):=⟨md.toNat,by omega⟩
       have hmn:mn<n2:=by omega
       have s1n:decide (n2≤mn)=false:=decide_eq_false (by omega)
       obtain rfl:=HA2.out (by omega)
       obtain⟨g1,s',t',g2,g3,-,-,g4⟩:=HC2.out mn hmn
       obtain⟨A5,b5,o5,c5,rfl,-⟩:=id g4
       have hm5:=Arr.len g4
       unfold maxLen at hm5
       have g5:wr.cell? ⟨b2,o2+mn*3+1,none⟩=_:=((joinB HB2.out HBR.out).cell (p:=⟨b2,o2+mn*3+1,none⟩) (by show b2<w.heap.size;omega)).trans g3
       have g6:∀xx:Beh wr,xx.x.cell? ⟨b2,o2+mn*3+1,none⟩=some (.slice A5 (c.mems.getD mn default).data.length c5):=fun xx=>beh_cell (cell_lt g5) g5 xx
       have hpp:=HPP.out
       rw[Int.toNat_natCast]at hpp
       obtain⟨nd,HND⟩:=named (c.mems.getD mn default).data.length
       rw[←HND.out]at g5 g6 hpp hm5
       have hpp2:pl=isIdx nd bd:=by rw[hpp,isIdx_iff.2 ⟨by omega,by omega⟩];rfl
       have HP2:=Lib.hid hpp2
       clear g1 g2 g3 g4 hpp hpp2
       cases s2:decide (bd<0)
       ·have s2':=of_decide_eq_false s2
        cases s3:decide ((nd:Int)≤bd)
        ·have hy:y=0:=by rw[HYH.out,HP2.out,isIdx_iff.2 ⟨by omega,by have:=of_decide_eq_false s3;omega⟩];rfl
         have HYF:=Lib.hid hy
         clear hy s2' s1' s0'
         go_upto_region 15 with (fail)
         refine region_class (w0:=wr) (Below.refl _ _) (by kernel_rfl) (by kernel_rfl) ?_
         repeat (first
          |go_big_quiet_skip
          |(go_big_quiet_want;go_big_quiet_op;first
           |go_big_quiet_on
           |fail))
         refine wpQuiet_nil ?_
         rintro w9 ⟨⟨wz,hz⟩,rfl⟩
         go_wp2
         go_ret
         exact⟨ret_int HYF.out.symm,joinB HB2.out (joinB HBR.out hz)⟩
        ·have hy:y=1:=by
          have hf:isIdx nd bd=false:=by
           cases h:isIdx nd bd
           ·rfl
           ·have:=isIdx_iff.1 h;have:=of_decide_eq_true s3;omega
          rw[HYH.out,HP2.out,hf];rfl
         have HYF:=Lib.hid hy
         clear hy s2' s1' s0'
         go_upto_region 15 with (fail)
         refine region_class (w0:=wr) (Below.refl _ _) (by kernel_rfl) (by kernel_rfl) ?_
         repeat (first
          |go_big_quiet_skip
          |(go_big_quiet_want;go_big_quiet_op;first
           |go_big_quiet_on
           |fail))
         refine wpQuiet_nil ?_
         rintro w9 ⟨⟨wz,hz⟩,rfl⟩
         go_wp2
         go_ret
         exact⟨ret_int HYF.out.symm,joinB HB2.out (joinB HBR.out hz)⟩
       ·have hy:y=1:=by
         have hf:isIdx nd bd=false:=by
          cases h:isIdx nd bd
          ·rfl
          ·have:=isIdx_iff.1 h;have:=of_decide_eq_true s2;omega
         rw[HYH.out,HP2.out,hf];rfl
        have HYF:=Lib.hid hy
        clear hy
        go_upto_region 15 with (fail)
        refine region_class (w0:=wr) (Below.refl _ _) (by kernel_rfl) (by kernel_rfl) ?_
        repeat (first
         |go_big_quiet_skip
         |(go_big_quiet_want;go_big_quiet_op;first
          |go_big_quiet_on
          |fail))
        refine wpQuiet_nil ?_
        rintro w9 ⟨⟨wz,hz⟩,rfl⟩
        go_wp2
        go_ret
        exact⟨ret_int HYF.out.symm,joinB HB2.out (joinB HBR.out hz)⟩
      ·have hy:y=1:=by
        have hf:isIdx n2 md=false:=by
         cases h:isIdx n2 md
         ·rfl
         ·have:=isIdx_iff.1 h;have:=of_decide_eq_true s1;omega
        rw[HYH.out,HPP.out,hf];rfl
       have HYF:=Lib.hid hy
       clear hy
       go_upto_region 15 with (fail)
       refine region_class (w0:=wr) (Below.refl _ _) (by kernel_rfl) (by kernel_rfl) ?_
       repeat (first
        |go_big_quiet_skip
        |(go_big_quiet_want;go_big_quiet_op;first
         |go_big_quiet_on
         |fail))
       refine wpQuiet_nil ?_
       rintro w9 ⟨⟨wz,hz⟩,rfl⟩
       go_wp2
       go_ret
       exact⟨ret_int HYF.out.symm,joinB HB2.out (joinB HBR.out hz)⟩
     ·have hy:y=1:=by
       have hf:isIdx n2 md=false:=by
        cases h:isIdx n2 md
        ·rfl
        ·have:=isIdx_iff.1 h;have:=of_decide_eq_true s0;omega
       rw[HYH.out,HPP.out,hf];rfl
      have HYF:=Lib.hid hy
      clear hy
      go_upto_region 15 with (fail)
      refine region_class (w0:=wr) (Below.refl _ _) (by kernel_rfl) (by kernel_rfl) ?_
      repeat (first
       |go_big_quiet_skip
       |(go_big_quiet_want;go_big_quiet_op;first
        |go_big_quiet_on
        |fail))
      refine wpQuiet_nil ?_
      rintro w9 ⟨⟨wz,hz⟩,rfl⟩
      go_wp2
      go_ret
      exact⟨ret_int HYF.out.symm,joinB HB2.out (joinB HBR.out hz)⟩
    ·have hpl:pl=(md==0&&bd==0):=by rw[HPL.out,if_neg h15]
     have HPP:=Lib.hid hpl
     clear hpl
     have t15:(kd != 15)=true:=by rw[bne_iff_ne];omega
     have t15':(kd==15)=false:=by rw[beq_eq_false_iff_ne];omega
     cases m0:(md != 0)
     ·have e0':(md==0)=true:=by simpa using m0
      cases m1:(bd != 0)
      ·have e1':(bd==0)=true:=by simpa using m1
       have hy:y=0:=by rw[HYH.out,HPP.out,e0',e1'];rfl
       have HYF:=Lib.hid hy
       clear hy e0' e1'
       go_wp2
       go_quiet (fail)
       go_wp2
       go_ret
       exact⟨ret_int HYF.out.symm,joinB HB2.out (below_drewN HBR.out _)⟩
      ·have e1':(bd==0)=false:=by simpa using m1
       have hy:y=1:=by rw[HYH.out,HPP.out,e0',e1'];rfl
       have HYF:=Lib.hid hy
       clear hy e0' e1'
       go_wp2
       go_ret
       exact⟨ret_int HYF.out.symm,joinB HB2.out HBR.out⟩
     ·have e0':(md==0)=false:=by simpa using m0
      have hy:y=1:=by rw[HYH.out,HPP.out,e0'];rfl
      have HYF:=Lib.hid hy
      clear hy e0'
      go_wp2
      go_ret
      exact⟨ret_int HYF.out.symm,joinB HB2.out HBR.out⟩
   ·skip
    by_cases h15:kd=15
    ·have hpl:pl=(isIdx n2 md&&isIdx (c.mems.getD md.toNat default).data.length bd):=by rw[HPL.out,if_pos h15]
     have HPP:=Lib.hid hpl
     have t15:(kd != 15)=false:=by rw[h15];rfl
     have t15':(kd==15)=true:=by rw[h15];rfl
     have H15:=Lib.hid h15
     have qx0:=fun xx:Beh wr=>(HCX.out _ (joinB HBR.out xx.below)).1
     have qx1:=fun xx:Beh wr=>(HCX.out _ (joinB HBR.out xx.below)).2.1
     have qx2:=fun xx:Beh wr=>(HCX.out _ (joinB HBR.out xx.below)).2.2.1
     have qx3:=fun xx:Beh wr=>(HCX.out _ (joinB HBR.out xx.below)).2.2.2
     have qa2:=fun xx:Beh wr=>(HCA.out _ (joinB HBR.out xx.below)).2.2.1
     clear h15
     clear hpl
     cases s0:decide (md<0)
     ·have s0':=of_decide_eq_false s0
      cases s1:decide ((n2:Int)≤md)
      ·have s1':=of_decide_eq_false s1
       obtain⟨mn,rfl⟩:∃mn:Nat,md=(mn:Int):=⟨md.toNat,by omega⟩
       have hmn:mn<n2:=by omega
       have s1n:decide (n2≤mn)=false:=decide_eq_false (by omega)
       obtain rfl:=HA2.out (by omega)
       obtain⟨g1,s',t',g2,g3,-,-,g4⟩:=HC2.out mn hmn
       obtain⟨A5,b5,o5,c5,rfl,-⟩:=id g4
       have hm5:=Arr.len g4
       unfold maxLen at hm5
       have g5:wr.cell? ⟨b2,o2+mn*3+1,none⟩=_:=((joinB HB2.out HBR.out).cell (p:=⟨b2,o2+mn*3+1,none⟩) (by show b2<w.heap.size;omega)).trans g3
       have g6:∀xx:Beh wr,xx.x.cell? ⟨b2,o2+mn*3+1,none⟩=some (.slice A5 (c.mems.getD mn default).data.length c5):=fun xx=>beh_cell (cell_lt g5) g5 xx
       have hpp:=HPP.out
       rw[Int.toNat_natCast]at hpp
       obtain⟨nd,HND⟩:=named (c.mems.getD mn default).data.length
       rw[←HND.out]at g5 g6 hpp hm5
       have hpp2:pl=isIdx nd bd:=by rw[hpp,isIdx_iff.2 ⟨by omega,by omega⟩];rfl
       have HP2:=Lib.hid hpp2
       clear g1 g2 g3 g4 hpp hpp2
       cases s2:decide (bd<0)
       ·have s2':=of_decide_eq_false s2
        cases s3:decide ((nd:Int)≤bd)
        ·have hy:y=0:=by rw[HYH.out,HP2.out,isIdx_iff.2 ⟨by omega,by have:=of_decide_eq_false s3;omega⟩];rfl
         have HYF:=Lib.hid hy
         clear hy s2' s1' s0'
         go_upto_region 15 with (fail)
         refine region_class (w0:=wr) (Below.refl _ _) (by kernel_rfl) (by kernel_rfl) ?_
         repeat (first
          |go_big_quiet_skip
          |(go_big_quiet_want;go_big_quiet_op;first
           |go_big_quiet_on
           |fail))
         refine wpQuiet_nil ?_
         rintro w9 ⟨⟨wz,hz⟩,rfl⟩
         go_wp2
         go_ret
         exact⟨ret_int HYF.out.symm,joinB HB2.out (joinB HBR.out hz)⟩
        ·have hy:y=1:=by
          have hf:isIdx nd bd=false:=by
           cases h:isIdx nd bd
           ·rfl
           ·have:=isIdx_iff.1 h;have:=of_decide_eq_true s3;omega
          rw[HYH.out,HP2.out,hf];rfl
         have HYF:=Lib.hid hy
         clear hy s2' s1' s0'
         go_upto_region 15 with (fail)
         refine region_class (w0:=wr) (Below.refl _ _) (by kernel_rfl) (by kernel_rfl) ?_
         repeat (first
          |go_big_quiet_skip
          |(go_big_quiet_want;go_big_quiet_op;first
           |go_big_quiet_on
           |fail))
         refine wpQuiet_nil ?_
         rintro w9 ⟨⟨wz,hz⟩,rfl⟩
         go_wp2
         go_ret
         exact⟨ret_int HYF.out.symm,joinB HB2.out (joinB HBR.out hz)⟩
       ·have hy:y=1:=by
         have hf:isIdx nd bd=false:=by
          cases h:isIdx nd bd
          ·rfl
          ·have:=isIdx_iff.1 h;have:=of_decide_eq_true s2;omega
         rw[HYH.out,HP2.out,hf];rfl
        have HYF:=Lib.hid hy
        clear hy
        go_upto_region 15 with (fail)
        refine region_class (w0:=wr) (Below.refl _ _) (by kernel_rfl) (by kernel_rfl) ?_
        repeat (first
         |go_big_quiet_skip
         |(go_big_quiet_want;go_big_quiet_op;first
          |go_big_quiet_on
          |fail))
        refine wpQuiet_nil ?_
        rintro w9 ⟨⟨wz,hz⟩,rfl⟩
        go_wp2
        go_ret
        exact⟨ret_int HYF.out.symm,joinB HB2.out (joinB HBR.out hz)⟩
      ·have hy:y=1:=by
        have hf:isIdx n2 md=false:=by
         cases h:isIdx n2 md
         ·rfl
         ·have:=isIdx_iff.1 h;have:=of_decide_eq_true s1;omega
        rw[HYH.out,HPP.out,hf];rfl
       have HYF:=Lib.hid hy
       clear hy
       go_upto_region 15 with (fail)
       refine region_class (w0:=wr) (Below.refl _ _) (by kernel_rfl) (by kernel_rfl) ?_
       repeat (first
        |go_big_quiet_skip
        |(go_big_quiet_want;go_big_quiet_op;first
         |go_big_quiet_on
         |fail))
       refine wpQuiet_nil ?_
       rintro w9 ⟨⟨wz,hz⟩,rfl⟩
       go_wp2
       go_ret
       exact⟨ret_int HYF.out.symm,joinB HB2.out (joinB HBR.out hz)⟩
     ·have hy:y=1:=by
       have hf:isIdx n2 md=false:=by
        cases h:isIdx n2 md
        ·rfl
        ·have:=isIdx_iff.1 h;have:=of_decide_eq_true s0;omega
       rw[HYH.out,HPP.out,hf];rfl
      have HYF:=Lib.hid hy
      clear hy
      go_upto_region 15 with (fail)
      refine region_class (w0:=wr) (Below.refl _ _) (by kernel_rfl) (by kernel_rfl) ?_
      repeat (first
       |go_big_quiet_skip
       |(go_big_quiet_want;go_big_quiet_op;first
        |go_big_quiet_on
        |fail))
      refine wpQuiet_nil ?_
      rintro w9 ⟨⟨wz,hz⟩,rfl⟩
      go_wp2
      go_ret
      exact⟨ret_int HYF.out.symm,joinB HB2.out (joinB HBR.out hz)⟩
    ·have hpl:pl=(md==0&&bd==0):=by rw[HPL.out,if_neg h15]
     have HPP:=Lib.hid hpl
     clear hpl
     have t15:(kd != 15)=true:=by rw[bne_iff_ne];omega
     have t15':(kd==15)=false:=by rw[beq_eq_false_iff_ne];omega
     cases m0:(md != 0)
     ·have e0':(md==0)=true:=by simpa using m0
      cases m1:(bd != 0)
      ·have e1':(bd==0)=true:=by simpa using m1
       have hy:y=0:=by rw[HYH.out,HPP.out,e0',e1'];rfl
       have HYF:=Lib.hid hy
       clear hy e0' e1'
       go_wp2
       go_quiet (fail)
       go_wp2
       go_ret
       exact⟨ret_int HYF.out.symm,joinB HB2.out (below_drewN HBR.out _)⟩
      ·have e1':(bd==0)=false:=by simpa using m1
       have hy:y=1:=by rw[HYH.out,HPP.out,e0',e1'];rfl
       have HYF:=Lib.hid hy
       clear hy e0' e1'
       go_wp2
       go_ret
       exact⟨ret_int HYF.out.symm,joinB HB2.out HBR.out⟩
     ·have e0':(md==0)=false:=by simpa using m0
      have hy:y=1:=by rw[HYH.out,HPP.out,e0'];rfl
      have HYF:=Lib.hid hy
      clear hy e0'
      go_wp2
      go_ret
      exact⟨ret_int HYF.out.symm,joinB HB2.out HBR.out⟩
end Go.Proofs.YtjdjcaobkmpoeaaDoor
