/- The texts Rlv. -/
import Derived.Test.YtjdjcaobkmpoeaaDoorM19
import Derived.Test.YtjdjcaobkmpoeaaDoorM20
namespace Go.Proofs.YtjdjcaobkmpoeaaDoor
open Go.RowKit
structure RW(w:World)(vs:List Value)(wr:World)(out:List Int):Prop where
 bel:Below w.heap.size w wr
 box:Fr wr w.heap.size 27 vs
 row:Row wr (w.heap.size+1) out
section
variable {w wr w1:World} {vs:List Value} {out:List Int}
theorem RW.next(h:RW w vs wr out)(hb:Below wr.heap.size wr w1):RW w vs w1 out:=⟨joinB h.bel hb,h.box.below hb,h.row.below hb⟩
theorem RW.set(h:RW w vs wr out)(j:Nat)(x:Int):RW w vs (wr.setCell ⟨w.heap.size+1,j,none⟩ (.int .i64 x)) (out.set j x):=
 ⟨h.bel.setCell (Nat.le_succ _) _,h.box.other (by show w.heap.size+1≠w.heap.size;omega) _,h.row.set j x⟩
theorem RW.drewN(h:RW w vs wr out)(n:Nat):RW w vs (wr.drewN n) out:=h.next (below_drewN (Below.refl _ _) n)
end
def Bd(l:List Int)(b:Nat):Prop:=∀i:Nat,lat l i≤(b:Int)
theorem Bd.zero(n:Nat):Bd (List.replicate n 0) 0:=fun i=>by
 unfold lat;rw[List.getD_eq_getElem?_getD,List.getElem?_replicate];split<;>exact Int.le_refl _
theorem Bd.pin{s:List Int×Bool}{b k:Nat}(h:Bd s.1 b){x:Int}(hx:0≤x):Bd (rpin k s x).1 (b+1):=fun i=>by
 have h1:=h i
 have h2:=h x.toNat
 rw[lat_nat _ hx]at h2
 unfold rpin
 split
 ·show lat (s.1.set k _) i≤_
  rw[lat_set _ (by omega)]
  split<;>omega
 ·omega
theorem Bd.le{l:List Int}{b b':Nat}(h:Bd l b)(hb:b≤b'):Bd l b':=fun i=>by have:=h i;omega
theorem getD_in{l:List Int}{k:Nat}(h:k<l.length):l.getD k 0∈l:=by
 rw[List.getD_eq_getElem?_getD,List.getElem?_eq_getElem h];exact List.getElem_mem h
def RLev(c:Ck)(w:World)(e:Ending)(w':World):Prop:=
 Below w.heap.size w w'∧((∃L,Lvl c.nodes L∧e=.returned (.tuple #[.slice (some ⟨w.heap.size+1,0,none⟩) c.nodes.length c.nodes.length,.bool true])∧Row w' (w.heap.size+1) L)
  ∨((¬∃L,Lvl c.nodes L)∧e=.returned (.tuple #[.slice none 0 0,.bool false])))
theorem made_zero(n:Nat):(madeCells #[Value.int .i64 0] n).toList=(List.replicate n 0).map (Value.int .i64):=by
 rw[fillL_start (fun _=>.int .i64 0),←fillL_end 0 (.int .i64 0) n]
 unfold fillL
 simp
set_option maxRecDepth 100000 in
set_option maxHeartbeats 8000000 in
theorem rlev_any(c:Ck)(v:Value)(w:World)(B:Nat)(hB:B≤w.heap.size)(hc:Cir w B v c)(hw:Wf c.nodes)(hsz:c.nodes.length≤1000000)(hpn:∀k,k<c.nodes.length→(c.nodes.getD k default).ins.length≤100):
 Calls Tryd.prog 24 #[v] w (RLev c w):=by
 obtain⟨v0,v1,v2,v3,rfl,hns,hss,hms,hos⟩:=hc
 obtain⟨A0,b,o,c0,rfl,hA,-,-,hcell⟩:=id hns
 obtain⟨A1,b1,o1,c1,rfl,-⟩:=id hss
 obtain⟨A2,b2,o2,c2,rfl,-⟩:=id hms
 obtain⟨A3,b3,o3,c3,rfl,-⟩:=id hos
 have hbW:Below w.heap.size w (w.alloc (.cells #[.slice A0 c.nodes.length c0,.slice A1 c.names.length c1,.slice A2 c.mems.length c2,.slice A3 c.outs.length c3] 27)):=(Below.refl _ _).alloc (Nat.le_refl _) _
 have hfr:Fr (w.alloc (.cells #[.slice A0 c.nodes.length c0,.slice A1 c.names.length c1,.slice A2 c.mems.length c2,.slice A3 c.outs.length c3] 27)) w.heap.size 27 [.slice A0 c.nodes.length c0,.slice A1 c.names.length c1,.slice A2 c.mems.length c2,.slice A3 c.outs.length c3]:=Fr.made w _ _ rfl
 have HCE:=Lib.hid hcell
 have HAA:=Lib.hid hA
 have HWF:=Lib.hid hw
 have HPN:=Lib.hid hpn
 clear hns hss hms hos hcell hA hw hpn
 generalize c.names.length=n1 at hbW hfr ⊢
 generalize c.mems.length=n2 at hbW hfr ⊢
 generalize c.outs.length=n3 at hbW hfr ⊢
 obtain⟨n,HN⟩:=named c.nodes.length
 rw[←HN.out]at hbW hsz hfr
 rw[←HN.out]
 obtain⟨W,HW⟩:=named (w.alloc (.cells #[.slice A0 n c0,.slice A1 n1 c1,.slice A2 n2 c2,.slice A3 n3 c3] 27))
 have hzW:W.heap.size=w.heap.size+1:=by rw[HW.out];simp
 rw[←HW.out]at hbW hfr
 have x0:W.cell? ⟨w.heap.size,0,none⟩=some (.slice A0 n c0):=hfr.cell 0
 have HBW:=Lib.hid hbW
 have HZW:=Lib.hid hzW
 have HFR:=Lib.hid hfr
 have HX0:=Lib.hid x0
 clear hbW hzW hfr x0
 obtain⟨NP,HNP⟩:=named (n*100)
 have hNP:NP≤100000000:=by rw[HNP.out];omega
 obtain⟨i0,hi,hz0,hz1,hz2⟩:=info_parts info_int
 have HI:=Lib.hid (And.intro hi (And.intro hz0 (And.intro hz1 hz2)))
 clear hi hz0 hz1 hz2
 go_enter Tryd.func24,Tryd.ntmps24
 go_wp2_with (at_make;refine wpList_make_full _ rfl _ _ 25 rfl (w.heap.size+1) 3 i0 (.int .i64 0) 1 Tryd.underlying25 HI.out.1 HI.out.2.1 HI.out.2.2.1 .i64 .i64 _ _ n rfl rfl rfl rfl ?b2 ?b3 ?b4 ?_)
 case b2=>rw[HI.out.2.2.2];omega
 case b3=>unfold maxLen;omega
 case b4=>simp
 intro w2 hown hgr
 have hrow:Row w2 (w.heap.size+1) (List.replicate n 0):=by
  unfold Row
  rw[List.length_replicate,←made_zero]
  exact hown
 rw[←HW.out]at hgr
 have hst:RW w [.slice A0 n c0,.slice A1 n1 c1,.slice A2 n2 c2,.slice A3 n3 c3] w2 (List.replicate n 0):=
  ⟨HBW.out.grown hgr HBW.out.size (fun k h=>by cases h),HFR.out.kept hgr (by simp),hrow⟩
 have HST:=Lib.hid hst
 clear hown hgr hrow hst
 go_wp2
 go_loopw [5] (fun i wr=>∃(k:Nat) (out:List Int),i=.int .i64 k∧k≤n+1∧RW w [.slice A0 n c0,.slice A1 n1 c1,.slice A2 n2 c2,.slice A3 n3 c3] wr out∧RO c.nodes k out∧((∃L,Lvl c.nodes L)→k≤n)∧Bd out (k*NP)) (fun i _=>n+1-(intOf i).toNat)
 case atStart=>exact⟨0,_,rfl,by omega,HST.out,by rw[HN.out];exact RO.start _,fun _=>Nat.zero_le _,(Bd.zero n).le (Nat.zero_le _)⟩
 case round=>
  clear HST
  obtain⟨k,out,rfl,hk,hst,hro,hmore,hbd⟩:=hrel
  have y0:wr.cell? ⟨w.heap.size,0,none⟩=some (.slice A0 n c0):=hst.box.cell 0
  have HRO:=Lib.hid hro
  have HBD:=Lib.hid hbd
  obtain⟨KN,HKN⟩:=named (k*NP)
  have hKN:KN≤1000001*100000000:=by rw[HKN.out];exact Nat.mul_le_mul (by omega) hNP
  rw[←HKN.out]at HBD
  clear hbd
  have HMO:=Lib.hid hmore
  have HS:=Lib.hid hst
  clear hro hmore hst
  by_cases hkn:k≤n
  ·go_wp2
   clear y0
   go_loopw [6,7] (fun a i wx=>∃(j:Nat) (s:List Int×Bool),i=.int .i64 j∧j≤n∧a=.bool s.2∧RW w [.slice A0 n c0,.slice A1 n1 c1,.slice A2 n2 c2,.slice A3 n3 c3] wx s.1∧RI c.nodes out j [] s∧Bd s.1 (KN+j*100)) (fun _ i _=>n-(intOf i).toNat)
   case atStart=>exact⟨0,_,rfl,Nat.zero_le _,rfl,HS.out,HRO.out.begin,HBD.out.le (Nat.le_add_right _ _)⟩
   case round=>
    clear HS
    obtain⟨j,⟨lv,ag⟩,rfl,hj,rfl,hst,hri,hbj⟩:=hrel
    dsimp only at hst hri hbj ⊢
    have HBJ:=Lib.hid hbj
    have y0:wr.cell? ⟨w.heap.size,0,none⟩=some (.slice A0 n c0):=hst.box.cell 0
    have HS:=Lib.hid hst
    have HRI:=Lib.hid hri
    by_cases hjn:j<n
    ·obtain rfl:=HAA.out (by rw[←HN.out];omega)
     obtain⟨hlb,s5,h0,h1,h2,h3,h4,-⟩:=HCE.out j (by rw[←HN.out];exact hjn)
     obtain⟨A5,b5,o5,c5,rfl,hA5,-,hm5,hc5⟩:=h4.opens
     have hb0:∀(p:Nat),wr.cell? ⟨b,p,none⟩=w.cell? ⟨b,p,none⟩:=fun p=>hst.bel.cell (p:=⟨b,p,none⟩) (by show b<w.heap.size;omega)
     rw[←hb0]at h0 h1 h2 h3
     have hlbr:b<wr.heap.size:=by have:=hst.bel.size;omega
     have HDEP:Hid (dep c.nodes (j:Int)=if cmb (c.nodes.getD j default).kind=true then (c.nodes.getD j default).ins else []):=Lib.hid rfl
     have hkd:∃y,cmb (c.nodes.getD j default).kind=y:=⟨_,rfl⟩
     obtain⟨y,hy⟩:=hkd
     obtain⟨kd,HKD⟩:=named (c.nodes.getD j default).kind
     obtain⟨mm,HMM⟩:=named (c.nodes.getD j default).mem
     obtain⟨bt,HBT⟩:=named (c.nodes.getD j default).bit
     rw[←HKD.out]at h0 hy HDEP
     rw[←HMM.out]at h2
     rw[←HBT.out]at h3
     obtain⟨li,HLI⟩:=named (c.nodes.getD j default).ins
     rw[←HLI.out]at h1 hA5 hm5 hc5 HDEP
     obtain⟨ni,HNI⟩:=named li.length
     rw[←HNI.out]at h1 hA5 hm5 hc5
     unfold maxLen at hm5
     have HC5:=Lib.hid hc5
     have HA5:=Lib.hid hA5
     have HY:=Lib.hid hy
     have hrc:=fun W=>refComb_any kd W
     rw[hy]at hrc
     have HRC:=Lib.hid hrc
     have hni:ni≤100:=by rw[HNI.out,HLI.out];exact HPN.out j (by rw[←HN.out];exact hjn)
     clear hst hri hbj h4 hb0 hy hc5 hA5 hrc
     go_wp2
     obtain⟨q8,HQ8⟩:=named wr.heap.size
     rw[←HQ8.out]
     have hst8:RW w [.slice (some ⟨b,o,none⟩) n c0,.slice A1 n1 c1,.slice A2 n2 c2,.slice A3 n3 c3] (wr.alloc (.cells #[.int .u8 kd,.slice A5 ni c5,.int .i64 mm,.int .i64 bt] 57)) lv:=HS.out.next (below_new (Below.refl _ _) _)
     have hfr8:Fr (wr.alloc (.cells #[.int .u8 kd,.slice A5 ni c5,.int .i64 mm,.int .i64 bt] 57)) q8 57 [.int .u8 kd,.slice A5 ni c5,.int .i64 mm,.int .i64 bt]:=by rw[HQ8.out];exact Fr.made wr _ _ rfl
     have hq8:w.heap.size+1<q8:=by rw[HQ8.out];exact HS.out.row.lt
     have HS8:=Lib.hid hst8
     have HF8:=Lib.hid hfr8
     clear hst8 hfr8 HS y0 h0 h1 h2 h3
     go_loopw [6,9] (fun a i wx=>∃(m:Nat) (s:List Int×Bool),i=.int .i64 m∧m≤ni∧(y=false→m=0)∧a=.bool s.2∧RW w [.slice (some ⟨b,o,none⟩) n c0,.slice A1 n1 c1,.slice A2 n2 c2,.slice A3 n3 c3] wx s.1∧Fr wx q8 57 [.int .u8 kd,.slice A5 ni c5,.int .i64 mm,.int .i64 bt]∧RI c.nodes out j (li.take m) s∧Bd s.1 (KN+j*100+m)) (fun _ i _=>ni-(intOf i).toNat)
     case atStart=>exact⟨0,(lv,ag),rfl,Nat.zero_le _,fun _=>rfl,rfl,HS8.out,HF8.out,HRI.out,HBJ.out⟩
     case round=>
      clear HS8 HF8 HRI HBJ
      obtain⟨m,⟨lm,am⟩,rfl,hm,hm0,rfl,hst,hfr,hri,hbm⟩:=hrel
      dsimp only at hst hfr hri hbm ⊢
      have y0:wr.cell? ⟨w.heap.size,0,none⟩=some (.slice (some ⟨b,o,none⟩) n c0):=hst.box.cell 0
      have z0:wr.cell? ⟨q8,0,none⟩=some (.int .u8 kd):=hfr.cell 0
      have z1:wr.cell? ⟨q8,1,none⟩=some (.slice A5 ni c5):=hfr.cell 1
      have HS:=Lib.hid hst
      have HRI:=Lib.hid hri
      have HBM:=Lib.hid hbm
      have HFR8:=Lib.hid hfr
      cases y
      ·obtain rfl:m=0:=hm0 rfl
       have hnx:=(show RI c.nodes out j (dep c.nodes j) (lm,am) by rw[HDEP.out,HY.out,if_neg (by decide)];exact hri).next
       have HNX:=Lib.hid hnx
       clear hst hfr hri hbm hnx hm0
       by_cases hn0:0<ni
       ·go_wp2_with (go_at_call 49;(with_reducible refine (HRC.out _).mono ?_);rintro e w3 ⟨rfl,rfl⟩)
        go_roundw
        case rel=>exact⟨j+1,(lm,am),by go_num,by omega,rfl,HS.out,HNX.out,HBM.out.le (by omega)⟩
        case measure=>simp[intOf];omega
       ·go_wp2
        go_roundw
        case rel=>exact⟨j+1,(lm,am),by go_num,by omega,rfl,HS.out,HNX.out,HBM.out.le (by omega)⟩
        case measure=>simp[intOf];omega
      ·by_cases hmn:m<ni
       ·obtain rfl:=HA5.out (by omega)
        obtain⟨hlb5,z2⟩:=HC5.out m hmn
        have hmem:li.getD m 0∈dep c.nodes j:=by rw[HDEP.out,HY.out,if_pos rfl];exact getD_in (by rw[←HNI.out];exact hmn)
        have hxb:=HWF.out.dep (i:=(j:Int)) (by rw[←HN.out];simpa using hjn) hmem
        have hlt:li.take (m+1)=li.take m++[li.getD m 0]:=take_succ_getD li m (by rw[←HNI.out];exact hmn)
        have hri':RI c.nodes out j (li.take (m+1)) (rpin j (lm,am) (li.getD m 0)):=by rw[hlt];exact hri.pin HWF.out (by rw[←HN.out];exact hjn) hmem
        have hbm':Bd (rpin j (lm,am) (li.getD m 0)).1 (KN+j*100+m+1):=hbm.pin hxb.1
        obtain⟨x,HX⟩:=named (li.getD m 0)
        rw[←HX.out]at z2 hxb hri' hbm'
        obtain⟨xn,rfl⟩:∃xn:Nat,x=(xn:Int):=⟨x.toNat,by omega⟩
        have z2':wr.cell? ⟨b5,o5+m,none⟩=some (.int .i64 (xn:Int)):=(hst.bel.cell (p:=⟨b5,o5+m,none⟩) (by show b5<w.heap.size;omega)).trans z2
        have hxn:xn<n:=by rw[HN.out];omega
        have hlen:lm.length=n:=by rw[HN.out];exact hri.len
        have z3:=hst.row.cell (j:=j) (by rw[hlen];exact hjn)
        have z4:=hst.row.cell (j:=xn) (by rw[hlen];exact hxn)
        have z5:=hst.row.frozen j
        have hl0:=hri.pos xn
        have hl1:=hbm xn
        have hl2:=hri.pos j
        have hl3:=hbm j
        unfold rpin at hri' hbm'
        dsimp only at hri' hbm' hl0 hl1 hl2 hl3
        obtain⟨lx,HLX⟩:=named (lat lm xn)
        obtain⟨lj,HLJ⟩:=named (lat lm j)
        rw[←HLX.out]at z4 hl0 hl1 hri' hbm'
        rw[←HLJ.out]at z3 hl2 hl3 hri' hbm'
        have hj10:KN+j*100+m≤10000000000000000:=by omega
        have HRI':=Lib.hid hri'
        have HBM':=Lib.hid hbm'
        have HJ:=Lib.hid hjn
        clear hst hfr hri hbm hm0 hri' hbm' hmem hlt hlen z2 HRI HBM
        by_cases hup:lj<lx+1
        ·have hri2:=HRI'.out
         have hbm2:=HBM'.out
         rw[if_pos hup]at hri2 hbm2
         have HRI2:=Lib.hid hri2
         have HBM2:=Lib.hid hbm2
         clear hri2 hbm2 HRI' HBM'
         go_wp2_with (go_at_call 49;(with_reducible refine (HRC.out _).mono ?_);rintro e w3 ⟨rfl,rfl⟩)
         go_quiet (fail)
         go_wp2
         go_roundw
         case rel=>exact⟨m+1,_,by go_num,by omega,(fun h=>by cases h),rfl,(HS.out.drewN nq).set j (lx+1),((HFR8.out.below (below_drewN (Below.refl _ _) nq)).other (by show w.heap.size+1≠q8;omega) _),HRI2.out,HBM2.out⟩
         case measure=>simp[intOf];omega
        ·have hri2:=HRI'.out
         have hbm2:=HBM'.out
         rw[if_neg hup]at hri2 hbm2
         have HRI2:=Lib.hid hri2
         have HBM2:=Lib.hid hbm2
         clear hri2 hbm2 HRI' HBM'
         go_wp2_with (go_at_call 49;(with_reducible refine (HRC.out _).mono ?_);rintro e w3 ⟨rfl,rfl⟩)
         go_quiet (fail)
         go_wp2
         go_roundw
         case rel=>exact⟨m+1,_,by go_num,by omega,(fun h=>by cases h),rfl,HS.out.drewN nq,HFR8.out.below (below_drewN (Below.refl _ _) nq),HRI2.out,HBM2.out⟩
         case measure=>simp[intOf];omega
       ·obtain rfl:ni=m:=by omega
        have hnx:=(show RI c.nodes out j (dep c.nodes j) (lm,am) by rw[HDEP.out,HY.out,if_pos rfl,←List.take_length (l:=li),←HNI.out];exact hri).next
        have HNX:=Lib.hid hnx
        clear hst hfr hri hbm hnx hm0
        go_wp2
        go_roundw
        case rel=>exact⟨j+1,(lm,am),by go_num,by omega,rfl,HS.out,HNX.out,HBM.out.le (by omega)⟩
        case measure=>simp[intOf];omega
    ·obtain rfl:n=j:=by omega
     clear hst hri hbj
     cases ag
     ·go_wp2
      go_ret2
      refine⟨HS.out.bel,.inl ⟨lv,?_,?_,HS.out.row⟩⟩
      ·exact RO.stop HWF.out (by rw[←HN.out];exact HRI.out) rfl
      ·rw[←HN.out];rfl
     ·go_wp2
      go_roundw
      case rel=>
       refine⟨k+1,lv,by go_num,by omega,HS.out,RO.next HWF.out HRO.out (s:=(lv,true)) (by rw[←HN.out];exact HRI.out),fun hL=>?_,?_⟩
       ·have:=RO.more HWF.out HRO.out (s:=(lv,true)) (by rw[←HN.out];exact HRI.out) rfl hL
        rw[HN.out];exact this
       ·refine HBJ.out.le ?_
        rw[Nat.succ_mul,←HKN.out,HNP.out];omega
      case measure=>simp[intOf];omega
  ·obtain rfl:k=n+1:=by omega
   have hno:¬∃L,Lvl c.nodes L:=fun h=>by have:=HMO.out h;omega
   have HNO:=Lib.hid hno
   have HB:=Lib.hid HS.out.bel
   clear HMO hno
   go_wp2
   go_ret2
   exact⟨HB.out,.inr ⟨HNO.out,rfl⟩⟩
end Go.Proofs.YtjdjcaobkmpoeaaDoor
