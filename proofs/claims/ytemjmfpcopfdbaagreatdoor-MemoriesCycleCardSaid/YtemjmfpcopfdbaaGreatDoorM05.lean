/- The texts Lvo Lvl Srt Sor. -/
import Derived.Test.YtemjmfpcopfdbaaGreatDoorM04
import Derived.Deep.LoopGhost
import Derived.Deep.DeepCutAuto
import Derived.Deep.CutBlock
import Derived.Scope
import Derived.BigRegion
import Derived.LoopN
namespace Go.Proofs.YtemjmfpcopfdbaaGreatDoor
open Go.RowKit
def LvPost(nodes:List Nd)(w:World)(e:Ending)(w':World):Prop:=
 Below w.heap.size w w'∧((∃L,Lvl nodes L∧(∀i:Nat,i<nodes.length→lat L i<(nodes.length:Int))∧e=.returned (.tuple #[.slice (some ⟨w.heap.size,0,none⟩) nodes.length nodes.length,.bool true])∧Row w' w.heap.size L)
  ∨((¬∃L,Lvl nodes L)∧e=.returned (.tuple #[.slice none 0 0,.bool false])))
def Climb(nodes:List Nd)(w:World)(g k:Nat)(m:Nat)(sv:Value)(wr:World):Prop:=
 ∃lv st,Below g w wr∧Row wr g lv∧Stk wr (g+1) sv st∧Dfs nodes lv st∧(∀i:Nat,i<k→0≤lat lv i)∧((st=[]∧0≤lat lv k)∨∃r,st=(k:Int)::r)∧2*neg lv≤m+st.length
set_option maxRecDepth 100000 in
set_option maxHeartbeats 4000000 in
theorem levelsOf_any(nodes:List Nd)(A:Option Addr)(c:Nat)(w:World)(B:Nat)(hB:B≤w.heap.size)(hn:Ns w B (.slice A nodes.length c) nodes)(hw:Wf nodes)(hlen:nodes.length≤16384):
 Calls Tryz.prog 122 #[.slice A nodes.length c] w (LvPost nodes w):=by
 obtain⟨n,hnn⟩:∃n,n=nodes.length:=⟨_,rfl⟩
 rw[←hnn]at hlen
 have HNS:=Lib.hid hn
 have HW:=Lib.hid hw
 have HB:=Lib.hid hB
 have HN:=Lib.hid hnn
 clear hn hw hB
 rw[←hnn]
 clear hnn
 obtain⟨i0,hi,hz0,hz1,hz2⟩:=info_parts info_int
 go_enter Tryz.func122,Tryz.ntmps122
 go_wp2_with (at_make;refine wpList_make_full _ rfl _ _ 37 rfl w.heap.size 3 i0 (.int .i64 0) 1 Tryz.underlying37 hi hz0 hz1 .i64 .i64 _ _ n rfl rfl rfl rfl ?b2 ?b3 ?b4 ?_)
 case b2=>rw[hz2];omega
 case b3=>unfold maxLen;omega
 case b4=>exact Nat.le_refl _
 intro w1 hown hgr
 rw[fillL_start (fun _=>.int .i64 (-1))]at hown
 have hb1:Below w.heap.size w w1:=(Below.refl _ _).grown hgr (Nat.le_refl _) (fun k h=>by cases h)
 obtain⟨g,hg⟩:∃g,g=w.heap.size:=⟨_,rfl⟩
 rw[←hg]at hown hb1
 rw[←hg]
 have HO:=Lib.hid hown
 have HBL:=Lib.hid hb1
 have HG:=Lib.hid hg
 clear hown hgr hb1 hz0 hz1 hz2 hi hg
 go_wp2
 go_loopw [17] (fun i wr=>∃k:Nat,k≤n∧i=.int .i64 k∧Below g w wr∧
  wr.ownsRow g 3 1 (.slice (some ⟨g,0,none⟩) n n) n (fillL (fun _=>.int .i64 (-1)) (.int .i64 0) n k)) (fun i _=>n-(intOf i).toNat)
 case atStart=>exact⟨0,Nat.zero_le _,rfl,HBL.out,HO.out⟩
 case round=>
  clear HO HBL
  obtain⟨k,hk,rfl,hb,hown⟩:=hrel
  have HBL:=Lib.hid hb
  have HO:=Lib.hid hown
  clear hb hown
  by_cases hlt:k<n
  ·have hfz:wr.frozen? ⟨g,k,none⟩=false:=HO.out.frozenAt k
   have hcl:wr.cell? ⟨g,k,none⟩=some (.int .i64 0):=by
    rw[HO.out.cellAt k (by omega),fillL_get _ _ _ _ _ hlt,if_neg (by omega)]
   have HS:=Lib.hid (HO.out.stored k (.int .i64 (-1))).1
   go_wp2
   go_roundw
   case rel=>
    refine⟨k+1,by omega,by go_num,HBL.out.setCell (Nat.le_refl g) _,?_⟩
    rw[←fillL_set (fun _=>.int .i64 (-1)) (.int .i64 0) n k];exact HS.out
   case measure=>simp[intOf];omega
  ·obtain rfl:n=k:=by omega
   have hrow:Row wr g (List.replicate n (-1)):=by
    have:=HO.out
    rw[fillL_end]at this
    unfold Row
    rw[List.length_replicate];exact this
   have HR:=Lib.hid hrow
   clear hrow HO
   go_wp2
   go_loopw [26,6] (fun i sv wo=>∃(j:Nat) (lv:List Int),j≤n∧i=.int .i64 j∧Below g w wo∧Row wo g lv∧Stk wo (g+1) sv []∧Dfs nodes lv []∧∀i:Nat,i<j→0≤lat lv i) (fun i _ _=>n-(intOf i).toNat)
   case atStart=>
    refine⟨0,_,Nat.zero_le _,rfl,HBL.out,HR.out,Stk.nil _ _,?_,fun i hi=>absurd hi (by omega)⟩
    rw[HN.out];exact Dfs.start nodes
   case round=>
    clear HR HBL
    obtain⟨j,lv,hj,rfl,hb,hrow,hstk,hd,hdone⟩:=hrel
    obtain⟨A6,c6,rfl,-,hc6,-⟩:=hstk.form
    have hll:lv.length=n:=hd.len.trans HN.out.symm
    by_cases hlt:j<n
    ·have hcl:=hrow.cell (j:=j) (by omega)
     obtain⟨v,HV⟩:=named (lat lv j)
     rw[←HV.out]at hcl
     have HBL:=Lib.hid hb
     have HR:=Lib.hid hrow
     have HS:=Lib.hid hstk
     have HD:=Lib.hid hd
     have HDN:=Lib.hid hdone
     have HLL:=Lib.hid hll
     clear hb hrow hstk hd hdone hll
     go_wp2
     refine wp_scope_straight ?_
     go_upto_if 33 with (fail)
     go_cut [6] (fun sv wr'=>∃m,Climb nodes w g j m sv wr')
     case first=>
      cases hv:(v== -1)
      ·go_wp2
       go_meet
       case rel=>
        refine⟨2*neg lv,lv,[],HBL.out,HR.out,HS.out,HD.out,HDN.out,.inl ⟨rfl,?_⟩,by simp⟩
        have h1:¬lat lv j= -1:=by rw[←HV.out];simpa using hv
        have h2:=HD.out.vals j (by rw[←HN.out];omega)
        have h3:¬lat lv j= -2:=fun e=>by have:=HD.out.wait j (by rw[←HN.out];omega) e;simp at this
        omega
      ·obtain⟨i1,hi1,hz0,hz1,hz2⟩:=info_parts info_int
       have HI:=Lib.hid (And.intro hi1 (And.intro hz0 (And.intro hz1 hz2)))
       clear hi1 hz0 hz1 hz2
       go_wp2_with (at_builtin;refine wpList_append_own_at _ rfl _ _ 37 rfl (g+1) 3 i1 (.int .i64 0) 1 8 Tryz.underlying37 HI.out.1 HI.out.2.1 HI.out.2.2.1 HI.out.2.2.2 rfl (by decide) _ _ _ rfl (World.ownsRow.alloc HS.out _) ⟨wr.heap.size,0,none⟩ 1 1 [.int .i64 (j:Int)] rfl rfl (one_new _ _ _) (ints_oneCell .i64 [(j:Int)]) (by unfold maxLen;simp) (by simp) (by have:=HR.out.lt;simp;omega) ?_;intro v' w2 hown' hgrow hnil hloc;have HF:=Lib.hid (push_facts HBL.out HR.out HS.out hown' hgrow);clear hown' hgrow hnil hloc)
       go_meet
       case rel=>
        have hj0:lat lv j= -1:=by rw[←HV.out];simpa using hv
        have hd1:=HD.out.one (k:=j) (by rw[←HN.out];omega) hj0
        exact⟨2*neg lv,lv,[(j:Int)],HF.out.1,HF.out.2.1,HF.out.2.2,hd1,HDN.out,.inr ⟨[],rfl⟩,by simp⟩
     case rest=>
      clear HR HBL HS HD HDN HLL HV hcl
      obtain⟨m0,lv0,st0,k1,k2,k3,k4,k5,k6,k7⟩:=hcut
      obtain⟨A7,c7,rfl,-,hc7,-⟩:=k3.form
      go_wp2
      refine wp_label ?_
      go_wp2
      go_loopg [6] m0 (fun m sv wr=>Climb nodes w g j m sv wr)
      case atStart=>exact⟨lv0,st0,k1,k2,k3,k4,k5,k6,k7⟩
      case round=>
       clear k1 k2 k3 k4 k5 k6 k7 hc7
       obtain⟨lv,st,hb,hrow,hstk,hd,hdn,hbot,hms⟩:=hrel
       have HBL:=Lib.hid hb
       have HR:=Lib.hid hrow
       have HS:=Lib.hid hstk
       have HD:=Lib.hid hd
       have HDN:=Lib.hid hdn
       have HBT:=Lib.hid hbot
       have HMS:=Lib.hid hms
       obtain⟨A6,c6,rfl,hle6,hc6,hq6⟩:=hstk.form
       clear hb hrow hstk hd hdn hbot hms
       by_cases hst:st=[]
       ·subst hst
        clear hq6
        have hjd:0≤lat lv j:=by
         rcases HBT.out with⟨-,h⟩| ⟨r,h⟩
         ·exact h
         ·cases h
        have HJD:=Lib.hid hjd
        clear hjd
        go_wp2
        go_roundw
        case rel=>
         refine⟨j+1,lv,by omega,by go_num,HBL.out,HR.out,HS.out,HD.out,fun i hi=>?_⟩
         by_cases hij:i=j
         ·rw[hij];exact HJD.out
         ·exact HDN.out i (by omega)
        case measure=>simp[intOf];omega
       ·obtain⟨r,t,rfl⟩:=snoc_of hst
        clear hst
        obtain⟨t0,t1,t2⟩:=HD.out.mem t (by simp)
        obtain⟨tn,rfl⟩:=Int.eq_ofNat_of_zero_le t0
        obtain⟨q,rfl,hgq,hqz⟩:=hq6 (by simp)
        have hmk:=HD.out.mark
        rw[Int.toNat_natCast]at hmk
        have hcs:=HS.out.cell (j:=r.length) (by simp)
        rw[getD_snoc]at hcs
        have hfr:=HR.out.frozen tn
        have hct:=HR.out.cell (j:=tn) (by rw[HD.out.len];omega)
        have HSF:=Lib.hid (set_facts (j:=tn) (-2) HBL.out HR.out HS.out)
        have HMK:=Lib.hid hmk
        rw[←HN.out]at t1
        clear hmk t2 hq6
        have hll:(r++[(tn:Int)]).length=r.length+1:=by simp
        obtain⟨M,HM⟩:=named r.length
        rw[←HM.out]at hcs hll
        rw[hll]at hle6
        rw[hll]
        have hroom:M+1≤n:=by
         have h1:=HD.out.room
         have h2:=neg_le lv
         have h3:=HD.out.len
         have h4:=HN.out
         rw[hll]at h1
         omega
        have hM16:M≤16383:=by omega
        have hgk:1≤gk:=by
         have h1:=HD.out.room
         have h2:=HMS.out
         rw[hll]at h1 h2
         omega
        have HLL:=Lib.hid hll
        clear hll hroom
        obtain⟨b,o,A4,n4,c4,kd,mm,bt,A5,n5,c5,rfl,hbB,hn0,hn1,hn2,hn3,hif,hn5,hI5⟩:=node_at HNS.out (t:=tn) (by rw[←HN.out];omega)
        have HIF:=Lib.hid hif
        have HN5:=Lib.hid hn5
        have HI5:=Lib.hid hI5
        clear hif hn5 hI5
        obtain⟨wm,HWM⟩:=named (wr.setCell ⟨g,tn,none⟩ (.int .i64 (-2)))
        rw[←HWM.out]at HSF
        have hbm:=HSF.out.1
        have hlb:b<g:=by rw[HG.out];exact Nat.lt_of_lt_of_le hbB HB.out
        have e0:=(hbm.cell (p:=⟨b,o+tn*4,none⟩) hlb).trans hn0
        have e1:=(hbm.cell (p:=⟨b,o+tn*4+1,none⟩) hlb).trans hn1
        have e2:=(hbm.cell (p:=⟨b,o+tn*4+2,none⟩) hlb).trans hn2
        have e3:=(hbm.cell (p:=⟨b,o+tn*4+3,none⟩) hlb).trans hn3
        have hdc:=depends_any ⟨kd,[],mm,bt⟩ A4 n4 c4 wm
        rw[HIF.out]at hdc
        rw[HWM.out]at hdc e0 e1 e2 e3
        have HDC:=Lib.hid hdc
        clear hdc hn0 hn1 hn2 hn3 hbm
        go_wp2_with (go_at_call 143;(with_reducible refine HDC.out.mono ?_);rintro e w3 ⟨rfl,hb3⟩;have HB3:=Lib.hid hb3;clear hb3)
        have h3:=next_facts HSF.out (by rw[HWM.out];exact HB3.out)
        obtain⟨lv2,HV2⟩:=named (lv.set tn (-2))
        rw[←HV2.out,HLL.out]at h3
        have hmk2:=HMK.out
        rw[←HV2.out]at hmk2
        have H3:=Lib.hid h3
        have HMK2:=Lib.hid hmk2
        have hdn2:∀i:Nat,i<j→0≤lat lv2 i:=fun i hi=>by
         have h1:=HDN.out i hi
         have h2:=(HD.out.mem tn (by simp)).2.2
         rw[HV2.out,lat_set _ (by omega),if_neg (fun e=>by have:(i:Int)=(tn:Int):=e.1;rw[this]at h1;omega)]
         exact h1
        have HDN2:=Lib.hid hdn2
        clear hdn2
        have hlv2:lv2.length=n:=hmk2.1.len.trans HN.out.symm
        have HLV2:=Lib.hid hlv2
        clear h3 hmk2 HB3 HMK HSF HDC e0 e1 e2 e3 hcs hfr hct HR HS HD HBL hlv2 HV2 HWM
        go_loopw [56,9,6] (fun i lvl s6 wi=>wi=w3∧s6=.slice (some ⟨q,0,none⟩) (M+1) c6∧∃p:Nat,p≤n5∧i=.int .i64 p∧lvl=.int .i64 (levf lv2 ((dep nodes tn).take p))∧∀i:Nat,i<p→0≤lat lv2 ((dep nodes tn).getD i 0)) (fun i _ _ _=>n5-(intOf i).toNat)
        case atStart=>exact⟨rfl,rfl,0,Nat.zero_le _,rfl,rfl,fun i hi=>absurd hi (by omega)⟩
        case round=>
         obtain⟨rfl,rfl,p,hp,rfl,rfl,hpd⟩:=hrel
         have HPD:=Lib.hid hpd
         clear hpd
         have hlf0:=levf_nonneg lv2 ((dep nodes tn).take p)
         by_cases hlt5:p<n5
         ·obtain⟨A5',b5,o5,c5',e5,hA5,-,hm5,hcell5⟩:=HI5.out.opens
          rw[←HN5.out]at hm5
          unfold maxLen at hm5
          have hx5:=hcell5 p (by rw[←HN5.out];exact hlt5)
          obtain rfl:A5=some ⟨b5,o5,none⟩:=by
           simp only[Value.slice.injEq]at e5
           rw[e5.1];exact hA5 (by rw[←HN5.out];omega)
          clear e5 hA5 hcell5
          obtain⟨hlb5,hcx⟩:=hx5
          have hcx:=(H3.out.1.cell (p:=⟨b5,o5+p,none⟩) (by rw[HG.out];exact Nat.lt_of_lt_of_le hlb5 HB.out)).trans hcx
          have hmem:(dep nodes tn).getD p 0∈dep nodes tn:=getD_mem' (by rw[←HN5.out];exact hlt5)
          have hbx:=HW.out.dep (i:=(tn:Int)) (by rw[←HN.out];simpa using t1) hmem
          have htk:=take_snoc (dep nodes tn) p (by rw[←HN5.out];exact hlt5)
          obtain⟨x,HX⟩:=named ((dep nodes tn).getD p 0)
          rw[←HX.out]at hcx hmem hbx htk
          obtain⟨x0,x1⟩:=hbx
          obtain⟨xn,rfl⟩:=Int.eq_ofNat_of_zero_le x0
          rw[←HN.out]at x1
          have hcl:=H3.out.2.1.cell (j:=xn) (by rw[HLV2.out];omega)
          have hv2:=HMK2.out.1.vals xn (by rw[←HN.out];omega)
          have hdo:=HMK2.out.1.done xn (by rw[←HN.out];omega)
          rw[←HN.out]at hdo
          obtain⟨u,HU⟩:=named (lat lv2 xn)
          rw[←HU.out]at hcl hv2 hdo
          have HMEM:=Lib.hid hmem
          have HTK:=Lib.hid htk
          have HDO:=Lib.hid hdo
          clear hmem htk hdo
          by_cases hu2:u= -2
          ·subst hu2
           have hfail:=HMK2.out.1.fail HW.out HMEM.out HU.out.symm
           have HFAIL:=Lib.hid hfail
           clear hfail
           go_wp2
           go_ret2
           exact⟨by rw[←HG.out];exact H3.out.1,.inr ⟨HFAIL.out,rfl⟩⟩
          ·by_cases hu1:u= -1
           ·subst hu1
            obtain⟨i1,hi1,hz0,hz1,hz2⟩:=info_parts info_int
            have HI:=Lib.hid (And.intro hi1 (And.intro hz0 (And.intro hz1 hz2)))
            clear hi1 hz0 hz1 hz2
            go_wp2_with (at_builtin;refine wpList_append_own_at _ rfl _ _ 37 rfl (g+1) 3 i1 (.int .i64 0) 1 8 Tryz.underlying37 HI.out.1 HI.out.2.1 HI.out.2.2.1 HI.out.2.2.2 rfl (by decide) _ _ _ rfl (World.ownsRow.alloc H3.out.2.2 _) ⟨wr.heap.size,0,none⟩ 1 1 [.int .i64 (xn:Int)] rfl rfl (one_new _ _ _) (ints_oneCell .i64 [(xn:Int)]) (by rw[HLL.out];unfold maxLen;omega) (by rw[HLL.out];omega) (by have:=H3.out.2.1.lt;simp;omega) ?_;intro v' w4 hown' hgrow hnil hloc;have HF:=Lib.hid (push_facts H3.out.1 H3.out.2.1 H3.out.2.2 hown' hgrow);clear hown' hgrow hnil hloc)
            go_roundg (gk-1)
            case measure=>omega
            case rel=>
             refine⟨lv2,_,HF.out.1,HF.out.2.1,HF.out.2.2,HMK2.out.1.push HW.out HMK2.out.2.1 HMEM.out HU.out.symm,HDN2.out,?_,?_⟩
             ·rcases HBT.out with⟨e,-⟩| ⟨r1,e⟩
              ·simp at e
              ·exact .inr ⟨r1++[(xn:Int)],by rw[e];rfl⟩
             ·have h1:=HMS.out
              have h2:=HMK2.out.2.2
              rw[List.length_append]
              simp only[List.length_singleton]
              omega
           ·have hu0:0≤u:=by omega
            have hun:u<16384:=by have:=(HDO.out hu0).2.2;omega
            have hb2:(u== -2)=false:=by simpa using hu2
            have hb1:(u== -1)=false:=by simpa using hu1
            obtain⟨z,HZ⟩:=named (levf lv2 ((dep nodes tn).take p))
            rw[←HZ.out]at hlf0
            rw[←HZ.out]
            clear hu2 hu1
            go_wp2
            go_roundw
            case rel=>
             refine⟨by trivial,by trivial,p+1,by omega,by go_num,?_,fun i hi=>?_⟩
             ·rw[HTK.out,levf_snoc,←HZ.out,←HU.out]
              congr 1
              rw[Int.max_def]
              split<;>split<;>omega
             ·by_cases hip:i=p
              ·rw[hip,←HX.out,←HU.out];exact hu0
              ·exact HPD.out i (by omega)
            case measure=>simp[intOf];omega
         ·obtain rfl:p=n5:=by omega
          have hall:(dep nodes tn).take p=dep nodes tn:=List.take_of_length_le (by rw[HN5.out];exact Nat.le_refl _)
          rw[hall]
          rw[hall]at hlf0
          clear hall
          have hpop:=HMK2.out.1.pop HW.out HMK2.out.2.1 (fun x hx=>by
           obtain⟨i,hi,rfl⟩:=List.mem_iff_getElem.1 hx
           have:=HPD.out i (by rw[HN5.out];exact hi)
           rwa [List.getD_eq_getElem?_getD,List.getElem?_eq_getElem hi]at this)
          obtain⟨y,HY⟩:=named (levf lv2 (dep nodes tn))
          rw[←HY.out]at hpop hlf0
          rw[←HY.out]
          rw[Int.toNat_natCast]at hpop
          have HP:=Lib.hid hpop
          have hfr:=H3.out.2.1.frozen tn
          have hct:=H3.out.2.1.cell (j:=tn) (by rw[HLV2.out];omega)
          have hsf:=set_facts (j:=tn) y H3.out.1 H3.out.2.1 H3.out.2.2
          have HSF:=Lib.hid hsf
          clear hpop hsf
          go_wp2
          go_roundg (gk-1)
          case measure=>omega
          case rel=>
           refine⟨lv2.set tn y,r,HSF.out.1,HSF.out.2.1,?_,HP.out.1,fun i hi=>?_,?_,?_⟩
           ·have h1:=HSF.out.2.2
            rw[←HLL.out]at h1
            have h2:=h1.pop
            rw[←HM.out]at h2
            exact h2
           ·rw[lat_set _ (by omega)]
            split
            ·exact hlf0
            ·exact HDN2.out i hi
           ·rcases HBT.out with⟨e,-⟩| ⟨r1,e⟩
            ·simp at e
            ·cases r with
             |nil=>
              simp only[List.nil_append,List.cons.injEq]at e
              refine .inl ⟨rfl,?_⟩
              rw[←e.1];exact HP.out.2.2
             |cons a r'=>
              simp only[List.cons_append,List.cons.injEq]at e
              exact .inr ⟨r',by rw[e.1]⟩
           ·have h1:=HMS.out
            have h2:=HMK2.out.2.2
            have h3:=HP.out.2.1
            have h4:=HLL.out
            have h5:=HM.out
            omega
    ·obtain rfl:n=j:=by omega
     have hfin:=hd.finish (fun i hi=>hdone i (by rw[HN.out];exact hi))
     rw[←HN.out]at hfin
     have HFIN:=Lib.hid hfin
     have HBL:=Lib.hid hb
     have HR:=Lib.hid hrow
     clear hfin hb hrow hstk hd hdone hll
     go_wp2
     go_ret2
     refine⟨by rw[←HG.out];exact HBL.out,.inl ⟨lv,HFIN.out.1,by rw[←HN.out];exact HFIN.out.2,by rw[←HG.out,←HN.out];rfl,by rw[←HG.out];exact HR.out⟩⟩
open Classical in
noncomputable def chkErr (c:Ck):Int:=if shapeErr c≠0 then shapeErr c else if (∃L,Lvl c.nodes L) then 0 else 6
theorem firstE_zero{α:Type}{f:α→Int} :∀ {l:List α},firstE f l=0→∀x∈l,f x=0
 |[],_,_,hx=>by cases hx
 |y::l,h,x,hx=>by
  unfold firstE at h
  by_cases hy:f y=0
  ·rw[if_pos hy]at h
   rcases List.mem_cons.1 hx with rfl|hx
   ·exact hy
   ·exact firstE_zero h x hx
  ·rw[if_neg hy]at h
   exact absurd h hy
theorem nodeErr_zero{c:Ck}{x:Nd}(h:nodeErr c x=0):¬15<x.kind∧lo x.kind≤x.ins.length∧(x.ins.length:Int)≤hi x.kind∧areIdx c.nodes.length x.ins=true∧¬(x.kind=13∧anyP (notTri c) x.ins=true)∧placeOk c x=true:=by
 unfold nodeErr at h
 split at h
 ·cases h
 split at h
 ·cases h
 split at h
 ·cases h
 split at h
 ·cases h
 split at h
 ·cases h
 split at h
 ·cases h
 ·refine⟨by assumption,by omega,by omega,by simpa using ‹¬areIdx c.nodes.length x.ins=false›,by assumption,by simpa using ‹¬placeOk c x=false›⟩
theorem shape_zero{c:Ck}(h:shapeErr c=0):c.nodes.length≤16384∧c.mems.length≤16∧c.outs.length≤16384∧c.names.length=c.nodes.length∧(∀x∈c.nodes,nodeErr c x=0)∧namesOk c.names=true∧(∀x∈c.mems,memErr c x=0)∧areIdx c.nodes.length c.outs=true:=by
 unfold shapeErr at h
 split at h
 ·cases h
 split at h
 ·cases h
 split at h
 ·exact absurd h (by assumption)
 split at h
 ·cases h
 split at h
 ·exact absurd h (by assumption)
 split at h
 ·cases h
 ·rename_i h1 h2 h3 h4 h5 h6
  exact⟨by omega,by omega,by omega,by omega,firstE_zero (by omega),by simpa using h4,firstE_zero (by omega),by simpa using h6⟩
theorem getD_mem_nd{l:List Nd}{i:Nat}(h:i<l.length):l.getD i default∈l:=by
 rw[List.getD_eq_getElem?_getD,List.getElem?_eq_getElem h];exact List.getElem_mem h
theorem wf_of_shape{c:Ck}(h:shapeErr c=0):Wf c.nodes:=by
 intro i hi x hx
 have h1:=(shape_zero h).2.2.2.2.1 _ (getD_mem_nd hi)
 exact areIdx_iff.1 (nodeErr_zero h1).2.2.2.1 x hx
def LevPost(c:Ck)(w:World)(e:Ending)(w':World):Prop:=
 Below w.heap.size w w'∧((chkErr c=0∧shapeErr c=0∧∃L g,Lvl c.nodes L∧(∀i:Nat,i<c.nodes.length→lat L i<(c.nodes.length:Int))∧w.heap.size≤g∧e=.returned (.tuple #[.slice (some ⟨g,0,none⟩) c.nodes.length c.nodes.length,.int .i64 0])∧Row w' g L)
  ∨(chkErr c≠0∧e=.returned (.tuple #[.slice none 0 0,.int .i64 (chkErr c)])))
set_option maxHeartbeats 2000000 in
theorem levels_any(c:Ck)(v:Value)(w:World)(B:Nat)(hB:B≤w.heap.size)(hT:Tabs w)(hc:Cir w B v c):
 Calls Tryz.prog 76 #[v] w (LevPost c w):=by
 obtain⟨v0,v1,v2,v3,rfl,hns,hss,hms,hos⟩:=hc
 obtain⟨A0,b0,o0,c0,rfl,-⟩:=id hns
 obtain⟨A1,b1,o1,c1,rfl,-⟩:=id hss
 obtain⟨A2,b2,o2,c2,rfl,-⟩:=id hms
 obtain⟨A3,b3,o3,c3,rfl,-⟩:=id hos
 obtain⟨W,HW⟩:=named (w.alloc (.cells #[.slice A0 c.nodes.length c0,.slice A1 c.names.length c1,.slice A2 c.mems.length c2,.slice A3 c.outs.length c3] 39))
 have hbW:Below w.heap.size w W:=by rw[HW.out];exact (Below.refl _ _).alloc (Nat.le_refl _) _
 have hBW:B≤W.heap.size:=Nat.le_trans hB hbW.size
 have hP:=parts_any c A0 A1 A2 A3 c0 c1 c2 c3 W B hBW (hT.below hbW) (hns.below (hbW.mono hB)) (hss.below (hbW.mono hB)) (hms.below (hbW.mono hB)) (hos.below (hbW.mono hB))
 have hL:shapeErr c=0→∀w1,Below W.heap.size W w1→Calls Tryz.prog 122 #[.slice A0 c.nodes.length c0] w1 (LvPost c.nodes w1):=fun hs w1 h1=>
  levelsOf_any c.nodes A0 c0 w1 B (Nat.le_trans hBW h1.size) ((hns.below (hbW.mono hB)).below (h1.mono hBW)) (wf_of_shape hs) (shape_zero hs).1
 have hsz:W.heap.size=w.heap.size+1:=by rw[HW.out];simp
 clear hns hss hms hos hT hBW
 obtain⟨n1,HN1⟩:=named c.names.length
 obtain⟨n2,HN2⟩:=named c.mems.length
 obtain⟨n3,HN3⟩:=named c.outs.length
 rw[←HN1.out,←HN2.out,←HN3.out]at hP HW
 rw[←HN1.out,←HN2.out,←HN3.out]
 obtain⟨n0,HN0⟩:=named c.nodes.length
 rw[←HN0.out]at hP HW hL
 rw[←HN0.out]
 obtain⟨W',HW'⟩:=named W
 obtain rfl:=HW.out
 clear HW HW' W'
 have HBW:=Lib.hid hbW
 have HP:=Lib.hid hP
 have HL:=Lib.hid hL
 have HSZ:=Lib.hid hsz
 clear hbW hP hL hsz
 by_cases hs:shapeErr c=0
 ·have hP:=HP.out
  rw[hs]at hP
  have HP:=Lib.hid hP
  have HL:=Lib.hid (HL.out hs)
  have HS:=Lib.hid hs
  clear hP hs
  by_cases hex:∃L,Lvl c.nodes L
  ·have hck:chkErr c=0:=by rw[chkErr,if_neg (fun h=>h HS.out),if_pos hex]
   have hl2:∀w1,Below _ _ w1→Calls Tryz.prog 122 #[.slice A0 n0 c0] w1 fun e w'=>e=.returned (.tuple #[.slice (some ⟨w1.heap.size,0,none⟩) n0 n0,.bool true])∧Below w1.heap.size w1 w'∧∃L,Lvl c.nodes L∧(∀i:Nat,i<n0→lat L i<(n0:Int))∧Row w' w1.heap.size L:=fun w1 h1=>(HL.out w1 h1).mono fun e w' ⟨hb,h⟩=>by
    rcases h with⟨L,hl,hbd,he,hr⟩| ⟨hno,-⟩
    ·rw[←HN0.out]at he hbd
     exact⟨he,hb,L,hl,hbd,hr⟩
    ·exact absurd hex hno
   have HL2:=Lib.hid hl2
   have HCK:=Lib.hid hck
   clear hck hex hl2 HL
   go_enter Tryz.func76,Tryz.ntmps76
   go_wp2_with (first
    |(go_at_call 121;(with_reducible refine HP.out.mono ?_);rintro e w1 ⟨rfl,hb⟩;have HB1:=Lib.hid hb;obtain⟨hc,hf⟩:=bcell hb;clear hb)
    |(go_at_call 122;(with_reducible refine (HL2.out _ HB1.out).mono ?_);rintro e w2 ⟨rfl,hb,hx⟩;have HB2:=Lib.hid hb;have HX:=Lib.hid hx;clear hb hx))
   go_ret2
   obtain⟨L,h1,h2,h3⟩:=HX.out
   have hb1:=joinB HBW.out HB1.out
   rw[HN0.out]at h2
   exact⟨joinB hb1 HB2.out,.inl ⟨HCK.out,HS.out,L,_,h1,h2,hb1.size,by rw[←HN0.out];rfl,h3⟩⟩
  ·have hck:chkErr c=6:=by rw[chkErr,if_neg (fun h=>h HS.out),if_neg hex]
   have hl2:∀w1,Below _ _ w1→Calls Tryz.prog 122 #[.slice A0 n0 c0] w1 fun e w'=>e=.returned (.tuple #[.slice none 0 0,.bool false])∧Below w1.heap.size w1 w':=fun w1 h1=>(HL.out w1 h1).mono fun e w' ⟨hb,h⟩=>by
    rcases h with⟨L,hl,-⟩| ⟨-,he⟩
    ·exact absurd ⟨L,hl⟩ hex
    ·exact⟨he,hb⟩
   have HL2:=Lib.hid hl2
   have HCK:=Lib.hid hck
   clear hck hex hl2 HL
   go_enter Tryz.func76,Tryz.ntmps76
   go_wp2_with (first
    |(go_at_call 121;(with_reducible refine HP.out.mono ?_);rintro e w1 ⟨rfl,hb⟩;have HB1:=Lib.hid hb;obtain⟨hc,hf⟩:=bcell hb;clear hb)
    |(go_at_call 122;(with_reducible refine (HL2.out _ HB1.out).mono ?_);rintro e w2 ⟨rfl,hb⟩;have HB2:=Lib.hid hb;clear hb))
   go_ret2
   exact⟨joinB (joinB HBW.out HB1.out) HB2.out,.inr ⟨by rw[HCK.out];decide,by rw[HCK.out];rfl⟩⟩
 ·have hck:chkErr c=shapeErr c:=by rw[chkErr,if_pos hs]
  have HP0:=HP.out
  clear HP HL
  obtain⟨z,HZ⟩:=named (shapeErr c)
  rw[←HZ.out]at HP0 hs hck
  have hz:(z==0)=false:=by simpa using hs
  have HP:=Lib.hid HP0
  have HCK:=Lib.hid hck
  have HS:=Lib.hid hs
  clear HP0 hck hs
  go_enter Tryz.func76,Tryz.ntmps76
  go_wp2_with (go_at_call 121;(with_reducible refine HP.out.mono ?_);rintro e w1 ⟨rfl,hb⟩;have HB1:=Lib.hid hb;obtain⟨hc,hf⟩:=bcell hb;clear hb)
  go_ret2
  exact⟨joinB HBW.out HB1.out,.inr ⟨by rw[HCK.out];exact HS.out,by rw[HCK.out];rfl⟩⟩
def cmpI(x y:Int):Int:=if x<y then-1 else if y<x then 1 else 0
theorem cmpI_neg(x y:Int):decide (cmpI x y<0)=decide (x<y):=by
 unfold cmpI
 by_cases h:x<y
 ·simp[h]
 ·by_cases h':y<x
  ·simp[h,h']
  ·simp[h,h']
set_option maxHeartbeats 400000 in
theorem nan_any(x:Int)(w:World):Calls Tryz.prog 124 #[.int .i64 x] w fun e w'=>e=.returned (.bool false)∧w=w':=by
 go_enter Tryz.func124,Tryz.ntmps124
 go_wp2
 go_ret
 exact⟨ret_bool (by simp),rfl⟩
set_option maxHeartbeats 400000 in
theorem compare_any(x y:Int)(w:World):Calls Tryz.prog 79 #[.int .i64 x,.int .i64 y] w fun e w'=>e=.returned (.int .i64 (cmpI x y))∧w=w':=by
 obtain⟨z,HZ⟩:=named (cmpI x y)
 rw[←HZ.out]
 by_cases h:x<y
 ·have hv:z= -1:=by rw[HZ.out,cmpI,if_pos h]
  have HV:=Lib.hid hv
  clear hv
  go_enter Tryz.func79,Tryz.ntmps79
  go_wp2_with (go_at_call 124;(with_reducible refine (nan_any _ _).mono ?_);rintro e w' ⟨rfl,rfl⟩)
  go_ret
  exact⟨ret_int (by rw[HV.out]),rfl⟩
 ·by_cases h':y<x
  ·have hv:z=1:=by rw[HZ.out,cmpI,if_neg h,if_pos h']
   have HV:=Lib.hid hv
   clear hv
   go_enter Tryz.func79,Tryz.ntmps79
   go_wp2_with (go_at_call 124;(with_reducible refine (nan_any _ _).mono ?_);rintro e w' ⟨rfl,rfl⟩)
   go_ret
   exact⟨ret_int (by rw[HV.out]),rfl⟩
  ·have hv:z=0:=by rw[HZ.out,cmpI,if_neg h,if_neg h']
   have HV:=Lib.hid hv
   clear hv
   go_enter Tryz.func79,Tryz.ntmps79
   go_wp2_with (go_at_call 124;(with_reducible refine (nan_any _ _).mono ?_);rintro e w' ⟨rfl,rfl⟩)
   go_ret
   exact⟨ret_int (by rw[HV.out]),rfl⟩
set_option maxHeartbeats 1000000 in
theorem order1_any(L:List Int)(a b:Nat)(ha:a<L.length)(hb:b<L.length)(hL:L.length≤1000000)(g q:Nat)(w:World)(hr:Row w g L)(hq:w.cell? ⟨q,0,none⟩=some (.slice (some ⟨g,0,none⟩) L.length L.length)):
 Calls Tryz.prog 78 #[.int .i64 a,.int .i64 b,.pointer (some ⟨q,0,none⟩)] w fun e w'=>e=.returned (.int .i64 (cmpI (lat L a) (lat L b)))∧∃n,w'=w.drewN n:=by
 have h1:=hr.cell ha
 have h2:=hr.cell hb
 obtain⟨x,HX⟩:=named (lat L a)
 obtain⟨y,HY⟩:=named (lat L b)
 rw[←HX.out]at h1 ⊢
 rw[←HY.out]at h2 ⊢
 obtain⟨n,HN⟩:=named L.length
 rw[←HN.out]at hq ha hb hL
 obtain⟨z,HZ⟩:=named (cmpI x y)
 have hC:=fun w=>compare_any x y w
 rw[←HZ.out]at hC
 rw[←HZ.out]
 have HC:=Lib.hid hC
 have ha':(a:Int)<(n:Int):=by omega
 have hb':(b:Int)<(n:Int):=by omega
 clear hC hr
 go_enter Tryz.func78,Tryz.ntmps78
 go_wp2
 go_quiet ((go_at_call 79;exact Calls.quiet_of_same ((HC.out _).mono fun _ _ h=>⟨h.1,h.2.symm⟩)))
 go_wp2
 go_ret
 exact⟨rfl,_,rfl⟩
def Lex(L:List Int)(x y:Int):Prop:=lat L x<lat L y∨(lat L x=lat L y∧x<y)
def rng(i n:Nat):List Int:=(List.range (n-i)).map fun k=>((i+k:Nat):Int)
theorem rng_cons{i n:Nat}(h:i<n):rng i n=(i:Int)::rng (i+1) n:=by
 unfold rng
 rw[show n-i=(n-(i+1))+1 by omega,List.range_succ_eq_map]
 simp only[List.map_cons,List.map_map,Nat.add_zero]
 congr 1
 apply List.map_congr_left
 intro k _
 simp only[Function.comp]
 congr 1
 omega
theorem rng_len(i n:Nat):(rng i n).length=n-i:=by simp[rng]
def SortTo(L:List Int)(n i:Nat)(R:List Int):Prop:=
 ∃S,R=S++rng i n∧S.length=i∧i≤n∧S.Pairwise (Lex L)∧∀x∈S,0≤x∧x<(i:Int)
def Mid(L:List Int)(n i j:Nat)(R:List Int):Prop:=
 ∃P S,R=P++(i:Int)::(S++rng (i+1) n)∧P.length=j∧P.length+S.length=i∧i<n∧(P++S).Pairwise (Lex L)∧(∀x∈P++S,0≤x∧x<(i:Int))∧∀x∈S,Lex L i x
theorem Mid.start{L:List Int}{n i:Nat}{R:List Int}(h:SortTo L n i R)(hi:i<n):Mid L n i i R:=by
 obtain⟨S,h1,h2,h3,h4,h5⟩:=h
 exact⟨S,[],by rw[h1,rng_cons hi];rfl,h2,by simpa using h2,hi,by simpa using h4,by simpa using h5,fun x hx=>by cases hx⟩
theorem Mid.stop{L:List Int}{n i j:Nat}{R:List Int}(h:Mid L n i j R)(hs:j=0∨¬lat L i<lat L (R.getD (j-1) 0)):SortTo L n (i+1) R:=by
 obtain⟨P,S,h1,h2,h3,h4,h5,h6,h7⟩:=h
 have hP:∀x∈P,Lex L x i:=by
  rcases hs with rfl|hs
  ·obtain rfl:P=[]:=List.eq_nil_of_length_eq_zero h2
   intro x hx;cases hx
  ·by_cases hP0:P=[]
   ·subst hP0;intro x hx;cases hx
   ·obtain⟨Q,y,rfl⟩:=snoc_of hP0
    have hy:R.getD (j-1) 0=y:=by
     rw[h1,←h2,List.getD_eq_getElem?_getD,List.getElem?_append_left (by simp)]
     simp
    rw[hy]at hs
    have hyi:=h6 y (by simp)
    have hly:Lex L y i:=by
     rcases Int.lt_or_eq_of_le (Int.not_lt.1 hs) with h|h
     ·exact .inl h
     ·exact .inr ⟨h,hyi.2⟩
    intro x hx
    rcases List.mem_append.1 hx with hx|hx
    ·have hxy:Lex L x y:=by
      have:=List.pairwise_append.1 ((List.pairwise_append.1 h5).1)
      exact this.2.2 x hx y (by simp)
     rcases hxy with a| ⟨a,a'⟩ <;>rcases hly with b| ⟨b,b'⟩
     ·exact .inl (by omega)
     ·exact .inl (by omega)
     ·exact .inl (by omega)
     ·exact .inr ⟨by omega,by omega⟩
    ·obtain rfl:x=y:=by simpa using hx
     exact hly
 have h5':=List.pairwise_append.1 h5
 refine⟨P++(i:Int)::S,by rw[h1];simp,by simp;omega,by omega,?_,fun x hx=>?_⟩
 ·refine List.pairwise_append.2 ⟨h5'.1,List.pairwise_cons.2 ⟨h7,h5'.2.1⟩,fun x hx y hy=>?_⟩
  rcases List.mem_cons.1 hy with rfl|hy
  ·exact hP x hx
  ·exact h5'.2.2 x hx y hy
 ·rcases List.mem_append.1 hx with hx|hx
  ·have:=h6 x (List.mem_append_left _ hx);omega
  ·rcases List.mem_cons.1 hx with rfl|hx
   ·omega
   ·have:=h6 x (List.mem_append_right _ hx);omega
theorem Mid.swap{L:List Int}{n i j:Nat}{R:List Int}(h:Mid L n i (j+1) R)(hs:lat L i<lat L (R.getD j 0)):
 Mid L n i j ((R.set (j+1) (R.getD j 0)).set j (i:Int))∧R.getD (j+1) 0=(i:Int):=by
 obtain⟨P,S,h1,h2,h3,h4,h5,h6,h7⟩:=h
 have hP0:P≠[]:=fun e=>by rw[e]at h2;simp at h2
 obtain⟨Q,y,rfl⟩:=snoc_of hP0
 have hQ:Q.length=j:=by simpa using h2
 have hy:R.getD j 0=y:=by
  rw[h1,←hQ,List.getD_eq_getElem?_getD,List.getElem?_append_left (by simp)]
  simp
 have hi:R.getD (j+1) 0=(i:Int):=by
  rw[h1,List.getD_eq_getElem?_getD,List.getElem?_append_right (by simp;omega)]
  simp[hQ]
 rw[hy]at hs
 refine⟨⟨Q,y::S,?_,hQ,by simp at h3 ⊢;omega,h4,by simpa using h5,fun x hx=>h6 x (by simpa using hx),fun x hx=>?_⟩,hi⟩
 ·rw[hy,h1]
  rw[List.append_assoc,List.set_append_right _ _ (by omega),List.set_append_right _ _ (by omega)]
  rw[show j+1-Q.length=1 by omega,show j-Q.length=0 by omega]
  rfl
 ·rcases List.mem_cons.1 hx with rfl|hx
  ·exact .inl hs
  ·exact h7 x hx
theorem Mid.at{L:List Int}{n i j:Nat}{R:List Int}(h:Mid L n i j R):R.getD j 0=(i:Int):=by
 obtain⟨P,S,h1,h2,-⟩:=h
 rw[h1,List.getD_eq_getElem?_getD,List.getElem?_append_right (by omega),h2]
 simp
theorem Mid.prev{L:List Int}{n i j:Nat}{R:List Int}(h:Mid L n i (j+1) R):0≤R.getD j 0∧R.getD j 0<(i:Int):=by
 obtain⟨P,S,h1,h2,h3,h4,h5,h6,h7⟩:=h
 have hj:j<P.length:=by omega
 have:R.getD j 0∈P:=by
  rw[h1,List.getD_eq_getElem?_getD,List.getElem?_append_left hj,List.getElem?_eq_getElem hj]
  exact List.getElem_mem hj
 exact h6 _ (List.mem_append_left _ this)
theorem Row.otherS{w:World}{g:Nat}{l:List Int}(h:Row w g l){a:Addr}(ha:a.block≠g)(v:Value):Row (w.setCell a v) g l:=
 h.kept (row:=some a.block) ⟨rfl,rfl,rfl,by simp[World.setCell],fun i _ hne=>Below.heap_setCell _ _ _ _ (fun e=>hne (by rw[e]))⟩ (fun e=>ha (by injection e with e;exact e.symm))
structure SW(w:World)(B d g q n:Nat)(L R:List Int)(wr:World):Prop where
 bel:Below B w wr
 size:wr.heap.size=w.heap.size
 row:Row wr d R
 lev:Row wr g L
 cell:wr.cell? ⟨q,0,none⟩=some (.slice (some ⟨g,0,none⟩) n n)
theorem SW.drewN{w:World}{B d g q n:Nat}{L R:List Int}{wr:World}(h:SW w B d g q n L R wr)(k:Nat):SW w B d g q n L R (wr.drewN k):=⟨below_drewN h.bel k,h.size,h.row,h.lev,h.cell⟩
theorem SW.drew{w:World}{B d g q n:Nat}{L R:List Int}{wr:World}(h:SW w B d g q n L R wr):SW w B d g q n L R wr.drew:=⟨h.bel.drew,h.size,h.row,h.lev,h.cell⟩
theorem SW.set{w:World}{B d g q n:Nat}{L R:List Int}{wr:World}(h:SW w B d g q n L R wr)(hd:B≤d)(hg:d≠g)(hq:d≠q)(j:Nat)(x:Int):SW w B d g q n L (R.set j x) (wr.setCell ⟨d,j,none⟩ (.int .i64 x)):=
 ⟨h.bel.setCell hd _,by rw[World.size_setCell];exact h.size,h.row.set j x,h.lev.otherS hg _,by rw[World.cell?_setCell_other _ _ _ _ (by simp[hq])];exact h.cell⟩
set_option maxRecDepth 100000 in
set_option maxHeartbeats 4000000 in
theorem insert_any(L:List Int)(n d g q B:Nat)(w:World)(hd:B≤d)(hg:d≠g)(hq:d≠q)(hL:L.length=n)(hn:n≤1000000)(hw:SW w B d g q n L (rng 0 n) w):
 Calls Tryz.prog 144 #[.slice (some ⟨d,0,none⟩) n n,.int .i64 0,.int .i64 n,.func (.func 78) #[] #[.pointer (some ⟨q,0,none⟩)]] w fun e w'=>e=.returned (.tuple #[])∧∃R,SortTo L n n R∧SW w B d g q n L R w':=by
 have HW:=Lib.hid hw
 have HLL:=Lib.hid hL
 clear hw hL
 go_enter Tryz.func144,Tryz.ntmps144
 go_wp2
 go_loopw [8] (fun i wr=>∃(k:Nat) (R:List Int),i=.int .i64 k∧1≤k∧k≤n+1∧SW w B d g q n L R wr∧SortTo L n (min k n) R) (fun i _=>n+1-(intOf i).toNat)
 case atStart=>
  refine⟨1,rng 0 n,rfl,Nat.le_refl _,by omega,HW.out,?_⟩
  by_cases h0:n=0
  ·subst h0
   exact⟨[],rfl,rfl,Nat.le_refl _,List.Pairwise.nil,fun x hx=>by cases hx⟩
  ·rw[show min 1 n=1 by omega]
   exact⟨[0],by rw[rng_cons (by omega)];rfl,rfl,by omega,by simp,fun x hx=>by simp at hx;omega⟩
 case round=>
  clear HW
  obtain⟨k,R,rfl,hk1,hk2,hsw,hso⟩:=hrel
  have HSO:=Lib.hid hso
  have HSW:=Lib.hid hsw
  clear hso hsw
  by_cases hlt:k<n
  ·have hltz:(k:Int)<(n:Int):=by omega
   have hmid:=Mid.start (by have:=HSO.out;rwa [show min k n=k by omega]at this) hlt
   have HMID:=Lib.hid hmid
   clear hmid
   go_wp2
   go_loopg [9] k (fun g2 vj wr2=>∃(j:Nat) (R2:List Int),vj=.int .i64 j∧j≤g2∧j≤k∧SW w B d g q n L R2 wr2∧Mid L n k j R2)
   case atStart=>exact⟨k,R,rfl,Nat.le_refl _,Nat.le_refl _,HSW.out,HMID.out⟩
   case round=>
    clear HSW HMID HSO
    obtain⟨j,R2,rfl,hjg,hjk,hsw,hmid⟩:=hrel
    have HSW:=Lib.hid hsw
    have HMID:=Lib.hid hmid
    have hlen:R2.length=n:=by
     obtain⟨P,S,h1,h2,h3,h4,-⟩:=hmid
     rw[h1];simp[rng_len];omega
    clear hsw hmid
    by_cases hj0:j=0
    ·subst hj0
     have hdec:decide ((0:Int)<((0:Nat):Int))=false:=by simp
     have hstop:=HMID.out.stop (.inl rfl)
     have HST:=Lib.hid hstop
     clear hstop
     go_wp2
     go_quiet (fail)
     go_wp2
     go_roundw
     case rel=>
      refine⟨k+1,R2,by go_num,by omega,by omega,HSW.out.drewN _,?_⟩
      rw[show min (k+1) n=k+1 by omega];exact HST.out
     case measure=>simp[intOf];omega
    ·obtain⟨jp,rfl⟩:∃jp,j=jp+1:=⟨j-1,by omega⟩
     have c1:=HSW.out.row.cell (j:=jp+1) (by omega)
     have c0:=HSW.out.row.cell (j:=jp) (by omega)
     have f1:=HSW.out.row.frozen (jp+1)
     have f0:=HSW.out.row.frozen jp
     have hat:=HMID.out.at
     obtain⟨hp0,hp1⟩:=HMID.out.prev
     obtain⟨yn,hyn⟩:=Int.eq_ofNat_of_zero_le hp0
     have l1:lat R2 ((jp+1:Nat):Int)=(k:Int):=hat
     have l0:lat R2 (jp:Int)=(yn:Int):=hyn
     rw[l1]at c1
     rw[l0]at c0
     have hyk:yn<n:=by omega
     have hc:=fun m=>order1_any L k yn (by rw[HLL.out];exact hlt) (by rw[HLL.out];exact hyk) (by rw[HLL.out];exact hn) g q (wr.drewN m) HSW.out.lev (by rw[HLL.out];exact HSW.out.cell)
     obtain⟨z,HZ⟩:=named (cmpI (lat L k) (lat L yn))
     rw[←HZ.out]at hc
     have hzd:=cmpI_neg (lat L k) (lat L yn)
     rw[←HZ.out]at hzd
     have HZD:=Lib.hid hzd
     have HYN:=Lib.hid hyn
     have hwp:IntKind.i64.wrap (jp:Int)=(jp:Int):=by rw[IntKind.wrap_i64];omega
     have jz:(jp:Int)+1<(n:Int):=by omega
     have jz1:(jp:Int)<(n:Int):=by omega
     have hjaz':(0:Int)<(jp:Int)+1:=by omega
     have p0:(0:Int)≤(jp:Int)+1:=by omega
     have e0:((jp:Int)+1).toNat=jp+1:=by omega
     clear hat hp0 hp1 l1 l0 hzd hyn
     generalize hwq:wr=wq at c1 c0 f1 f0 hc HSW ⊢
     clear hwq
     by_cases hlv:z<0
     ·go_wp2_with fail
      go_quiet ((go_at_call 78;refine Calls.quiet_of (hc _)))
      go_wp2_with fail
      have hlv':decide (z<0)=true:=by simpa using hlv
      have hsw2:=HMID.out.swap (by
       rw[HYN.out]
       have:=HZD.out
       rw[hlv']at this
       simpa using this.symm)
      have HSW2:=Lib.hid hsw2
      have HS2:=Lib.hid (HSW.out.drewN nq)
      have c1':(wq.drewN nq).cell? ⟨d,jp+1,none⟩=some (.int .i64 (k:Int)):=c1
      have c0':(wq.drewN nq).cell? ⟨d,jp,none⟩=some (.int .i64 (yn:Int)):=c0
      have f1':(wq.drewN nq).frozen? ⟨d,jp+1,none⟩=false:=f1
      have f0':(wq.drewN nq).frozen? ⟨d,jp,none⟩=false:=f0
      clear c1 c0 f1 f0 hc hsw2
      generalize wq.drewN nq=wq2 at HS2 c1' c0' f1' f0' ⊢
      obtain⟨j1,hj1⟩:∃j1,j1=jp+1:=⟨_,rfl⟩
      rw[←hj1]at c1' f1' e0
      have J1:=Lib.hid hj1
      clear hj1
      go_big_region
      all_goals
       go_wp2
       go_roundg jp
       case measure=>omega
       case rel=>
        refine⟨jp,_,by first|rfl|go_num|(congr 1;omega),Nat.le_refl _,by omega,?_,HSW2.out.1⟩
        rw[HYN.out,←J1.out]
        exact ((HS2.out.set hd hg hq j1 (yn:Int)).set hd hg hq jp (k:Int)).drew
     ·have hlv':decide (z<0)=false:=by simpa using hlv
      have hstop:=HMID.out.stop (.inr (by
       rw[show jp+1-1=jp by omega,HYN.out]
       have:=HZD.out
       rw[hlv']at this
       simpa using this.symm))
      have HST:=Lib.hid hstop
      clear hstop
      go_wp2_with fail
      go_quiet ((go_at_call 78;refine Calls.quiet_of (hc _)))
      go_wp2
      go_roundw
      case rel=>
       refine⟨k+1,R2,by go_num,by omega,by omega,HSW.out.drewN _,?_⟩
       rw[show min (k+1) n=k+1 by omega];exact HST.out
      case measure=>simp[intOf];omega
  ·have hkn:min k n=n:=by omega
   have h2:=HSO.out
   rw[hkn]at h2
   go_wp2
   go_end0
   exact⟨rfl,R,h2,HSW.out⟩
def SortPost(L:List Int)(w:World)(B d g q n:Nat)(e:Ending)(w':World):Prop:=e=.returned (.tuple #[])∧∃R,SortTo L n n R∧SW w B d g q n L R w'
set_option maxHeartbeats 1000000 in
theorem stable_any(L:List Int)(n d g q B:Nat)(w:World)(hd:B≤d)(hg:d≠g)(hq:d≠q)(hL:L.length=n)(hn:n<20)(hw:SW w B d g q n L (rng 0 n) w):
 Calls Tryz.prog 123 #[.slice (some ⟨d,0,none⟩) n n,.int .i64 n,.func (.func 78) #[] #[.pointer (some ⟨q,0,none⟩)]] w (SortPost L w B d g q n):=by
 have HI:=Lib.hid (insert_any L n d g q B w hd hg hq hL (by omega) hw)
 clear hw hL
 go_enter Tryz.func123,Tryz.ntmps123
 go_wp2
 refine wp_loop_rounds 1 ?_
 simp only[Code.rounds]
 go_wp2_with (go_at_call 144;(with_reducible refine HI.out.mono ?_);rintro e w' ⟨rfl,R,h1,h2⟩;have HR:=Lib.hid h1;have HS:=Lib.hid h2;clear h1 h2)
 refine wp_loop_rounds 1 ?_
 simp only[Code.rounds]
 go_wp2
 go_end0
 exact⟨rfl,R,HR.out,HS.out⟩
set_option maxHeartbeats 400000 in
theorem sort_any(L:List Int)(n d g q B:Nat)(w:World)(hd:B≤d)(hg:d≠g)(hq:d≠q)(hL:L.length=n)(hn:n<20)(hw:SW w B d g q n L (rng 0 n) w):
 Calls Tryz.prog 77 #[.slice (some ⟨d,0,none⟩) n n,.func (.func 78) #[] #[.pointer (some ⟨q,0,none⟩)]] w (SortPost L w B d g q n):=by
 have HI:=Lib.hid (stable_any L n d g q B w hd hg hq hL hn hw)
 clear hw hL
 go_enter Tryz.func77,Tryz.ntmps77
 go_wp2_with (go_at_call 123;(with_reducible refine HI.out.mono ?_);rintro e w' ⟨rfl,R,h1,h2⟩;have HR:=Lib.hid h1;have HS:=Lib.hid h2;clear h1 h2)
 go_end0
 exact⟨rfl,R,HR.out,HS.out⟩
theorem fillL_rng(z:Value)(n:Nat):fillL (fun j=>.int .i64 (j:Int)) z n n=(rng 0 n).map (Value.int .i64):=by
 apply List.ext_getElem?
 intro j
 by_cases hj:j<n
 ·rw[fillL_get _ _ _ _ _ hj,if_pos hj];simp[rng,hj]
 ·rw[List.getElem?_eq_none (by simp[fillL_len];omega),List.getElem?_eq_none (by simp[rng];omega)]
def OrdPost(c:Ck)(w:World)(e:Ending)(w':World):Prop:=
 Below w.heap.size w w'∧((chkErr c=0∧shapeErr c=0∧∃L R d,Lvl c.nodes L∧(∀i:Nat,i<c.nodes.length→lat L i<(c.nodes.length:Int))∧SortTo L c.nodes.length c.nodes.length R∧w.heap.size≤d∧e=.returned (.tuple #[.slice (some ⟨d,0,none⟩) c.nodes.length c.nodes.length,.int .i64 0])∧Row w' d R)
  ∨(chkErr c≠0∧e=.returned (.tuple #[.slice none 0 0,.int .i64 (chkErr c)])))
set_option maxRecDepth 100000 in
set_option maxHeartbeats 4000000 in
theorem order_any(c:Ck)(v:Value)(w:World)(B:Nat)(hB:B≤w.heap.size)(hT:Tabs w)(hc:Cir w B v c)(hn20:c.nodes.length<20):
 Calls Tryz.prog 33 #[v] w (OrdPost c w):=by
 have hb0:=hc
 obtain⟨v0,v1,v2,v3,rfl,hns,hss,hms,hos⟩:=hc
 obtain⟨A0,b0,o0,c0,rfl,-⟩:=id hns
 obtain⟨A1,b1,o1,c1,rfl,-⟩:=id hss
 obtain⟨A2,b2,o2,c2,rfl,-⟩:=id hms
 obtain⟨A3,b3,o3,c3,rfl,-⟩:=id hos
 have hbW:Below w.heap.size w (w.alloc (.cells #[.slice A0 c.nodes.length c0,.slice A1 c.names.length c1,.slice A2 c.mems.length c2,.slice A3 c.outs.length c3] 39)):=(Below.refl _ _).alloc (Nat.le_refl _) _
 have hL:=levels_any c _ _ B (Nat.le_trans hB hbW.size) (hT.below hbW) (hb0.below (hbW.mono hB))
 clear hns hss hms hos hb0 hT
 by_cases hck:chkErr c=0
 ·have hL2:=hL.mono (R':=fun e w'=>∃L g,e=.returned (.tuple #[.slice (some ⟨g,0,none⟩) c.nodes.length c.nodes.length,.int .i64 0])∧Below (w.alloc (.cells #[.slice A0 c.nodes.length c0,.slice A1 c.names.length c1,.slice A2 c.mems.length c2,.slice A3 c.outs.length c3] 39)).heap.size (w.alloc (.cells #[.slice A0 c.nodes.length c0,.slice A1 c.names.length c1,.slice A2 c.mems.length c2,.slice A3 c.outs.length c3] 39)) w'∧w.heap.size≤g∧Row w' g L∧shapeErr c=0∧Lvl c.nodes L∧(∀i:Nat,i<c.nodes.length→lat L i<(c.nodes.length:Int))) fun e w' ⟨h1,h2⟩=>by
   rcases h2 with⟨-,h0,L,g,hl,hbd,hg,he,hr⟩| ⟨hne,-⟩
   ·exact⟨L,g,he,h1,Nat.le_trans hbW.size hg,hr,h0,hl,hbd⟩
   ·exact absurd hck hne
  have HCK:=Lib.hid hck
  clear hL hck
  generalize c.names.length=n1 at hL2 hbW ⊢
  generalize c.mems.length=n2 at hL2 hbW ⊢
  generalize c.outs.length=n3 at hL2 hbW ⊢
  obtain⟨n,HN⟩:=named c.nodes.length
  rw[←HN.out]at hL2 hbW hn20
  rw[←HN.out]
  have HL:=Lib.hid hL2
  have HBW:=Lib.hid hbW
  clear hL2 hbW
  obtain⟨i0,hi,hz0,hz1,hz2⟩:=info_parts info_int
  have HI:=Lib.hid (And.intro hi (And.intro hz0 (And.intro hz1 hz2)))
  clear hi hz0 hz1 hz2
  go_enter Tryz.func33,Tryz.ntmps33
  go_wp2_with (first
   |(go_at_call 76;(with_reducible refine HL.out.mono ?_);rintro e w1 ⟨L,g,rfl,hb,hwg,hr,hsh,hl,hbd⟩;have HB1:=Lib.hid hb;have HR:=Lib.hid hr;have HSH:=Lib.hid hsh;have HLV:=Lib.hid hl;have HBD:=Lib.hid hbd;clear hb hr hsh hl hbd)
   |(at_make;refine wpList_make_full _ rfl _ _ 37 rfl w.heap.size 3 i0 (.int .i64 0) 1 Tryz.underlying37 HI.out.1 HI.out.2.1 HI.out.2.2.1 .i64 .i64 _ _ n rfl rfl rfl rfl ?b2 ?b3 ?b4 ?_))
  case b2=>rw[HI.out.2.2.2];omega
  case b3=>unfold maxLen;omega
  case b4=>have:=(joinB HBW.out HB1.out).size;simp;omega
  intro w2 hown hgr
  rw[fillL_start (fun j=>.int .i64 (j:Int))]at hown
  obtain⟨w1v,HW1⟩:=named (w1.alloc (.cells #[.slice (some ⟨g,0,none⟩) n n] 37))
  have hz1:w1v.heap.size=w1.heap.size+1:=by rw[HW1.out];simp
  rw[←HW1.out]at hgr
  have hb1v:Below w.heap.size w w1v:=by rw[HW1.out];exact below_new (joinB HBW.out HB1.out) _
  have hrv:Row w1v g L:=by rw[HW1.out];exact HR.out.below ((Below.refl _ _).alloc (Nat.le_refl _) _)
  have hcv:w1v.cell? ⟨w1.heap.size,0,none⟩=some (.slice (some ⟨g,0,none⟩) n n):=by rw[HW1.out,World.cell?_alloc_at _ _ _ _ rfl];rfl
  have hb2:Below w.heap.size w w2:=hb1v.grown hgr hb1v.size (fun k h=>by cases h)
  have hr2:Row w2 g L:=hrv.kept hgr (by simp)
  have hc2:w2.cell? ⟨w1.heap.size,0,none⟩=some (.slice (some ⟨g,0,none⟩) n n):=hgr.cell hcv (by simp)
  have hgl:g<w1.heap.size:=HR.out.lt
  have hbz:w.heap.size≤w1.heap.size:=(joinB HBW.out HB1.out).size
  have hsz2:w1.heap.size+1<w2.heap.size:=(World.ownsRow.lt hown _ rfl).2
  have HO:=Lib.hid hown
  have HB2:=Lib.hid hb2
  have HR2:=Lib.hid hr2
  have HC2:=Lib.hid hc2
  obtain⟨d,HD⟩:=named (w1.heap.size+1)
  rw[←HD.out]
  rw[←HD.out]at HO
  obtain⟨q,HQ⟩:=named w1.heap.size
  rw[←HQ.out]at HC2
  rw[←HQ.out]
  have hdg:d≠g:=by rw[HD.out];omega
  have hdq:d≠q:=by rw[HD.out,HQ.out];omega
  have hdw:w.heap.size≤d:=by rw[HD.out];omega
  have hqc:w2.cell? ⟨q,0,none⟩=some (.slice (some ⟨g,0,none⟩) n n):=HC2.out
  have hdz:d<w2.heap.size:=by rw[HD.out];omega
  clear hown hgr hb2 hr2 hc2 hcv hrv hb1v hz1 hgl hbz hsz2 hwg
  go_wp2
  go_loopw [21] (fun i wr=>∃k:Nat,k≤n∧i=.int .i64 k∧Below w.heap.size w wr∧wr.heap.size=w2.heap.size∧Row wr g L∧wr.cell? ⟨q,0,none⟩=some (.slice (some ⟨g,0,none⟩) n n)∧
   wr.ownsRow w.heap.size 3 1 (.slice (some ⟨d,0,none⟩) n n) n (fillL (fun j=>.int .i64 (j:Int)) (.int .i64 0) n k)) (fun i _=>n-(intOf i).toNat)
  case atStart=>exact⟨0,Nat.zero_le _,rfl,HB2.out,rfl,HR2.out,HC2.out,HO.out⟩
  case round=>
   clear HO HB2 HR2 HC2 hqc
   obtain⟨k,hk,rfl,hb,hsz,hr,hqc,hown⟩:=hrel
   have HBL:=Lib.hid hb
   have HO:=Lib.hid hown
   have HR2:=Lib.hid hr
   have HSZ:=Lib.hid hsz
   clear hb hown hr hsz
   by_cases hlt:k<n
   ·have hfz:wr.frozen? ⟨d,k,none⟩=false:=HO.out.frozenAt k
    have hcl:wr.cell? ⟨d,k,none⟩=some (.int .i64 0):=by
     rw[HO.out.cellAt k (by omega),fillL_get _ _ _ _ _ hlt,if_neg (by omega)]
    have HS:=Lib.hid (HO.out.stored k (.int .i64 (k:Int))).1
    have HQC:=Lib.hid hqc
    clear hqc
    go_wp2
    go_roundw
    case rel=>
     refine⟨k+1,by omega,by go_num,HBL.out.setCell hdw _,by rw[World.size_setCell];exact HSZ.out,HR2.out.otherS hdg _,?_,?_⟩
     ·rw[World.cell?_setCell_other _ _ _ _ (by simp[hdq])];exact HQC.out
     ·rw[←fillL_set (fun j=>.int .i64 (j:Int)) (.int .i64 0) n k];exact HS.out
    case measure=>simp[intOf];omega
   ·obtain rfl:n=k:=by omega
    have hrow:Row wr d (rng 0 n):=by
     have:=HO.out
     rw[fillL_rng]at this
     unfold Row
     rw[rng_len,Nat.sub_zero]
     refine⟨this.1,?_⟩
     rcases this.2 with⟨e,-⟩| ⟨g',cap,cur,e,hb',hg',hle,hmx,hs',ht'⟩
     ·cases e
     ·simp only[Value.slice.injEq,Option.some.injEq,Addr.mk.injEq]at e
      obtain⟨⟨rfl,-⟩,-,rfl⟩:=e
      exact .inr ⟨d,n,cur,rfl,Nat.le_refl _,hg',hle,hmx,hs',ht'⟩
    have hsort:=sort_any L n d g q w.heap.size wr hdw hdg hdq (by rw[HLV.out.1,HN.out]) hn20 ⟨Below.refl _ _,rfl,hrow,HR2.out,hqc⟩
    have HSRT:=Lib.hid hsort
    clear hsort hrow hqc
    go_wp2_with (go_at_call 77;(with_reducible refine HSRT.out.mono ?_);rintro e w4 ⟨rfl,R,h1,h2⟩;have HRR:=Lib.hid h1;have HSS:=Lib.hid h2;clear h1 h2)
    go_ret2
    unfold OrdPost
    rw[←HN.out]
    exact⟨HBL.out.trans HSS.out.bel,.inl ⟨HCK.out,HSH.out,L,R,d,HLV.out,HBD.out,HRR.out,hdw,rfl,HSS.out.row⟩⟩
 ·have hL2:=hL.mono (R':=fun e w'=>e=.returned (.tuple #[.slice none 0 0,.int .i64 (chkErr c)])∧Below (w.alloc (.cells #[.slice A0 c.nodes.length c0,.slice A1 c.names.length c1,.slice A2 c.mems.length c2,.slice A3 c.outs.length c3] 39)).heap.size (w.alloc (.cells #[.slice A0 c.nodes.length c0,.slice A1 c.names.length c1,.slice A2 c.mems.length c2,.slice A3 c.outs.length c3] 39)) w') fun e w' ⟨h1,h2⟩=>by
   rcases h2 with⟨h0,-⟩| ⟨-,he⟩
   ·exact absurd h0 hck
   ·exact⟨he,h1⟩
  obtain⟨z,HZ⟩:=named (chkErr c)
  rw[←HZ.out]at hL2 hck
  have hz:(z==0)=false:=by simpa using hck
  have HCK:=Lib.hid hck
  clear hL hck
  generalize c.names.length=n1 at hL2 hbW ⊢
  generalize c.mems.length=n2 at hL2 hbW ⊢
  generalize c.outs.length=n3 at hL2 hbW ⊢
  obtain⟨n,HN⟩:=named c.nodes.length
  rw[←HN.out]at hL2 hbW
  rw[←HN.out]
  have HL:=Lib.hid hL2
  have HBW:=Lib.hid hbW
  clear hL2 hbW
  go_enter Tryz.func33,Tryz.ntmps33
  go_wp2_with (go_at_call 76;(with_reducible refine HL.out.mono ?_);rintro e w1 ⟨rfl,hb⟩;have HB1:=Lib.hid hb;clear hb)
  go_ret2
  exact⟨below_new (joinB HBW.out HB1.out) _,.inr ⟨by rw[←HZ.out];exact HCK.out,by rw[←HZ.out];rfl⟩⟩
end Go.Proofs.YtemjmfpcopfdbaaGreatDoor
