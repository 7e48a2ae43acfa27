/- The texts Lvo. -/
import Derived.Test.YtcbllelkgniogaaDoorM09
import Derived.Deep.LoopGhost
import Derived.Deep.DeepCutAuto
import Derived.Deep.CutBlock
import Derived.Scope
namespace Go.Proofs.YtcbllelkgniogaaDoor
open Go.RowKit
def LvPost(nodes:List Nd)(w:World)(e:Ending)(w':World):Prop:=
 Below w.heap.size w w'∧((∃L,Lvl nodes L∧(∀i:Nat,i<nodes.length→lat L i<(nodes.length:Int))∧e=.returned (.tuple #[.slice (some ⟨w.heap.size,0,none⟩) nodes.length nodes.length,.bool true])∧Row w' w.heap.size L)
  ∨((¬∃L,Lvl nodes L)∧e=.returned (.tuple #[.slice none 0 0,.bool false])))
def Climb(nodes:List Nd)(w:World)(g k:Nat)(m:Nat)(sv:Value)(wr:World):Prop:=
 ∃lv st,Below g w wr∧Row wr g lv∧Stk wr (g+1) sv st∧Dfs nodes lv st∧(∀i:Nat,i<k→0≤lat lv i)∧((st=[]∧0≤lat lv k)∨∃r,st=(k:Int)::r)∧2*neg lv≤m+st.length
set_option maxRecDepth 100000 in
set_option maxHeartbeats 4000000 in
theorem levelsOf_any(nodes:List Nd)(A:Option Addr)(c:Nat)(w:World)(B:Nat)(hB:B≤w.heap.size)(hn:Ns w B (.slice A nodes.length c) nodes)(hw:Wf nodes)(hlen:nodes.length≤16384):
 Calls Tryd.prog 58 #[.slice A nodes.length c] w (LvPost nodes w):=by
 obtain⟨n,hnn⟩:∃n,n=nodes.length:=⟨_,rfl⟩
 rw[←hnn]at hlen
 have HNS:=Lib.hid hn
 have HW:=Lib.hid hw
 have HB:=Lib.hid hB
 have HN:=Lib.hid hnn
 clear hn hw hB
 rw[←hnn]
 clear hnn
 obtain⟨i0,hi,hz0,hz1,hz2⟩:=info_parts info_int
 go_enter Tryd.func58,Tryd.ntmps58
 go_wp2_with (at_make;refine wpList_make_full _ rfl _ _ 37 rfl w.heap.size 3 i0 (.int .i64 0) 1 Tryd.underlying37 hi hz0 hz1 .i64 .i64 _ _ n rfl rfl rfl rfl ?b2 ?b3 ?b4 ?_)
 case b2=>rw[hz2];omega
 case b3=>unfold maxLen;omega
 case b4=>exact Nat.le_refl _
 intro w1 hown hgr
 rw[fillL_start (fun _=>.int .i64 (-1))]at hown
 have hb1:Below w.heap.size w w1:=(Below.refl _ _).grown hgr (Nat.le_refl _) (fun k h=>by cases h)
 obtain⟨g,hg⟩:∃g,g=w.heap.size:=⟨_,rfl⟩
 rw[←hg]at hown hb1
 rw[←hg]
 have HO:=Lib.hid hown
 have HBL:=Lib.hid hb1
 have HG:=Lib.hid hg
 clear hown hgr hb1 hz0 hz1 hz2 hi hg
 go_wp2
 go_loopw [17] (fun i wr=>∃k:Nat,k≤n∧i=.int .i64 k∧Below g w wr∧
  wr.ownsRow g 3 1 (.slice (some ⟨g,0,none⟩) n n) n (fillL (fun _=>.int .i64 (-1)) (.int .i64 0) n k)) (fun i _=>n-(intOf i).toNat)
 case atStart=>exact⟨0,Nat.zero_le _,rfl,HBL.out,HO.out⟩
 case round=>
  clear HO HBL
  obtain⟨k,hk,rfl,hb,hown⟩:=hrel
  have HBL:=Lib.hid hb
  have HO:=Lib.hid hown
  clear hb hown
  by_cases hlt:k<n
  ·have hfz:wr.frozen? ⟨g,k,none⟩=false:=HO.out.frozenAt k
   have hcl:wr.cell? ⟨g,k,none⟩=some (.int .i64 0):=by
    rw[HO.out.cellAt k (by omega),fillL_get _ _ _ _ _ hlt,if_neg (by omega)]
   have HS:=Lib.hid (HO.out.stored k (.int .i64 (-1))).1
   go_wp2
   go_roundw
   case rel=>
    refine⟨k+1,by omega,by go_num,HBL.out.setCell (Nat.le_refl g) _,?_⟩
    rw[←fillL_set (fun _=>.int .i64 (-1)) (.int .i64 0) n k];exact HS.out
   case measure=>simp[intOf];omega
  ·obtain rfl:n=k:=by omega
   have hrow:Row wr g (List.replicate n (-1)):=by
    have:=HO.out
    rw[fillL_end]at this
    unfold Row
    rw[List.length_replicate];exact this
   have HR:=Lib.hid hrow
   clear hrow HO
   go_wp2
   go_loopw [26,6] (fun i sv wo=>∃(j:Nat) (lv:List Int),j≤n∧i=.int .i64 j∧Below g w wo∧Row wo g lv∧Stk wo (g+1) sv []∧Dfs nodes lv []∧∀i:Nat,i<j→0≤lat lv i) (fun i _ _=>n-(intOf i).toNat)
   case atStart=>
    refine⟨0,_,Nat.zero_le _,rfl,HBL.out,HR.out,Stk.nil _ _,?_,fun i hi=>absurd hi (by omega)⟩
    rw[HN.out];exact Dfs.start nodes
   case round=>
    clear HR HBL
    obtain⟨j,lv,hj,rfl,hb,hrow,hstk,hd,hdone⟩:=hrel
    obtain⟨A6,c6,rfl,-,hc6,-⟩:=hstk.form
    have hll:lv.length=n:=hd.len.trans HN.out.symm
    by_cases hlt:j<n
    ·have hcl:=hrow.cell (j:=j) (by omega)
     obtain⟨v,HV⟩:=named (lat lv j)
     rw[←HV.out]at hcl
     have HBL:=Lib.hid hb
     have HR:=Lib.hid hrow
     have HS:=Lib.hid hstk
     have HD:=Lib.hid hd
     have HDN:=Lib.hid hdone
     have HLL:=Lib.hid hll
     clear hb hrow hstk hd hdone hll
     go_wp2
     refine wp_scope_straight ?_
     go_upto_if 33 with (fail)
     go_cut [6] (fun sv wr'=>∃m,Climb nodes w g j m sv wr')
     case first=>
      cases hv:(v== -1)
      ·go_wp2
       go_meet
       case rel=>
        refine⟨2*neg lv,lv,[],HBL.out,HR.out,HS.out,HD.out,HDN.out,.inl ⟨rfl,?_⟩,by simp⟩
        have h1:¬lat lv j= -1:=by rw[←HV.out];simpa using hv
        have h2:=HD.out.vals j (by rw[←HN.out];omega)
        have h3:¬lat lv j= -2:=fun e=>by have:=HD.out.wait j (by rw[←HN.out];omega) e;simp at this
        omega
      ·obtain⟨i1,hi1,hz0,hz1,hz2⟩:=info_parts info_int
       have HI:=Lib.hid (And.intro hi1 (And.intro hz0 (And.intro hz1 hz2)))
       clear hi1 hz0 hz1 hz2
       go_wp2_with (at_builtin;refine wpList_append_own_at _ rfl _ _ 37 rfl (g+1) 3 i1 (.int .i64 0) 1 8 Tryd.underlying37 HI.out.1 HI.out.2.1 HI.out.2.2.1 HI.out.2.2.2 rfl (by decide) _ _ _ rfl (World.ownsRow.alloc HS.out _) ⟨wr.heap.size,0,none⟩ 1 1 [.int .i64 (j:Int)] rfl rfl (one_new _ _ _) (ints_oneCell .i64 [(j:Int)]) (by unfold maxLen;simp) (by simp) (by have:=HR.out.lt;simp;omega) ?_;intro v' w2 hown' hgrow hnil hloc;have HF:=Lib.hid (push_facts HBL.out HR.out HS.out hown' hgrow);clear hown' hgrow hnil hloc)
       go_meet
       case rel=>
        have hj0:lat lv j= -1:=by rw[←HV.out];simpa using hv
        have hd1:=HD.out.one (k:=j) (by rw[←HN.out];omega) hj0
        exact⟨2*neg lv,lv,[(j:Int)],HF.out.1,HF.out.2.1,HF.out.2.2,hd1,HDN.out,.inr ⟨[],rfl⟩,by simp⟩
     case rest=>
      clear HR HBL HS HD HDN HLL HV hcl
      obtain⟨m0,lv0,st0,k1,k2,k3,k4,k5,k6,k7⟩:=hcut
      obtain⟨A7,c7,rfl,-,hc7,-⟩:=k3.form
      go_wp2
      refine wp_label ?_
      go_wp2
      go_loopg [6] m0 (fun m sv wr=>Climb nodes w g j m sv wr)
      case atStart=>exact⟨lv0,st0,k1,k2,k3,k4,k5,k6,k7⟩
      case round=>
       clear k1 k2 k3 k4 k5 k6 k7 hc7
       obtain⟨lv,st,hb,hrow,hstk,hd,hdn,hbot,hms⟩:=hrel
       have HBL:=Lib.hid hb
       have HR:=Lib.hid hrow
       have HS:=Lib.hid hstk
       have HD:=Lib.hid hd
       have HDN:=Lib.hid hdn
       have HBT:=Lib.hid hbot
       have HMS:=Lib.hid hms
       obtain⟨A6,c6,rfl,hle6,hc6,hq6⟩:=hstk.form
       clear hb hrow hstk hd hdn hbot hms
       by_cases hst:st=[]
       ·subst hst
        clear hq6
        have hjd:0≤lat lv j:=by
         rcases HBT.out with⟨-,h⟩| ⟨r,h⟩
         ·exact h
         ·cases h
        have HJD:=Lib.hid hjd
        clear hjd
        go_wp2
        go_roundw
        case rel=>
         refine⟨j+1,lv,by omega,by go_num,HBL.out,HR.out,HS.out,HD.out,fun i hi=>?_⟩
         by_cases hij:i=j
         ·rw[hij];exact HJD.out
         ·exact HDN.out i (by omega)
        case measure=>simp[intOf];omega
       ·obtain⟨r,t,rfl⟩:=snoc_of hst
        clear hst
        obtain⟨t0,t1,t2⟩:=HD.out.mem t (by simp)
        obtain⟨tn,rfl⟩:=Int.eq_ofNat_of_zero_le t0
        obtain⟨q,rfl,hgq,hqz⟩:=hq6 (by simp)
        have hmk:=HD.out.mark
        rw[Int.toNat_natCast]at hmk
        have hcs:=HS.out.cell (j:=r.length) (by simp)
        rw[getD_snoc]at hcs
        have hfr:=HR.out.frozen tn
        have hct:=HR.out.cell (j:=tn) (by rw[HD.out.len];omega)
        have HSF:=Lib.hid (set_facts (j:=tn) (-2) HBL.out HR.out HS.out)
        have HMK:=Lib.hid hmk
        rw[←HN.out]at t1
        clear hmk t2 hq6
        have hll:(r++[(tn:Int)]).length=r.length+1:=by simp
        obtain⟨M,HM⟩:=named r.length
        rw[←HM.out]at hcs hll
        rw[hll]at hle6
        rw[hll]
        have hroom:M+1≤n:=by
         have h1:=HD.out.room
         have h2:=neg_le lv
         have h3:=HD.out.len
         have h4:=HN.out
         rw[hll]at h1
         omega
        have hM16:M≤16383:=by omega
        have hgk:1≤gk:=by
         have h1:=HD.out.room
         have h2:=HMS.out
         rw[hll]at h1 h2
         omega
        have HLL:=Lib.hid hll
        clear hll hroom
        obtain⟨b,o,A4,n4,c4,kd,mm,bt,A5,n5,c5,rfl,hbB,hn0,hn1,hn2,hn3,hif,hn5,hI5⟩:=node_at HNS.out (t:=tn) (by rw[←HN.out];omega)
        have HIF:=Lib.hid hif
        have HN5:=Lib.hid hn5
        have HI5:=Lib.hid hI5
        clear hif hn5 hI5
        obtain⟨wm,HWM⟩:=named (wr.setCell ⟨g,tn,none⟩ (.int .i64 (-2)))
        rw[←HWM.out]at HSF
        have hbm:=HSF.out.1
        have hlb:b<g:=by rw[HG.out];exact Nat.lt_of_lt_of_le hbB HB.out
        have e0:=(hbm.cell (p:=⟨b,o+tn*4,none⟩) hlb).trans hn0
        have e1:=(hbm.cell (p:=⟨b,o+tn*4+1,none⟩) hlb).trans hn1
        have e2:=(hbm.cell (p:=⟨b,o+tn*4+2,none⟩) hlb).trans hn2
        have e3:=(hbm.cell (p:=⟨b,o+tn*4+3,none⟩) hlb).trans hn3
        have hdc:=depends_any ⟨kd,[],mm,bt⟩ A4 n4 c4 wm
        rw[HIF.out]at hdc
        rw[HWM.out]at hdc e0 e1 e2 e3
        have HDC:=Lib.hid hdc
        clear hdc hn0 hn1 hn2 hn3 hbm
        go_wp2_with (go_at_call 75;(with_reducible refine HDC.out.mono ?_);rintro e w3 ⟨rfl,hb3⟩;have HB3:=Lib.hid hb3;clear hb3)
        have h3:=next_facts HSF.out (by rw[HWM.out];exact HB3.out)
        obtain⟨lv2,HV2⟩:=named (lv.set tn (-2))
        rw[←HV2.out,HLL.out]at h3
        have hmk2:=HMK.out
        rw[←HV2.out]at hmk2
        have H3:=Lib.hid h3
        have HMK2:=Lib.hid hmk2
        have hdn2:∀i:Nat,i<j→0≤lat lv2 i:=fun i hi=>by
         have h1:=HDN.out i hi
         have h2:=(HD.out.mem tn (by simp)).2.2
         rw[HV2.out,lat_set _ (by omega),if_neg (fun e=>by have:(i:Int)=(tn:Int):=e.1;rw[this]at h1;omega)]
         exact h1
        have HDN2:=Lib.hid hdn2
        clear hdn2
        have hlv2:lv2.length=n:=hmk2.1.len.trans HN.out.symm
        have HLV2:=Lib.hid hlv2
        clear h3 hmk2 HB3 HMK HSF HDC e0 e1 e2 e3 hcs hfr hct HR HS HD HBL hlv2 HV2 HWM
        go_loopw [56,9,6] (fun i lvl s6 wi=>wi=w3∧s6=.slice (some ⟨q,0,none⟩) (M+1) c6∧∃p:Nat,p≤n5∧i=.int .i64 p∧lvl=.int .i64 (levf lv2 ((dep nodes tn).take p))∧∀i:Nat,i<p→0≤lat lv2 ((dep nodes tn).getD i 0)) (fun i _ _ _=>n5-(intOf i).toNat)
        case atStart=>exact⟨rfl,rfl,0,Nat.zero_le _,rfl,rfl,fun i hi=>absurd hi (by omega)⟩
        case round=>
         obtain⟨rfl,rfl,p,hp,rfl,rfl,hpd⟩:=hrel
         have HPD:=Lib.hid hpd
         clear hpd
         have hlf0:=levf_nonneg lv2 ((dep nodes tn).take p)
         by_cases hlt5:p<n5
         ·obtain⟨A5',b5,o5,c5',e5,hA5,-,hm5,hcell5⟩:=HI5.out.opens
          rw[←HN5.out]at hm5
          unfold maxLen at hm5
          have hx5:=hcell5 p (by rw[←HN5.out];exact hlt5)
          obtain rfl:A5=some ⟨b5,o5,none⟩:=by
           simp only[Value.slice.injEq]at e5
           rw[e5.1];exact hA5 (by rw[←HN5.out];omega)
          clear e5 hA5 hcell5
          obtain⟨hlb5,hcx⟩:=hx5
          have hcx:=(H3.out.1.cell (p:=⟨b5,o5+p,none⟩) (by rw[HG.out];exact Nat.lt_of_lt_of_le hlb5 HB.out)).trans hcx
          have hmem:(dep nodes tn).getD p 0∈dep nodes tn:=getD_mem' (by rw[←HN5.out];exact hlt5)
          have hbx:=HW.out.dep (i:=(tn:Int)) (by rw[←HN.out];simpa using t1) hmem
          have htk:=take_snoc (dep nodes tn) p (by rw[←HN5.out];exact hlt5)
          obtain⟨x,HX⟩:=named ((dep nodes tn).getD p 0)
          rw[←HX.out]at hcx hmem hbx htk
          obtain⟨x0,x1⟩:=hbx
          obtain⟨xn,rfl⟩:=Int.eq_ofNat_of_zero_le x0
          rw[←HN.out]at x1
          have hcl:=H3.out.2.1.cell (j:=xn) (by rw[HLV2.out];omega)
          have hv2:=HMK2.out.1.vals xn (by rw[←HN.out];omega)
          have hdo:=HMK2.out.1.done xn (by rw[←HN.out];omega)
          rw[←HN.out]at hdo
          obtain⟨u,HU⟩:=named (lat lv2 xn)
          rw[←HU.out]at hcl hv2 hdo
          have HMEM:=Lib.hid hmem
          have HTK:=Lib.hid htk
          have HDO:=Lib.hid hdo
          clear hmem htk hdo
          by_cases hu2:u= -2
          ·subst hu2
           have hfail:=HMK2.out.1.fail HW.out HMEM.out HU.out.symm
           have HFAIL:=Lib.hid hfail
           clear hfail
           go_wp2
           go_ret2
           exact⟨by rw[←HG.out];exact H3.out.1,.inr ⟨HFAIL.out,rfl⟩⟩
          ·by_cases hu1:u= -1
           ·subst hu1
            obtain⟨i1,hi1,hz0,hz1,hz2⟩:=info_parts info_int
            have HI:=Lib.hid (And.intro hi1 (And.intro hz0 (And.intro hz1 hz2)))
            clear hi1 hz0 hz1 hz2
            go_wp2_with (at_builtin;refine wpList_append_own_at _ rfl _ _ 37 rfl (g+1) 3 i1 (.int .i64 0) 1 8 Tryd.underlying37 HI.out.1 HI.out.2.1 HI.out.2.2.1 HI.out.2.2.2 rfl (by decide) _ _ _ rfl (World.ownsRow.alloc H3.out.2.2 _) ⟨wr.heap.size,0,none⟩ 1 1 [.int .i64 (xn:Int)] rfl rfl (one_new _ _ _) (ints_oneCell .i64 [(xn:Int)]) (by rw[HLL.out];unfold maxLen;omega) (by rw[HLL.out];omega) (by have:=H3.out.2.1.lt;simp;omega) ?_;intro v' w4 hown' hgrow hnil hloc;have HF:=Lib.hid (push_facts H3.out.1 H3.out.2.1 H3.out.2.2 hown' hgrow);clear hown' hgrow hnil hloc)
            go_roundg (gk-1)
            case measure=>omega
            case rel=>
             refine⟨lv2,_,HF.out.1,HF.out.2.1,HF.out.2.2,HMK2.out.1.push HW.out HMK2.out.2.1 HMEM.out HU.out.symm,HDN2.out,?_,?_⟩
             ·rcases HBT.out with⟨e,-⟩| ⟨r1,e⟩
              ·simp at e
              ·exact .inr ⟨r1++[(xn:Int)],by rw[e];rfl⟩
             ·have h1:=HMS.out
              have h2:=HMK2.out.2.2
              rw[List.length_append]
              simp only[List.length_singleton]
              omega
           ·have hu0:0≤u:=by omega
            have hun:u<16384:=by have:=(HDO.out hu0).2.2;omega
            have hb2:(u== -2)=false:=by simpa using hu2
            have hb1:(u== -1)=false:=by simpa using hu1
            obtain⟨z,HZ⟩:=named (levf lv2 ((dep nodes tn).take p))
            rw[←HZ.out]at hlf0
            rw[←HZ.out]
            clear hu2 hu1
            go_wp2
            go_roundw
            case rel=>
             refine⟨by trivial,by trivial,p+1,by omega,by go_num,?_,fun i hi=>?_⟩
             ·rw[HTK.out,levf_snoc,←HZ.out,←HU.out]
              congr 1
              rw[Int.max_def]
              split<;>split<;>omega
             ·by_cases hip:i=p
              ·rw[hip,←HX.out,←HU.out];exact hu0
              ·exact HPD.out i (by omega)
            case measure=>simp[intOf];omega
         ·obtain rfl:p=n5:=by omega
          have hall:(dep nodes tn).take p=dep nodes tn:=List.take_of_length_le (by rw[HN5.out];exact Nat.le_refl _)
          rw[hall]
          rw[hall]at hlf0
          clear hall
          have hpop:=HMK2.out.1.pop HW.out HMK2.out.2.1 (fun x hx=>by
           obtain⟨i,hi,rfl⟩:=List.mem_iff_getElem.1 hx
           have:=HPD.out i (by rw[HN5.out];exact hi)
           rwa [List.getD_eq_getElem?_getD,List.getElem?_eq_getElem hi]at this)
          obtain⟨y,HY⟩:=named (levf lv2 (dep nodes tn))
          rw[←HY.out]at hpop hlf0
          rw[←HY.out]
          rw[Int.toNat_natCast]at hpop
          have HP:=Lib.hid hpop
          have hfr:=H3.out.2.1.frozen tn
          have hct:=H3.out.2.1.cell (j:=tn) (by rw[HLV2.out];omega)
          have hsf:=set_facts (j:=tn) y H3.out.1 H3.out.2.1 H3.out.2.2
          have HSF:=Lib.hid hsf
          clear hpop hsf
          go_wp2
          go_roundg (gk-1)
          case measure=>omega
          case rel=>
           refine⟨lv2.set tn y,r,HSF.out.1,HSF.out.2.1,?_,HP.out.1,fun i hi=>?_,?_,?_⟩
           ·have h1:=HSF.out.2.2
            rw[←HLL.out]at h1
            have h2:=h1.pop
            rw[←HM.out]at h2
            exact h2
           ·rw[lat_set _ (by omega)]
            split
            ·exact hlf0
            ·exact HDN2.out i hi
           ·rcases HBT.out with⟨e,-⟩| ⟨r1,e⟩
            ·simp at e
            ·cases r with
             |nil=>
              simp only[List.nil_append,List.cons.injEq]at e
              refine .inl ⟨rfl,?_⟩
              rw[←e.1];exact HP.out.2.2
             |cons a r'=>
              simp only[List.cons_append,List.cons.injEq]at e
              exact .inr ⟨r',by rw[e.1]⟩
           ·have h1:=HMS.out
            have h2:=HMK2.out.2.2
            have h3:=HP.out.2.1
            have h4:=HLL.out
            have h5:=HM.out
            omega
    ·obtain rfl:n=j:=by omega
     have hfin:=hd.finish (fun i hi=>hdone i (by rw[HN.out];exact hi))
     rw[←HN.out]at hfin
     have HFIN:=Lib.hid hfin
     have HBL:=Lib.hid hb
     have HR:=Lib.hid hrow
     clear hfin hb hrow hstk hd hdone hll
     go_wp2
     go_ret2
     refine⟨by rw[←HG.out];exact HBL.out,.inl ⟨lv,HFIN.out.1,by rw[←HN.out];exact HFIN.out.2,by rw[←HG.out,←HN.out];rfl,by rw[←HG.out];exact HR.out⟩⟩
end Go.Proofs.YtcbllelkgniogaaDoor
