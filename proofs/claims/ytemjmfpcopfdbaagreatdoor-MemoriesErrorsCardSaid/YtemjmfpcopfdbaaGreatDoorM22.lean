/- The texts Ste Mk9. -/
import Derived.Test.YtemjmfpcopfdbaaGreatDoorM21
namespace Go.Proofs.YtemjmfpcopfdbaaGreatDoor
open Go.RowKit
theorem SRow.put_cell{w:World}{D m k T:Nat}{f:Nat→List Int}(h:SRow w D f m k T)(hk:k<m)(x:Value):(w.setCell ⟨D,k,none⟩ x).cell? ⟨D,k,none⟩=some x:=by
 obtain⟨vs,gf,h1,h2,-⟩:=h
 rw[(h1.set k x).cell,List.getElem?_set]
 simp[h2,hk]
theorem info_vals:(Tryz.prog.info? 41).map (fun i=>(i.zero,i.size,i.bytes))=some (some (.slice none 0 0),1,24):=by kernel_rfl
theorem made_sl(n:Nat):(madeCells #[Value.slice none 0 0] n).toList=List.replicate n (.slice none 0 0):=by
 apply List.ext_getElem?
 intro j
 by_cases hj:j<n
 ·simp[madeCells,hj,Nat.mod_one]
 ·rw[List.getElem?_eq_none (by simp[madeCells];omega),List.getElem?_eq_none (by simp;omega)]
def certB(en:Int)(ad:List Int):Bool:=decide (en=1)&& !anyP unk ad
noncomputable def stW (ws:List (List Int)) (ad dt:List Int) (en:Int) (j:Nat):List Int:=
 if en=0∨mat ad j=false then bitsL (ws.getD j []) (ws.getD j []).length
 else if certB en ad=true then bitsL dt (ws.getD j []).length
 else agL (bitsL (ws.getD j []) (ws.getD j []).length) (bitsL dt (ws.getD j []).length)
theorem stW_len(ws:List (List Int))(ad dt:List Int)(en:Int)(j:Nat):(stW ws ad dt en j).length=(ws.getD j []).length:=by
 unfold stW
 split
 ·exact bitsL_len _ _
 ·split
  ·exact bitsL_len _ _
  ·rw[agL_len,bitsL_len]
set_option maxRecDepth 100000 in
set_option maxHeartbeats 8000000 in
theorem store_any(ws:List (List Int))(ad dt:List Int)(en:Int)(A Aa Ad:Option Addr)(m c ma ca md cd:Nat)(w:World)(B:Nat)(hB:B≤w.heap.size)(hw:Wrds w B (.slice A m c) ws)(ha:Ks w B (.slice Aa ma ca) ad)(hd:Ks w B (.slice Ad md cd) dt)(hm:m≤1000)(hn2:∀k,k<m→(ws.getD k []).length≤1000000):
 Calls Tryz.prog 58 #[.slice A m c,.slice Aa ma ca,.slice Ad md cd,.int .u8 en] w fun e w'=>∃D T,e=.returned (.slice (some ⟨D,0,none⟩) m m)∧SRow w' D (stW ws ad dt en) m m T∧w.heap.size≤D∧BelW w w':=by
 obtain⟨A',b,o,c',e,hA,-,-,hc⟩:=hw
 simp only[Value.slice.injEq]at e
 obtain⟨rfl,hml,rfl⟩:=e
 rw[←hml]at hA hc
 have HA:=Lib.hid hA
 have HC:Hid (∀k,k<m→∃A c k2,k2=(ws.getD k []).length∧∀W,BelW w W→W.cell? ⟨b,o+k,none⟩=some (.slice A k2 c)∧Ks W W.heap.size (.slice A k2 c) (ws.getD k [])):=Lib.hid fun k hk=>by
  obtain⟨hb,A,c,h1,h2⟩:=hc k hk
  rw[Nat.mul_one]at h1
  exact⟨A,c,_,rfl,fun W h=>⟨(Below.cell h (p:=⟨b,o+k,none⟩) (Nat.lt_of_lt_of_le hb hB)).trans h1,Arr.keep stays_u8 h2 (Nat.le_trans hB (Below.size h)) fun _ hp=>Below.cell h (Nat.lt_of_lt_of_le hp hB)⟩⟩
 have HM:=Lib.hid (fun W (h:BelW w W)=>(Arr.keep stays_u8 ha (Nat.le_trans hB (Below.size h)) fun _ hp=>Below.cell h (Nat.lt_of_lt_of_le hp hB):Ks W W.heap.size (.slice Aa ma ca) ad))
 have HD:=Lib.hid (fun W (h:BelW w W)=>(Arr.keep stays_u8 hd (Nat.le_trans hB (Below.size h)) fun _ hp=>Below.cell h (Nat.lt_of_lt_of_le hp hB):Ks W W.heap.size (.slice Ad md cd) dt))
 have HCF:=Lib.hid (containsU_any ad (.slice Aa ma ca) w B ha)
 obtain⟨cu,HCU⟩:=named (anyP unk ad)
 rw[←HCU.out]at HCF
 obtain⟨cb,HCB⟩:=named (certB en ad)
 have HCE:Hid (cb=(decide (en=1)&& !cu)):=Lib.hid (by rw[HCB.out,HCU.out];rfl)
 have HMT:=Lib.hid (matcher_any Aa ma ca w)
 obtain⟨W1,HW1⟩:=named (w.alloc (.cells #[.slice Aa ma ca] 41))
 have hb1:BelW w W1:=by rw[HW1.out];exact below_new (Below.refl _ _) _
 have hfa:Fr W1 w.heap.size 41 [.slice Aa ma ca]:=by rw[HW1.out];exact Fr.made _ _ _ rfl
 rw[←HW1.out]at HMT
 obtain⟨q,HQ⟩:=named w.heap.size
 rw[←HQ.out]at HMT hfa
 have HB1:=Lib.hid hb1
 have HFA:=Lib.hid hfa
 have HN2:=Lib.hid hn2
 have HMA:Hid (∀W k,BelW W1 W→k<m→Calls Tryz.prog 131 #[.int .i64 (k:Int),.pointer (some ⟨q,0,none⟩)] W fun e w'=>e=.returned (.bool (mat ad k))∧w'=W):=Lib.hid fun W k h hk=>
  match_any ad Aa ma ca k q W W.heap.size (Nat.le_refl _) (HM.out W (joinB HB1.out h)) ((HFA.out.below h).cell 0) (by omega) _ (mat_iff ad k)
 obtain⟨i0,hi0,hz0,hz1,hz2⟩:=info_parts info_vals
 have HI:=Lib.hid (And.intro hi0 (And.intro hz0 (And.intro hz1 hz2)))
 clear hc hml hA ha hd hb1 hfa hn2 hi0 hz0 hz1 hz2
 go_enter Tryz.func58,Tryz.ntmps58
 go_upto_region 1 with (fail)
 go_cut [9] (fun v wx=>v=.bool cb∧wx=w)
 case first=>
  by_cases he:en=1
  ·subst he
   go_wp2_with (go_at_call 81;(with_reducible refine HCF.out.mono ?_);rintro e w' ⟨rfl,rfl⟩)
   go_meet
   case rel=>exact⟨by rw[HCE.out];rfl,rfl⟩
  ·go_wp2_with (fail)
   go_meet
   case rel=>exact⟨by rw[HCE.out];simp[he],rfl⟩
 case rest=>
  obtain⟨rfl,hwx⟩:=hcut
  obtain rfl:w=wc:=hwx.symm
  go_wp2_with (first
   |(go_at_call 101;(with_reducible refine HMT.out.mono ?_);rintro e w2 ⟨rfl,hw2⟩;obtain rfl:W1=w2:=hw2.symm)
   |(at_make;refine wpList_make_full _ rfl _ _ 43 rfl W1.heap.size 41 i0 (.slice none 0 0) 1 Tryz.underlying43 HI.out.1 HI.out.2.1 HI.out.2.2.1 .i64 .i64 _ _ m rfl rfl rfl rfl ?b2 ?b3 ?b4 ?_))
  case b2=>rw[HI.out.2.2.2];omega
  case b3=>unfold maxLen;omega
  case b4=>exact Nat.le_refl _
  intro w3 hown hgr
  rw[made_sl]at hown
  have hb3:BelW W1 w3:=(Below.refl _ _).grown hgr (Nat.le_refl _) (fun k h=>by cases h)
  have HR3:Hid (SRow w3 W1.heap.size (stW ws ad dt en) m 0 W1.heap.size):=Lib.hid (SRow.of hown)
  have HB3:=Lib.hid hb3
  obtain⟨D,HDD⟩:=named W1.heap.size
  rw[←HDD.out]at HR3
  rw[←HDD.out]
  clear hown hgr hb3
  go_wp2
  go_loopw [28] (fun i wr=>∃k T,k≤m∧i=.int .i64 k∧SRow wr D (stW ws ad dt en) m k T∧T≤wr.heap.size∧BelW W1 wr) (fun i _=>m-(intOf i).toNat)
  case atStart=>exact⟨0,_,Nat.zero_le _,rfl,HR3.out,by rw[HDD.out];exact Below.size HB3.out,HB3.out⟩
  case round=>
   obtain⟨k,T,hk,rfl,hr,ht,hb⟩:=hrel
   have HR:=Lib.hid hr
   have HT:=Lib.hid ht
   have HBR:=Lib.hid hb
   clear hr ht
   by_cases hlt:k<m
   ·obtain rfl:=HA.out (by omega)
    have hk2:(k:Int)<(m:Int):=by omega
    obtain⟨A2,d2,k2,hk2',hc2⟩:=HC.out k hlt
    have HC2:=Lib.hid hc2
    have HK2:=Lib.hid hk2'
    have hle:=HN2.out k hlt
    rw[←hk2']at hle
    clear hc2 hk2'
    obtain⟨f1,f2⟩:=HC2.out wr (joinB HB1.out hb)
    have HBW:=Lib.hid (bits_any (ws.getD k []) A2 k2 d2 k2 hle wr wr.heap.size (Nat.le_refl _) f2)
    have HMK:=Lib.hid (fun W h=>HMA.out W k h hlt)
    have HFK:Hid (stW ws ad dt en k=if en=0∨mat ad k=false then bitsL (ws.getD k []) k2 else if cb=true then bitsL dt k2 else agL (bitsL (ws.getD k []) k2) (bitsL dt k2)):=Lib.hid (by rw[HCB.out,HK2.out];rfl)
    have HFL:Hid ((stW ws ad dt en k).length=k2):=Lib.hid (by rw[stW_len];exact HK2.out.symm)
    obtain⟨x,HX⟩:=named (bitsL (ws.getD k []) k2)
    rw[←HX.out]at HBW HFK
    obtain⟨mb,HMB⟩:=named (mat ad k)
    rw[←HMB.out]at HMK HFK
    have hD:D<wr.heap.size:=HR.out.lt
    clear f2
    have HST:Hid (∀w5 g5,BelW wr w5→VRow w5 g5 x→wr.heap.size≤g5→stW ws ad dt en k=x→SRow (w5.setCell ⟨D,k,none⟩ (.slice (some ⟨g5,0,none⟩) k2 k2)) D (stW ws ad dt en) m (k+1) w5.heap.size∧w5.heap.size≤(w5.setCell ⟨D,k,none⟩ (.slice (some ⟨g5,0,none⟩) k2 k2)).heap.size∧BelW W1 (w5.setCell ⟨D,k,none⟩ (.slice (some ⟨g5,0,none⟩) k2 k2))):=Lib.hid fun w5 g5 h5 hv hg e=>by
     have:=(HR.out.below h5).step (T':=w5.heap.size) (Nat.le_trans HT.out (Below.size h5)) hlt (g:=g5) (by rw[e];exact hv) (by omega) hv.lt (Nat.le_trans HT.out hg)
     rw[HFL.out]at this
     exact⟨this,by simp[World.setCell],(joinB HBR.out h5).setCell (p:=⟨D,k,none⟩) (by show W1.heap.size≤D;rw[HDD.out];exact Nat.le_refl _) _⟩
    by_cases he0:en=0
    ·subst he0
     go_wp2_with (go_at_call 86;(with_reducible refine HBW.out.mono ?_);rintro e w5 ⟨g5,rfl,hv5,hg5,hb5⟩;have HS5:=Lib.hid (HST.out w5 g5 hb5 hv5 hg5 (by rw[HFK.out,if_pos (.inl rfl)]));have hfz:=(HR.out.below hb5).frozen k;obtain⟨u5,hu5⟩:=(HR.out.below hb5).there hlt;clear hv5 hg5 hb5)
     go_roundw
     case rel=>exact⟨k+1,_,by omega,by go_num,HS5.out.1,HS5.out.2.1,HS5.out.2.2⟩
     case measure=>simp[intOf];omega
    ·have HB5':Hid (∀w5 g5,BelW wr w5→BelW W1 (w5.setCell ⟨D,k,none⟩ (.slice (some ⟨g5,0,none⟩) k2 k2))):=Lib.hid fun w5 g5 h5=>(joinB HBR.out h5).setCell (p:=⟨D,k,none⟩) (by show W1.heap.size≤D;rw[HDD.out];exact Nat.le_refl _) _
     cases mb
     ·go_wp2_with (first
       |(go_at_call 86;(with_reducible refine HBW.out.mono ?_);rintro e w5 ⟨g5,rfl,hv5,hg5,hb5⟩;have HS5:=Lib.hid (HST.out w5 g5 hb5 hv5 hg5 (by rw[HFK.out,if_pos (.inr rfl)]));have HB5:=Lib.hid (HB5'.out w5 g5 hb5);have hfz:=(HR.out.below hb5).frozen k;obtain⟨u5,hu5⟩:=(HR.out.below hb5).there hlt;clear hv5 hg5 hb5)
       |(go_at_call 131;(with_reducible refine (HMK.out _ HB5.out).mono ?_);rintro e w7 ⟨rfl,hw7⟩;subst hw7))
      go_roundw
      case rel=>exact⟨k+1,_,by omega,by go_num,HS5.out.1,HS5.out.2.1,HS5.out.2.2⟩
      case measure=>simp[intOf];omega
     ·have HFK2:Hid (stW ws ad dt en k=if cb=true then bitsL dt k2 else agL x (bitsL dt k2)):=Lib.hid (by rw[HFK.out,if_neg (by simp[he0])])
      have HBD:Hid (∀W,BelW w W→Calls Tryz.prog 86 #[.slice Ad md cd,.int .i64 (k2:Int)] W fun e w'=>∃g,e=.returned (.slice (some ⟨g,0,none⟩) k2 k2)∧VRow w' g (bitsL dt k2)∧W.heap.size≤g∧BelW W w'):=Lib.hid fun W h=>bits_any dt Ad md cd k2 hle W W.heap.size (Nat.le_refl _) (HD.out W h)
      obtain⟨y,HY⟩:=named (bitsL dt k2)
      rw[←HY.out]at HFK2 HBD
      cases cb
      ·go_upto_region 8 with (first
        |(go_at_call 86;(with_reducible refine HBW.out.mono ?_);rintro e w5 ⟨g5,rfl,hv5,hg5,hb5⟩;have HB5:=Lib.hid (HB5'.out w5 g5 hb5);have HP5:=Lib.hid ((HR.out.below hb5).put (.slice (some ⟨g5,0,none⟩) k2 k2));have HL5:Hid (wr.heap.size≤w5.heap.size):=Lib.hid (Below.size hb5);have HV5:=Lib.hid (hv5.other (a:=⟨D,k,none⟩) (by show D≠g5;omega) (.slice (some ⟨g5,0,none⟩) k2 k2));have HG5:=Lib.hid hg5;have HCD:=Lib.hid ((HR.out.below hb5).put_cell hlt (.slice (some ⟨g5,0,none⟩) k2 k2));have hfz:=(HR.out.below hb5).frozen k;obtain⟨u5,hu5⟩:=(HR.out.below hb5).there hlt;clear hv5 hg5 hb5)
        |(go_at_call 131;(with_reducible refine (HMK.out _ HB5.out).mono ?_);rintro e w7 ⟨rfl,hw7⟩;subst hw7))
       have hcD:(w5.setCell ⟨D,k,none⟩ (.slice (some ⟨g5,0,none⟩) k2 k2)).cell? ⟨D,k,none⟩=some (.slice (some ⟨g5,0,none⟩) k2 k2):=HCD.out
       obtain⟨V6,HV6⟩:=named (w5.setCell ⟨D,k,none⟩ (.slice (some ⟨g5,0,none⟩) k2 k2))
       rw[←HV6.out]at HB5 HP5 HV5 hcD ⊢
       clear hfz hu5
       have hsV:BelW W1 V6∧V6.cell? ⟨D,k,none⟩=some (.slice (some ⟨g5,0,none⟩) k2 k2):=⟨HB5.out,hcD⟩
       have hw6:BelW w V6:=joinB HB1.out HB5.out
       have hDV:D<V6.heap.size:=HP5.out.lt
       have hDg:D≠g5:=by have:=HG5.out;omega
       have HXL:Hid (x.length=k2):=Lib.hid (by rw[HX.out,bitsL_len])
       have HYL:Hid (y.length=k2):=Lib.hid (by rw[HY.out,bitsL_len])
       go_region_held3 (fun w'=>BelW W1 w'∧w'.cell? ⟨D,k,none⟩=some (.slice (some ⟨g5,0,none⟩) k2 k2))
        (first|exact hsV|exact⟨BelW.drew hsV.1,hsV.2⟩|exact hs9|exact hs8|exact⟨BelW.drew hs8.1,hs8.2⟩)
        (first
          |(go_at_call 86;(with_reducible refine Calls.mono (HBD.out _ ?_) ?_); ·(first|exact hw6|exact BelW.drew hw6)
            rintro e w8 ⟨g6,rfl,hv6,hg6,hb6⟩
            have hb6':BelW V6 w8:=(by refine BelW.next ?_ hb6;first|exact Below.refl _ _|exact BelW.drew (Below.refl _ _))
            have hs8:BelW W1 w8∧w8.cell? ⟨D,k,none⟩=some (.slice (some ⟨g5,0,none⟩) k2 k2):=⟨joinB hsV.1 hb6',(Below.cell hb6' (p:=⟨D,k,none⟩) hDV).trans hsV.2⟩
            have HAG:=Lib.hid (agreed_any x y g5 g6 k2 w8 (HV5.out.below hb6') hv6 HXL.out HYL.out (by have h1:=HV5.out.lt;have h2:V6.heap.size≤g6:=hg6;omega)))
          |(go_at_call 103;(with_reducible refine Calls.mono HAG.out ?_)
            rintro e w9 ⟨rfl,hv9,hg9⟩
            have hs9:BelW W1 w9∧w9.cell? ⟨D,k,none⟩=some (.slice (some ⟨g5,0,none⟩) k2 k2):=⟨bgrown hs8.1 hg9 (by have h1:=HG5.out;have h2:=Below.size HBR.out;omega),hg9.cell hs8.2 (by simpa using hDg)⟩))
       have HS9:Hid (SRow w9 D (stW ws ad dt en) m (k+1) w9.heap.size):=Lib.hid (by
        have h1:T≤g5:=Nat.le_trans HT.out HG5.out
        have h2:=((HP5.out.below hb6').grown hg9 h1 hDg)
        refine h2.count (Nat.le_trans HT.out (Nat.le_trans HL5.out ?_)) (g:=g5) ?_ ?_ (by have h7:=HG5.out;have h8:=HR.out.lt;omega) hv9.lt h1
        ·have h3:=Below.size hb6';have h4:=hg9.size;have h5:w5.heap.size=V6.heap.size:=by rw[HV6.out];simp[World.setCell]
         omega
        ·rw[HFL.out];exact hs9.2
        ·rw[HFK2.out];exact hv9)
       have HBS:=Lib.hid hs9.1
       go_wp2
       go_roundw
       case rel=>exact⟨k+1,_,by omega,by go_num,HS9.out,Nat.le_refl _,HBS.out⟩
       case measure=>simp[intOf];omega
      ·go_wp2_with (first
        |(go_at_call 86;(with_reducible refine HBW.out.mono ?_);rintro e w5 ⟨g5,rfl,hv5,hg5,hb5⟩;have HB5:=Lib.hid (HB5'.out w5 g5 hb5);have HP5:=Lib.hid ((HR.out.below hb5).put (.slice (some ⟨g5,0,none⟩) k2 k2));have HL5:Hid (wr.heap.size≤w5.heap.size):=Lib.hid (Below.size hb5);have hfz:=(HR.out.below hb5).frozen k;obtain⟨u5,hu5⟩:=(HR.out.below hb5).there hlt;have HBD5:=Lib.hid (HBD.out _ (joinB HB1.out (HB5'.out w5 g5 hb5)));clear hv5 hg5 hb5)
        |(go_at_call 131;(with_reducible refine (HMK.out _ HB5.out).mono ?_);rintro e w7 ⟨rfl,hw7⟩;subst hw7)
        |(go_at_call 86;(with_reducible refine HBD5.out.mono ?_);rintro e w8 ⟨g6,rfl,hv6,hg6,hb6⟩;have HP8:=Lib.hid (HP5.out.below hb6);have HV6:=Lib.hid hv6;have HG6:Hid (w5.heap.size≤g6):=Lib.hid (by simpa [World.setCell]using hg6);have HB8:Hid (BelW W1 w8):=Lib.hid (joinB HB5.out hb6);have HL8:Hid (wr.heap.size≤w8.heap.size):=Lib.hid (by have h:=Below.size hb6;have:=HL5.out;simp[World.setCell]at h;omega);clear hfz hu5;have hfz:=HP8.out.frozen k;obtain⟨u6,hu6⟩:=HP8.out.there hlt;clear hv6 hg6 hb6))
       have HS9:Hid (SRow (w8.setCell ⟨D,k,none⟩ (.slice (some ⟨g6,0,none⟩) k2 k2)) D (stW ws ad dt en) m (k+1) w8.heap.size):=Lib.hid (by
        have:=HP8.out.step (T':=w8.heap.size) (Nat.le_trans HT.out HL8.out) hlt (g:=g6) (by rw[HFK2.out];exact HV6.out) (by have:=HL5.out;have:=HG6.out;omega) HV6.out.lt (by have:=HL5.out;have:=HG6.out;have:=HT.out;omega)
        rw[HFL.out]at this
        exact this)
       go_roundw
       case rel=>exact⟨k+1,_,by omega,by go_num,HS9.out,by simp[World.setCell],HB8.out.setCell (p:=⟨D,k,none⟩) (by show W1.heap.size≤D;rw[HDD.out];exact Nat.le_refl _) _⟩
       case measure=>simp[intOf];omega
   ·obtain rfl:m=k:=by omega
    go_wp2
    go_ret
    exact⟨D,T,rfl,HR.out,by rw[HDD.out];exact Below.size HB1.out,joinB HB1.out HBR.out⟩
def rowT(out l:List Int)(m k:Nat)(r:List Int):Prop:=r.length=m∧∀j,j<k→r.getD j 0=lat out (l.getD j 0)
theorem rowT_all{out l r:List Int}(h:rowT out l l.length l.length r):r=l.map fun x=>lat out x:=by
 apply List.ext_getElem (by rw[h.1,List.length_map])
 intro i h1 h2
 have h3:i<l.length:=by rw[←h.1];exact h1
 have:=h.2 i h3
 rw[List.getD_eq_getElem?_getD,List.getElem?_eq_getElem h1,List.getD_eq_getElem?_getD,List.getElem?_eq_getElem h3]at this
 simpa using this
theorem rowT_set{out l r:List Int}{m k:Nat}(h:rowT out l m k r)(hk:k<m):rowT out l m (k+1) (r.set k (lat out (l.getD k 0))):=by
 refine⟨by rw[List.length_set];exact h.1,fun j hj=>?_⟩
 rw[getD_set _ _ _ _ _ (by rw[h.1];exact hk)]
 split
 ·subst_vars;rfl
 ·exact h.2 j (by omega)
set_option maxRecDepth 100000 in
set_option maxHeartbeats 4000000 in
theorem mvals_any(out l:List Int)(v0 v1 v2 v3 v4 v5 v6:Value)(A:Option Addr)(m c g n:Nat)(w:World)(B:Nat)(hB:B≤w.heap.size)(hl:Is w B (.slice A m c) l)(hv:VRow w g out)(hn:out.length=n)(hin:∀x∈l,0≤x∧x<(n:Int))(hm:m≤1000000):
 Calls Tryz.prog 85 #[.agg #[v0,v1,v2,v3,v4,v5,v6,.slice (some ⟨g,0,none⟩) n n],.slice A m c] w fun e w'=>∃g',e=.returned (.slice (some ⟨g',0,none⟩) m m)∧VRow w' g' (l.map fun x=>lat out x)∧w.heap.size≤g'∧BelW w w':=by
 obtain⟨A',b,o,c',e,hA,-,-,hc⟩:=hl.opens
 simp only[Value.slice.injEq]at e
 obtain⟨rfl,hml,rfl⟩:=e
 rw[←hml]at hA hc
 obtain⟨W1,HW1⟩:=named (w.alloc (.cells #[v0,v1,v2,v3,v4,v5,v6,.slice (some ⟨g,0,none⟩) n n] 90))
 have hb1:BelW w W1:=by rw[HW1.out];exact below_new (Below.refl _ _) _
 have hf1:Fr W1 w.heap.size 90 [v0,v1,v2,v3,v4,v5,v6,.slice (some ⟨g,0,none⟩) n n]:=by rw[HW1.out];exact Fr.made _ [v0,v1,v2,v3,v4,v5,v6,.slice (some ⟨g,0,none⟩) n n] _ rfl
 have HA:=Lib.hid hA
 have HC:Hid (∀k,k<m→∃x:Nat,l.getD k 0=x∧x<n∧∀W,BelW W1 W→W.cell? ⟨b,o+k,none⟩=some (.int .i64 (x:Int))∧W.cell? ⟨g,x,none⟩=some (.int .u8 (lat out (l.getD k 0)))):=Lib.hid fun k hk=>by
  have hmem:l.getD k 0∈l:=by rw[List.getD_eq_getElem?_getD,List.getElem?_eq_getElem (by rw[←hml];exact hk)];exact List.getElem_mem _
  obtain⟨j0,j1⟩:=hin _ hmem
  obtain⟨x,hx⟩:=Int.eq_ofNat_of_zero_le j0
  refine⟨x,hx,by omega,fun W h=>⟨?_,?_⟩⟩
  ·rw[←hx]
   have h2:w.cell? ⟨b,o+k,none⟩=some (.int .i64 (l.getD k 0)):=(hc k hk).2
   exact (Below.cell (joinB hb1 h) (p:=⟨b,o+k,none⟩) (Nat.lt_of_lt_of_le (hc k hk).1 hB)).trans h2
  ·have h3:=(hv.below (joinB hb1 h)).cell (j:=x) (by rw[hn];omega)
   rw[hx];exact h3
 have HMC:Hid (∀W,BelW W1 W→W.cell? ⟨w.heap.size,7,none⟩=some (.slice (some ⟨g,0,none⟩) n n)):=Lib.hid fun W h=>(hf1.below h).cell 7
 have x7:=hf1.cell 7
 have HALL:Hid (∀r,rowT out l m m r→r=l.map fun x=>lat out x):=Lib.hid fun r h=>rowT_all (by rw[←hml];exact h)
 have HB1:=Lib.hid hb1
 obtain⟨i0,hi0,hz0,hz1,hz2⟩:=info_parts info_val
 have HI:=Lib.hid (And.intro hi0 (And.intro hz0 (And.intro hz1 hz2)))
 clear hA hc hml hl hv hin hb1 hf1 hi0 hz0 hz1 hz2 hn
 go_enter Tryz.func85,Tryz.ntmps85
 go_upto_region 1 with (fail)
 rw[←HW1.out]
 go_wp2_with (at_make;refine wpList_make_full _ rfl _ _ 41 rfl W1.heap.size 77 i0 (.int .u8 0) 1 Tryz.underlying41 HI.out.1 HI.out.2.1 HI.out.2.2.1 .i64 .i64 _ _ m rfl rfl rfl rfl ?b2 ?b3 ?b4 ?_)
 case b2=>rw[HI.out.2.2.2];omega
 case b3=>unfold maxLen;omega
 case b4=>exact Nat.le_refl _
 intro w1 hown hgr
 rw[made_vals]at hown
 have HV1:Hid (VRow w1 W1.heap.size (List.replicate m 0)):=Lib.hid (VRow.of hown (by simp))
 have hb2:BelW W1 w1:=(Below.refl _ _).grown hgr (Nat.le_refl _) (fun k h=>by cases h)
 have HB2:=Lib.hid hb2
 obtain⟨r,HR⟩:=named W1.heap.size
 rw[←HR.out]at HV1
 rw[←HR.out]
 clear hown hgr hb2
 go_wp2
 go_loopw [13] (fun i wr=>∃(k:Nat) (q:List Int),k≤m∧i=.int .i64 k∧rowT out l m k q∧VRow wr r q∧BelW W1 wr) (fun i _=>m-(intOf i).toNat)
 case atStart=>exact⟨0,_,Nat.zero_le _,rfl,⟨by simp,fun j h=>absurd h (Nat.not_lt_zero j)⟩,HV1.out,HB2.out⟩
 case round=>
  obtain⟨k,q,hk,rfl,hf,hv,hb⟩:=hrel
  have HF:=Lib.hid hf
  have HVR:=Lib.hid hv
  have HBR:=Lib.hid hb
  by_cases hlt:k<m
  ·have hk2:(k:Int)<(m:Int):=by omega
   obtain rfl:=HA.out (by omega)
   have hkq:k<q.length:=by rw[hf.1];exact hlt
   have z1:=hv.cell hkq
   have z2:=hv.frozen k
   obtain⟨x,hx,hxn,hcc⟩:=HC.out k hlt
   obtain⟨y1,y2⟩:=hcc wr hb
   have y3:=HMC.out wr hb
   have hxn2:(x:Int)<(n:Int):=by omega
   obtain⟨y,HY⟩:=named (lat out (l.getD k 0))
   have HN:=Lib.hid (rowT_set HF.out hlt)
   rw[←HY.out]at y2 HN
   have HVN:=Lib.hid (HVR.out.set k y)
   have HBN:=Lib.hid (HBR.out.setCell (p:=⟨r,k,none⟩) (by show W1.heap.size≤r;rw[HR.out];exact Nat.le_refl _) (.int .u8 y))
   clear hf hv hb hkq hx hcc
   go_wp2
   go_roundw
   case rel=>exact⟨k+1,q.set k y,by omega,by go_num,HN.out,HVN.out,HBN.out⟩
   case measure=>simp[intOf];omega
  ·obtain rfl:m=k:=by omega
   have e9:q=l.map fun x=>lat out x:=HALL.out q HF.out
   clear hf hv hb
   go_wp2
   go_ret
   exact⟨r,rfl,by rw[←e9];exact HVR.out,by rw[HR.out];exact Below.size HB1.out,joinB HB1.out HBR.out⟩
set_option maxRecDepth 100000 in
set_option maxHeartbeats 4000000 in
theorem massign_any(out l vs:List Int)(v0 v1 v2 v3 v4 v5 v6:Value)(A Av:Option Addr)(cl cv g n mv B:Nat)(w:World)(hr:VRow w g out)(hl:Is w w.heap.size (.slice A mv cl) l)(hv:Ks w B (.slice Av mv cv) vs)(hBg:B≤g)(hm:mv=l.length)(hmv2:mv=vs.length)(hn:n=out.length)
 (hin:∀x∈l,0≤x∧x<(n:Int)):
 Calls Tryz.prog 35 #[.agg #[v0,v1,v2,v3,v4,v5,v6,.slice (some ⟨g,0,none⟩) n n],.slice A mv cl,.slice Av mv cv] w fun e w'=>e=.returned (.tuple #[])∧VRow w' g (asg out l vs)∧w.grownBy w' (some g):=by
 obtain⟨A',b,o,c',e,hA1,-,hm1,hc1⟩:=hl.opens
 rw[←hm]at e hA1 hc1 hm1
 simp only[Value.slice.injEq,true_and]at e
 obtain⟨rfl,rfl⟩:=e
 obtain⟨Av',bv,ov,cv',e,hA2,-,hm2,hc2⟩:=hv.opens
 rw[←hmv2]at e hA2 hc2 hm2
 simp only[Value.slice.injEq,true_and]at e
 obtain⟨rfl,rfl⟩:=e
 obtain⟨W1,HW1⟩:=named (w.alloc (.cells #[v0,v1,v2,v3,v4,v5,v6,.slice (some ⟨g,0,none⟩) n n] 90))
 have hg1:w.grownBy W1 (some g):=by rw[HW1.out];exact World.grownBy_alloc w _ _
 have hf1:Fr W1 w.heap.size 90 [v0,v1,v2,v3,v4,v5,v6,.slice (some ⟨g,0,none⟩) n n]:=by rw[HW1.out];exact Fr.made _ [v0,v1,v2,v3,v4,v5,v6,.slice (some ⟨g,0,none⟩) n n] _ rfl
 have hgw:g<w.heap.size:=hr.lt
 have HA1:=Lib.hid hA1
 have HC1:=Lib.hid hc1
 have HA2:=Lib.hid hA2
 have HC2:=Lib.hid hc2
 have HM:=Lib.hid hm
 have HMV:=Lib.hid hmv2
 have HN:=Lib.hid hn
 have HNG:Hid (∀k,k<mv→b≠g):=Lib.hid fun k hk e=>hr.not_int (by have:=(hc1 k hk).2;rw[e]at this;exact this)
 have HNV:Hid (∀k,k<mv→bv≠g):=Lib.hid fun k hk=>by have:=(hc2 k hk).1;omega
 have HIN:=Lib.hid hin
 have HR0:Hid (VRow W1 g out):=Lib.hid (by rw[HW1.out];exact hr.below (below_new (Below.refl _ _) _))
 have HG1:=Lib.hid hg1
 have hnm:=hr.len
 rw[←hn]at hnm
 unfold maxLen at hm1 hnm
 have HMC:Hid (∀W,W1.grownBy W (some g)→W.cell? ⟨w.heap.size,7,none⟩=some (.slice (some ⟨g,0,none⟩) n n)):=Lib.hid fun W h=>h.cell (hf1.cell 7) (by simp;omega)
 have HT:Hid (∀W,W1.grownBy W (some g)→w.grownBy W (some g)):=Lib.hid fun W h=>by
  obtain⟨a1,a2,a3,a4,a5⟩:=HG1.out
  obtain⟨b1,b2,b3,b4,b5⟩:=h
  exact⟨b1.trans a1,b2.trans a2,b3.trans a3,Nat.le_trans a4 b4,fun i hi hne=>(b5 i (Nat.lt_of_lt_of_le hi a4) hne).trans (a5 i hi hne)⟩
 have x7:=hf1.cell 7
 clear hA1 hc1 hA2 hc2 hm hmv2 hn hin hr hl hv hm2 hg1 hf1
 go_enter Tryz.func35,Tryz.ntmps35
 go_upto_region 1 with (fail)
 rw[←HW1.out]
 go_wp2
 go_loopw [10] (fun i wr=>∃k:Nat,k≤mv∧i=.int .i64 k∧W1.grownBy wr (some g)∧VRow wr g (asgTo out l vs k)) (fun i _=>mv-(intOf i).toNat)
 case atStart=>exact⟨0,Nat.zero_le _,rfl,World.grownBy.refl _ _,HR0.out⟩
 case round=>
  obtain⟨k,hk,rfl,hg,hr⟩:=hrel
  have HG:=Lib.hid hg
  have HR:=Lib.hid hr
  by_cases hlt:k<mv
  ·obtain rfl:=HA1.out (by omega)
   obtain rfl:=HA2.out (by omega)
   have hx:=(HT.out wr hg).cell (HC1.out k hlt).2 (by simpa using HNG.out k hlt)
   have hy:=(HT.out wr hg).cell (HC2.out k hlt).2 (by simpa using HNV.out k hlt)
   have hmc:=HMC.out wr hg
   have hmem:l.getD k 0∈l:=by rw[List.getD_eq_getElem?_getD,List.getElem?_eq_getElem (by rw[←HM.out];exact hlt)];exact List.getElem_mem _
   obtain⟨j0,j1⟩:=HIN.out _ hmem
   obtain⟨x,hxx⟩:=Int.eq_ofNat_of_zero_le j0
   have HX:=Lib.hid hxx
   rw[hxx]at hx j1
   have hxn:x<n:=by omega
   have hlen:(asgTo out l vs k).length=n:=by rw[asgTo_len,HN.out]
   have hcl:=hr.cell (j:=x) (by rw[hlen];exact hxn)
   have hfz:=hr.frozen x
   obtain⟨u,HU⟩:=named (vs.getD k 0)
   rw[←HU.out]at hy
   have hk2:(k:Int)<(mv:Int):=by omega
   have HSU:Hid (asgTo out l vs (k+1)=(asgTo out l vs k).set x u):=Lib.hid (by rw[asgTo_succ (by rw[←HM.out];exact hlt) (by rw[←HMV.out];exact hlt),HX.out,Int.toNat_natCast,HU.out];unfold lat;rw[Int.toNat_natCast])
   have HGN:Hid (∀z,W1.grownBy (wr.setCell ⟨g,x,none⟩ (.int .u8 z)) (some g)):=Lib.hid fun z=>grown_v HG.out x (.int .u8 z)
   have HRN:Hid (∀z,VRow (wr.setCell ⟨g,x,none⟩ (.int .u8 z)) g ((asgTo out l vs k).set x z)):=Lib.hid fun z=>HR.out.set x z
   clear hg hr hmem hxx j0
   go_wp2
   go_still_tail 8,(by kernel_rfl)
   go_wp2
   go_roundw
   case rel=>exact⟨k+1,by omega,by go_num,gdrew (HGN.out _),by rw[HSU.out];exact (HRN.out _).below (BelW.drew (Below.refl _ _))⟩
   case measure=>simp[intOf];omega
  ·obtain rfl:mv=k:=by omega
   have e9:asgTo out l vs mv=asg out l vs:=by rw[HM.out];exact asgTo_all (by rw[←HM.out,HMV.out])
   clear hg hr
   go_wp2
   go_end0
   exact⟨rfl,by rw[←e9];exact HR.out,HT.out _ HG.out⟩
end Go.Proofs.YtemjmfpcopfdbaaGreatDoor
