/- The texts Nts Nt9. -/
import Derived.Test.YtemjmfpcopfdbaaGreatDoorM31
import Derived.Test.YtemjmfpcopfdbaaGreatDoorM20
import Derived.Test.YtemjmfpcopfdbaaGreatDoorM10
import Derived.Test.YtemjmfpcopfdbaaGreatDoorM26
import Derived.Test.YtemjmfpcopfdbaaGreatDoorM19
import Derived.Test.YtemjmfpcopfdbaaGreatDoorM32
import Derived.Test.YtemjmfpcopfdbaaGreatDoorM07
namespace Go.Proofs.YtemjmfpcopfdbaaGreatDoor
open Go.RowKit
theorem stk_low{w:World}{base base':Nat}{v:Value}{l:List Int}(h:Stk w base v l)(hb:base'≤base):Stk w base' v l:=by
 unfold Stk at h ⊢
 refine⟨h.1,?_⟩
 rcases h.2 with h0| ⟨q,cap,cur,e,hb',hg',hle,hmx,hs,ht⟩
 ·exact .inl h0
 ·exact .inr ⟨q,cap,cur,e,Nat.le_trans hb hb',hg',hle,hmx,hs,ht⟩
set_option maxRecDepth 100000 in
set_option maxHeartbeats 8000000 in
theorem rord_stk(c:Ck)(v:Value)(w:World)(B:Nat)(hB:B≤w.heap.size)(hc:Cir w B v c)(hw:Wf c.nodes)(hsz:c.nodes.length≤1000000)(hpn:∀k,k<c.nodes.length→(c.nodes.getD k default).ins.length≤100)(L:List Int)(hL:Lvl c.nodes L):
 Calls Tryz.prog 87 #[v] w fun e w'=>(∃s,e=.returned s∧Stk w' (w.heap.size+1) s (ordTo L c.nodes.length c.nodes.length))∧Below w.heap.size w w':=by
 have hb0:=hc
 obtain⟨v0,v1,v2,v3,rfl,hns,hss,hms,hos⟩:=hc
 obtain⟨A0,b,o,c0,rfl,-⟩:=id hns
 obtain⟨A1,b1,o1,c1,rfl,-⟩:=id hss
 obtain⟨A2,b2,o2,c2,rfl,-⟩:=id hms
 obtain⟨A3,b3,o3,c3,rfl,-⟩:=id hos
 have hbW:Below w.heap.size w (w.alloc (.cells #[.slice A0 c.nodes.length c0,.slice A1 c.names.length c1,.slice A2 c.mems.length c2,.slice A3 c.outs.length c3] 39)):=(Below.refl _ _).alloc (Nat.le_refl _) _
 have hfr:Fr (w.alloc (.cells #[.slice A0 c.nodes.length c0,.slice A1 c.names.length c1,.slice A2 c.mems.length c2,.slice A3 c.outs.length c3] 39)) w.heap.size 39 [.slice A0 c.nodes.length c0,.slice A1 c.names.length c1,.slice A2 c.mems.length c2,.slice A3 c.outs.length c3]:=Fr.made w _ _ rfl
 have hlv:=rlev_any c _ _ B (Nat.le_trans hB hbW.size) (hb0.below (hbW.mono hB)) hw hsz hpn
 have hbnd:∀i:Nat,i<c.nodes.length→0≤lat L i∧lat L i<(c.nodes.length:Int):=fun i hi=>⟨hL.nonneg hi,hL.bound hw hi⟩
 have hlv2:=hlv.mono (R':=fun e w'=>e=.returned (.tuple #[.slice (some ⟨w.heap.size+1+1,0,none⟩) c.nodes.length c.nodes.length,.bool true])∧Row w' (w.heap.size+1+1) L∧Below (w.alloc (.cells #[.slice A0 c.nodes.length c0,.slice A1 c.names.length c1,.slice A2 c.mems.length c2,.slice A3 c.outs.length c3] 39)).heap.size (w.alloc (.cells #[.slice A0 c.nodes.length c0,.slice A1 c.names.length c1,.slice A2 c.mems.length c2,.slice A3 c.outs.length c3] 39)) w') fun e w' ⟨h1,h2⟩=>by
  rcases h2 with⟨L',h3,h4,h5⟩| ⟨h3,-⟩
  ·have e1:L'=L:=h3.unique hw hL
   rw[e1]at h5
   have hz:(w.alloc (.cells #[.slice A0 c.nodes.length c0,.slice A1 c.names.length c1,.slice A2 c.mems.length c2,.slice A3 c.outs.length c3] 39)).heap.size=w.heap.size+1:=by simp
   rw[hz]at h4 h5
   exact⟨h4,h5,h1⟩
  ·exact absurd ⟨L,hL⟩ h3
 have hlen:L.length=c.nodes.length:=hL.1
 clear hlv hns hss hms hos hb0 hw hpn hL
 generalize c.names.length=n1 at hbW hfr hlv2 ⊢
 generalize c.mems.length=n2 at hbW hfr hlv2 ⊢
 generalize c.outs.length=n3 at hbW hfr hlv2 ⊢
 obtain⟨n,HN⟩:=named c.nodes.length
 rw[←HN.out]at hbW hsz hfr hlv2 hbnd hlen
 rw[←HN.out]
 have HLV:=Lib.hid hlv2
 have HBW:=Lib.hid hbW
 have HFR:=Lib.hid hfr
 have HBD:=Lib.hid hbnd
 have HLN:=Lib.hid hlen
 clear hlv2 hbW hfr hbnd hlen
 obtain⟨i1,hi1,hz0,hz1,hz2⟩:=info_parts info_int
 have HI:=Lib.hid (And.intro hi1 (And.intro hz0 (And.intro hz1 hz2)))
 clear hi1 hz0 hz1 hz2
 go_enter Tryz.func87,Tryz.ntmps87
 go_wp2_with (go_at_call 62;(with_reducible refine HLV.out.mono ?_);rintro e w1 ⟨rfl,hr,hb⟩;have HR:=Lib.hid hr;have HB:=Lib.hid hb;clear hr hb)
 obtain⟨T,HT⟩:=named w1.heap.size
 obtain⟨g,HG⟩:=named (w.heap.size+1+1)
 have hR:=HR.out
 rw[←HG.out]at hR
 rw[←HG.out]
 have hst:OO w [.slice A0 n c0,.slice A1 n1 c1,.slice A2 n2 c2,.slice A3 n3 c3] g T L w1 (.slice none 0 0) []:=
  ⟨joinB HBW.out HB.out,HFR.out.below HB.out,hR,Stk.nil _ _,by rw[HT.out];exact hR.lt,by have:=hR.lt;rw[HT.out];rw[HG.out]at this;omega,by rw[HT.out];exact Nat.le_refl _⟩
 have HST:=Lib.hid hst
 clear hst hR HR HB
 go_wp2
 go_loopw [5,6] (fun sv i wr=>∃m:Nat,i=.int .i64 m∧m≤n∧OO w [.slice A0 n c0,.slice A1 n1 c1,.slice A2 n2 c2,.slice A3 n3 c3] g T L wr sv (ordTo L n m)) (fun _ i _=>n-(intOf i).toNat)
 case atStart=>exact⟨0,rfl,Nat.zero_le _,HST.out⟩
 case round=>
  clear HST
  obtain⟨m,rfl,hm,hst⟩:=hrel
  have y0:wr.cell? ⟨w.heap.size,0,none⟩=some (.slice A0 n c0):=hst.box.cell 0
  have hol:=ordTo_len L n m
  have hfull:m=n→(ordTo L n m).length=n:=fun e=>by rw[e];exact ordTo_full HBD.out
  obtain⟨A,cA,rfl,-⟩:=hst.stk.form
  have HS:=Lib.hid hst
  have HF:=Lib.hid hfull
  obtain⟨k0,HK0⟩:=named (ordTo L n m).length
  rw[←HK0.out]at hol HS
  rw[←HK0.out]
  clear hst hfull
  by_cases hlt:k0<n
  ·have hmn:m<n:=by
    by_cases e:m=n
    ·have:=HF.out e;have:=HK0.out;omega
    ·omega
   go_wp2
   clear y0
   go_loopw [5,7] (fun sv i wx=>∃k:Nat,i=.int .i64 k∧k≤n∧OO w [.slice A0 n c0,.slice A1 n1 c1,.slice A2 n2 c2,.slice A3 n3 c3] g T L wx sv (ordTo L n m++atLv L m k)) (fun _ i _=>n-(intOf i).toNat)
   case atStart=>exact⟨0,rfl,Nat.zero_le _,by simpa [atLv]using HS.out⟩
   case round=>
    clear HS
    obtain⟨k,rfl,hk,hst⟩:=hrel
    have y0:wr.cell? ⟨w.heap.size,0,none⟩=some (.slice A0 n c0):=hst.box.cell 0
    have hol2:(ordTo L n m++atLv L m k).length≤2000000:=by rw[List.length_append,←HK0.out];have:=atLv_len L m k;omega
    obtain⟨A2',cA2,rfl,-⟩:=hst.stk.form
    have hsu:=atLv_succ L m k
    have hTl:=hst.hT
    by_cases hkn:k<n
    ·have z:=hst.row.cell (j:=k) (by rw[HLN.out];exact hkn)
     obtain⟨lk,HLK⟩:=named (lat L k)
     rw[←HLK.out]at z hsu
     have HSTK:=Lib.hid hst.stk
     have HS:=Lib.hid hst
     have HSU:=Lib.hid hsu
     obtain⟨l2,HL2⟩:=named (ordTo L n m++atLv L m k)
     rw[←HL2.out]at HSTK HS hol2
     rw[←HL2.out]
     clear hst hsu
     cases hv:lk==(m:Int)
     ·have hsu:=HSU.out
      rw[hv,if_neg (by decide)]at hsu
      have HSU2:=Lib.hid hsu
      clear hsu HSU
      go_wp2
      go_roundw
      case rel=>exact⟨k+1,by go_num,by omega,by rw[HSU2.out,←HL2.out];exact HS.out⟩
      case measure=>simp[intOf];omega
     ·have hsu:=HSU.out
      rw[hv,if_pos rfl]at hsu
      have HSU2:=Lib.hid hsu
      clear hsu HSU
      go_wp2_with (at_builtin;refine wpList_append_own_at _ rfl _ _ 37 rfl T 3 i1 (.int .i64 0) 1 8 Tryz.underlying37 HI.out.1 HI.out.2.1 HI.out.2.2.1 HI.out.2.2.2 rfl (by decide) _ _ _ rfl (World.ownsRow.alloc HSTK.out _) ⟨wr.heap.size,0,none⟩ 1 1 [.int .i64 (k:Int)] rfl rfl (one_new _ _ _) (ints_oneCell .i64 [(k:Int)]) (by unfold maxLen;omega) (by omega) (by simp;omega) ?_;intro v' w2 hown' hgrow hnil hloc;have HF2:=Lib.hid (HS.out.push hown' hgrow);clear hown' hgrow hnil hloc)
      go_roundw
      case rel=>exact⟨k+1,by go_num,by omega,by rw[HSU2.out,←List.append_assoc,←HL2.out];exact HF2.out⟩
      case measure=>simp[intOf];omega
    ·obtain rfl:n=k:=by omega
     have HS:=Lib.hid hst
     clear hst hsu
     go_wp2
     go_roundw
     case rel=>exact⟨m+1,by go_num,by omega,HS.out⟩
     case measure=>simp[intOf];omega
  ·have hd:=ordTo_done (L:=L) (n:=n) (m:=m) (by rw[←HK0.out];omega) hm HBD.out
   have hr:Stk wr (w.heap.size+1) (.slice A k0 cA) (ordTo L n m):=stk_low HS.out.stk (by have:=HS.out.hw;omega)
   rw[hd]at hr
   have HR:=Lib.hid hr
   have HB:=Lib.hid HS.out.bel
   clear hd hr HS
   go_wp2
   go_ret
   exact⟨⟨_,rfl,HR.out⟩,HB.out⟩
structure Stl(w3:World)(g n c6 B6:Nat)(out:List Int)(wr:World):Prop where
 gr:w3.grownBy wr (some g)
 st:VStk wr B6 (.slice (some ⟨g,0,none⟩) n c6) out
 len:out.length=n
 val:∀y∈out,0≤y∧y≤3
section
variable {w3 wr w1:World} {g n c6 B6:Nat} {out:List Int}
theorem Stl.next(h:Stl w3 g n c6 B6 out wr)(hb:Below wr.heap.size wr w1):Stl w3 g n c6 B6 out w1:=⟨gnext h.gr hb,h.st.below hb,h.len,h.val⟩
theorem Stl.set(h:Stl w3 g n c6 B6 out wr)(j:Nat){x:Int}(hx:0≤x∧x≤3):Stl w3 g n c6 B6 (out.set j x) (wr.setCell ⟨g,j,none⟩ (.int .u8 x)):=
 ⟨grown_v h.gr j _,h.st.set h.len j x,by rw[List.length_set];exact h.len,fun y hy=>by
  rcases List.mem_or_eq_of_mem_set hy with h'|rfl
  ·exact h.val y h'
  ·exact hx⟩
end
theorem latv_in{out:List Int}(hv:∀y∈out,0≤y∧y≤3)(x:Int):0≤lat out x∧lat out x≤3:=by
 unfold lat
 rw[List.getD_eq_getElem?_getD]
 rcases Nat.lt_or_ge x.toNat out.length with h|h
 ·rw[List.getElem?_eq_getElem h]
  exact hv _ (List.getElem_mem h)
 ·rw[List.getElem?_eq_none h];exact⟨by decide,by decide⟩
theorem gate_lat{nodes:List Nd}{out:List Int}(hv:∀y∈out,0≤y∧y≤3)(x:Nat):gateV nodes out (x:Int)=evalL (nodes.getD x default).kind ((nodes.getD x default).ins.map (lat out)):=by
 unfold gateV
 rw[Int.toNat_natCast]
 congr 1
 refine List.map_congr_left fun y _=>?_
 have:=latv_in hv y
 unfold cln;rw[if_neg (by omega)]
theorem ord_at{L:List Int}{n k:Nat}(hk:k<(ordTo L n n).length):∃x:Nat,lat (ordTo L n n) k=(x:Int)∧x<n∧(ordTo L n n).getD k 0=(x:Int)∧(ordTo L n n).take (k+1)=(ordTo L n n).take k++[(x:Int)]∧∀y∈(ordTo L n n).take k,0≤y∧y<(n:Int)∧y≠(x:Int)∧lat L y≤lat L (x:Int):=by
 have hm:(ordTo L n n)[k]∈ordTo L n n:=List.getElem_mem hk
 obtain⟨x,hx,hxn,-,-⟩:=ordTo_mem.1 hm
 have hg:(ordTo L n n).getD k 0=(x:Int):=by rw[List.getD_eq_getElem?_getD,List.getElem?_eq_getElem hk];exact hx
 refine⟨x,by unfold lat;rw[Int.toNat_natCast];exact hg,hxn,hg,by rw[take_succ_getD _ _ hk,hg],fun y hy=>?_⟩
 obtain⟨i,hi,rfl⟩:=List.mem_iff_getElem.1 hy
 have hik:i<k:=by rw[List.length_take]at hi;omega
 rw[List.getElem_take]
 obtain⟨z,hz,hzn,-,-⟩:=ordTo_mem.1 (List.getElem_mem (l:=ordTo L n n) (by omega:i<(ordTo L n n).length))
 have hl:=List.pairwise_iff_getElem.1 (ordTo_sorted L n n) i k (by omega) hk hik
 rw[hx]at hl
 refine⟨by rw[hz];omega,by rw[hz];omega,fun e=>?_,?_⟩
 ·rw[e]at hl;exact Lex.irr _ hl
 ·rcases hl with h|h<;>omega
set_option maxRecDepth 100000 in
set_option maxHeartbeats 8000000 in
theorem settle_any(c:Ck)(L base:List Int)(A0 A1 A2 A3 Ab:Option Addr)(c0 c1 c2 c3 nb cb:Nat)(w:World)(B:Nat)(hB:B≤w.heap.size)(hc:Cir w B (.agg #[.slice A0 c.nodes.length c0,.slice A1 c.names.length c1,.slice A2 c.mems.length c2,.slice A3 c.outs.length c3]) c)
 (hw:Wf c.nodes) (hL:Lvl c.nodes L) (hsz:c.nodes.length≤1000000) (hp7:∀k,k<c.nodes.length→(c.nodes.getD k default).ins.length≤7) (hk:Ks w B (.slice Ab nb cb) base) (hbl:base.length=c.nodes.length) (hbv:∀y∈base,0≤y∧y≤3) (hpos:0<c.nodes.length):
 Calls Tryz.prog 41 #[.agg #[.slice A0 c.nodes.length c0,.slice A1 c.names.length c1,.slice A2 c.mems.length c2,.slice A3 c.outs.length c3],.slice Ab nb cb] w fun e w'=>(∃g d out,e=.returned (.slice (some ⟨g,0,none⟩) c.nodes.length d)∧Net c.nodes base out∧VStk w' w.heap.size (.slice (some ⟨g,0,none⟩) c.nodes.length d) out)∧Below w.heap.size w w':=by
 obtain⟨W1,HW1⟩:=named (w.alloc (.cells #[.slice A0 c.nodes.length c0,.slice A1 c.names.length c1,.slice A2 c.mems.length c2,.slice A3 c.outs.length c3] 39))
 have hb1:Below w.heap.size w W1:=by rw[HW1.out];exact below_new (Below.refl _ _) _
 have hfc:Fr W1 w.heap.size 39 [.slice A0 c.nodes.length c0,.slice A1 c.names.length c1,.slice A2 c.mems.length c2,.slice A3 c.outs.length c3]:=by rw[HW1.out];exact Fr.made _ _ _ rfl
 have hBW:∀ {W},BelW W1 W→B≤W.heap.size:=fun {W} h=>Nat.le_trans hB (joinB hb1 h).size
 have hcW:∀ {W},BelW W1 W→Cir W B (.agg #[.slice A0 c.nodes.length c0,.slice A1 c.names.length c1,.slice A2 c.mems.length c2,.slice A3 c.outs.length c3]) c:=fun {W} h=>hc.below ((joinB hb1 h).mono hB)
 have hns:Ns w B (.slice A0 c.nodes.length c0) c.nodes:=by
  obtain⟨v0,v1,v2,v3,e,h,-⟩:=id hc
  simp only[Value.agg.injEq,Array.mk.injEq,List.cons.injEq,and_true]at e
  rw[e.1];exact h
 have hnd:∀W:World,(∀b j,b<B→W.cell? ⟨b,j,none⟩=w.cell? ⟨b,j,none⟩)→∀x,x<c.nodes.length→∃b o A4 b4 o4 c4,A0=some ⟨b,o,none⟩∧b<B∧W.cell? ⟨b,o+x*4,none⟩=some (.int .u8 (c.nodes.getD x default).kind)∧W.cell? ⟨b,o+x*4+1,none⟩=some (.slice A4 (c.nodes.getD x default).ins.length c4)∧W.cell? ⟨b,o+x*4+2,none⟩=some (.int .i64 (c.nodes.getD x default).mem)∧W.cell? ⟨b,o+x*4+3,none⟩=some (.int .i64 (c.nodes.getD x default).bit)∧(0<(c.nodes.getD x default).ins.length→A4=some ⟨b4,o4,none⟩∧b4<B)∧(∀k,k<(c.nodes.getD x default).ins.length→W.cell? ⟨b4,o4+k,none⟩=some (.int .i64 ((c.nodes.getD x default).ins.getD k 0)))∧0≤(c.nodes.getD x default).kind:=fun W h x hx=>by
  obtain⟨A,b,o,cc,e,hA,-,-,hcell⟩:=hns
  simp only[Value.slice.injEq,true_and]at e
  obtain⟨rfl,rfl⟩:=e
  obtain⟨hlb,s,e0,e1,e2,e3,h4,k0,-⟩:=hcell x hx
  obtain⟨A4,b4,o4,c4,rfl,hA4,-,-,hc4⟩:=id h4
  exact⟨b,o,A4,b4,o4,c4,hA (by omega),hlb,by rw[h b _ hlb];exact e0,by rw[h b _ hlb];exact e1,by rw[h b _ hlb];exact e2,by rw[h b _ hlb];exact e3,fun h0=>⟨hA4 h0,(hc4 0 h0).1⟩,fun k hk=>by rw[h b4 _ (hc4 k hk).1];have:=(hc4 k hk).2;rw[Nat.mul_one]at this;exact this,k0⟩
 have hro:∀W,BelW W1 W→Calls Tryz.prog 87 #[.agg #[.slice A0 c.nodes.length c0,.slice A1 c.names.length c1,.slice A2 c.mems.length c2,.slice A3 c.outs.length c3]] W fun e w'=>(∃q d,e=.returned (.slice (some ⟨q,0,none⟩) c.nodes.length d)∧W.heap.size+1≤q∧q<w'.heap.size∧∀k,k<c.nodes.length→w'.cell? ⟨q,k,none⟩=some (.int .i64 ((ordTo L c.nodes.length c.nodes.length).getD k 0)))∧BelW W w':=fun W h=>
  (rord_stk c _ W B (hBW h) (hcW h) hw hsz (fun k hk=>Nat.le_trans (hp7 k hk) (by decide)) L hL).mono fun e w' ⟨⟨s,h1,h2⟩,h3⟩=>by
    have hfl:=ordTo_full (L:=L) (n:=c.nodes.length) (fun i hi=>⟨hL.nonneg hi,hL.bound hw hi⟩)
    obtain⟨A,d,rfl,-,-,hq⟩:=h2.form
    obtain⟨q,rfl,hq1,hq2⟩:=hq (by rw[hfl];exact hpos)
    exact⟨⟨q,d,by rw[h1,hfl],hq1,hq2,fun k hk=>h2.cell (by rw[hfl];exact hk)⟩,h3⟩
 have hfl:(ordTo L c.nodes.length c.nodes.length).length=c.nodes.length:=ordTo_full fun i hi=>⟨hL.nonneg hi,hL.bound hw hi⟩
 have hOA:∀k,k<c.nodes.length→∃x:Nat,x<c.nodes.length∧(ordTo L c.nodes.length c.nodes.length).getD k 0=(x:Int)∧∀out,StI c.nodes base ((ordTo L c.nodes.length c.nodes.length).take k) out→StI c.nodes base ((ordTo L c.nodes.length c.nodes.length).take (k+1)) (stl c.nodes out (x:Int)):=fun k hk=>by
  obtain⟨x,-,hxn,hg,ht,hy⟩:=ord_at (L:=L) (n:=c.nodes.length) (by rw[hfl];exact hk)
  exact⟨x,hxn,hg,fun out hs=>by rw[ht];exact hs.step hw hL (by omega) (by omega) hy⟩
 have hEND:∀out,StI c.nodes base ((ordTo L c.nodes.length c.nodes.length).take c.nodes.length) out→Net c.nodes base out:=fun out hs=>by
  rw[List.take_of_length_le (by omega)]at hs
  exact hs.stop fun i hi=>ordTo_mem.2 ⟨i,rfl,hi,hL.nonneg hi,hL.bound hw hi⟩
 obtain⟨Ab',bb,ob,cb',e,hAb,hcb,hmb,hcc⟩:=hk.opens
 simp only[Value.slice.injEq]at e
 obtain⟨rfl,hnb,rfl⟩:=e
 rw[hbl]at hnb
 subst hnb
 obtain rfl:=hAb (by rw[hbl];exact hpos)
 have hk5:∀j u,(base.map (Value.int .u8))[j]? =some u→W1.cell? ((⟨bb,ob,none⟩:Addr).add j)=some u:=fun j u hj=>by
  have hjl:j<base.length:=by
   have:=(List.getElem?_eq_some_iff.1 hj).1
   simpa using this
  rw[List.getElem?_map,List.getElem?_eq_getElem hjl]at hj
  have hq:=(hcc j hjl).2
  rw[List.getD_eq_getElem?_getD,List.getElem?_eq_getElem hjl]at hq
  simp only[Option.map_some,Option.some.injEq]at hj
  rw[←hj,Addr.add_lit]
  exact (hb1.cell (p:=⟨bb,ob+j,none⟩) (Nat.lt_of_lt_of_le (hcc j hjl).1 hB)).trans hq
 have hLM:(base.map (Value.int .u8)).length=c.nodes.length:=by rw[List.length_map,hbl]
 rw[hbl]at hcb hmb
 have HKC:Hid (∀W:World,(∀b j,b<B→W.cell? ⟨b,j,none⟩=W1.cell? ⟨b,j,none⟩)→∀b j,b<B→W.cell? ⟨b,j,none⟩=w.cell? ⟨b,j,none⟩):=Lib.hid fun W h b j hb=>(h b j hb).trans (hb1.cell (p:=⟨b,j,none⟩) (Nat.lt_of_lt_of_le hb hB))
 have HWF:Hid (∀x,x<c.nodes.length→∀y∈(c.nodes.getD x default).ins,0≤y∧y<(c.nodes.length:Int)):=Lib.hid hw
 have HP7:=Lib.hid hp7
 have HGL:Hid (∀out,(∀y∈out,0≤y∧y≤3)→∀x:Nat,gateV c.nodes out (x:Int)=evalL (c.nodes.getD x default).kind ((c.nodes.getD x default).ins.map (lat out))):=Lib.hid fun out h x=>gate_lat h x
 have HS0:Hid (StI c.nodes base [] base):=Lib.hid (StI.start c.nodes base hbl)
 have HBV:=Lib.hid hbv
 have HBL:=Lib.hid hbl
 have HB1:=Lib.hid hb1
 clear hfl hc hw hL hk hbl hbv hb1 hBW hcW hns hAb hcc hp7
 obtain⟨R,HR⟩:=named (ordTo L c.nodes.length c.nodes.length)
 rw[←HR.out]at hro hOA hEND
 obtain⟨nd,HND⟩:=named c.nodes
 rw[←HND.out]at HW1 hfc hnd hro hOA hEND hLM hcb hmb HWF HP7 HGL HS0 HBL hsz hpos
 rw[←HND.out]
 obtain⟨n,HN⟩:=named nd.length
 rw[←HN.out]at HW1 hfc hnd hro hOA hEND hLM hcb hmb HWF HP7 HBL hsz hpos
 rw[←HN.out]
 generalize c.names.length=n1 at HW1 hfc hro ⊢
 generalize c.mems.length=n2 at HW1 hfc hro ⊢
 generalize c.outs.length=n3 at HW1 hfc hro ⊢
 have HCE:Hid (∀W,BelW W1 W→W.cell? ⟨w.heap.size,0,none⟩=some (.slice A0 n c0)∧W.cell? ⟨w.heap.size,1,none⟩=some (.slice A1 n1 c1)∧W.cell? ⟨w.heap.size,2,none⟩=some (.slice A2 n2 c2)∧W.cell? ⟨w.heap.size,3,none⟩=some (.slice A3 n3 c3)):=Lib.hid fun W h=>⟨(hfc.below h).cell 0,(hfc.below h).cell 1,(hfc.below h).cell 2,(hfc.below h).cell 3⟩
 have HRO:=Lib.hid hro
 have HOA:=Lib.hid hOA
 have HEND:=Lib.hid hEND
 have HNDC:=Lib.hid hnd
 have HK5:=Lib.hid hk5
 have HLM:=Lib.hid hLM
 have hzl:w.heap.size<W1.heap.size:=hfc.lt
 unfold maxLen at hmb
 clear hfc hro hOA hEND hnd hk5 hLM HND
 obtain⟨i1,hi1,hz0,hz1,hz2⟩:=info_parts info_val
 have HI:=Lib.hid (And.intro hi1 (And.intro hz0 (And.intro hz1 hz2)))
 clear hi1 hz0 hz1 hz2
 go_enter Tryz.func41,Tryz.ntmps41
 go_upto_region 1 with (fail)
 rw[←HW1.out]
 go_upto_region 2 with (at_builtin;refine wpList_append_own_at _ rfl _ _ 41 rfl W1.heap.size 77 i1 (.int .u8 0) 1 1 Tryz.underlying41 HI.out.1 HI.out.2.1 HI.out.2.2.1 HI.out.2.2.2 rfl (by decide) (.slice none 0 0) 0 [] rfl (VStk.nil W1 W1.heap.size) ⟨bb,ob,none⟩ n cb (base.map (Value.int .u8)) rfl (by rw[HLM.out,Nat.mul_one]) HK5.out (ints_oneCell .u8 base) (by unfold maxLen;omega) (by omega) (Nat.le_refl _) ?_;intro v6 w2 hown hgrow hnil hloc;have HOW:=Lib.hid hown;have HGR:=Lib.hid hgrow;clear hown hgrow hnil hloc)
 have hvs:VStk w2 W1.heap.size v6 base:=by
  have h:=HOW.out
  rw[List.nil_append,Nat.zero_add]at h
  unfold VStk
  rw[HBL.out]
  exact h
 have hb2:BelW W1 w2:=(Below.refl _ _).grown HGR.out (Nat.le_refl _) (fun k h=>by cases h)
 obtain⟨A6,c6,rfl,hle6,hc6,hq6⟩:=hvs.form
 obtain⟨g,rfl,hg6,hg7⟩:=hq6 (by rw[HBL.out];exact hpos)
 rw[HBL.out]at hle6 hvs
 rw[HBL.out]
 have HVS:=Lib.hid hvs
 have hs2:BelW W1 w2:=hb2
 obtain⟨x0,x1,x2,x3⟩:=HCE.out w2 hs2
 clear hvs hb2 hq6 HOW HGR HK5 HLM
 go_wp2_with (go_at_call 87;(with_reducible refine (HRO.out _ hs2).mono ?_);rintro e w3 ⟨⟨qR,dR,rfl,hqR,hqS,hcR⟩,hb⟩;have hs3:BelW w2 w3:=hb;have HCR:=Lib.hid hcR;clear hb hcR x0 x1 x2 x3)
 have hstl:Stl w3 g n c6 W1.heap.size base w3:=⟨World.grownBy.refl _ _,HVS.out.below hs3,HBL.out,HBV.out⟩
 have HSTL:=Lib.hid hstl
 have hs13:BelW W1 w3:=joinB hs2 hs3
 have hg3:g<w3.heap.size:=Nat.lt_of_lt_of_le hg7 (Below.size hs3)
 obtain⟨x0,x1,x2,x3⟩:=HCE.out w3 hs13
 have hw0:w.heap.size≠g:=by omega
 have hqg:qR≠g:=by omega
 have HKX:Hid (∀W,w3.grownBy W (some g)→W.cell? ⟨w.heap.size,0,none⟩=some (.slice A0 n c0)∧(∀k,k<n→W.cell? ⟨qR,k,none⟩=some (.int .i64 (R.getD k 0)))∧(∀b j,b<B→W.cell? ⟨b,j,none⟩=w.cell? ⟨b,j,none⟩)):=Lib.hid fun W h=>⟨h.cell x0 (by simpa using hw0),fun k hk=>h.cell (HCR.out k hk) (by simpa using hqg),HKC.out W fun b j hb=>by
  have hbB:Below B w3 W:=(Below.refl _ _).grown h (by omega) (fun q e=>by injection e with e;omega)
  exact (hbB.cell (p:=⟨b,j,none⟩) hb).trans (Below.cell hs13 (p:=⟨b,j,none⟩) (by show b<W1.heap.size;omega))⟩
 clear hstl x0 x1 x2 x3
 go_wp2
 go_loopw [7] (fun i wr=>∃(k:Nat) (out:List Int),k≤n∧i=.int .i64 k∧StI nd base (R.take k) out∧Stl w3 g n c6 W1.heap.size out wr) (fun i _=>n-(intOf i).toNat)
 case atStart=>exact⟨0,base,Nat.zero_le _,rfl,HS0.out,HSTL.out⟩
 case round=>
  obtain⟨k,out,hk,rfl,hsti,hstl⟩:=hrel
  have HSTI:=Lib.hid hsti
  have HST:=Lib.hid hstl
  by_cases hlt:k<n
  ·obtain⟨x,hxn,hxg,hstep⟩:=HOA.out k hlt
   obtain⟨x0,hro,hcb2⟩:=HKX.out wr hstl.gr
   have hxc:=hro k hlt
   rw[hxg]at hxc
   obtain⟨b,o,A4,b4,o4,c4,rfl,hlb,e0,e1,e2,e3,hA4,hc4,hk0⟩:=HNDC.out wr hcb2 x hxn
   have HOX:Hid (StI nd base (R.take (k+1)) (stl nd out (x:Int))):=Lib.hid (hstep out HSTI.out)
   have HWX:=Lib.hid (HWF.out x hxn)
   have hp7:=HP7.out x hxn
   have HGX:=Lib.hid (HGL.out out hstl.val x)
   have HLV:=Lib.hid (latv_in hstl.val)
   obtain⟨kd,HKD⟩:=named (nd.getD x default).kind
   obtain⟨ins,HINS⟩:=named (nd.getD x default).ins
   obtain⟨md,HMD⟩:=named (nd.getD x default).mem
   obtain⟨bd,HBD⟩:=named (nd.getD x default).bit
   rw[←HKD.out]at e0 hk0 HGX
   rw[←HINS.out]at e1 hA4 hc4 hp7 HWX HGX
   rw[←HMD.out]at e2
   rw[←HBD.out]at e3
   obtain⟨mi,HMI⟩:=named ins.length
   rw[←HMI.out]at e1 hA4 hc4 hp7
   have hz3:w3.heap.size≤wr.heap.size:=hstl.gr.size
   have k1:w.heap.size<wr.heap.size:=by have:=Below.size hs13;omega
   have k2:w.heap.size≠wr.heap.size:=by omega
   have k3:qR<wr.heap.size:=by omega
   have k4:qR≠wr.heap.size:=by omega
   have k5:b<wr.heap.size:=by omega
   have k6:b≠wr.heap.size:=by omega
   have HA4:=Lib.hid hA4
   have HC4:=Lib.hid hc4
   clear hsti hstl hro hcb2 hxg hstep hA4 hc4
   go_upto_region 6 with (fail)
   go_region
   obtain⟨W2,HW2⟩:=named (wr.alloc (.cells #[.int .u8 kd,.slice A4 mi c4,.int .i64 md,.int .i64 bd] 65)).drew
   have hnew:BelW wr W2:=by rw[HW2.out];exact Below.drew (below_new (Below.refl _ _) _)
   have hfv:Fr W2 wr.heap.size 65 [.int .u8 kd,.slice A4 mi c4,.int .i64 md,.int .i64 bd]:=by rw[HW2.out];exact Fr.made _ _ _ rfl
   obtain⟨vx,HVX⟩:=named wr.heap.size
   rw[←HVX.out]at hfv
   rw[←HW2.out,←HVX.out]
   have hst2:Stl w3 g n c6 W1.heap.size out W2:=HST.out.next hnew
   have HS2:=Lib.hid hst2
   have hvg:g<vx:=by rw[HVX.out];omega
   have HC2:Hid (∀W,BelW W2 W→(∀j,j<mi→W.cell? ⟨b4,o4+j,none⟩=some (.int .i64 (ins.getD j 0)))∧W.cell? ⟨vx,0,none⟩=some (.int .u8 kd)∧W.cell? ⟨vx,1,none⟩=some (.slice A4 mi c4)∧W.cell? ⟨qR,k,none⟩=some (.int .i64 (x:Int))):=Lib.hid fun W h=>
    ⟨fun j hj=>(Below.cell (joinB hnew h) (p:=⟨b4,o4+j,none⟩) (by have:=(HA4.out (by omega)).2;show b4<wr.heap.size;omega)).trans (HC4.out j hj),(hfv.below h).cell 0,(hfv.below h).cell 1,(Below.cell (joinB hnew h) (p:=⟨qR,k,none⟩) (cell_lt hxc)).trans hxc⟩
   have hg2:g<W2.heap.size:=by have:=Below.size hnew;omega
   clear hnew hfv hst2 e0 e1 e2 e3 hxc x0 k1 k2 k3 k4 k5 k6
   go_wp2
   go_loopw [10,9] (fun i sv wr=>∃t:Nat,t≤mi∧i=.int .i64 t∧BelW W2 wr∧VStk wr W2.heap.size sv ((ins.take t).map (lat out))) (fun i _ _=>mi-(intOf i).toNat)
   case atStart=>exact⟨0,Nat.zero_le _,rfl,Below.refl _ _,by rw[List.take_zero,List.map_nil];exact VStk.nil _ _⟩
   case round=>
    obtain⟨t,ht,rfl,hb,hin⟩:=hrel
    have HBI:=Lib.hid hb
    have HIN:=Lib.hid hin
    have hil:((ins.take t).map (lat out)).length=t:=by rw[List.length_map,List.length_take];have:=HMI.out;omega
    obtain⟨A9,c9,rfl,hle9,hc9,hq9⟩:=hin.form
    rw[hil]at hle9
    rw[hil]
    obtain⟨hci,v0,v1,hxr⟩:=HC2.out wr hb
    by_cases htm:t<mi
    ·obtain⟨rfl,-⟩:=HA4.out (by omega)
     have f1:=hci t htm
     have hy:=HWX.out (ins.getD t 0) (getD_inL (by rw[←HMI.out];exact htm))
     obtain⟨y,hy0⟩:=Int.eq_ofNat_of_zero_le hy.1
     rw[hy0]at hy f1
     have hyn:y<n:=by omega
     have hso:=HS2.out.next hb
     have f2:=hso.st.cellK hso.len hyn
     have hmt:(ins.take (t+1)).map (lat out)=(ins.take t).map (lat out)++[out.getD y 0]:=by
      rw[map_take_succ (lat out) (by rw[←HMI.out];exact htm),hy0]
      unfold lat;rw[Int.toNat_natCast]
     have HMT:=Lib.hid hmt
     obtain⟨u,HU⟩:=named (out.getD y 0)
     rw[←HU.out]at f2 HMT
     have HIL:=Lib.hid hil
     obtain⟨sl,HSL⟩:=named ((ins.take t).map (lat out))
     rw[←HSL.out]at HIN HMT HIL
     have hwz:=Below.size hb
     clear hso hin hb hci hmt hil hy hq9
     go_wp2_with (at_builtin;refine wpList_append_own_at _ rfl _ _ 41 rfl W2.heap.size 77 i1 (.int .u8 0) 1 1 Tryz.underlying41 HI.out.1 HI.out.2.1 HI.out.2.2.1 HI.out.2.2.2 rfl (by decide) _ t _ rfl (World.ownsRow.alloc (by have h:=HIN.out;unfold VStk at h;rw[HIL.out]at h;exact h) _) ⟨_,0,none⟩ 1 1 [.int .u8 u] rfl rfl (one_new _ _ _) (ints_oneCell .u8 [u]) (by unfold maxLen;omega) (by omega) (by first|omega|(simp;omega)) ?_;intro v' w5 hown' hgrow hnil hloc;have HF:=Lib.hid (vpush (by first|omega|(simp;omega)) HBI.out HIN.out (by rw[HIL.out];exact hown') (by rw[HIL.out];exact hgrow));clear hown' hgrow hnil hloc)
     go_roundw
     case rel=>
      refine⟨t+1,by omega,by go_num,HF.out.1,?_⟩
      rw[HMT.out];exact HF.out.2
     case measure=>simp[intOf];omega
    ·obtain rfl:mi=t:=by omega
     have hfull:(ins.take mi).map (lat out)=ins.map (lat out):=by rw[List.take_of_length_le (by rw[←HMI.out];exact Nat.le_refl _)]
     have HST9:=Lib.hid (HS2.out.next hb)
     have hinl:(ins.map (lat out)).length=mi:=by rw[List.length_map,←HMI.out]
     have hev:cmb kd=true→∀W,BelW wr W→Calls Tryz.prog 89 #[.int .u8 kd,.slice A9 mi c9] W fun e w'=>e=.returned (.int .u8 (evalL kd (ins.map (lat out))))∧BelW W w':=fun hcm W h=>by
      have h9:VStk W W2.heap.size (.slice A9 mi c9) (ins.map (lat out)):=by have:=hin.below h;rw[hfull,hinl]at this;exact this
      obtain⟨A',b',o',c',e',hA',-,-,hc'⟩:=h9.ks.opens
      simp only[Value.slice.injEq]at e'
      obtain⟨rfl,-,rfl⟩:=e'
      exact Lg.ref_any kd hk0 (ins.map (lat out)) mi c9 b' o' A9 (fun h0=>hA' (by rw[hinl];exact h0)) W hinl.symm (fun _=>hp7) (fun v hv=>by obtain⟨y,-,rfl⟩:=List.mem_map.1 hv;exact (HLV.out y).1) (fun k hk=>hc' k (by rw[hinl];exact hk))
     have HCM:=Lib.hid (fun w=>refComb_any kd w)
     have HEI:=Lib.hid (evalL_in kd (ins.map (lat out)))
     obtain⟨nv,HNV⟩:=named (evalL kd (ins.map (lat out)))
     rw[←HNV.out]at hev HEI
     have HSTP:Hid (stl nd out (x:Int)=if cmb kd=true then out.set x nv else out):=Lib.hid (by
      unfold stl
      rw[Int.toNat_natCast,←HKD.out,HGX.out,←HNV.out])
     have hke:∀w',wr.grownBy w' (some g)→wr.grownBy w' (some g)∧w'.cell? ⟨vx,0,none⟩=some (.int .u8 kd)∧w'.cell? ⟨qR,k,none⟩=some (.int .i64 (x:Int)):=fun w' hg=>
      ⟨hg,hg.cell v0 (by simp;omega),hg.cell hxr (by simpa using hqg)⟩
     have HKE:=Lib.hid hke
     have HEV:=Lib.hid hev
     have HBS:=Lib.hid (fun W (h:BelW wr W)=>HST9.out.next h)
     clear hin hb hci hil hq9 hfull hinl hev hke
     cases hcm:cmb kd
     ·rw[hcm]at HCM HSTP
      rw[if_neg (by decide)]at HSTP
      go_wp2_with (go_at_call 88;(with_reducible refine (HCM.out _).mono ?_);rintro e w' ⟨rfl,rfl⟩)
      go_roundw
      case rel=>
       have h:=HOX.out
       rw[HSTP.out]at h
       exact⟨k+1,out,by omega,by go_num,h,HST9.out⟩
      case measure=>simp[intOf];omega
     ·have HE2:=Lib.hid (HEV.out hcm)
      rw[hcm]at HCM HSTP
      rw[if_pos rfl]at HSTP
      go_upto_region 13 with (go_at_call 88;(with_reducible refine (HCM.out _).mono ?_);rintro e w' ⟨rfl,rfl⟩)
      have hg0:wr.grownBy wr (some g):=World.grownBy.refl _ _
      have hb0:BelW wr wr:=Below.refl _ _
      clear v0 v1 hxr
      go_region_held3 (fun w'=>wr.grownBy w' (some g)∧w'.cell? ⟨vx,0,none⟩=some (.int .u8 kd)∧w'.cell? ⟨qR,k,none⟩=some (.int .i64 (x:Int)))
       ((refine HKE.out _ ?_;first|(with_reducible assumption)|(refine gdrew ?_;with_reducible assumption)|(refine grown_v ?_ _ _;with_reducible assumption)))
       ((go_at_call 89;(with_reducible refine Calls.mono (HE2.out _ ?_) ?_); ·(first|(with_reducible assumption)|(refine BelW.drew ?_;with_reducible assumption))
         rintro e wB ⟨rfl,hbB⟩
         have hsB:BelW wr wB:=(by refine BelW.next ?_ hbB;first|(with_reducible assumption)|(refine BelW.drew ?_;with_reducible assumption))
         have hgB:wr.grownBy wB (some g):=gnext hg0 hsB
         have hRB:=HBS.out wB hsB
         have hcB:=hRB.st.cellK hRB.len hxn
         have hfB:=hRB.st.frozenK hRB.len x))
      have HRB:=Lib.hid (hRB.set x HEI.out)
      clear hcB hfB hRB hgB hbB hg0
      go_wp2
      go_roundw
      case rel=>
       have h:=HOX.out
       rw[HSTP.out]at h
       exact⟨k+1,out.set x nv,by omega,by go_num,h,HRB.out⟩
      case measure=>simp[intOf];omega
  ·obtain rfl:n=k:=by omega
   have HNET:=Lib.hid (HEND.out out HSTI.out)
   have hbW:Below w.heap.size w wr:=(HB1.out.trans (hs13.mono (by omega))).grown hstl.gr (by have:=Below.size hs13;omega) (fun q e=>by injection e with e;omega)
   have HBE:=Lib.hid hbW
   clear hsti hstl hbW
   go_wp2
   go_ret
   exact⟨⟨g,c6,out,rfl,HNET.out,by have h:=HST.out.st;exact VStk.low h (by omega)⟩,HBE.out⟩
theorem rd_cln(a:Int):rd (cln a)=rd a:=by
 unfold cln
 split
 ·rcases knw_cases a with⟨h,_⟩| ⟨h,_⟩| ⟨_,_,_,h⟩
  ·omega
  ·omega
  ·rw[h];decide
 ·rfl
theorem cln_one(a:Int):cln a=1↔a=1:=by unfold cln;split<;>omega
theorem anyR_cln(x:Int)(l:List Int):anyIs rd x (l.map cln)=anyIs rd x l:=by
 unfold anyIs;rw[List.any_map];congr 1;funext v;simp[Function.comp,rd_cln]
theorem anyC_cln(x:Int)(l:List Int):anyIs cln x (l.map cln)=anyIs cln x l:=by
 unfold anyIs;rw[List.any_map];congr 1;funext v;simp[Function.comp,cln_cln]
theorem par_cln:∀l:List Int,par (l.map cln)=par l
 |[]=>rfl
 |v::l=>by
  show par (cln v::l.map cln)=par (v::l)
  unfold par
  rw[par_cln l]
  simp only[cln_one]
theorem getD_cln(l:List Int)(k:Nat):(l.map cln).getD k 0=cln (l.getD k 0):=by
 rw[List.getD_eq_getElem?_getD,List.getD_eq_getElem?_getD,List.getElem?_map]
 cases l[k]? with
 |none=>rfl
 |some v=>rfl
theorem nt_cln(a:Int):nt (cln a)=nt a:=by unfold nt;rw[rd_cln]
theorem mx_cln(s a b:Int):mx (cln s) (cln a) (cln b)=mx s a b:=by unfold mx;rw[rd_cln,rd_cln,rd_cln]
theorem tr_cln(a b:Int):tr (cln a) (cln b)=tr a b:=by unfold tr;rw[rd_cln,rd_cln]
theorem andL_cln(l:List Int):andL (l.map cln)=andL l:=by unfold andL;rw[anyR_cln,anyR_cln]
theorem orL_cln(l:List Int):orL (l.map cln)=orL l:=by unfold orL;rw[anyR_cln,anyR_cln]
theorem xorL_cln(l:List Int):xorL (l.map cln)=xorL l:=by unfold xorL;rw[anyR_cln,par_cln]
theorem busL_cln(l:List Int):busL (l.map cln)=busL l:=by unfold busL conL;rw[anyC_cln,anyC_cln,anyC_cln]
theorem funL_cln(k:Int)(l:List Int):funL k (l.map cln)=funL k l:=by
 unfold funL
 rw[getD_cln,getD_cln,getD_cln,rd_cln,nt_cln,mx_cln,tr_cln,andL_cln,orL_cln,xorL_cln,busL_cln]
theorem evalL_cln(k:Int)(l:List Int):evalL k (l.map cln)=evalL k l:=by
 unfold evalL
 rw[List.length_map,funL_cln]
theorem gateR_eq(nodes:List Nd)(out:List Int)(i:Int):gateR nodes out i=gateV nodes out i:=by
 unfold gateR gateV
 rw[←evalL_cln,List.map_map]
 rfl
def baseM(nodes:List Nd)(rds:List (List Int))(base:List Int):List Int:=(List.range nodes.length).map fun i=>if (nodes.getD i default).kind=15 then memV nodes rds (i:Nat) else lat base i
theorem lat_baseM{nodes:List Nd}{rds:List (List Int)}{base:List Int}{i:Nat}(hi:i<nodes.length):lat (baseM nodes rds base) i=if (nodes.getD i default).kind=15 then memV nodes rds (i:Nat) else lat base i:=by
 unfold lat baseM
 rw[Int.toNat_natCast]
 rw[getD_range_map _ _ _ _ hi]
 rfl
structure StM(nodes:List Nd)(rds:List (List Int))(base P out:List Int):Prop where
 len:out.length=nodes.length
 off:∀i:Nat,i<nodes.length→cmb (nodes.getD i default).kind=false→(nodes.getD i default).kind≠15→lat out i=lat base i
 mem:∀y∈P,(nodes.getD y.toNat default).kind=15→lat out y=memV nodes rds y
 on:∀y∈P,cmb (nodes.getD y.toNat default).kind=true→lat out y=gateV nodes out y
theorem cmb_15{k:Int}(h:k=15):cmb k=false:=by subst h;decide
theorem StM.start(nodes:List Nd)(rds:List (List Int))(base:List Int)(h:base.length=nodes.length):StM nodes rds base [] base:=⟨h,fun _ _ _ _=>rfl,(fun y hy=>by cases hy),(fun y hy=>by cases hy)⟩
theorem StM.step{nodes:List Nd}{rds:List (List Int)}{base P out L:List Int}(hw:Wf nodes)(hL:Lvl nodes L)(h:StM nodes rds base P out){x:Int}(h0:0≤x)(hx:x<(nodes.length:Int))
 (hP:∀y∈P,0≤y∧y<(nodes.length:Int)∧y≠x∧lat L y≤lat L x):StM nodes rds base (P++[x]) (stm nodes rds out x):=by
 have hset:∀v y:Int,0≤y→y≠x→lat (out.set x.toNat v) y=lat out y:=fun v y hy hyx=>by
  rw[lat_set _ hy,if_neg (fun e=>hyx (by omega))]
 have hx2:∀v:Int,lat (out.set x.toNat v) x=v:=fun v=>by
  rw[lat_set _ h0,if_pos ⟨by omega,by rw[h.len];omega⟩]
 have hold:∀v y:Int,y∈P→cmb (nodes.getD y.toNat default).kind=true→lat (out.set x.toNat v) y=gateV nodes (out.set x.toNat v) y:=fun v y hy hyc=>by
  obtain⟨p0,p1,p2,p3⟩:=hP y hy
  rw[hset v y p0 p2,h.on y hy hyc]
  refine gateV_congr fun z hz=>?_
  have hz':z∈dep nodes y:=by rw[dep_ins hyc];exact hz
  have q:=hw.dep (i:=y) (by omega) hz'
  exact (hset v z q.1 fun e=>by have:=hL.lt p0 (by omega) hz';rw[e]at this;omega).symm
 unfold stm
 by_cases hm:(nodes.getD x.toNat default).kind=15
 ·rw[if_pos hm]
  have hc:=cmb_15 hm
  refine⟨by rw[List.length_set];exact h.len,fun i hi hn h15=>?_,fun y hy hym=>?_,fun y hy hyc=>?_⟩
  ·rw[hset _ i (by omega) (fun e=>by rw[←e]at hm;rw[Int.toNat_natCast]at hm;exact h15 hm)]
   exact h.off i hi hn h15
  ·rcases List.mem_append.1 hy with hy|hy
   ·obtain⟨p0,p1,p2,p3⟩:=hP y hy
    rw[hset _ y p0 p2];exact h.mem y hy hym
   ·obtain rfl:y=x:=by simpa using hy
    rw[hx2]
  ·rcases List.mem_append.1 hy with hy|hy
   ·exact hold _ y hy hyc
   ·obtain rfl:y=x:=by simpa using hy
    rw[hc]at hyc;cases hyc
 ·rw[if_neg hm]
  by_cases hc:cmb (nodes.getD x.toNat default).kind=true
  ·rw[if_pos hc,gateR_eq]
   have hself:∀z∈(nodes.getD x.toNat default).ins,lat (out.set x.toNat (gateV nodes out x)) z=lat out z:=fun z hz=>by
    have hz':z∈dep nodes x:=by rw[dep_ins hc];exact hz
    have:=hw.dep (i:=x) (by omega) hz'
    exact hset _ z this.1 fun e=>by have:=hL.lt h0 (by omega) hz';rw[e]at this;omega
   refine⟨by rw[List.length_set];exact h.len,fun i hi hn h15=>?_,fun y hy hym=>?_,fun y hy hyc=>?_⟩
   ·rw[hset _ i (by omega) (fun e=>by rw[←e]at hc;rw[Int.toNat_natCast]at hc;rw[hc]at hn;cases hn)]
    exact h.off i hi hn h15
   ·rcases List.mem_append.1 hy with hy|hy
    ·obtain⟨p0,p1,p2,p3⟩:=hP y hy
     rw[hset _ y p0 p2];exact h.mem y hy hym
    ·obtain rfl:y=x:=by simpa using hy
     exact absurd hym hm
   ·rcases List.mem_append.1 hy with hy|hy
    ·exact hold _ y hy hyc
    ·obtain rfl:y=x:=by simpa using hy
     rw[hx2]
     exact (gateV_congr hself).symm
  ·rw[if_neg hc]
   refine⟨h.len,h.off,fun y hy hym=>?_,fun y hy hyc=>?_⟩
   ·rcases List.mem_append.1 hy with hy|hy
    ·exact h.mem y hy hym
    ·obtain rfl:y=x:=by simpa using hy
     exact absurd hym hm
   ·rcases List.mem_append.1 hy with hy|hy
    ·exact h.on y hy hyc
    ·obtain rfl:y=x:=by simpa using hy
     exact absurd hyc hc
theorem StM.stop{nodes:List Nd}{rds:List (List Int)}{base P out:List Int}(h:StM nodes rds base P out)(hP:∀i:Nat,i<nodes.length→(i:Int)∈P):Net nodes (baseM nodes rds base) out:=
 ⟨h.len,fun i hi=>by
  by_cases hc:cmb (nodes.getD i default).kind=true
  ·rw[if_pos hc]
   exact h.on i (hP i hi) (by rw[Int.toNat_natCast];exact hc)
  ·rw[if_neg hc,lat_baseM hi]
   by_cases hm:(nodes.getD i default).kind=15
   ·rw[if_pos hm];exact h.mem i (hP i hi) (by rw[Int.toNat_natCast];exact hm)
   ·rw[if_neg hm];exact h.off i hi (by simpa using hc) hm⟩
theorem ordTo_sort{c:Ck}{L:List Int}{n:Nat}(V:Vld c L n):SortTo L n n (ordTo L n n):=by
 refine⟨ordTo L n n,by simp[rng],ordTo_full V.bnd,Nat.le_refl _,ordTo_sorted L n n,fun x hx=>?_⟩
 obtain⟨i,rfl,hi,-⟩:=ordTo_mem.1 hx
 omega
theorem cyN_net{c:Ck}{L:List Int}{n:Nat}(V:Vld c L n)(s:Stt)(inp:List Int):Net c.nodes (baseM c.nodes s.read (cyB c n s inp)) (cyN c L n s inp):=by
 have hR:=ordTo_sort V
 have hlen:(ordTo L n n).length=n:=ordTo_full V.bnd
 have hn:c.nodes.length=n:=V.len.symm
 have hB:(cyB c n s inp).length=c.nodes.length:=by unfold cyB;rw[asg_len,asg_len,List.length_replicate,hn]
 have key:∀k,k≤n→StM c.nodes s.read (cyB c n s inp) ((ordTo L n n).take k) (stmK c.nodes s.read (cyB c n s inp) (ordTo L n n) k):=by
  intro k
  induction k with
  |zero=>intro _;exact StM.start _ _ _ hB
  |succ k ih=>
   intro hk
   have h1:=ih (by omega)
   obtain⟨p0,p1,p2⟩:=order_before hR (k:=k) (by omega)
   have e:lat (ordTo L n n) k=(ordTo L n n).getD k 0:=by unfold lat;rw[Int.toNat_natCast]
   have e2:(ordTo L n n).take (k+1)=(ordTo L n n).take k++[lat (ordTo L n n) k]:=by
    rw[e,List.take_succ_eq_append_getElem (by omega),List.getD_eq_getElem?_getD,List.getElem?_eq_getElem (by omega)];rfl
   rw[stmK_succ _ _ _ _ _ (by omega),e2,←e]
   exact h1.step V.wf V.lvl p0 (by rw[hn];exact p1) fun y hy=>by rw[hn];exact p2 y hy
 refine (key n (Nat.le_refl _)).stop fun i hi=>?_
 rw[List.take_of_length_le (by omega)]
 have:=V.bnd i (by omega)
 exact ordTo_mem.2 ⟨i,rfl,by omega,this.1,this.2⟩
end Go.Proofs.YtemjmfpcopfdbaaGreatDoor
