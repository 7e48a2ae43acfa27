/- The texts Smw Smx Smy Smz Hel. -/
import Derived.Test.YtemjmfpcopfdbaaGreatDoorM15
import Derived.Test.YtemjmfpcopfdbaaGreatDoorM06
import Derived.Laws.EntriesVeiled
import Derived.Test.YtemjmfpcopfdbaaGreatDoorM08
import Derived.Deep.RegionHeld3
import Derived.Deep.DeepCutAuto
import Derived.Deep.CutBlock
import Derived.OrdersHeld
import Derived.Deep.RegionHeld
namespace Go.Proofs.YtemjmfpcopfdbaaGreatDoor
open Go.RowKit
def ValsPost(l:List Int)(w:World)(e:Ending)(w':World):Prop:=
 ∃g,e=.returned (.slice (some ⟨g,0,none⟩) l.length l.length)∧VRow w' g l∧w.heap.size≤g∧Below w.heap.size w w'
theorem fillL_vals(f:Int→Int)(z:Value)(l:List Int):fillL (fun j=>.int .u8 (f (lat l j))) z l.length l.length=(l.map f).map (Value.int .u8):=by
 apply List.ext_getElem?
 intro j
 by_cases hj:j<l.length
 ·rw[fillL_get _ _ _ _ _ hj,if_pos hj];simp[hj,lat,List.getD_eq_getElem?_getD]
 ·rw[List.getElem?_eq_none (by simp[fillL_len];omega),List.getElem?_eq_none (by simp;omega)]
set_option maxRecDepth 100000 in
set_option maxHeartbeats 4000000 in
theorem values_any(nets l:List Int)(A0 A1 A2 A3:Option Addr)(n0 n1 n2 n3 c0 c1 c2 c3:Nat)(s:Value)(q:Nat)(w:World)(B:Nat)(hB:B≤w.heap.size)(hq:Nv w q nets)(hs:Is w B s l)(hsz:l.length≤17592186044416):
 Calls Tryz.prog 72 #[.agg #[.slice A0 n0 c0,.slice A1 n1 c1,.slice A2 n2 c2,.slice A3 n3 c3,.func (.func 110) #[] #[.pointer (some ⟨q,0,none⟩)]],s] w (ValsPost (l.map (valA nets)) w):=by
 obtain⟨A,b,o,c,rfl,hA,hle,hm,hc⟩:=hs.opens
 have HA:=Lib.hid hA
 have HC:=Lib.hid hc
 clear hA hc hs hm hle
 obtain⟨m,HM⟩:=named l.length
 rw[←HM.out]at HA HC hsz
 rw[←HM.out]
 obtain⟨W1,HW1⟩:=named (w.alloc (.cells #[.slice A0 n0 c0,.slice A1 n1 c1,.slice A2 n2 c2,.slice A3 n3 c3,.func (.func 110) #[] #[.pointer (some ⟨q,0,none⟩)]] 121))
 have hb1:Below w.heap.size w W1:=by rw[HW1.out];exact below_new (Below.refl _ _) _
 have hfx:W1.cell? ⟨w.heap.size,4,none⟩=some (.func (.func 110) #[] #[.pointer (some ⟨q,0,none⟩)]):=by rw[HW1.out,World.cell?_alloc_at _ _ _ _ rfl];rfl
 have hz1:w.heap.size<W1.heap.size:=by rw[HW1.out];simp
 have HFX:Hid (∀W,Below W1.heap.size W1 W→W.cell? ⟨w.heap.size,4,none⟩=some (.func (.func 110) #[] #[.pointer (some ⟨q,0,none⟩)])):=Lib.hid fun W hb=>(hb.cell (p:=⟨w.heap.size,4,none⟩) hz1).trans hfx
 have HQ:Hid (∀W,Below W1.heap.size W1 W→∀x,Calls Tryz.prog 110 #[.int .i64 x,.pointer (some ⟨q,0,none⟩)] W fun e w'=>e=.returned (.int .u8 (valA nets x))∧W=w'):=
  Lib.hid fun W hb x=>val1_any nets x q W (hq.below (joinB hb1 hb))
 have HB1:=Lib.hid hb1
 have hBz:B<W1.heap.size:=by omega
 clear hq hb1 hfx
 obtain⟨i0,hi,hz0,hz1',hz2⟩:=info_parts info_val
 have HI:=Lib.hid (And.intro hi (And.intro hz0 (And.intro hz1' hz2)))
 clear hi hz0 hz1' hz2
 go_enter Tryz.func72,Tryz.ntmps72
 go_upto_region 1 with (fail)
 rw[←HW1.out]
 go_wp2_with (at_make;refine wpList_make_full _ rfl _ _ 41 rfl W1.heap.size 77 i0 (.int .u8 0) 1 Tryz.underlying41 HI.out.1 HI.out.2.1 HI.out.2.2.1 .i64 .i64 _ _ m rfl rfl rfl rfl ?b2 ?b3 ?b4 ?_)
 case b2=>rw[HI.out.2.2.2];omega
 case b3=>unfold maxLen;omega
 case b4=>exact Nat.le_refl _
 intro w2 hown hgr
 rw[fillL_start (fun j=>.int .u8 (valA nets (lat l j)))]at hown
 have hb2:Below W1.heap.size W1 w2:=(Below.refl _ _).grown hgr (Nat.le_refl _) (fun k h=>by cases h)
 have HO:=Lib.hid hown
 have HB2:=Lib.hid hb2
 obtain⟨g,HG⟩:=named W1.heap.size
 rw[←HG.out]at HO
 have hgz:W1.heap.size≤g:=by rw[HG.out];exact Nat.le_refl _
 have hgz2:w.heap.size<g:=by rw[HG.out];exact hz1
 rw[←HG.out]
 clear hown hgr hb2
 go_wp2
 go_loopw [13] (fun i wr=>∃k:Nat,k≤m∧i=.int .i64 k∧Below W1.heap.size W1 wr∧wr.ownsRow g 77 1 (.slice (some ⟨g,0,none⟩) m m) m (fillL (fun j=>.int .u8 (valA nets (lat l j))) (.int .u8 0) m k)) (fun i _=>m-(intOf i).toNat)
 case atStart=>exact⟨0,Nat.zero_le _,rfl,HB2.out,HO.out⟩
 case round=>
  clear HO HB2
  obtain⟨k,hk,rfl,hb,hown⟩:=hrel
  have HBL:=Lib.hid hb
  have HO:=Lib.hid hown
  have hbx:=HFX.out _ hb
  clear hb hown
  by_cases hlt:k<m
  ·obtain rfl:=HA.out (by omega)
   obtain⟨hlb,hx⟩:=HC.out k hlt
   have hx2:wr.cell? ⟨b,o+k,none⟩=some (.int .i64 (l.getD k 0)):=((joinB HB1.out HBL.out).cell (p:=⟨b,o+k,none⟩) (by show b<w.heap.size;omega)).trans hx
   have hfz:wr.frozen? ⟨g,k,none⟩=false:=HO.out.frozenAt k
   have hcl:wr.cell? ⟨g,k,none⟩=some (.int .u8 0):=by
    rw[HO.out.cellAt k (by omega),fillL_get _ _ _ _ _ hlt,if_neg (by omega)]
   obtain⟨x,HX⟩:=named (l.getD k 0)
   rw[←HX.out]at hx2
   have HLX:Hid (lat l (k:Int)=x):=Lib.hid (by rw[HX.out];unfold lat;rw[Int.toNat_natCast])
   obtain⟨u,HU⟩:=named (valA nets x)
   have HCL:=Lib.hid (HQ.out wr HBL.out x)
   rw[←HU.out]at HCL
   have HS:=Lib.hid (HO.out.stored k (.int .u8 u)).1
   clear hx
   go_wp2_with (go_at_call 110;(with_reducible refine HCL.out.mono ?_);rintro e w' ⟨rfl,rfl⟩)
   go_roundw
   case rel=>
    refine⟨k+1,by omega,by go_num,HBL.out.setCell hgz _,?_⟩
    have h:=HS.out
    rw[HU.out,←HLX.out]at h
    rw[HU.out,←HLX.out,←fillL_set (fun j=>.int .u8 (valA nets (lat l j))) (.int .u8 0) m k]
    exact h
   case measure=>simp[intOf];omega
  ·obtain rfl:m=k:=by omega
   go_wp2
   go_ret
   have h:=HO.out
   rw[HM.out,fillL_vals]at h
   refine⟨g,congrArg (fun n=>Ending.returned (.slice (some ⟨g,0,none⟩) n n)) (by rw[List.length_map];exact HM.out),VRow.of (n:=l.length) h (by rw[List.length_map]),Nat.le_of_lt hgz2,joinB HB1.out HBL.out⟩
def dataV(nets l:List Int):Int:=if l.length=1 then rd (valA nets (l.getD 0 0)) else 2
set_option maxRecDepth 100000 in
set_option maxHeartbeats 4000000 in
theorem data_any(c:Ck)(nets:List Int)(A0 A1 A2 A3:Option Addr)(n1 n2 n3 c0 c1 c2 c3:Nat)(i q:Nat)(w:World)(B:Nat)(hB:B≤w.heap.size)(hq:Nv w q nets)(hc:Ns w B (.slice A0 c.nodes.length c0) c.nodes)(hi:i<c.nodes.length):
 Calls Tryz.prog 120 #[.agg #[.slice A0 c.nodes.length c0,.slice A1 n1 c1,.slice A2 n2 c2,.slice A3 n3 c3,.func (.func 110) #[] #[.pointer (some ⟨q,0,none⟩)]],.int .i64 (i:Int)] w
  fun e w'=>e=.returned (.int .u8 (dataV nets (c.nodes.getD i default).ins))∧Below w.heap.size w w':=by
 obtain⟨y,HY⟩:=named (dataV nets (c.nodes.getD i default).ins)
 rw[←HY.out]
 obtain⟨A,b,o,c',e,hA,hle,hm,hcell⟩:=hc
 simp only[Value.slice.injEq,true_and]at e
 obtain⟨rfl,rfl⟩:=e
 obtain⟨hlb,s,e0,e1,-,-,h4,-,-⟩:=hcell i hi
 obtain rfl:=hA (by omega)
 obtain⟨A4,b4,o4,c4,rfl,hA4,hle4,hm4,hc4⟩:=h4.opens
 obtain⟨n,HN⟩:=named c.nodes.length
 rw[←HN.out]at hi hm
 rw[←HN.out]
 unfold maxLen at hm hm4
 obtain⟨l,HL⟩:=named (c.nodes.getD i default).ins
 rw[←HL.out]at e1 h4 hA4 hc4 hm4 HY
 obtain⟨W1,HW1⟩:=named (w.alloc (.cells #[.slice (some ⟨b,o,none⟩) n c0,.slice A1 n1 c1,.slice A2 n2 c2,.slice A3 n3 c3,.func (.func 110) #[] #[.pointer (some ⟨q,0,none⟩)]] 121))
 have hb1:Below w.heap.size w W1:=by rw[HW1.out];exact below_new (Below.refl _ _) _
 have x0:W1.cell? ⟨w.heap.size,0,none⟩=some (.slice (some ⟨b,o,none⟩) n c0):=by rw[HW1.out,World.cell?_alloc_at _ _ _ _ rfl];rfl
 have x4:W1.cell? ⟨w.heap.size,4,none⟩=some (.func (.func 110) #[] #[.pointer (some ⟨q,0,none⟩)]):=by rw[HW1.out,World.cell?_alloc_at _ _ _ _ rfl];rfl
 have f1:W1.cell? ⟨b,o+i*4+1,none⟩=some (.slice A4 l.length c4):=(hb1.cell (p:=⟨b,_,none⟩) (by show b<w.heap.size;omega)).trans e1
 have HQ:Hid (∀W,Below W1.heap.size W1 W→∀x,Calls Tryz.prog 110 #[.int .i64 x,.pointer (some ⟨q,0,none⟩)] W fun e w'=>e=.returned (.int .u8 (valA nets x))∧W=w'):=
  Lib.hid fun W hb x=>val1_any nets x q W (hq.below (joinB hb1 hb))
 have hz1:w.heap.size<W1.heap.size:=by rw[HW1.out];simp
 have HB1:=Lib.hid hb1
 have HA4:=Lib.hid hA4
 have HC4:=Lib.hid hc4
 clear hA hcell e0 e1 h4 hA4 hc4 hle4 hq hle
 have HF1:=Lib.hid f1
 have HX0:=Lib.hid x0
 have HX4:=Lib.hid x4
 by_cases h1:l.length=1
 ·obtain rfl:=HA4.out (by omega)
  obtain⟨hlb4,hx⟩:=HC4.out 0 (by omega)
  rw[Nat.add_zero]at hx
  have g0:∀xx:Beh W1,xx.x.cell? ⟨b4,o4,none⟩=some (.int .i64 (l.getD 0 0)):=fun xx=>((joinB HB1.out xx.below).cell (p:=⟨b4,o4,none⟩) (by show b4<w.heap.size;omega)).trans hx
  have g4:∀xx:Beh W1,xx.x.cell? ⟨w.heap.size,4,none⟩=some (.func (.func 110) #[] #[.pointer (some ⟨q,0,none⟩)]):=fun xx=>(xx.below.cell (p:=⟨w.heap.size,4,none⟩) hz1).trans HX4.out
  have hy:y=rd (valA nets (l.getD 0 0)):=by rw[HY.out];unfold dataV;rw[if_pos h1]
  rw[h1]at f1
  have H1:=Lib.hid h1
  obtain⟨x,HX⟩:=named (l.getD 0 0)
  rw[←HX.out]at g0 hy
  obtain⟨u,HU⟩:=named (valA nets x)
  rw[←HU.out]at hy
  have HYF:=Lib.hid hy
  have HV:Hid (∀xx:Beh W1,Calls Tryz.prog 110 #[.int .i64 x,.pointer (some ⟨q,0,none⟩)] xx.x fun e w'=>e=.returned (.int .u8 u)∧xx.x=w'):=Lib.hid fun xx=>by have:=HQ.out xx.x xx.below x;rw[←HU.out]at this;exact this
  have HR:Hid (∀xx:Beh W1,Calls Tryz.prog 112 #[.int .u8 u] xx.x fun e w'=>e=.returned (.int .u8 y)∧xx.x=w'):=Lib.hid fun xx=>by rw[HYF.out];exact Lg.read_any u xx.x
  clear hx hy h1
  go_enter Tryz.func120,Tryz.ntmps120
  go_upto_region 1 with (fail)
  rw[←HW1.out]
  go_upto_region 4 with (fail)
  refine region_class (w0:=W1) (Below.refl _ _) (by kernel_rfl) (by kernel_rfl) ?_
  repeat (first
   |go_big_quiet_skip
   |(go_big_quiet_want;go_big_quiet_op;first
    |go_big_quiet_on
    |(apply Exists.intro
      refine⟨fun xx=>?_,?_⟩
      focus first
       |(go_at_call 110;with_reducible exact beh_same (HV.out xx))
       |(go_at_call 112;with_reducible exact beh_same (HR.out xx))
      go_big_quiet_on)))
  refine wpQuiet_nil ?_
  rintro w9 ⟨⟨wz,hz⟩,rfl⟩
  go_wp2
  go_ret
  exact⟨rfl,joinB HB1.out hz⟩
 ·have hy:y=2:=by rw[HY.out];unfold dataV;exact if_neg h1
  obtain⟨m,HM⟩:=named l.length
  rw[←HM.out]at h1 f1 hm4
  have t1:((m:Int) != 1)=true:=by rw[bne_iff_ne];omega
  have HYF:=Lib.hid hy
  clear hy
  go_enter Tryz.func120,Tryz.ntmps120
  go_upto_region 1 with (fail)
  rw[←HW1.out]
  go_wp2
  go_ret
  exact⟨ret_v HYF.out.symm,HB1.out⟩
set_option maxRecDepth 100000 in
set_option maxHeartbeats 4000000 in
theorem stateOf_any(nets:List Int)(A0 A1 A2 A3 A:Option Addr)(n0 n1 n2 n3 n c0 c1 c2 c3 c:Nat)(w:World)(B:Nat)(hB:B≤w.heap.size)(hs:Ks w B (.slice A n c) nets):
 Calls Tryz.prog 69 #[.agg #[.slice A0 n0 c0,.slice A1 n1 c1,.slice A2 n2 c2,.slice A3 n3 c3],.slice A n c] w
  fun e w'=>(∃q,e=.returned (.agg #[.slice A0 n0 c0,.slice A1 n1 c1,.slice A2 n2 c2,.slice A3 n3 c3,.func (.func 110) #[] #[.pointer (some ⟨q,0,none⟩)]])∧Nv w' q nets∧w.heap.size≤q∧w'.cell? ⟨q,0,none⟩=some (.slice A n c))∧Below w.heap.size w w':=by
 have HS:=Lib.hid hs
 clear hs
 go_enter Tryz.func69,Tryz.ntmps69
 go_wp2
 obtain⟨V,HV⟩:=named ((w.alloc (.cells #[.slice A0 n0 c0,.slice A1 n1 c1,.slice A2 n2 c2,.slice A3 n3 c3] 39)).alloc (.cells #[.slice A n c] 41))
 rw[←HV.out]
 have hbv:Below w.heap.size w V:=by rw[HV.out];exact below_new (below_new (Below.refl _ _) _) _
 have hvz:V.heap.size=w.heap.size+1+1:=by rw[HV.out];simp
 have hcv:V.cell? ⟨w.heap.size+1,0,none⟩=some (.slice A n c):=by rw[HV.out,World.cell?_alloc_at _ _ _ _ (by simp)];rfl
 rw[←hvz]
 have hq:=Fr.made V [.slice A0 n0 c0,.slice A1 n1 c1,.slice A2 n2 c2,.slice A3 n3 c3,.func (.func 110) #[] #[.pointer (some ⟨w.heap.size+1,0,none⟩)]] 121 rfl
 (try simp only[Exit.inBlock,Exit.then])
 refine bodyPost_ret (results_cell_row rfl _ _ _ _ _ _ _ rfl hq Tryz.underlying121 rfl (by kernel_rfl)) rfl ?_
 have hlen:n=nets.length:=by obtain⟨_,_,_,_,e,-⟩:=id HS.out;simp only[Value.slice.injEq]at e;exact e.2.1
 subst hlen
 have hbW:=below_new hbv (.cells #[.slice A0 n0 c0,.slice A1 n1 c1,.slice A2 n2 c2,.slice A3 n3 c3,.func (.func 110) #[] #[.pointer (some ⟨w.heap.size+1,0,none⟩)]] 121)
 refine⟨⟨w.heap.size+1,rfl,⟨A,c,?_,?_⟩,Nat.le_succ _,?_⟩,hbW⟩
 ·exact ((below_new (Below.refl V.heap.size V) _).cell (p:=⟨w.heap.size+1,0,none⟩) (by show w.heap.size+1<V.heap.size;omega)).trans hcv
 ·exact Arr.keep stays_u8 HS.out (Nat.le_trans hB hbW.size) fun _ hp=>hbW.cell (Nat.lt_of_lt_of_le hp hB)
 ·exact ((below_new (Below.refl V.heap.size V) _).cell (p:=⟨w.heap.size+1,0,none⟩) (by show w.heap.size+1<V.heap.size;omega)).trans hcv
theorem VRow.other{w:World}{g:Nat}{l:List Int}(h:VRow w g l){a:Addr}(ha:a.block≠g)(v:Value):VRow (w.setCell a v) g l:=
 h.kept (row:=some a.block) ⟨rfl,rfl,rfl,by simp[World.setCell],fun i _ hne=>Below.heap_setCell _ _ _ _ (fun e=>hne (by rw[e]))⟩ (fun e=>ha (by injection e with e;exact e.symm))
def RespPost(lo ln:List Int)(w:World)(e:Ending)(w':World):Prop:=
 ∃g h,e=.returned (.agg #[.slice (some ⟨g,0,none⟩) lo.length lo.length,.slice (some ⟨h,0,none⟩) ln.length ln.length])∧VRow w' g lo∧VRow w' h ln∧w.heap.size≤g∧w.heap.size≤h∧g≠h∧Below w.heap.size w w'
def outV(c:Ck)(nets:List Int):List Int:=c.outs.map (valA nets)
def nextV(c:Ck)(nets:List Int):List Int:=(ofTo c.nodes [14] c.nodes.length).map fun i=>dataV nets (c.nodes.getD i.toNat default).ins
theorem ofTo_in{nodes:List Nd}{kl:List Int}{k:Nat}{x:Int}(h:x∈ofTo nodes kl k):0≤x∧x<(k:Int):=by
 unfold ofTo at h
 obtain⟨i,hi,rfl⟩:=List.mem_map.1 h
 have:=List.mem_range.1 (List.mem_filter.1 hi).1
 omega
set_option maxRecDepth 100000 in
set_option maxHeartbeats 4000000 in
theorem response_any(c:Ck)(nets:List Int)(A0 A1 A2 A3:Option Addr)(c0 c1 c2 c3 q:Nat)(w:World)(B:Nat)(hB:B≤w.heap.size)(hq:Nv w q nets)
 (hc:Cir w B (.agg #[.slice A0 c.nodes.length c0,.slice A1 c.names.length c1,.slice A2 c.mems.length c2,.slice A3 c.outs.length c3]) c) (hsz:c.nodes.length≤1000000) (hos:c.outs.length≤17592186044416):
 Calls Tryz.prog 73 #[.agg #[.slice A0 c.nodes.length c0,.slice A1 c.names.length c1,.slice A2 c.mems.length c2,.slice A3 c.outs.length c3,.func (.func 110) #[] #[.pointer (some ⟨q,0,none⟩)]]] w (RespPost (outV c nets) (nextV c nets) w):=by
 obtain⟨W1,HW1⟩:=named ((w.alloc (.cells #[.slice A0 c.nodes.length c0,.slice A1 c.names.length c1,.slice A2 c.mems.length c2,.slice A3 c.outs.length c3,.func (.func 110) #[] #[.pointer (some ⟨q,0,none⟩)]] 121)).alloc (.cells #[.slice none 0 0,.slice none 0 0] 49))
 have hb1:Below w.heap.size w W1:=by rw[HW1.out];exact below_new (below_new (Below.refl _ _) _) _
 have hfs:Fr W1 w.heap.size 121 (#[.slice A0 c.nodes.length c0,.slice A1 c.names.length c1,.slice A2 c.mems.length c2,.slice A3 c.outs.length c3,.func (.func 110) #[] #[.pointer (some ⟨q,0,none⟩)]]).toList:=by rw[HW1.out];exact Fr.alloc (Fr.made _ _ _ rfl) _
 have hfr:Fr W1 (w.heap.size+1) 49 [.slice none 0 0,.slice none 0 0]:=by rw[HW1.out];exact Fr.made _ _ _ (by simp)
 have hz1:W1.heap.size=w.heap.size+1+1:=by rw[HW1.out];simp
 have hns:Ns w B (.slice A0 c.nodes.length c0) c.nodes:=by
  obtain⟨v0,v1,v2,v3,e,h,-⟩:=hc
  simp only[Value.agg.injEq,Array.mk.injEq,List.cons.injEq,and_true]at e
  rw[e.1];exact h
 have hio:Is w B (.slice A3 c.outs.length c3) c.outs:=by
  obtain⟨v0,v1,v2,v3,e,-,-,-,h⟩:=hc
  simp only[Value.agg.injEq,Array.mk.injEq,List.cons.injEq,and_true]at e
  rw[e.2.2.2];exact h
 have HST:=Lib.hid (OfPost.from (states_any c _ W1 B (Nat.le_trans hB hb1.size) (hc.below (hb1.mono hB)) hsz) (Below.refl _ _))
 have HDA:Hid (∀W,Below W1.heap.size W1 W→∀i:Nat,i<c.nodes.length→Calls Tryz.prog 120 #[.agg #[.slice A0 c.nodes.length c0,.slice A1 c.names.length c1,.slice A2 c.mems.length c2,.slice A3 c.outs.length c3,.func (.func 110) #[] #[.pointer (some ⟨q,0,none⟩)]],.int .i64 (i:Int)] W fun e w'=>e=.returned (.int .u8 (dataV nets (c.nodes.getD i default).ins))∧Below W.heap.size W w'):=
  Lib.hid fun W hb i hi=>data_any c nets A0 A1 A2 A3 _ _ _ c0 c1 c2 c3 i q W B (Nat.le_trans hB (joinB hb1 hb).size) (hq.below (joinB hb1 hb)) (hns.below ((joinB hb1 hb).mono hB)) hi
 have HVA:Hid (∀W,Below W1.heap.size W1 W→Calls Tryz.prog 72 #[.agg #[.slice A0 c.nodes.length c0,.slice A1 c.names.length c1,.slice A2 c.mems.length c2,.slice A3 c.outs.length c3,.func (.func 110) #[] #[.pointer (some ⟨q,0,none⟩)]],.slice A3 c.outs.length c3] W (ValsPost (outV c nets) W)):=
  Lib.hid fun W hb=>values_any nets c.outs A0 A1 A2 A3 _ _ _ _ c0 c1 c2 c3 _ q W B (Nat.le_trans hB (joinB hb1 hb).size) (hq.below (joinB hb1 hb)) (hio.below ((joinB hb1 hb).mono hB)) hos
 have HOL:Hid ((outV c nets).length=c.outs.length):=Lib.hid (by simp[outV])
 have HNX:Hid (nextV c nets=(ofTo c.nodes [14] c.nodes.length).map fun i=>dataV nets (c.nodes.getD i.toNat default).ins):=Lib.hid rfl
 have HIN:Hid (∀x∈ofTo c.nodes [14] c.nodes.length,0≤x∧x<(c.nodes.length:Int)):=Lib.hid fun x hx=>ofTo_in hx
 have hll:=ofTo_len c.nodes [14] c.nodes.length
 have HB1:=Lib.hid hb1
 clear hq hc hns hio hb1
 obtain⟨lo,HLO⟩:=named (outV c nets)
 obtain⟨ln,HLN⟩:=named (nextV c nets)
 obtain⟨L,HL⟩:=named (ofTo c.nodes [14] c.nodes.length)
 rw[←HLO.out]at HVA HOL
 rw[←HLN.out,←HL.out]at HNX
 rw[←HL.out]at HST HIN hll
 rw[←HLO.out,←HLN.out]
 clear HLO HLN HL
 obtain⟨nd,HND⟩:=named c.nodes
 rw[←HND.out]at HW1 hfs HST HDA HVA HIN HNX hll hsz
 rw[←HND.out]
 obtain⟨n0,HN0⟩:=named nd.length
 rw[←HN0.out]at HW1 hfs HST HDA HVA HIN hll hsz
 rw[←HN0.out]
 generalize c.names.length=n1 at HW1 hfs HST HDA HVA ⊢
 generalize c.mems.length=n2 at HW1 hfs HST HDA HVA ⊢
 obtain⟨n3,HN3⟩:=named c.outs.length
 rw[←HN3.out]at HW1 hfs HST HDA HVA HOL hos
 rw[←HN3.out]
 have HFS:Hid (∀W,Below W1.heap.size W1 W→W.cell? ⟨w.heap.size,0,none⟩=some (.slice A0 n0 c0)∧W.cell? ⟨w.heap.size,1,none⟩=some (.slice A1 n1 c1)∧W.cell? ⟨w.heap.size,2,none⟩=some (.slice A2 n2 c2)∧W.cell? ⟨w.heap.size,3,none⟩=some (.slice A3 n3 c3)∧W.cell? ⟨w.heap.size,4,none⟩=some (.func (.func 110) #[] #[.pointer (some ⟨q,0,none⟩)])):=
  Lib.hid fun W hb=>⟨(hfs.below hb).cell 0,(hfs.below hb).cell 1,(hfs.below hb).cell 2,(hfs.below hb).cell 3,(hfs.below hb).cell 4⟩
 have HFR:Hid (∀W,Below W1.heap.size W1 W→Fr W (w.heap.size+1) 49 [.slice none 0 0,.slice none 0 0]):=Lib.hid fun W hb=>hfr.below hb
 have HZ1:=Lib.hid hz1
 have hzl:w.heap.size+1<W1.heap.size:=by omega
 clear hfs hfr hz1
 obtain⟨m,HM⟩:=named L.length
 rw[←HM.out]at hll
 have hst2:Calls Tryz.prog 37 #[.agg #[.slice A0 n0 c0,.slice A1 n1 c1,.slice A2 n2 c2,.slice A3 n3 c3]] W1 fun e w'=>∃A,e=.returned (.slice A m m)∧Is w' w'.heap.size (.slice A m m) L∧Below W1.heap.size W1 w':=by rw[HM.out];exact HST.out
 have HST2:=Lib.hid hst2
 clear hst2 HST
 obtain⟨i0,hi,hz0,hz1',hz2⟩:=info_parts info_val
 have HI:=Lib.hid (And.intro hi (And.intro hz0 (And.intro hz1' hz2)))
 clear hi hz0 hz1' hz2
 go_enter Tryz.func73,Tryz.ntmps73
 go_upto_region 1 with (fail)
 rw[←HW1.out]
 obtain⟨x0,x1,x2,x3,x4⟩:=HFS.out W1 (Below.refl _ _)
 go_wp2_with (first
  |(go_at_call 37;(with_reducible refine HST2.out.mono ?_);rintro e w2 ⟨A,rfl,hi,hb⟩;have HLI:=Lib.hid hi;have HB2:=Lib.hid hb;clear hi hb)
  |(at_make;refine wpList_make_full _ rfl _ _ 41 rfl w2.heap.size 77 i0 (.int .u8 0) 1 Tryz.underlying41 HI.out.1 HI.out.2.1 HI.out.2.2.1 .i64 .i64 _ _ m rfl rfl rfl rfl ?b2 ?b3 ?b4 ?_))
 case b2=>rw[HI.out.2.2.2];omega
 case b3=>unfold maxLen;omega
 case b4=>exact Nat.le_refl _
 intro w3 hown hgr
 rw[fillL_start (fun j=>.int .u8 (dataV nets (nd.getD (lat L j).toNat default).ins))]at hown
 have HB3:=Lib.hid (show Below w2.heap.size w2 w3 from (Below.refl _ _).grown hgr (Nat.le_refl _) (fun k h=>by cases h))
 have HO:=Lib.hid hown
 obtain⟨g,HG⟩:=named w2.heap.size
 rw[←HG.out]at HO
 have hgz:w2.heap.size≤g:=by rw[HG.out];exact Nat.le_refl _
 have hgw:w.heap.size+1<g:=by have:=HB2.out.size;rw[HG.out];omega
 rw[←HG.out]
 obtain⟨AA,bL,oL,cL,eL,hAL,-,-,hcL⟩:=HLI.out.opens
 rw[←HM.out]at eL hAL hcL
 simp only[Value.slice.injEq,true_and]at eL
 obtain⟨rfl,-⟩:=eL
 have HAL:=Lib.hid hAL
 have HCL:=Lib.hid hcL
 clear hown hgr x0 x1 x2 x3 x4 hAL hcL
 go_wp2
 go_loopw [15] (fun i wr=>∃k:Nat,k≤m∧i=.int .i64 k∧Below w2.heap.size w2 wr∧wr.ownsRow g 77 1 (.slice (some ⟨g,0,none⟩) m m) m (fillL (fun j=>.int .u8 (dataV nets (nd.getD (lat L j).toNat default).ins)) (.int .u8 0) m k)) (fun i _=>m-(intOf i).toNat)
 case atStart=>exact⟨0,Nat.zero_le _,rfl,HB3.out,HO.out⟩
 case round=>
  clear HO HB3
  obtain⟨k,hk,rfl,hb,hown⟩:=hrel
  have HBL:=Lib.hid hb
  have HO:=Lib.hid hown
  obtain⟨x0,x1,x2,x3,x4⟩:=HFS.out wr (joinB HB2.out hb)
  clear hb hown
  by_cases hlt:k<m
  ·obtain rfl:=HAL.out (by omega)
   obtain⟨hlb,hx⟩:=HCL.out k hlt
   have hx2:wr.cell? ⟨bL,oL+k,none⟩=some (.int .i64 (L.getD k 0)):=(HBL.out.cell (p:=⟨bL,oL+k,none⟩) hlb).trans hx
   obtain⟨j0,j1⟩:=HIN.out (L.getD k 0) (by rw[List.getD_eq_getElem?_getD,List.getElem?_eq_getElem (by rw[←HM.out];exact hlt)];exact List.getElem_mem _)
   obtain⟨x,hxx⟩:=Int.eq_ofNat_of_zero_le j0
   rw[hxx]at hx2 j1
   have hxn:x<n0:=by omega
   have HLX:Hid (lat L (k:Int)=(x:Int)):=Lib.hid (by rw[←hxx];unfold lat;rw[Int.toNat_natCast])
   have hcl:wr.cell? ⟨g,k,none⟩=some (.int .u8 0):=by
    rw[HO.out.cellAt k (by omega),fillL_get _ _ _ _ _ hlt,if_neg (by omega)]
   have hfz:wr.frozen? ⟨g,k,none⟩=false:=HO.out.frozenAt k
   have hgl:g<wr.heap.size:=(World.ownsRow.lt HO.out _ rfl).2
   obtain⟨u,HU⟩:=named (dataV nets (nd.getD x default).ins)
   have HCD:=Lib.hid (HDA.out wr (joinB HB2.out HBL.out) x hxn)
   rw[←HU.out]at HCD
   clear hx hxx j0 j1
   go_wp2_with (go_at_call 120;(with_reducible refine HCD.out.mono ?_);rintro e w5 ⟨rfl,hb⟩;have HB5:=Lib.hid hb;have hcl5:=(hb.cell (p:=⟨g,k,none⟩) hgl).trans hcl;have hfz5:=(hb.frozen (p:=⟨g,k,none⟩) hgl).trans hfz;clear hb)
   go_roundw
   case rel=>
    have h5:w5.ownsRow g 77 1 (.slice (some ⟨g,0,none⟩) m m) m (fillL (fun j=>.int .u8 (dataV nets (nd.getD (lat L j).toNat default).ins)) (.int .u8 0) m k):=
     World.ownsRow.kept (row:=none) HO.out ⟨HB5.out.os,HB5.out.tape,HB5.out.output,HB5.out.size,fun i hi _=>HB5.out.block i hi⟩ (.inr (show some g≠(none:Option Nat) by simp))
    have h:=(h5.stored k (.int .u8 u)).1
    refine⟨k+1,by omega,by go_num,(joinB HBL.out HB5.out).setCell hgz _,?_⟩
    have e:u=dataV nets (nd.getD (lat L (k:Int)).toNat default).ins:=by rw[HLX.out,Int.toNat_natCast];exact HU.out
    rw[e]at h ⊢
    rw[←fillL_set (fun j=>.int .u8 (dataV nets (nd.getD (lat L j).toNat default).ins)) (.int .u8 0) m k]
    exact h
   case measure=>simp[intOf];omega
  ·obtain rfl:m=k:=by omega
   have hfull:VRow wr g ln:=by
    have h:=HO.out
    have e:=fillL_vals (fun x=>dataV nets (nd.getD x.toNat default).ins) (.int .u8 0) L
    rw[←HM.out]at e
    rw[e]at h
    rw[HNX.out]
    exact VRow.of (n:=m) h (by rw[List.length_map];exact HM.out.symm)
   have HFULL:=Lib.hid hfull
   have HCV:=Lib.hid (HVA.out wr (joinB HB2.out HBL.out))
   have hlo:lo.length=n3:=HOL.out
   have hln:ln.length=m:=by rw[HNX.out,List.length_map];exact HM.out.symm
   have HLO:=Lib.hid hlo
   have HLN:=Lib.hid hln
   have hfr:=HFR.out wr (joinB HB2.out HBL.out)
   have HFRR:=Lib.hid hfr
   have hrl:w.heap.size+1<wr.heap.size:=by have:=(joinB HB2.out HBL.out).size;omega
   clear hfull hlo hln hfr
   go_wp2_with (go_at_call 72;(with_reducible refine HCV.out.mono ?_);rintro e w5 ⟨h,rfl,hv,hz,hb⟩;have HB5:=Lib.hid hb;have HV5:=Lib.hid hv;have HZ5:=Lib.hid hz;have r0:w5.cell? ⟨w.heap.size+1,0,none⟩=some (.slice none 0 0):=(HFRR.out.below hb).cell 0;have r1:w5.cell? ⟨w.heap.size+1,1,none⟩=some (.slice none 0 0):=(HFRR.out.below hb).cell 1;have f0:w5.frozen? ⟨w.heap.size+1,0,none⟩=false:=(HFRR.out.below hb).frozen 0;have f1:w5.frozen? ⟨w.heap.size+1,1,none⟩=false:=(HFRR.out.below hb).frozen 1;clear hv hz hb)
   have hq:=((HFRR.out.below HB5.out).set 0 (.slice (some ⟨h,0,none⟩) lo.length lo.length)).set 1 (.slice (some ⟨g,0,none⟩) m m)
   (try simp only[Exit.inBlock,Exit.then])
   refine bodyPost_ret (results_cell_row rfl _ _ _ _ _ _ _ rfl hq Tryz.underlying49 rfl (by kernel_rfl)) rfl ?_
   have hz5:=HZ5.out
   have hzb:=(joinB HB2.out HBL.out).size
   have hz1:=HZ1.out
   have hgl:=HFULL.out.lt
   have hb5:=joinB HB1.out (joinB (joinB HB2.out HBL.out) HB5.out)
   have n1:w.heap.size+1≠h:=by omega
   have n2:w.heap.size+1≠g:=by omega
   refine⟨h,g,by rw[HLN.out];rfl,(HV5.out.other (a:=⟨_,0,none⟩) n1 _).other (a:=⟨_,1,none⟩) n1 _,((HFULL.out.below HB5.out).other (a:=⟨_,0,none⟩) n2 _).other (a:=⟨_,1,none⟩) n2 _,by omega,by omega,by omega,(hb5.setCell (Nat.le_succ _) _).setCell (Nat.le_succ _) _⟩
theorem grown_v{w wr:World}{g:Nat}(h:w.grownBy wr (some g))(j:Nat)(v:Value):w.grownBy (wr.setCell ⟨g,j,none⟩ v) (some g):=by
 obtain⟨h1,h2,h3,h4,h5⟩:=h
 exact⟨h1,h2,h3,by simpa [World.setCell]using h4,fun i hi hne=>(Below.heap_setCell _ _ _ _ (fun e=>hne (by rw[e]))).trans (h5 i hi hne)⟩
theorem own_fr{w:World}{base:Nat}{e:TypeId}{size g n:Nat}{xs:List Value}(h:w.ownsRow base e size (.slice (some ⟨g,0,none⟩) n n) n xs):Fr w g e xs:=by
 obtain⟨h1,h2⟩:=h
 rcases h2 with⟨e',-⟩| ⟨g',cap,cur,e',hb,hg,hle,hm,hs,ht⟩
 ·cases e'
 ·simp only[Value.slice.injEq,Option.some.injEq,Addr.mk.injEq,and_true,true_and]at e'
  obtain⟨rfl,rfl⟩:=e'
  have hc:cur=xs.toArray:=by
   apply Array.ext'
   rw[←ht,List.take_of_length_le (by rw[Array.length_toList];omega)]
  rw[hc]at hg
  exact hg
theorem VRow.not_int{w:World}{g j:Nat}{l:List Int}{x:Int}(h:VRow w g l):w.cell? ⟨g,j,none⟩≠some (.int .i64 x):=fun e=>by
 have h1:=(own_fr h).cell j
 rw[e,List.getElem?_map]at h1
 cases h2:l[j]? with
 |none=>rw[h2]at h1;cases h1
 |some y=>rw[h2]at h1;simp at h1
def asgTo(out l vs:List Int)(k:Nat):List Int:=((l.zip vs).take k).foldl (fun o p=>o.set p.1.toNat p.2) out
theorem asgTo_len(out l vs:List Int)(k:Nat):(asgTo out l vs k).length=out.length:=by
 unfold asgTo
 induction (l.zip vs).take k generalizing out with
 |nil=>rfl
 |cons p t ih=>rw[List.foldl_cons,ih,List.length_set]
theorem asgTo_succ{out l vs:List Int}{k:Nat}(h1:k<l.length)(h2:k<vs.length):asgTo out l vs (k+1)=(asgTo out l vs k).set (l.getD k 0).toNat (lat vs k):=by
 unfold asgTo
 have hz:k<(l.zip vs).length:=by rw[List.length_zip];omega
 rw[List.take_succ_eq_append_getElem hz,List.foldl_append]
 have e:(l.zip vs)[k]=(l.getD k 0,lat vs k):=by
  rw[List.getElem_zip]
  unfold lat
  rw[Int.toNat_natCast,List.getD_eq_getElem?_getD,List.getD_eq_getElem?_getD,List.getElem?_eq_getElem h1,List.getElem?_eq_getElem h2];rfl
 rw[e];rfl
theorem asgTo_all{out l vs:List Int}(h:l.length=vs.length):asgTo out l vs l.length=asg out l vs:=by
 unfold asgTo asg
 rw[List.take_of_length_le (by rw[List.length_zip];omega)]
set_option maxRecDepth 100000 in
set_option maxHeartbeats 4000000 in
theorem observe_any(c:Ck)(nets:List Int)(A0 A1 A2 A3 A:Option Addr)(c0 c1 c2 c3 n cc:Nat)(w:World)(B:Nat)(hB:B≤w.heap.size)
 (hc:Cir w B (.agg #[.slice A0 c.nodes.length c0,.slice A1 c.names.length c1,.slice A2 c.mems.length c2,.slice A3 c.outs.length c3]) c) (hs:Ks w B (.slice A n cc) nets) (hsz:c.nodes.length≤1000000) (hos:c.outs.length≤17592186044416):
 Calls Tryz.prog 39 #[.agg #[.slice A0 c.nodes.length c0,.slice A1 c.names.length c1,.slice A2 c.mems.length c2,.slice A3 c.outs.length c3],.slice A n cc] w (RespPost (outV c nets) (nextV c nets) w):=by
 obtain⟨W1,HW1⟩:=named ((w.alloc (.cells #[.slice A0 c.nodes.length c0,.slice A1 c.names.length c1,.slice A2 c.mems.length c2,.slice A3 c.outs.length c3] 39)).alloc (.cells #[.slice none 0 0,.slice none 0 0] 49))
 have hb1:Below w.heap.size w W1:=by rw[HW1.out];exact below_new (below_new (Below.refl _ _) _) _
 have hfc:Fr W1 w.heap.size 39 [.slice A0 c.nodes.length c0,.slice A1 c.names.length c1,.slice A2 c.mems.length c2,.slice A3 c.outs.length c3]:=by rw[HW1.out];exact Fr.alloc (Fr.made _ _ _ rfl) _
 have hfr:Fr W1 (w.heap.size+1) 49 [.slice none 0 0,.slice none 0 0]:=by rw[HW1.out];exact Fr.made _ _ _ (by simp)
 have hz1:W1.heap.size=w.heap.size+1+1:=by rw[HW1.out];simp
 have HSO:=Lib.hid (stateOf_any nets A0 A1 A2 A3 A c.nodes.length c.names.length c.mems.length c.outs.length n c0 c1 c2 c3 cc W1 B (Nat.le_trans hB hb1.size) (Arr.keep stays_u8 hs (Nat.le_refl _) fun _ hp=>hb1.cell (Nat.lt_of_lt_of_le hp hB)))
 have HRE:Hid (∀W q,Below W1.heap.size W1 W→Nv W q nets→Calls Tryz.prog 73 #[.agg #[.slice A0 c.nodes.length c0,.slice A1 c.names.length c1,.slice A2 c.mems.length c2,.slice A3 c.outs.length c3,.func (.func 110) #[] #[.pointer (some ⟨q,0,none⟩)]]] W (RespPost (outV c nets) (nextV c nets) W)):=
  Lib.hid fun W q hb hn=>response_any c nets A0 A1 A2 A3 c0 c1 c2 c3 q W B (Nat.le_trans hB (joinB hb1 hb).size) hn (hc.below ((joinB hb1 hb).mono hB)) hsz hos
 have HB1:=Lib.hid hb1
 clear hc hs hb1
 obtain⟨lo,HLO⟩:=named (outV c nets)
 obtain⟨ln,HLN⟩:=named (nextV c nets)
 rw[←HLO.out,←HLN.out]at HRE
 rw[←HLO.out,←HLN.out]
 generalize c.nodes.length=n0 at HW1 hfc HSO HRE ⊢
 generalize c.names.length=n1 at HW1 hfc HSO HRE ⊢
 generalize c.mems.length=n2 at HW1 hfc HSO HRE ⊢
 generalize c.outs.length=n3 at HW1 hfc HSO HRE ⊢
 have x0:=hfc.cell 0
 have x1:=hfc.cell 1
 have x2:=hfc.cell 2
 have x3:=hfc.cell 3
 have HFR:=Lib.hid hfr
 have HZ1:=Lib.hid hz1
 clear hfc hfr hz1
 go_enter Tryz.func39,Tryz.ntmps39
 go_upto_region 1 with (fail)
 rw[←HW1.out]
 go_wp2_with (first
  |(go_at_call 69;(with_reducible refine HSO.out.mono ?_);rintro e w2 ⟨⟨q,rfl,hn,hqz,-⟩,hb⟩;have HNV:=Lib.hid hn;have HB2:=Lib.hid hb;clear hn hb)
  |(go_at_call 73;(with_reducible refine (HRE.out _ _ HB2.out HNV.out).mono ?_);rintro e w3 ⟨g,h,rfl,hg,hh,hgz,hhz,hgh,hb⟩;have HGR:=Lib.hid hg;have HHR:=Lib.hid hh;have HGH:=Lib.hid hgh;have HB3:=Lib.hid hb;have hfx:=(HFR.out.below (joinB HB2.out hb));have r0:=hfx.cell 0;have r1:=hfx.cell 1;have f0:=hfx.frozen 0;have f1:=hfx.frozen 1;have HFX:=Lib.hid hfx;clear hg hh hgh hb hfx))
 have hq:=(HFX.out.set 0 (.slice (some ⟨g,0,none⟩) lo.length lo.length)).set 1 (.slice (some ⟨h,0,none⟩) ln.length ln.length)
 (try simp only[Exit.inBlock,Exit.then])
 refine bodyPost_ret (results_cell_row rfl _ _ _ _ _ _ _ rfl hq Tryz.underlying49 rfl (by kernel_rfl)) rfl ?_
 have hzb:=HB2.out.size
 have hz1:=HZ1.out
 have hb5:=joinB HB1.out (joinB HB2.out HB3.out)
 have n1:w.heap.size+1≠g:=by omega
 have n2:w.heap.size+1≠h:=by omega
 exact⟨g,h,rfl,(HGR.out.other (a:=⟨_,0,none⟩) n1 _).other (a:=⟨_,1,none⟩) n1 _,(HHR.out.other (a:=⟨_,0,none⟩) n2 _).other (a:=⟨_,1,none⟩) n2 _,by omega,by omega,HGH.out,(hb5.setCell (Nat.le_succ _) _).setCell (Nat.le_succ _) _⟩
def abv(v:Int):Bool:=decide (3<v)
structure Fits(c:Ck)(pin pst:List Int):Prop where
 mems:c.mems.length=0
 li:pin.length=(ofTo c.nodes [0] c.nodes.length).length
 ls:pst.length=(ofTo c.nodes [14] c.nodes.length).length
 vi:∀x∈pin,0≤x∧x≤3
 vs:∀x∈pst,0≤x∧x≤3
section
variable {P:Program} {ops:Array Oper} {Q:Exit→Act→World→Prop} {md:Region.Mode} {S:World→Prop} {t:Nat}
def AnyX(P:Program)(md:Region.Mode)(ops:Array Oper)(Q:Exit→Act→World→Prop)(S:World→Prop)(t:Nat):Nat→Array Bool→Act→World→Prop
 |0,listed,a,w=>Region.ready md ops listed=[]∧Q .normal a w
 |f+1,listed,a,w=>(Region.ready md ops listed=[]→Q .normal a w)∧∀i∈Region.ready md ops listed,wpOp P ops Q i (fun a' w'=>(i≠t→S w')∧AnyX P md ops Q S t f (listed.setIfInBounds i true) a' w') a w
theorem AnyX.any:∀ {f:Nat} {listed:Array Bool} {a:Act} {w:World},AnyX P md ops Q S t f listed a w→wpAny P md ops Q f listed a w
 |0,_,_,_,h=>h
 |_+1,_,_,_,h=>⟨h.1,fun i hi=>wpOp_mono (fun _ _ h'=>AnyX.any h'.2) (h.2 i hi)⟩
theorem AnyX.start{id:Nat}{a:Act}{w:World}(hm:P.follows .mixedOrders=true)(h:AnyX P .any ops Q S t ops.size (Array.replicate ops.size false) a w.drew):(Code.region id ops true).wp P Q a w:=
 wp_region_any hm h.any
theorem not_ready{ot:Oper}{i:Nat}{l:Array Bool}(ho:ops[t]? =some ot)(hw:ot.after.any (fun e=>e.on==i&&Region.binds md e)=true)(hl:l.getD i true=false):t ∉ Region.ready md ops l:=fun hr=>by
 obtain⟨-,o',ho',hall⟩:=mem_ready.1 hr
 obtain rfl:=Option.some.inj (ho.symm.trans ho')
 obtain⟨e,he,hb⟩:=Array.any_eq_true'.1 hw
 rw[Bool.and_eq_true,beq_iff_eq]at hb
 have h1:=hall e he hb.2
 rw[hb.1]at h1
 rcases Nat.lt_or_ge i l.size with h|h
 ·simp[Array.getD,h]at hl h1
  rw[hl]at h1;cases h1
 ·simp[Array.getD,Nat.not_lt.2 h]at hl
theorem AnyX.first{i:Nat}{oi:Oper}{v:Value}(hi:ops[i]? =some oi)(hsel:∀(j:Nat) (o:Oper) cs b,ops[j]? =some o→o.op≠ .select cs b)(hQ:∀c a w,Q (.panic c) (a.put oi.dst v) w→Q (.panic c) a w)
 (ht:∀l:Array Bool,l.getD i true=false→t ∉ Region.ready md ops l):∀(f:Nat) (listed:Array Bool) (a:Act) (w:World),
   (∀j oj,ops[j]? =some oj→j≠i→listed.getD j true=false→(∀e∈oj.after,Region.binds md e=true→e.on≠i)→oi.apart ops oj=true)→
   i∈Region.ready md ops listed→YieldsIf P ops S oi v a→S w→AnyX P md ops Q S t f (listed.setIfInBounds i true) (a.put oi.dst v) w→AnyX P md ops Q S t (f+1) listed a w:=by
 intro f
 induction f with
 |zero=>
  intro listed a w _ hr hy hS H
  refine⟨fun h=>absurd (h▸hr) (by simp),fun j hj=>?_⟩
  by_cases e:j=i
  ·subst e;exact hy.wpOp hi hS ⟨fun _=>hS,H⟩
  ·exact absurd (H.1▸ready_mono hj e) (by simp)
 |succ f ih=>
  intro listed a w hfree hr hy hS H
  refine⟨fun h=>absurd (h▸hr) (by simp),fun j hj=>?_⟩
  by_cases e:j=i
  ·subst e;exact hy.wpOp hi hS ⟨fun _=>hS,H⟩
  ·obtain⟨hju,oj,hoj,hall⟩:=mem_ready.1 hj
   have hiu:=(mem_ready.1 hr).1
   have hjt:j≠t:=fun h=>ht listed hiu (h▸hj)
   have hno:∀x∈oj.after,Region.binds md x=true→x.on≠i:=fun x hx hb he=>by
    have h1:=hall x hx hb
    rw[he]at h1
    rcases Nat.lt_or_ge i listed.size with h'|h'
    ·simp[h']at hiu h1;rw[hiu]at h1;cases h1
    ·simp[Array.getElem?_eq_none h']at h1
   have step:=wpOp_putIf hoj (hfree j oj hoj e hju hno) (fun cs b=>hsel i oi cs b hi) (fun cs b=>hsel j oj cs b hoj) hQ hy (H.2 j (ready_mono hj e))
   refine wpOp_mono (fun a' w' hh=>⟨fun _=>hh.2.1 hjt,ih _ a' w' (fun k ok hk hki hun hn=>hfree k ok hk hki ?_ hn) (ready_mono hr (Ne.symm e)) hh.1 (hh.2.1 hjt) ?_⟩) step
   ·by_cases hjk:j=k
    ·subst hjk;exact hju
    ·rw[getD_set_ne true hjk]at hun;exact hun
   ·rw[Array.setIfInBounds_comm _ _ e]
    exact hh.2.2
theorem AnyX.take{i:Nat}{oi ot:Oper}{v:Value}{f:Nat}{listed:Array Bool}{a:Act}{w:World}(hi:ops[i]? =some oi)(ho:ops[t]? =some ot)(hw:ot.after.any (fun e=>e.on==i&&Region.binds md e)=true)
 (hs:Region.noSelect ops=true) (hf:Region.free md ops listed i=true) (hr:(Region.ready md ops listed).contains i=true)
 (hQ:∀c a w,Q (.panic c) (a.put oi.dst v) w→Q (.panic c) a w) (hy:YieldsIf P ops S oi v a) (hS:S w)
 (h:AnyX P md ops Q S t f (listed.setIfInBounds i true) (a.put oi.dst v) w):AnyX P md ops Q S t (f+1) listed a w:=
 AnyX.first hi (Region.noSelect_spec hs) hQ (fun _ hl=>not_ready ho hw hl) f listed a w (Region.free_spec hi hf) (by simpa using hr) hy hS h
theorem AnyX.one{i:Nat}{o:Oper}{f:Nat}{listed:Array Bool}{a:Act}{w:World}(hr:Region.ready md ops listed=[i])(ho:ops[i]? =some o)
 (h:∀K':Act→World→Prop,(∀a' w',(i≠t→S w')→AnyX P md ops Q S t f (listed.setIfInBounds i true) a' w'→K' a' w')→if Region.wanted o (yielded ops a.tmps)=true then Oper.wp P o a w K' Q else K' (a.put o.dst undef) w):AnyX P md ops Q S t (f+1) listed a w:=by
 refine⟨fun h0=>absurd (hr.symm.trans h0) (by simp),fun j hj=>?_⟩
 rw[hr]at hj
 obtain rfl:=List.mem_singleton.1 hj
 exact wpOp_step ho (fun K' hK=>h K' fun a' w' h1 h2=>hK a' w' ⟨h1,h2⟩)
theorem AnyX.done{listed:Array Bool}{a:Act}{w:World}(hr:Region.ready md ops listed=[])(h:Q .normal a w):∀f,AnyX P md ops Q S t f listed a w
 |0=>⟨hr,h⟩
 |_+1=>⟨fun _=>h,by rw[hr];simp⟩
end
end Go.Proofs.YtemjmfpcopfdbaaGreatDoor
