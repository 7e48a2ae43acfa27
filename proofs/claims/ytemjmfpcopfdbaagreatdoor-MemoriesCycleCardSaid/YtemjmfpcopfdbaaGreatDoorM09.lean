/- The texts Sma Smt Tk9 Fnp Fan Rfl Rsa. -/
import Derived.Test.YtemjmfpcopfdbaaGreatDoorM08
import Derived.Deep.AppendLies
import Derived.Test.YtemjmfpcopfdbaaGreatDoorM04
import Derived.Deep.LoopGhost
import Derived.Test.YtemjmfpcopfdbaaGreatDoorM02
import Derived.Deep.DeepCutAuto
import Derived.Deep.CutBlock
namespace Go.Proofs.YtemjmfpcopfdbaaGreatDoor
open Go.RowKit
theorem tabs_lg{w:World}(h:Lg.Tabs w):Tabs w:=⟨h.1,h.2.1⟩
theorem made_vals(n:Nat):(madeCells #[Value.int .u8 0] n).toList=(List.replicate n (0:Int)).map (Value.int .u8):=by
 apply List.ext_getElem?
 intro j
 by_cases hj:j<n
 ·simp[madeCells,hj,Nat.mod_one]
 ·rw[List.getElem?_eq_none (by simp[madeCells];omega),List.getElem?_eq_none (by simp;omega)]
theorem gnext{w wr w':World}{g:Nat}(h:w.grownBy wr (some g))(hb:Below wr.heap.size wr w'):w.grownBy w' (some g):=by
 obtain⟨h1,h2,h3,h4,h5⟩:=h
 exact⟨hb.os.trans h1,hb.tape.trans h2,hb.output.trans h3,Nat.le_trans h4 hb.size,fun i hi hne=>(hb.block i (Nat.lt_of_lt_of_le hi h4)).trans (h5 i hi hne)⟩
theorem gdrew{w wr:World}{g:Nat}(h:w.grownBy wr (some g)):w.grownBy wr.drew (some g):=gnext h (Below.drew (Below.refl _ _))
theorem bgrown{w0 w wr:World}{g:Nat}(h:BelW w0 w)(hg:w.grownBy wr (some g))(h0:w0.heap.size≤g):BelW w0 wr:=
 Below.grown h hg (Below.size h) (fun k e=>by cases e;exact h0)
structure RL(W1:World)(g s q d n:Nat)(R:List Int)(cs:List Value)(out:List Int)(wr:World):Prop where
 bel:BelW W1 wr
 row:VRow wr g out
 st:Fr wr s 121 cs
 qc:wr.cell? ⟨q,0,none⟩=some (.slice (some ⟨g,0,none⟩) n n)
 ord:Row wr d R
 ne:s≠g∧q≠g∧d≠g
 low:W1.heap.size≤g
 len:out.length=n
section
variable {W1 wr w':World} {g s q d n:Nat} {R out:List Int} {cs:List Value}
end
def VStk(w:World)(base:Nat)(v:Value)(l:List Int):Prop:=w.ownsRow base 77 1 v l.length (l.map (Value.int .u8))
section
variable {w w':World} {base:Nat} {v:Value} {l:List Int}
theorem VStk.nil(w:World)(base:Nat):VStk w base (.slice none 0 0) []:=World.ownsRow_nil w base _ _
theorem VStk.kept{row:Option Nat}(h:VStk w base v l)(hg:w.grownBy w' row)(hne:∀q,row=some q→q<base):VStk w' base v l:=by
 refine World.ownsRow.kept h hg ?_
 rcases ho:v.ownBlock with _|q
 ·exact .inl rfl
 ·refine .inr fun e=>?_
  have h1:=(World.ownsRow.lt h q ho).1
  have h2:=hne q e.symm
  omega
theorem VStk.below(h:VStk w base v l)(hb:Below w.heap.size w w'):VStk w' base v l:=
 h.kept (row:=none) ⟨hb.os,hb.tape,hb.output,hb.size,fun i hi _=>hb.block i hi⟩ (by simp)
theorem VStk.form(h:VStk w base v l):∃A c,v=.slice A l.length c∧l.length≤c∧c≤maxLen∧(0<l.length→∃q,A=some ⟨q,0,none⟩∧base≤q∧q<w.heap.size):=by
 have hlt:=World.ownsRow.lt h
 rcases h.2 with⟨rfl,hn⟩| ⟨g,cap,cur,rfl,hb,hg,hle,hm,-⟩
 ·exact⟨none,0,by rw[hn],by omega,by simp,fun h=>by omega⟩
 ·exact⟨_,cap,rfl,hle,hm,fun _=>⟨g,rfl,hb,(hlt g rfl).2⟩⟩
theorem VStk.cell{q c:Nat}(h:VStk w base (.slice (some ⟨q,0,none⟩) l.length c) l){j:Nat}(hj:j<l.length):w.cell? ⟨q,j,none⟩=some (.int .u8 (l.getD j 0)):=by
 rw[World.ownsRow.cellAt h j (by omega),List.getElem?_map,List.getElem?_eq_getElem hj]
 simp[List.getD_eq_getElem?_getD,List.getElem?_eq_getElem hj]
theorem VStk.ks(h:VStk w base v l):Ks w w.heap.size v l:=by
 obtain⟨A,c,rfl,hle,hm,hq⟩:=h.form
 by_cases h0:0<l.length
 ·obtain⟨q,rfl,-,hlt⟩:=hq h0
  refine⟨_,q,0,c,rfl,fun _=>rfl,hle,Nat.le_trans hle hm,fun j hj=>⟨hlt,?_⟩⟩
  show World.cell? _ _=_
  rw[Nat.zero_add,Nat.mul_one]
  exact h.cell hj
 ·exact⟨A,0,0,c,rfl,fun h=>absurd h h0,hle,Nat.le_trans hle hm,fun j hj=>absurd hj (by omega)⟩
theorem vpush{wo w1:World}{g:Nat}{sv v':Value}{st:List Int}{x:Int}{o:Obj}(hg:g≤wo.heap.size)(hb:Below g w wo)(hstk:VStk wo g sv st)
 (hown:w1.ownsRow g 77 1 v' (st.length+1) (st.map (Value.int .u8)++[.int .u8 x])) (hgr:(wo.alloc o).grownBy w1 sv.ownBlock):Below g w w1∧VStk w1 g v' (st++[x]):=by
 have hq:∀q,sv.ownBlock=some q→g≤q:=fun q h=>(World.ownsRow.lt hstk q h).1
 refine⟨(hb.alloc hg o).grown hgr (by simp;omega) hq,?_⟩
 unfold VStk
 rw[List.length_append,List.map_append]
 exact hown
end
set_option maxHeartbeats 2000000 in
theorem count_any(c:Ck)(kd:Int)(v:Value)(w:World)(B:Nat)(hB:B≤w.heap.size)(hc:Cir w B v c)(hsz:c.nodes.length≤1000000):
 Calls Tryz.prog 75 #[v,.int .u8 kd] w fun e w'=>e=.returned (.int .i64 ((ofTo c.nodes [kd] c.nodes.length).length:Int))∧Below w.heap.size w w':=by
 obtain⟨v0,v1,v2,v3,rfl,hns,hss,hms,hos⟩:=hc
 obtain⟨A0,b,o,c0,rfl,hA,-,-,hcell⟩:=id hns
 obtain⟨A1,b1,o1,c1,rfl,-⟩:=id hss
 obtain⟨A2,b2,o2,c2,rfl,-⟩:=id hms
 obtain⟨A3,b3,o3,c3,rfl,-⟩:=id hos
 have HCE:=Lib.hid hcell
 have HAA:=Lib.hid hA
 clear hns hss hms hos hcell hA
 have HSU:=Lib.hid (fun k=>ofTo_succ c.nodes [kd] k)
 have HLE:=Lib.hid (fun k=>ofTo_len c.nodes [kd] k)
 have HK:Hid (∀x,isK [kd] x=(x==kd)):=Lib.hid fun x=>by simp[isK,anyP]
 generalize c.names.length=n1
 generalize c.mems.length=n2
 generalize c.outs.length=n3
 obtain⟨n,HN⟩:=named c.nodes.length
 rw[←HN.out]at hsz HAA HCE
 rw[←HN.out]
 obtain⟨W1,HW1⟩:=named (w.alloc (.cells #[.slice A0 n c0,.slice A1 n1 c1,.slice A2 n2 c2,.slice A3 n3 c3] 39))
 have hb1:Below w.heap.size w W1:=by rw[HW1.out];exact below_new (Below.refl _ _) _
 have x0:W1.cell? ⟨w.heap.size,0,none⟩=some (.slice A0 n c0):=by rw[HW1.out,World.cell?_alloc_at _ _ _ _ rfl];rfl
 have HB1:=Lib.hid hb1
 clear hb1
 go_enter Tryz.func75,Tryz.ntmps75
 go_upto_region 1 with (fail)
 rw[←HW1.out]
 go_wp2
 go_loopw [5,6] (fun cn ci wr=>wr=W1∧∃k:Nat,k≤n∧ci=.int .i64 k∧cn=.int .i64 ((ofTo c.nodes [kd] k).length:Int)) (fun _ ci _=>n-(intOf ci).toNat)
 case atStart=>exact⟨rfl,0,Nat.zero_le _,rfl,rfl⟩
 case round=>
  obtain⟨rfl,k,hk,rfl,rfl⟩:=hrel
  have hle:=HLE.out k
  by_cases hlt:k<n
  ·obtain rfl:=HAA.out (by omega)
   obtain⟨hlb,s,e0,-⟩:=HCE.out k hlt
   have f0:wr.cell? ⟨b,o+k*4,none⟩=some (.int .u8 (c.nodes.getD k default).kind):=(HB1.out.cell (p:=⟨b,_,none⟩) (by show b<w.heap.size;omega)).trans e0
   have hsu:=HSU.out k
   rw[HK.out]at hsu
   obtain⟨kk,HKK⟩:=named (c.nodes.getD k default).kind
   rw[←HKK.out]at f0 hsu
   obtain⟨m,HM⟩:=named (ofTo c.nodes [kd] k).length
   rw[←HM.out]at hle
   rw[←HM.out]
   clear e0
   cases hv:(kk==kd)
   ·have HS:Hid ((ofTo c.nodes [kd] (k+1)).length=m):=Lib.hid (by rw[hsu,hv];simp[HM.out])
    clear hsu
    go_wp2
    go_roundw
    case rel=>exact⟨by trivial,k+1,by omega,by go_num,by rw[HS.out]⟩
    case measure=>simp[intOf];omega
   ·have HS:Hid ((ofTo c.nodes [kd] (k+1)).length=m+1):=Lib.hid (by rw[hsu,hv];simp[HM.out])
    clear hsu
    go_wp2
    go_roundw
    case rel=>exact⟨by trivial,k+1,by omega,by go_num,by rw[HS.out];go_num⟩
    case measure=>simp[intOf];omega
  ·obtain rfl:n=k:=by omega
   go_wp2
   go_ret
   exact⟨rfl,HB1.out⟩
def takV(l:List Int)(most:Int)(i:Nat):Int:=if l.length=0 then 2 else (l.getD (i%l.length) 0).tmod most
def takL(l:List Int)(most:Int)(n:Nat):List Int:=(List.range n).map (takV l most)
theorem takL_len(l:List Int)(most:Int)(n:Nat):(takL l most n).length=n:=by simp[takL]
theorem takL_succ(l:List Int)(most:Int)(n:Nat):takL l most (n+1)=takL l most n++[takV l most n]:=by simp[takL,List.range_succ]
set_option maxHeartbeats 2000000 in
theorem taken_any(l:List Int)(most:Int)(hm0:0<most)(hm1:most≤4)(n:Nat)(hn:n≤1000000)(A:Option Addr)(m cl:Nat)(w:World)(B:Nat)(hB:B≤w.heap.size)(hs:Ks w B (.slice A m cl) l)(h0:∀x∈l,0≤x∧x≤255):
 Calls Tryz.prog 74 #[.slice A m cl,.int .i64 (n:Int),.int .u8 most] w fun e w'=>∃v,e=.returned v∧VStk w' w.heap.size v (takL l most n)∧Below w.heap.size w w':=by
 obtain⟨A',b,o,c',e,hA,hle,hm,hc⟩:=hs.opens
 simp only[Value.slice.injEq]at e
 obtain⟨rfl,hml,rfl⟩:=e
 have HA:=Lib.hid hA
 have HC:=Lib.hid hc
 have HML:=Lib.hid hml
 have HSU:=Lib.hid (fun k=>takL_succ l most k)
 have HLE:=Lib.hid (fun k=>takL_len l most k)
 rw[←hml]at HA HC hm hle
 unfold maxLen at hm
 have HPOS:=Lib.hid h0
 clear hs hA hc hml h0
 obtain⟨i1,hi1,hz0,hz1,hz2⟩:=info_parts info_val
 have HI:=Lib.hid (And.intro hi1 (And.intro hz0 (And.intro hz1 hz2)))
 clear hi1 hz0 hz1 hz2
 have hmost:¬most=0:=by omega
 go_enter Tryz.func74,Tryz.ntmps74
 go_wp2
 go_loopw [7,8] (fun sv ci wr=>∃k:Nat,k≤n∧ci=.int .i64 k∧Below w.heap.size w wr∧w.heap.size≤wr.heap.size∧VStk wr w.heap.size sv (takL l most k)) (fun _ ci _=>n-(intOf ci).toNat)
 case atStart=>exact⟨0,Nat.zero_le _,rfl,Below.refl _ _,Nat.le_refl _,VStk.nil _ _⟩
 case round=>
  obtain⟨k,hk,rfl,hb,hg,hst⟩:=hrel
  obtain⟨A6,c6,rfl,hle6,hc6,-⟩:=hst.form
  have hol:=HLE.out k
  rw[hol]at hle6
  by_cases hlt:k<n
  ·have hsu:=HSU.out k
   obtain⟨x,HX⟩:=named (takV l most k)
   rw[←HX.out]at hsu
   have HS:=Lib.hid hsu
   have HST:=Lib.hid hst
   have HB:=Lib.hid hb
   obtain⟨st,HL⟩:=named (takL l most k)
   rw[←HL.out]at HST hol
   rw[←HL.out,hol]
   have HST2:Hid (VStk wr w.heap.size (.slice A6 k c6) st):=Lib.hid (by have:=HST.out;rw[hol]at this;exact this)
   have HOL:=Lib.hid hol
   have HSTR:Hid (wr.ownsRow w.heap.size 77 1 (.slice A6 k c6) k (st.map (Value.int .u8))):=Lib.hid (by have:=HST2.out;unfold VStk at this;rw[HOL.out]at this;exact this)
   rw[←HL.out]at HS
   clear hsu hst hb hol
   by_cases hz:m=0
   ·subst hz
    have hx:x=2:=by rw[HX.out];unfold takV;rw[if_pos HML.out.symm]
    subst hx
    go_wp2_with (at_builtin;refine wpList_append_own_at _ rfl _ _ 41 rfl w.heap.size 77 i1 (.int .u8 0) 1 1 Tryz.underlying41 HI.out.1 HI.out.2.1 HI.out.2.2.1 HI.out.2.2.2 rfl (by decide) _ _ _ rfl (World.ownsRow.alloc HSTR.out _) ⟨wr.heap.size,0,none⟩ 1 1 [.int .u8 2] rfl rfl (by have:=one_new wr (.int .u8 2) 77;simpa using this) (ints_oneCell .u8 [2]) (by unfold maxLen;omega) (by omega) (by first|omega|(simp;omega)) ?_;intro v' w5 hown' hgrow hnil hloc;have HF:=Lib.hid (vpush (x:=2) (by first|omega|(simp;omega)) HB.out HST2.out (by rw[HOL.out];exact hown') hgrow);have HZ:=Lib.hid hgrow.size;clear hown' hgrow hnil hloc)
    go_roundw
    case rel=>exact⟨k+1,by omega,by go_num,HF.out.1,by have:=HZ.out;simp at this;omega,by rw[HS.out];exact HF.out.2⟩
    case measure=>simp[intOf];omega
   ·have hmz:¬(m:Int)=0:=by omega
    have hmod:k%m<m:=Nat.mod_lt _ (by omega)
    have hkm:((k:Int)).tmod (m:Int)=((k%m:Nat):Int):=by rw[Int.tmod_eq_emod_of_nonneg (by omega)];simp
    obtain rfl:=HA.out (by omega)
    obtain⟨hlb,hx1⟩:=HC.out (k%m) hmod
    have hx2:wr.cell? ⟨b,o+k%m,none⟩=some (.int .u8 (l.getD (k%m) 0)):=(HB.out.cell (p:=⟨b,_,none⟩) (by show b<w.heap.size;omega)).trans hx1
    have hmem:=HPOS.out (l.getD (k%m) 0) (by rw[List.getD_eq_getElem?_getD,List.getElem?_eq_getElem (by rw[←HML.out];exact hmod)];exact List.getElem_mem _)
    have hxv:x=(l.getD (k%m) 0).tmod most:=by rw[HX.out];unfold takV;rw[if_neg (by rw[←HML.out];exact hz),←HML.out]
    obtain⟨y,HY⟩:=named (l.getD (k%m) 0)
    rw[←HY.out]at hx2 hmem hxv
    have hye:y.tmod most=x:=hxv.symm
    have hxb:0≤x∧x≤255:=by rw[hxv,Int.tmod_eq_emod_of_nonneg hmem.1];have h1:=Int.emod_nonneg y hmost;have h2:=Int.emod_lt_of_pos y hm0;omega
    have hwx:IntKind.u8.wrap (y.tmod most)=x:=by rw[hye];simp[IntKind.wrap,IntKind.bits,IntKind.signed];omega
    obtain⟨kr,HKR⟩:=named (k%m)
    rw[←HKR.out]at hmod hkm hx2
    have hkrm:(kr:Int)<(m:Int):=by omega
    clear hx1 hxv
    go_wp2_with (at_builtin;refine wpList_append_own_at _ rfl _ _ 41 rfl w.heap.size 77 i1 (.int .u8 0) 1 1 Tryz.underlying41 HI.out.1 HI.out.2.1 HI.out.2.2.1 HI.out.2.2.2 rfl (by decide) _ _ _ rfl (World.ownsRow.alloc HSTR.out _) ⟨wr.heap.size,0,none⟩ 1 1 [.int .u8 x] rfl rfl (by have:=one_new wr (.int .u8 x) 77;simpa using this) (ints_oneCell .u8 [x]) (by unfold maxLen;omega) (by omega) (by first|omega|(simp;omega)) ?_;intro v' w5 hown' hgrow hnil hloc;have HF:=Lib.hid (vpush (x:=x) (by first|omega|(simp;omega)) HB.out HST2.out (by rw[HOL.out];exact hown') hgrow);have HZ:=Lib.hid hgrow.size;clear hown' hgrow hnil hloc)
    go_roundw
    case rel=>exact⟨k+1,by omega,by go_num,HF.out.1,by have:=HZ.out;simp at this;omega,by rw[HS.out];exact HF.out.2⟩
    case measure=>simp[intOf];omega
  ·obtain rfl:n=k:=by omega
   go_wp2
   go_ret
   exact⟨_,rfl,hst,hb⟩
def takV9(l:List Int)(at0:Nat)(i:Nat):Int:=if l.length=0 then 2 else (l.getD ((at0+i)%l.length) 0).tmod 3
def takL9(l:List Int)(at0:Nat)(n:Nat):List Int:=(List.range n).map (takV9 l at0)
theorem takL9_len(l:List Int)(at0:Nat)(n:Nat):(takL9 l at0 n).length=n:=by simp[takL9]
theorem takL9_succ(l:List Int)(at0:Nat)(n:Nat):takL9 l at0 (n+1)=takL9 l at0 n++[takV9 l at0 n]:=by simp[takL9,List.range_succ]
set_option maxHeartbeats 2000000 in
theorem taken9_any(l:List Int)(at0:Nat)(hat:at0≤10000000)(n:Nat)(hn:n≤1000000)(A:Option Addr)(m cl:Nat)(w:World)(B:Nat)(hB:B≤w.heap.size)(hs:Ks w B (.slice A m cl) l)(h0:∀x∈l,0≤x∧x≤255):
 Calls Tryz.prog 64 #[.slice A m cl,.int .i64 (at0:Int),.int .i64 (n:Int)] w fun e w'=>∃v,e=.returned v∧VStk w' w.heap.size v (takL9 l at0 n)∧Below w.heap.size w w':=by
 obtain⟨A',b,o,c',e,hA,hle,hm,hc⟩:=hs.opens
 simp only[Value.slice.injEq]at e
 obtain⟨rfl,hml,rfl⟩:=e
 have HA:=Lib.hid hA
 have HC:=Lib.hid hc
 have HML:=Lib.hid hml
 have HSU:=Lib.hid (fun k=>takL9_succ l at0 k)
 have HLE:=Lib.hid (fun k=>takL9_len l at0 k)
 rw[←hml]at HA HC hm hle
 unfold maxLen at hm
 have HPOS:=Lib.hid h0
 clear hs hA hc hml h0
 obtain⟨i1,hi1,hz0,hz1,hz2⟩:=info_parts info_val
 have HI:=Lib.hid (And.intro hi1 (And.intro hz0 (And.intro hz1 hz2)))
 clear hi1 hz0 hz1 hz2
 go_enter Tryz.func64,Tryz.ntmps64
 go_wp2
 go_loopw [7,8] (fun sv ci wr=>∃k:Nat,k≤n∧ci=.int .i64 k∧Below w.heap.size w wr∧w.heap.size≤wr.heap.size∧VStk wr w.heap.size sv (takL9 l at0 k)) (fun _ ci _=>n-(intOf ci).toNat)
 case atStart=>exact⟨0,Nat.zero_le _,rfl,Below.refl _ _,Nat.le_refl _,VStk.nil _ _⟩
 case round=>
  obtain⟨k,hk,rfl,hb,hg,hst⟩:=hrel
  obtain⟨A6,c6,rfl,hle6,hc6,-⟩:=hst.form
  have hol:=HLE.out k
  rw[hol]at hle6
  by_cases hlt:k<n
  ·have hsu:=HSU.out k
   obtain⟨x,HX⟩:=named (takV9 l at0 k)
   rw[←HX.out]at hsu
   have HS:=Lib.hid hsu
   have HST:=Lib.hid hst
   have HB:=Lib.hid hb
   obtain⟨st,HL⟩:=named (takL9 l at0 k)
   rw[←HL.out]at HST hol
   rw[←HL.out,hol]
   have HST2:Hid (VStk wr w.heap.size (.slice A6 k c6) st):=Lib.hid (by have:=HST.out;rw[hol]at this;exact this)
   have HOL:=Lib.hid hol
   have HSTR:Hid (wr.ownsRow w.heap.size 77 1 (.slice A6 k c6) k (st.map (Value.int .u8))):=Lib.hid (by have:=HST2.out;unfold VStk at this;rw[HOL.out]at this;exact this)
   rw[←HL.out]at HS
   clear hsu hst hb hol
   by_cases hz:m=0
   ·subst hz
    have hx:x=2:=by rw[HX.out];unfold takV9;rw[if_pos HML.out.symm]
    subst hx
    go_wp2_with (at_builtin;refine wpList_append_own_at _ rfl _ _ 41 rfl w.heap.size 77 i1 (.int .u8 0) 1 1 Tryz.underlying41 HI.out.1 HI.out.2.1 HI.out.2.2.1 HI.out.2.2.2 rfl (by decide) _ _ _ rfl (World.ownsRow.alloc HSTR.out _) ⟨wr.heap.size,0,none⟩ 1 1 [.int .u8 2] rfl rfl (by have:=one_new wr (.int .u8 2) 77;simpa using this) (ints_oneCell .u8 [2]) (by unfold maxLen;omega) (by omega) (by first|omega|(simp;omega)) ?_;intro v' w5 hown' hgrow hnil hloc;have HF:=Lib.hid (vpush (x:=2) (by first|omega|(simp;omega)) HB.out HST2.out (by rw[HOL.out];exact hown') hgrow);have HZ:=Lib.hid hgrow.size;clear hown' hgrow hnil hloc)
    go_roundw
    case rel=>exact⟨k+1,by omega,by go_num,HF.out.1,by have:=HZ.out;simp at this;omega,by rw[HS.out];exact HF.out.2⟩
    case measure=>simp[intOf];omega
   ·have hmz:¬(m:Int)=0:=by omega
    have hmod:(at0+k)%m<m:=Nat.mod_lt _ (by omega)
    have hadd:IntKind.i64.wrap ((at0:Int)+(k:Int))=(at0:Int)+(k:Int):=(IntKind.wrap_i64 _).trans (by omega)
    have hkm:((at0:Int)+(k:Int)).tmod (m:Int)=(((at0+k)%m:Nat):Int):=by rw[Int.tmod_eq_emod_of_nonneg (by omega)];simp
    obtain rfl:=HA.out (by omega)
    obtain⟨hlb,hx1⟩:=HC.out ((at0+k)%m) hmod
    have hx2:wr.cell? ⟨b,o+((at0+k)%m),none⟩=some (.int .u8 (l.getD ((at0+k)%m) 0)):=(HB.out.cell (p:=⟨b,_,none⟩) (by show b<w.heap.size;omega)).trans hx1
    have hmem:=HPOS.out (l.getD ((at0+k)%m) 0) (by rw[List.getD_eq_getElem?_getD,List.getElem?_eq_getElem (by rw[←HML.out];exact hmod)];exact List.getElem_mem _)
    have hxv:x=(l.getD ((at0+k)%m) 0).tmod 3:=by rw[HX.out];unfold takV9;rw[if_neg (by rw[←HML.out];exact hz),←HML.out]
    obtain⟨y,HY⟩:=named (l.getD ((at0+k)%m) 0)
    rw[←HY.out]at hx2 hmem hxv
    have hye:y.tmod 3=x:=hxv.symm
    have hxb:0≤x∧x≤255:=by rw[hxv,Int.tmod_eq_emod_of_nonneg hmem.1];have h1:=Int.emod_nonneg y (by decide:(3:Int)≠0);have h2:=Int.emod_lt_of_pos y (by decide:(0:Int)<3);omega
    have hwx:IntKind.u8.wrap (y.tmod 3)=x:=by rw[hye];simp[IntKind.wrap,IntKind.bits,IntKind.signed];omega
    obtain⟨kr,HKR⟩:=named ((at0+k)%m)
    rw[←HKR.out]at hmod hkm hx2
    have hkrm:(kr:Int)<(m:Int):=by omega
    clear hx1 hxv
    go_wp2_with (at_builtin;refine wpList_append_own_at _ rfl _ _ 41 rfl w.heap.size 77 i1 (.int .u8 0) 1 1 Tryz.underlying41 HI.out.1 HI.out.2.1 HI.out.2.2.1 HI.out.2.2.2 rfl (by decide) _ _ _ rfl (World.ownsRow.alloc HSTR.out _) ⟨wr.heap.size,0,none⟩ 1 1 [.int .u8 x] rfl rfl (by have:=one_new wr (.int .u8 x) 77;simpa using this) (ints_oneCell .u8 [x]) (by unfold maxLen;omega) (by omega) (by first|omega|(simp;omega)) ?_;intro v' w5 hown' hgrow hnil hloc;have HF:=Lib.hid (vpush (x:=x) (by first|omega|(simp;omega)) HB.out HST2.out (by rw[HOL.out];exact hown') hgrow);have HZ:=Lib.hid hgrow.size;clear hown' hgrow hnil hloc)
    go_roundw
    case rel=>exact⟨k+1,by omega,by go_num,HF.out.1,by have:=HZ.out;simp at this;omega,by rw[HS.out];exact HF.out.2⟩
    case measure=>simp[intOf];omega
  ·obtain rfl:n=k:=by omega
   go_wp2
   go_ret
   exact⟨_,rfl,hst,hb⟩
def LnAt(w:World)(_B b p:Nat)(x:Int×Int):Prop:=w.cell? ⟨b,p,none⟩=some (.int .i64 x.1)∧w.cell? ⟨b,p+1,none⟩=some (.int .i64 x.2)
def Lns(w:World)(B:Nat)(v:Value)(l:List (Int×Int)):Prop:=Arr (0,0) 2 LnAt w B v l
def LnsAt(w:World)(B b p:Nat)(l:List (Int×Int)):Prop:=∃A,w.cell? ⟨b,p,none⟩=some (.slice A l.length l.length)∧Lns w B (.slice A l.length l.length) l
def Fos(w:World)(B:Nat)(v:Value)(l:List (List (Int×Int))):Prop:=Arr [] 1 LnsAt w B v l
theorem own_form{w:World}{base:Nat}{e:TypeId}{size:Nat}{v:Value}{n:Nat}{xs:List Value}(h:w.ownsRow base e size v n xs):∃A c,v=.slice A n c:=by
 rcases h.2 with⟨rfl,hn⟩| ⟨g,cap,cur,rfl,-⟩
 ·exact⟨none,0,by rw[hn]⟩
 ·exact⟨_,cap,rfl⟩
theorem isK_one(x k:Int):isK [k] x=(x==k):=by simp[isK,anyP]
theorem Stk.all{w:World}{g:Nat}{v:Value}{l:List Int}(h:Stk w g v l)(hm:l.length≤maxLen):Is w w.heap.size v l:=by
 obtain⟨A,c,rfl,hle,-,-⟩:=h.form
 exact h.reads c hle hm
set_option maxHeartbeats 4000000 in
theorem refOf_any(c:Ck)(kd0:Int)(v:Value)(w:World)(B:Nat)(hB:B≤w.heap.size)(hc:Cir w B v c)(hsz:c.nodes.length≤1000000):
 Calls Tryz.prog 43 #[v,.int .u8 kd0] w fun e w'=>(∃s,e=.returned s∧Is w' w'.heap.size s (ofTo c.nodes [kd0] c.nodes.length))∧Below w.heap.size w w':=by
 obtain⟨v0,v1,v2,v3,rfl,hns,hss,hms,hos⟩:=hc
 obtain⟨A0,b,o,c0,rfl,hA,-,-,hcell⟩:=id hns
 obtain⟨A1,b1,o1,c1,rfl,-⟩:=id hss
 obtain⟨A2,b2,o2,c2,rfl,-⟩:=id hms
 obtain⟨A3,b3,o3,c3,rfl,-⟩:=id hos
 have hbW:Below w.heap.size w (w.alloc (.cells #[.slice A0 c.nodes.length c0,.slice A1 c.names.length c1,.slice A2 c.mems.length c2,.slice A3 c.outs.length c3] 39)):=(Below.refl _ _).alloc (Nat.le_refl _) _
 have hbx:(w.alloc (.cells #[.slice A0 c.nodes.length c0,.slice A1 c.names.length c1,.slice A2 c.mems.length c2,.slice A3 c.outs.length c3] 39)).cell? ⟨w.heap.size,0,none⟩=some (.slice A0 c.nodes.length c0):=by
  rw[World.cell?_alloc_at _ _ _ _ rfl];rfl
 have HCE:=Lib.hid hcell
 have HAA:=Lib.hid hA
 clear hns hss hms hos hcell hA
 generalize c.names.length=n1 at hbW hbx ⊢
 generalize c.mems.length=n2 at hbW hbx ⊢
 generalize c.outs.length=n3 at hbW hbx ⊢
 obtain⟨n,HN⟩:=named c.nodes.length
 rw[←HN.out]at hbW hsz hbx
 rw[←HN.out]
 obtain⟨W,HW⟩:=named (w.alloc (.cells #[.slice A0 n c0,.slice A1 n1 c1,.slice A2 n2 c2,.slice A3 n3 c3] 39))
 have hzW:W.heap.size=w.heap.size+1:=by rw[HW.out];simp
 rw[←HW.out]at hbW hbx
 have HBW:=Lib.hid hbW
 have HZW:=Lib.hid hzW
 have HBX:=Lib.hid hbx
 clear hbW hzW hbx
 go_enter Tryz.func43,Tryz.ntmps43
 go_wp2
 go_loopw [6,5] (fun i sv wr=>∃k:Nat,k≤n∧i=.int .i64 k∧Below (w.heap.size+1) W wr∧Stk wr (w.heap.size+1) sv (ofTo c.nodes [kd0] k)) (fun i _ _=>n-(intOf i).toNat)
 case atStart=>exact⟨0,Nat.zero_le _,rfl,by rw[←HW.out];exact Below.refl _ _,Stk.nil _ _⟩
 case round=>
  obtain⟨k,hk,rfl,hb,hst⟩:=hrel
  have hgz:w.heap.size+1≤wr.heap.size:=by have:=hb.size;have:=HZW.out;omega
  obtain⟨A6,c6,rfl,hle6,hc6,hsh⟩:=hst.shape
  have hbox:wr.cell? ⟨w.heap.size,0,none⟩=some (.slice A0 n c0):=(hb.cell (p:=⟨w.heap.size,0,none⟩) (by show w.heap.size<w.heap.size+1;omega)).trans HBX.out
  have hol:=ofTo_len c.nodes [kd0] k
  by_cases hlt:k<n
  ·obtain rfl:=HAA.out (by rw[←HN.out];omega)
   obtain⟨hlb,s,h0,-⟩:=HCE.out k (by rw[←HN.out];exact hlt)
   have hsu:=ofTo_succ c.nodes [kd0] k
   have hlb':b<w.heap.size:=by omega
   have e0:wr.cell? ⟨b,o+k*4,none⟩=_:=(hb.cell (p:=⟨b,o+k*4,none⟩) (by show b<w.heap.size+1;omega)).trans ((HBW.out.cell (p:=⟨b,o+k*4,none⟩) hlb').trans h0)
   obtain⟨kd,HKD⟩:=named (c.nodes.getD k default).kind
   rw[←HKD.out]at e0 hsu
   rw[isK_one]at hsu
   have HST:=Lib.hid hst
   have HB:=Lib.hid hb
   have HOL:=Lib.hid hol
   clear hst hb h0 hol
   obtain⟨L,HL⟩:=named (ofTo c.nodes [kd0] k)
   rw[←HL.out]at hsu HST HOL hle6 hsh
   rw[←HL.out]
   cases hv:kd==kd0
   ·rw[hv]at hsu
    rw[if_neg (by decide),List.append_nil]at hsu
    have HSU:=Lib.hid hsu
    clear hsu hsh
    go_wp2
    go_roundw
    case rel=>
     refine⟨k+1,by omega,by go_num,HB.out,?_⟩
     rw[HSU.out];exact HST.out
    case measure=>simp[intOf];omega
   ·rw[hv]at hsu
    rw[if_pos rfl]at hsu
    have HSU:=Lib.hid hsu
    clear hsu hsh
    obtain⟨i1,hi1,hz0,hz1,hz2⟩:=info_parts info_int
    have HI:=Lib.hid (And.intro hi1 (And.intro hz0 (And.intro hz1 hz2)))
    clear hi1 hz0 hz1 hz2
    go_wp2_with (at_builtin;refine wpList_append_own_at _ rfl _ _ 37 rfl (w.heap.size+1) 3 i1 (.int .i64 0) 1 8 Tryz.underlying37 HI.out.1 HI.out.2.1 HI.out.2.2.1 HI.out.2.2.2 rfl (by decide) _ _ _ rfl (World.ownsRow.alloc HST.out _) ⟨wr.heap.size,0,none⟩ 1 1 [.int .i64 (k:Int)] rfl rfl (one_new _ _ _) (ints_oneCell .i64 [(k:Int)]) (by unfold maxLen;have:=HOL.out;omega) (by have:=HOL.out;omega) (by simp;omega) ?_;intro v' w2 hown' hgrow hnil hloc;have HF:=Lib.hid (push_own hgz HB.out HST.out hown' hgrow);clear hown' hgrow hnil hloc)
    go_roundw
    case rel=>
     refine⟨k+1,by omega,by go_num,HF.out.1,?_⟩
     rw[HSU.out];exact HF.out.2
    case measure=>simp[intOf];omega
  ·obtain rfl:n=k:=by omega
   have hr:=hst.all (by unfold maxLen;omega)
   have HR:=Lib.hid hr
   have HB:=Lib.hid (HBW.out.trans (hb.mono (Nat.le_succ _)))
   clear hr hb hst hsh hle6
   generalize (ofTo c.nodes [kd0] n).length=m at HR ⊢
   go_wp2
   go_ret
   exact⟨⟨_,rfl,HR.out⟩,HB.out⟩
def alw(k n:Int):Bool:=if k=1∨k=2 then n==0 else if k=3∨k=4 then n==1 else if k=11 then n==3 else if k=12 then n==2 else if k=13 then decide (1≤n)&&decide (n≤16) else decide (5≤k)&&decide (k≤10)&&decide (2≤n)&&decide (n≤16)
end Go.Proofs.YtemjmfpcopfdbaaGreatDoor
