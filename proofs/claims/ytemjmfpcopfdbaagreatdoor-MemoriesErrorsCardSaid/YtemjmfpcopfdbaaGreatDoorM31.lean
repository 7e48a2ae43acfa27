/- The texts Tk9 Ows Owx Mm9 Ss9 Wy9. -/
import Derived.Test.YtemjmfpcopfdbaaGreatDoorM30
import Derived.Test.YtemjmfpcopfdbaaGreatDoorM15
import Derived.Test.YtemjmfpcopfdbaaGreatDoorM13
namespace Go.Proofs.YtemjmfpcopfdbaaGreatDoor
open Go.RowKit
def takV9(l:List Int)(at0:Nat)(i:Nat):Int:=if l.length=0 then 2 else (l.getD ((at0+i)%l.length) 0).tmod 3
def takL9(l:List Int)(at0:Nat)(n:Nat):List Int:=(List.range n).map (takV9 l at0)
theorem takL9_len(l:List Int)(at0:Nat)(n:Nat):(takL9 l at0 n).length=n:=by simp[takL9]
theorem takL9_succ(l:List Int)(at0:Nat)(n:Nat):takL9 l at0 (n+1)=takL9 l at0 n++[takV9 l at0 n]:=by simp[takL9,List.range_succ]
set_option maxHeartbeats 2000000 in
theorem taken9_any(l:List Int)(at0:Nat)(hat:at0≤10000000)(n:Nat)(hn:n≤1000000)(A:Option Addr)(m cl:Nat)(w:World)(B:Nat)(hB:B≤w.heap.size)(hs:Ks w B (.slice A m cl) l)(h0:∀x∈l,0≤x∧x≤255):
 Calls Tryz.prog 64 #[.slice A m cl,.int .i64 (at0:Int),.int .i64 (n:Int)] w fun e w'=>∃v,e=.returned v∧VStk w' w.heap.size v (takL9 l at0 n)∧Below w.heap.size w w':=by
 obtain⟨A',b,o,c',e,hA,hle,hm,hc⟩:=hs.opens
 simp only[Value.slice.injEq]at e
 obtain⟨rfl,hml,rfl⟩:=e
 have HA:=Lib.hid hA
 have HC:=Lib.hid hc
 have HML:=Lib.hid hml
 have HSU:=Lib.hid (fun k=>takL9_succ l at0 k)
 have HLE:=Lib.hid (fun k=>takL9_len l at0 k)
 rw[←hml]at HA HC hm hle
 unfold maxLen at hm
 have HPOS:=Lib.hid h0
 clear hs hA hc hml h0
 obtain⟨i1,hi1,hz0,hz1,hz2⟩:=info_parts info_val
 have HI:=Lib.hid (And.intro hi1 (And.intro hz0 (And.intro hz1 hz2)))
 clear hi1 hz0 hz1 hz2
 go_enter Tryz.func64,Tryz.ntmps64
 go_wp2
 go_loopw [7,8] (fun sv ci wr=>∃k:Nat,k≤n∧ci=.int .i64 k∧Below w.heap.size w wr∧w.heap.size≤wr.heap.size∧VStk wr w.heap.size sv (takL9 l at0 k)) (fun _ ci _=>n-(intOf ci).toNat)
 case atStart=>exact⟨0,Nat.zero_le _,rfl,Below.refl _ _,Nat.le_refl _,VStk.nil _ _⟩
 case round=>
  obtain⟨k,hk,rfl,hb,hg,hst⟩:=hrel
  obtain⟨A6,c6,rfl,hle6,hc6,-⟩:=hst.form
  have hol:=HLE.out k
  rw[hol]at hle6
  by_cases hlt:k<n
  ·have hsu:=HSU.out k
   obtain⟨x,HX⟩:=named (takV9 l at0 k)
   rw[←HX.out]at hsu
   have HS:=Lib.hid hsu
   have HST:=Lib.hid hst
   have HB:=Lib.hid hb
   obtain⟨st,HL⟩:=named (takL9 l at0 k)
   rw[←HL.out]at HST hol
   rw[←HL.out,hol]
   have HST2:Hid (VStk wr w.heap.size (.slice A6 k c6) st):=Lib.hid (by have:=HST.out;rw[hol]at this;exact this)
   have HOL:=Lib.hid hol
   have HSTR:Hid (wr.ownsRow w.heap.size 77 1 (.slice A6 k c6) k (st.map (Value.int .u8))):=Lib.hid (by have:=HST2.out;unfold VStk at this;rw[HOL.out]at this;exact this)
   rw[←HL.out]at HS
   clear hsu hst hb hol
   by_cases hz:m=0
   ·subst hz
    have hx:x=2:=by rw[HX.out];unfold takV9;rw[if_pos HML.out.symm]
    subst hx
    go_wp2_with (at_builtin;refine wpList_append_own_at _ rfl _ _ 41 rfl w.heap.size 77 i1 (.int .u8 0) 1 1 Tryz.underlying41 HI.out.1 HI.out.2.1 HI.out.2.2.1 HI.out.2.2.2 rfl (by decide) _ _ _ rfl (World.ownsRow.alloc HSTR.out _) ⟨wr.heap.size,0,none⟩ 1 1 [.int .u8 2] rfl rfl (by have:=one_new wr (.int .u8 2) 77;simpa using this) (ints_oneCell .u8 [2]) (by unfold maxLen;omega) (by omega) (by first|omega|(simp;omega)) ?_;intro v' w5 hown' hgrow hnil hloc;have HF:=Lib.hid (vpush (x:=2) (by first|omega|(simp;omega)) HB.out HST2.out (by rw[HOL.out];exact hown') hgrow);have HZ:=Lib.hid hgrow.size;clear hown' hgrow hnil hloc)
    go_roundw
    case rel=>exact⟨k+1,by omega,by go_num,HF.out.1,by have:=HZ.out;simp at this;omega,by rw[HS.out];exact HF.out.2⟩
    case measure=>simp[intOf];omega
   ·have hmz:¬(m:Int)=0:=by omega
    have hmod:(at0+k)%m<m:=Nat.mod_lt _ (by omega)
    have hadd:IntKind.i64.wrap ((at0:Int)+(k:Int))=(at0:Int)+(k:Int):=(IntKind.wrap_i64 _).trans (by omega)
    have hkm:((at0:Int)+(k:Int)).tmod (m:Int)=(((at0+k)%m:Nat):Int):=by rw[Int.tmod_eq_emod_of_nonneg (by omega)];simp
    obtain rfl:=HA.out (by omega)
    obtain⟨hlb,hx1⟩:=HC.out ((at0+k)%m) hmod
    have hx2:wr.cell? ⟨b,o+((at0+k)%m),none⟩=some (.int .u8 (l.getD ((at0+k)%m) 0)):=(HB.out.cell (p:=⟨b,_,none⟩) (by show b<w.heap.size;omega)).trans hx1
    have hmem:=HPOS.out (l.getD ((at0+k)%m) 0) (by rw[List.getD_eq_getElem?_getD,List.getElem?_eq_getElem (by rw[←HML.out];exact hmod)];exact List.getElem_mem _)
    have hxv:x=(l.getD ((at0+k)%m) 0).tmod 3:=by rw[HX.out];unfold takV9;rw[if_neg (by rw[←HML.out];exact hz),←HML.out]
    obtain⟨y,HY⟩:=named (l.getD ((at0+k)%m) 0)
    rw[←HY.out]at hx2 hmem hxv
    have hye:y.tmod 3=x:=hxv.symm
    have hxb:0≤x∧x≤255:=by rw[hxv,Int.tmod_eq_emod_of_nonneg hmem.1];have h1:=Int.emod_nonneg y (by decide:(3:Int)≠0);have h2:=Int.emod_lt_of_pos y (by decide:(0:Int)<3);omega
    have hwx:IntKind.u8.wrap (y.tmod 3)=x:=by rw[hye];simp[IntKind.wrap,IntKind.bits,IntKind.signed];omega
    obtain⟨kr,HKR⟩:=named ((at0+k)%m)
    rw[←HKR.out]at hmod hkm hx2
    have hkrm:(kr:Int)<(m:Int):=by omega
    clear hx1 hxv
    go_wp2_with (at_builtin;refine wpList_append_own_at _ rfl _ _ 41 rfl w.heap.size 77 i1 (.int .u8 0) 1 1 Tryz.underlying41 HI.out.1 HI.out.2.1 HI.out.2.2.1 HI.out.2.2.2 rfl (by decide) _ _ _ rfl (World.ownsRow.alloc HSTR.out _) ⟨wr.heap.size,0,none⟩ 1 1 [.int .u8 x] rfl rfl (by have:=one_new wr (.int .u8 x) 77;simpa using this) (ints_oneCell .u8 [x]) (by unfold maxLen;omega) (by omega) (by first|omega|(simp;omega)) ?_;intro v' w5 hown' hgrow hnil hloc;have HF:=Lib.hid (vpush (x:=x) (by first|omega|(simp;omega)) HB.out HST2.out (by rw[HOL.out];exact hown') hgrow);have HZ:=Lib.hid hgrow.size;clear hown' hgrow hnil hloc)
    go_roundw
    case rel=>exact⟨k+1,by omega,by go_num,HF.out.1,by have:=HZ.out;simp at this;omega,by rw[HS.out];exact HF.out.2⟩
    case measure=>simp[intOf];omega
  ·obtain rfl:n=k:=by omega
   go_wp2
   go_ret
   exact⟨_,rfl,hst,hb⟩
theorem own_ne9{w:World}{b b':Nat}{e e':TypeId}{s s' n n':Nat}{v u:Value}{xs ys:List Value}(he:e≠e')(h:w.ownsRow b e s v n xs)(h':w.ownsRow b' e' s' u n' ys):u.ownBlock=none∨u.ownBlock≠v.ownBlock:=by
 rcases h'.2 with⟨rfl,-⟩| ⟨g',c',cur',rfl,-,hg',-⟩
 ·exact .inl rfl
 ·refine .inr fun e1=>?_
  rcases h.2 with⟨rfl,-⟩| ⟨g,c,cur,rfl,-,hg,-⟩
  ·simp[Value.ownBlock]at e1
  ·simp only[Value.ownBlock,Option.some.injEq]at e1
   rw[e1]at hg'
   have h2:=Option.some.inj (hg.symm.trans hg')
   injection h2 with _ h3 _
   exact he h3
theorem own_bel{w w':World}{b n s:Nat}{e:TypeId}{v:Value}{xs:List Value}(h:w.ownsRow b e s v n xs)(hb:BelW w w'):w'.ownsRow b e s v n xs:=by
 refine World.ownsRow.kept h (row:=none) ⟨hb.os,hb.tape,hb.output,hb.size,fun i hi _=>hb.block i hi⟩ ?_
 rcases ho:v.ownBlock with _|q
 ·exact .inl rfl
 ·exact .inr (by simp)
theorem own_set{w:World}{b g n s:Nat}{e t:TypeId}{v:Value}{xs cs:List Value}(h:w.ownsRow b e s v n xs)(hf:Fr w g t cs)(he:t≠e)(j:Nat)(x:Value):(w.setCell ⟨g,j,none⟩ x).ownsRow b e s v n xs:=by
 refine World.ownsRow.kept h (grown_v (g:=g) (World.grownBy.refl w _) j x) ?_
 rcases h.2 with⟨rfl,-⟩| ⟨g',c',cur',rfl,-,hg',-⟩
 ·exact .inl rfl
 ·refine .inr fun e1=>?_
  simp only[Value.ownBlock,Option.some.injEq]at e1
  subst e1
  unfold Fr at hf
  have h2:=Option.some.inj (hf.symm.trans hg')
  injection h2 with _ h3 _
  exact he h3
theorem VStk.keptT{w w':World}{B:Nat}{v:Value}{l:List Int}(h:VStk w B v l){b s n:Nat}{e:TypeId}{u:Value}{xs:List Value}(hu:w.ownsRow b e s u n xs)(q1:e≠77)(hg:w.grownBy w' u.ownBlock):VStk w' B v l:=World.ownsRow.kept h hg (own_ne9 q1 hu h)
theorem VStk.setF{w:World}{B:Nat}{v:Value}{l:List Int}(h:VStk w B v l){g:Nat}{t:TypeId}{cs:List Value}(hf:Fr w g t cs)(q1:t≠77)(j:Nat)(x:Value):VStk (w.setCell ⟨g,j,none⟩ x) B v l:=own_set h hf q1 j x
def WS(w:World)(B:Nat)(v:Value)(l:List (List Int)):Prop:=
 ∃vs:List Value,vs.length=l.length∧w.ownsRow B 41 1 v l.length vs∧∀j,j<l.length→∃A c,vs[j]? =some (.slice A (l.getD j []).length c)∧VStk w B (.slice A (l.getD j []).length c) (l.getD j [])
section
variable {w w':World} {B:Nat} {v v':Value} {l:List (List Int)}
theorem WS.nil(w:World)(B:Nat):WS w B (.slice none 0 0) []:=⟨[],rfl,World.ownsRow_nil _ _ _ _,fun j hj=>absurd hj (by simp)⟩
theorem WS.below(h:WS w B v l)(hb:BelW w w'):WS w' B v l:=by
 obtain⟨vs,h1,h2,h3⟩:=h
 exact⟨vs,h1,own_bel h2 hb,fun j hj=>by obtain⟨A,c,e,hp⟩:=h3 j hj;exact⟨A,c,e,hp.below hb⟩⟩
theorem WS.keptT(h:WS w B v l){b s n:Nat}{e:TypeId}{u:Value}{xs:List Value}(hu:w.ownsRow b e s u n xs)(q1:e≠41)(q2:e≠77)(hg:w.grownBy w' u.ownBlock):WS w' B v l:=by
 obtain⟨vs,h1,h2,h3⟩:=h
 exact⟨vs,h1,World.ownsRow.kept h2 hg (own_ne9 q1 hu h2),fun j hj=>by
  obtain⟨A,c,e,hp⟩:=h3 j hj
  exact⟨A,c,e,hp.keptT hu q2 hg⟩⟩
theorem WS.setF(h:WS w B v l){g:Nat}{t:TypeId}{cs:List Value}(hf:Fr w g t cs)(q1:t≠41)(q2:t≠77)(j:Nat)(x:Value):WS (w.setCell ⟨g,j,none⟩ x) B v l:=by
 obtain⟨vs,h1,h2,h3⟩:=h
 exact⟨vs,h1,own_set h2 hf q1 j x,fun j hj=>by
  obtain⟨A,c,e,hp⟩:=h3 j hj
  exact⟨A,c,e,hp.setF hf q2 _ x⟩⟩
theorem WS.add{vs:List Value}{p:List Int}{A:Option Addr}{c:Nat}(h1:vs.length=l.length)(h2:w.ownsRow B 41 1 v l.length vs)(h3:∀j,j<l.length→∃A c,vs[j]? =some (.slice A (l.getD j []).length c)∧VStk w B (.slice A (l.getD j []).length c) (l.getD j []))
 (hg:w.grownBy w' v.ownBlock) (ho:w'.ownsRow B 41 1 v' (l.length+1) (vs++[.slice A p.length c])) (hp:VStk w B (.slice A p.length c) p):WS w' B v' (l++[p]):=by
 have hlen:(l++[p]).length=l.length+1:=by simp
 refine⟨vs++[.slice A p.length c],by simp[h1],by rw[hlen];exact ho,fun j hj=>?_⟩
 by_cases hlt:j<l.length
 ·obtain⟨A',c',e,hp'⟩:=h3 j hlt
  have e2:(l++[p]).getD j []=l.getD j []:=by rw[List.getD_eq_getElem?_getD,List.getElem?_append_left hlt,←List.getD_eq_getElem?_getD]
  rw[e2]
  exact⟨A',c',by rw[List.getElem?_append_left (by omega)];exact e,hp'.keptT h2 (by decide) hg⟩
 ·obtain rfl:j=l.length:=by omega
  have e2:(l++[p]).getD l.length []=p:=by rw[List.getD_eq_getElem?_getD,List.getElem?_append_right (Nat.le_refl _),Nat.sub_self];rfl
  rw[e2]
  exact⟨A,c,by rw[List.getElem?_append_right (by omega),h1,Nat.sub_self];rfl,hp.keptT h2 (by decide) hg⟩
end
def WWS(w:World)(B:Nat)(v:Value)(l:List (List (List Int))):Prop:=
 ∃vs:List Value,vs.length=l.length∧w.ownsRow B 43 1 v l.length vs∧∀j,j<l.length→∃A c,vs[j]? =some (.slice A (l.getD j []).length c)∧WS w B (.slice A (l.getD j []).length c) (l.getD j [])
section
variable {w w':World} {B:Nat} {v v':Value} {l:List (List (List Int))}
end
theorem WS.wds{w:World}{B:Nat}{v:Value}{l:List (List Int)}(h:WS w B v l):Wrds w w.heap.size v l:=by
 obtain⟨vs,h1,h2,h3⟩:=h
 rcases id h2.2 with⟨rfl,h0⟩| ⟨g,cap,cur,rfl,hb,hg,hle,hm,-⟩
 ·obtain rfl:l=[]:=List.eq_nil_of_length_eq_zero h0
  exact Arr.nil _ _ _ _ _
 ·refine⟨some ⟨g,0,none⟩,g,0,cap,rfl,fun _=>rfl,hle,Nat.le_trans hle hm,fun k hk=>⟨(World.ownsRow.lt h2 g rfl).2,?_⟩⟩
  obtain⟨A,c,e,hp⟩:=h3 k hk
  refine⟨A,c,?_,hp.ks⟩
  rw[Nat.zero_add,Nat.mul_one,World.ownsRow.cellAt h2 k (by omega),e]
theorem WWS.wwss{w:World}{B:Nat}{v:Value}{l:List (List (List Int))}(h:WWS w B v l):Wwss w w.heap.size v l:=by
 obtain⟨vs,h1,h2,h3⟩:=h
 rcases id h2.2 with⟨rfl,h0⟩| ⟨g,cap,cur,rfl,hb,hg,hle,hm,-⟩
 ·obtain rfl:l=[]:=List.eq_nil_of_length_eq_zero h0
  exact Arr.nil _ _ _ _ _
 ·refine⟨some ⟨g,0,none⟩,g,0,cap,rfl,fun _=>rfl,hle,Nat.le_trans hle hm,fun k hk=>⟨(World.ownsRow.lt h2 g rfl).2,?_⟩⟩
  obtain⟨A,c,e,hp⟩:=h3 k hk
  refine⟨A,c,?_,hp.wds⟩
  rw[Nat.zero_add,Nat.mul_one,World.ownsRow.cellAt h2 k (by omega),e]
def Apart(x v:Value):Prop:=v.ownBlock=none∨v.ownBlock≠x.ownBlock
theorem WS.keptO{w w':World}{B:Nat}{v:Value}{l:List (List Int)}(h:WS w B v l){b s n:Nat}{u:Value}{xs:List Value}(hu:w.ownsRow b 41 s u n xs)(ha:Apart u v)(hg:w.grownBy w' u.ownBlock):WS w' B v l:=by
 obtain⟨vs,h1,h2,h3⟩:=h
 exact⟨vs,h1,World.ownsRow.kept h2 hg ha,fun j hj=>by
  obtain⟨A,c,e,hp⟩:=h3 j hj
  exact⟨A,c,e,hp.keptT hu (by decide) hg⟩⟩
theorem WS.lt{w:World}{B:Nat}{v:Value}{l:List (List Int)}(h:WS w B v l){q:Nat}(hq:v.ownBlock=some q):B≤q∧q<w.heap.size:=by
 obtain⟨vs,h1,h2,-⟩:=h
 exact World.ownsRow.lt h2 q hq
theorem WS.low{w:World}{B B':Nat}{v:Value}{l:List (List Int)}(h:WS w B v l)(hb:B'≤B):WS w B' v l:=by
 obtain⟨vs,h1,h2,h3⟩:=h
 refine⟨vs,h1,⟨h2.1,?_⟩,fun j hj=>by
  obtain⟨A,c,e,hp⟩:=h3 j hj
  exact⟨A,c,e,hp.low hb⟩⟩
 rcases h2.2 with h4| ⟨g,cap,cur,e,hb',h4⟩
 ·exact .inl h4
 ·exact .inr ⟨g,cap,cur,e,Nat.le_trans hb hb',h4⟩
def WWX(x:Value)(w:World)(B:Nat)(v:Value)(l:List (List (List Int))):Prop:=
 ∃vs:List Value,vs.length=l.length∧w.ownsRow B 43 1 v l.length vs∧∀j,j<l.length→∃A c,vs[j]? =some (.slice A (l.getD j []).length c)∧WS w B (.slice A (l.getD j []).length c) (l.getD j [])∧Apart x (.slice A (l.getD j []).length c)
section
variable {x x':Value} {w w':World} {B:Nat} {v v':Value} {l:List (List (List Int))}
theorem WWX.nil(x:Value)(w:World)(B:Nat):WWX x w B (.slice none 0 0) []:=⟨[],rfl,World.ownsRow_nil _ _ _ _,fun j hj=>absurd hj (by simp)⟩
theorem WWX.wws(h:WWX x w B v l):WWS w B v l:=by
 obtain⟨vs,h1,h2,h3⟩:=h
 exact⟨vs,h1,h2,fun j hj=>by obtain⟨A,c,e,hp,-⟩:=h3 j hj;exact⟨A,c,e,hp⟩⟩
theorem WWX.below(h:WWX x w B v l)(hb:BelW w w'):WWX x w' B v l:=by
 obtain⟨vs,h1,h2,h3⟩:=h
 exact⟨vs,h1,own_bel h2 hb,fun j hj=>by obtain⟨A,c,e,hp,ha⟩:=h3 j hj;exact⟨A,c,e,hp.below hb,ha⟩⟩
theorem WWX.grow(h:WWX x w B v l){b s n:Nat}{xs:List Value}(hu:w.ownsRow b 41 s x n xs)(hg:w.grownBy w' x.ownBlock)(hl:x'.ownBlock=x.ownBlock∨x'.ownBlock=some w.heap.size):WWX x' w' B v l:=by
 obtain⟨vs,h1,h2,h3⟩:=h
 refine⟨vs,h1,World.ownsRow.kept h2 hg (own_ne9 (by decide) hu h2),fun j hj=>?_⟩
 obtain⟨A,c,e,hp,ha⟩:=h3 j hj
 refine⟨A,c,e,hp.keptO hu ha hg,?_⟩
 rcases hl with hl|hl
 ·unfold Apart;rw[hl];exact ha
 ·rcases ho:(Value.slice A (l.getD j []).length c).ownBlock with _|q
  ·exact .inl ho
  ·refine .inr fun e1=>?_
   have h4:=(hp.lt ho).2
   rw[ho,hl]at e1
   injection e1 with e1
   omega
theorem WWX.setF(h:WWX x w B v l){g:Nat}{t:TypeId}{cs:List Value}(hf:Fr w g t cs)(q1:t≠43)(q2:t≠41)(q3:t≠77)(j:Nat)(y:Value):WWX x (w.setCell ⟨g,j,none⟩ y) B v l:=by
 obtain⟨vs,h1,h2,h3⟩:=h
 exact⟨vs,h1,own_set h2 hf q1 j y,fun j hj=>by
  obtain⟨A,c,e,hp,ha⟩:=h3 j hj
  exact⟨A,c,e,hp.setF hf q2 q3 _ y,ha⟩⟩
theorem WWX.add{vs:List Value}{p:List (List Int)}{A:Option Addr}{c:Nat}(h1:vs.length=l.length)(h2:w.ownsRow B 43 1 v l.length vs)(h3:∀j,j<l.length→∃A c,vs[j]? =some (.slice A (l.getD j []).length c)∧WS w B (.slice A (l.getD j []).length c) (l.getD j [])∧Apart x (.slice A (l.getD j []).length c))
 (hg:w.grownBy w' v.ownBlock) (ho:w'.ownsRow B 43 1 v' (l.length+1) (vs++[.slice A p.length c])) (hp:WS w B (.slice A p.length c) p) (hpx:Apart x (.slice A p.length c)):WWX x w' B v' (l++[p]):=by
 have hlen:(l++[p]).length=l.length+1:=by simp
 refine⟨vs++[.slice A p.length c],by simp[h1],by rw[hlen];exact ho,fun j hj=>?_⟩
 by_cases hlt:j<l.length
 ·obtain⟨A',c',e,hp',ha⟩:=h3 j hlt
  have e2:(l++[p]).getD j []=l.getD j []:=by rw[List.getD_eq_getElem?_getD,List.getElem?_append_left hlt,←List.getD_eq_getElem?_getD]
  rw[e2]
  exact⟨A',c',by rw[List.getElem?_append_left (by omega)];exact e,hp'.keptT h2 (by decide) (by decide) hg,ha⟩
 ·obtain rfl:j=l.length:=by omega
  have e2:(l++[p]).getD l.length []=p:=by rw[List.getD_eq_getElem?_getD,List.getElem?_append_right (Nat.le_refl _),Nat.sub_self];rfl
  rw[e2]
  exact⟨A,c,by rw[List.getElem?_append_right (by omega),h1,Nat.sub_self];rfl,hp.keptT h2 (by decide) (by decide) hg,hpx⟩
end
open Lg
def LeW(a b:List (List Int)):Prop:=∀k,LeL (a.getD k []) (b.getD k [])
def posS(ms:List Mm)(ns:Nat):Nat→Nat
 |0=>ns
 |k+1=>posS ms ns k+blN ms k*(ms.getD k default).data.length+(ms.getD k default).data.length
def sofS(c:Ck)(ns m:Nat)(l:List Int):Stt:=
 ⟨takL9 l 0 ns,(List.range m).map fun k=>(List.range (blN c.mems k)).map fun i=>takL9 l (posS c.mems ns k+i*(c.mems.getD k default).data.length) (c.mems.getD k default).data.length,
  (List.range m).map fun k=>takL9 l (posS c.mems ns k+blN c.mems k*(c.mems.getD k default).data.length) (c.mems.getD k default).data.length⟩
structure LeS(s t:Stt):Prop where
 d:Lg.LeL s.dff t.dff
 wl:s.words.length=t.words.length
 wk:∀k,(s.words.getD k []).length=(t.words.getD k []).length∧∀i,Lg.LeL ((s.words.getD k []).getD i []) ((t.words.getD k []).getD i [])
 rl:s.read.length=t.read.length
 r:LeW s.read t.read
theorem WS.setS{w:World}{B:Nat}{v:Value}{l:List (List Int)}(h:WS w B v l){a:Addr}(ha:a.block<B)(x:Value):WS (w.setCell a x) B v l:=by
 obtain⟨vs,h1,h2,h3⟩:=h
 refine⟨vs,h1,World.ownsRow.kept h2 (row:=some a.block) ⟨rfl,rfl,rfl,by simp[World.setCell],fun i _ hne=>Below.heap_setCell _ _ _ _ (fun e=>hne (by rw[e]))⟩ ?_,fun j hj=>by
  obtain⟨A,c,e,hp⟩:=h3 j hj
  exact⟨A,c,e,hp.setS ha x⟩⟩
 rcases ho:v.ownBlock with _|q
 ·exact .inl rfl
 ·have:=(World.ownsRow.lt h2 q ho).1
  exact .inr fun e=>by injection e with e;omega
theorem WWS.setS{w:World}{B:Nat}{v:Value}{l:List (List (List Int))}(h:WWS w B v l){a:Addr}(ha:a.block<B)(x:Value):WWS (w.setCell a x) B v l:=by
 obtain⟨vs,h1,h2,h3⟩:=h
 refine⟨vs,h1,World.ownsRow.kept h2 (row:=some a.block) ⟨rfl,rfl,rfl,by simp[World.setCell],fun i _ hne=>Below.heap_setCell _ _ _ _ (fun e=>hne (by rw[e]))⟩ ?_,fun j hj=>by
  obtain⟨A,c,e,hp⟩:=h3 j hj
  exact⟨A,c,e,hp.setS ha x⟩⟩
 rcases ho:v.ownBlock with _|q
 ·exact .inl rfl
 ·have:=(World.ownsRow.lt h2 q ho).1
  exact .inr fun e=>by injection e with e;omega
theorem WWS.low{w:World}{B B':Nat}{v:Value}{l:List (List (List Int))}(h:WWS w B v l)(hb:B'≤B):WWS w B' v l:=by
 obtain⟨vs,h1,h2,h3⟩:=h
 refine⟨vs,h1,⟨h2.1,?_⟩,fun j hj=>by
  obtain⟨A,c,e,hp⟩:=h3 j hj
  exact⟨A,c,e,hp.low hb⟩⟩
 rcases h2.2 with h4| ⟨g,cap,cur,e,hb',h4⟩
 ·exact .inl h4
 ·exact .inr ⟨g,cap,cur,e,Nat.le_trans hb hb',h4⟩
structure OwnS(w:World)(B:Nat)(A0 A1 A2:Option Addr)(n0 n1 n2 c0 c1 c2:Nat)(s:Stt):Prop where
 o0:VStk w B (.slice A0 n0 c0) s.dff
 o1:WWS w B (.slice A1 n1 c1) s.words
 o2:WS w B (.slice A2 n2 c2) s.read
section
variable {w w':World} {B B':Nat} {A0 A1 A2:Option Addr} {n0 n1 n2 c0 c1 c2:Nat} {s:Stt}
theorem OwnS.low(h:OwnS w B A0 A1 A2 n0 n1 n2 c0 c1 c2 s)(hb:B'≤B):OwnS w B' A0 A1 A2 n0 n1 n2 c0 c1 c2 s:=⟨h.o0.low hb,h.o1.low hb,h.o2.low hb⟩
theorem OwnS.setS(h:OwnS w B A0 A1 A2 n0 n1 n2 c0 c1 c2 s){a:Addr}(ha:a.block<B)(x:Value):OwnS (w.setCell a x) B A0 A1 A2 n0 n1 n2 c0 c1 c2 s:=⟨h.o0.setS ha x,h.o1.setS ha x,h.o2.setS ha x⟩
theorem OwnS.str(h:OwnS w B A0 A1 A2 n0 n1 n2 c0 c1 c2 s):StR w w.heap.size A0 A1 A2 n0 n1 n2 c0 c1 c2 s:=⟨h.o0.ks,h.o1.wwss,h.o2.wds⟩
end
theorem bel_push{V wo w1:World}{o:Obj}{r:Option Nat}(hb:BelW V wo)(hg:(wo.alloc o).grownBy w1 r)(hq:∀q,r=some q→V.heap.size≤q):BelW V w1:=
 (Below.alloc hb (Below.size hb) o).grown hg (by have:=Below.size hb;simp;omega) hq
theorem WS.push{V wo w1:World}{o:Obj}{v v':Value}{l:List (List Int)}{vs:List Value}{p:List Int}{A:Option Addr}{c:Nat}(hb:BelW V wo)
 (q1:vs.length=l.length) (q2:wo.ownsRow V.heap.size 41 1 v l.length vs) (q3:∀j,j<l.length→∃A c,vs[j]? =some (.slice A (l.getD j []).length c)∧VStk wo V.heap.size (.slice A (l.getD j []).length c) (l.getD j []))
 (hg:(wo.alloc o).grownBy w1 v.ownBlock) (ho:w1.ownsRow V.heap.size 41 1 v' (l.length+1) (vs++[.slice A p.length c])) (hp:VStk wo V.heap.size (.slice A p.length c) p):BelW V w1∧WS w1 V.heap.size v' (l++[p]):=by
 have hn:BelW wo (wo.alloc o):=below_new (Below.refl _ _) _
 refine⟨bel_push hb hg fun q h=>(World.ownsRow.lt q2 q h).1,?_⟩
 exact WS.add q1 (World.ownsRow.alloc q2 o) (fun j hj=>by obtain⟨A,c,e,h⟩:=q3 j hj;exact⟨A,c,e,h.below hn⟩) hg ho (hp.below hn)
theorem WWX.push{V wo w1:World}{o:Obj}{x v v':Value}{l:List (List (List Int))}{vs:List Value}{p:List (List Int)}{A:Option Addr}{c:Nat}(hb:BelW V wo)
 (q1:vs.length=l.length) (q2:wo.ownsRow V.heap.size 43 1 v l.length vs) (q3:∀j,j<l.length→∃A c,vs[j]? =some (.slice A (l.getD j []).length c)∧WS wo V.heap.size (.slice A (l.getD j []).length c) (l.getD j [])∧Apart x (.slice A (l.getD j []).length c))
 (hg:(wo.alloc o).grownBy w1 v.ownBlock) (ho:w1.ownsRow V.heap.size 43 1 v' (l.length+1) (vs++[.slice A p.length c])) (hp:WS wo V.heap.size (.slice A p.length c) p) (hpx:Apart x (.slice A p.length c)):BelW V w1∧WWX x w1 V.heap.size v' (l++[p]):=by
 have hn:BelW wo (wo.alloc o):=below_new (Below.refl _ _) _
 refine⟨bel_push hb hg fun q h=>(World.ownsRow.lt q2 q h).1,?_⟩
 exact WWX.add q1 (World.ownsRow.alloc q2 o) (fun j hj=>by obtain⟨A,c,e,h,h'⟩:=q3 j hj;exact⟨A,c,e,h.below hn,h'⟩) hg ho (hp.below hn) hpx
theorem Fr.grownT{wo w1:World}{o:Obj}{g b s n:Nat}{t e:TypeId}{cs xs:List Value}{v:Value}(hf:Fr wo g t cs)(hr:wo.ownsRow b e s v n xs)(he:t≠e)(hg:(wo.alloc o).grownBy w1 v.ownBlock):Fr w1 g t cs:=by
 have h1:Fr (wo.alloc o) g t cs:=hf.alloc o
 unfold Fr at h1 ⊢
 rw[←h1]
 refine hg.block g (Fr.lt (t:=t) (cs:=cs) h1) fun e1=>?_
 have h2:=World.ownsRow.alloc hr o
 rcases h2.2 with⟨rfl,-⟩| ⟨g',c',cur',rfl,-,hg',-⟩
 ·simp[Value.ownBlock]at e1
 ·simp only[Value.ownBlock,Option.some.injEq]at e1
  rw[←e1,h1]at hg'
  have h3:=Option.some.inj hg'
  injection h3 with _ h4 _
  exact he h4
theorem own_sl{w:World}{b n s:Nat}{e:TypeId}{v:Value}{xs:List Value}(h:w.ownsRow b e s v n xs):∃A c,v=.slice A n c:=by
 rcases h.2 with⟨rfl,h0⟩| ⟨g',c',cur',rfl,-⟩
 ·exact⟨none,0,by rw[h0]⟩
 ·exact⟨_,_,rfl⟩
end Go.Proofs.YtemjmfpcopfdbaaGreatDoor
