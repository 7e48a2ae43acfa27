/- The texts Pl9 Rc9. -/
import Derived.Test.YtemjmfpcopfdbaaGreatDoorM35
import Derived.Test.YtemjmfpcopfdbaaGreatDoorM36
import Derived.Test.YtemjmfpcopfdbaaGreatDoorM37
import Derived.Test.YtemjmfpcopfdbaaGreatDoorM38
import Derived.Test.YtemjmfpcopfdbaaGreatDoorM30
import Derived.Test.YtemjmfpcopfdbaaGreatDoorM13
import Derived.Test.YtemjmfpcopfdbaaGreatDoorM32
import Derived.Test.YtemjmfpcopfdbaaGreatDoorM31
namespace Go.Proofs.YtemjmfpcopfdbaaGreatDoor
open Go.RowKit
def CyR(c:Ck)(ns m:Nat)(s:Stt)(nets:List Int)(w:World)(gB D1 D2 go gn g:Nat):Prop:=
 VRow w g nets∧VRow w go (outV c nets)∧VRow w gn (nextV c nets)∧VRow w gB (bitsL (nextV c nets) ns)∧∃LL,OSt w D1 D2 LL m (fun k=>(s.words.getD k []).length) (nxW c.mems s.words nets) (nxR c.mems s.words nets) m m
section
variable {c:Ck} {ns m:Nat} {s:Stt} {nets:List Int} {w w':World} {gB D1 D2 go gn g:Nat}
end
theorem bel_grown{V w w1:World}{r:Option Nat}(hb:BelW V w)(hg:w.grownBy w1 r)(hq:∀q,r=some q→V.heap.size≤q):BelW V w1:=hb.grown hg (Below.size hb) hq
theorem vapp{w1:World}{B n m:Nat}{v':Value}{l k:List Int}(hl:l.length=n)(hk:k.length=m)(ho:w1.ownsRow B 77 1 v' (n+m) (l.map (Value.int .u8)++k.map (Value.int .u8))):VStk w1 B v' (l++k):=by
 unfold VStk
 rw[List.length_append,List.map_append,hl,hk]
 exact ho
theorem one_u8(l:List Int):∀u∈l.map (Value.int .u8),u.oneCell'=true:=fun u hu=>by
 obtain⟨y,-,rfl⟩:=List.mem_map.1 hu
 rfl
theorem wpList_appV{ops:Array Oper}{rest:List Oper}{o:Oper}{a:Act}{w:World}{Q:Exit→Act→World→Prop}(hgd:o.guard=none)(s x:Operand)
 (ho:o.op=.call { callee:=.builtin .append,args:=#[s,x],argTypes:=#[41,41] })
 (base:Nat) (v:Value) (l l':List Int) (A':Option Addr) (n m c':Nat) (hs:a.eval s=v) (hx:a.eval x=.slice A' m c') (h1:VStk w base v l) (hn:l.length=n) (h2:Ks w w.heap.size (.slice A' m c') l') (hsz:n+m≤10000000) (hbase:base≤w.heap.size)
 (h:∀A2 c2 w',VStk w' base (.slice A2 (n+m) c2) (l++l')→w.grownBy w' v.ownBlock→wpList Tryz.prog ops Q rest (a.put o.dst (.slice A2 (n+m) c2)) w'):
 wpList Tryz.prog ops Q (o::rest) a w:=by
 subst hn
 obtain⟨i1,hi1,hz0,hz1,hz2⟩:=info_parts info_val
 obtain⟨A9,b,oo,c9,e,hA,-,hmx,hc⟩:=h2.opens
 simp only[Value.slice.injEq]at e
 obtain⟨rfl,hml,rfl⟩:=e
 by_cases h0:m=0
 ·subst h0
  obtain rfl:l'=[]:=List.eq_nil_of_length_eq_zero hml.symm
  obtain⟨A2,c2,rfl,hle,-,-⟩:=h1.form
  have hsr:Src Tryz.prog i1.size 41 (.slice A' 0 c') 0 [] w:=by
   cases A' with
   |none=>exact Src.ofNil w Tryz.underlying41 c'
   |some a=>exact Src.ofSlice w Tryz.underlying41 a 0 c' [] (by simp) (fun j u h=>by simp at h) (fun u h=>by cases h)
  refine wpList_plain hgd fun K hK=>?_
  have hr:=run_append_nothing w _ _ o.type _ i1 Tryz.underlying41 hi1 A2 l.length c2 hle _ hsr
  unfold Oper.wp execOp
  simp only[ho,resolve,invoke,builtin,Sem.run_bind,Sem.run_pure,Result.andThen_ok,List.map_toArray,List.map_cons,List.map_nil,hs,hx,hr]
  refine hK _ _ ?_
  have:=h A2 c2 w (by rw[List.append_nil];exact h1) ⟨rfl,rfl,rfl,Nat.le_refl _,fun _ _ _=>rfl⟩
  rwa [Nat.add_zero]at this
 ·obtain rfl:=hA (by omega)
  refine wpList_append_own_at w hgd s x 41 ho base 77 i1 (.int .u8 0) 1 1 Tryz.underlying41 hi1 hz0 hz1 hz2 rfl (by decide) v l.length (l.map (Value.int .u8)) hs h1 ⟨b,oo,none⟩ m c' (l'.map (Value.int .u8)) hx (by rw[List.length_map,Nat.mul_one];exact hml.symm) (fun j u hu=>?_) (one_u8 _) (by unfold maxLen;omega) (by omega) hbase fun v' w' g1 g2 _ _=>?_
  ·have hj:j<l'.length:=by
    have:=(List.getElem?_eq_some_iff.1 hu).1
    rwa [List.length_map]at this
   rw[List.getElem?_map,List.getElem?_eq_getElem hj]at hu
   have:=(hc j (by omega)).2
   rw[List.getD_eq_getElem?_getD,List.getElem?_eq_getElem hj]at this
   rw[←Option.some.inj hu]
   have e:(⟨b,oo,none⟩:Addr).add j=⟨b,oo+j,none⟩:=by unfold Addr.add;split<;>simp_all
   rw[e]
   simpa using this
  ·obtain⟨A2,c2,rfl⟩:=own_sl g1
   exact h A2 c2 w' (vapp rfl hml.symm g1) g2
def no2(l:List Int)(k:Nat):Prop:=∀j,j<k→¬2<l.getD j 0
def no3(l:List Int)(k:Nat):Prop:=∀j,j<k→¬3<l.getD j 0
theorem no2_succ{l:List Int}{k:Nat}(h:no2 l k)(hk:¬2<l.getD k 0):no2 l (k+1):=fun j hj=>by
 by_cases e:j=k
 ·subst e;exact hk
 ·exact h j (by omega)
theorem no3_succ{l:List Int}{k:Nat}(h:no3 l k)(hk:¬3<l.getD k 0):no3 l (k+1):=fun j hj=>by
 by_cases e:j=k
 ·subst e;exact hk
 ·exact h j (by omega)
def okM(c:Ck)(s:Stt)(k:Nat):Prop:=(s.words.getD k []).length=blN c.mems k∧(s.read.getD k []).length=(c.mems.getD k default).data.length∧∀i,i<blN c.mems k→((s.words.getD k []).getD i []).length=(c.mems.getD k default).data.length
set_option maxRecDepth 100000 in
set_option maxHeartbeats 8000000 in
theorem rck9_any(c:Ck)(s9:Stt)(inp:List Int)(A0 A1 A2 A3 As0 As1 As2 Ai:Option Addr)(n n1 m n3 c0 c1 c2 c3 p0 p1 p2 d0 d1 d2 mi ci ns ni:Nat)(w:World)(B:Nat)(hB:B≤w.heap.size)(hC:Cir w B (.agg #[.slice A0 n c0,.slice A1 n1 c1,.slice A2 m c2,.slice A3 n3 c3]) c) (hS:StR w B As0 As1 As2 p0 p1 p2 d0 d1 d2 s9) (hI:Ks w B (.slice Ai mi ci) inp) (hsz:c.nodes.length≤1000000) (hns:(ofTo c.nodes [14] c.nodes.length).length=ns) (hni:(ofTo c.nodes [0] c.nodes.length).length=ni):
 Calls Tryz.prog 18 #[.agg #[.slice A0 n c0,.slice A1 n1 c1,.slice A2 m c2,.slice A3 n3 c3],.slice As0 p0 d0,.slice As1 p1 d1,.slice As2 p2 d2,.slice Ai mi ci] w fun e w'=>e=.returned (.int .i64 (if chkErr c=0 then ckC c ni ns m s9 inp else chkErr c))∧BelW w w':=by
 obtain⟨W1,HW1⟩:=named (w.alloc (.cells #[.slice A0 n c0,.slice A1 n1 c1,.slice A2 m c2,.slice A3 n3 c3] 39))
 have hb1:BelW w W1:=by rw[HW1.out];exact below_new (Below.refl _ _) _
 have hfc:Fr W1 w.heap.size 39 [.slice A0 n c0,.slice A1 n1 c1,.slice A2 m c2,.slice A3 n3 c3]:=by rw[HW1.out];exact Fr.made _ [.slice A0 n c0,.slice A1 n1 c1,.slice A2 m c2,.slice A3 n3 c3] _ rfl
 have hBW:∀ {W},BelW W1 W→B≤W.heap.size:=fun {W} h=>Nat.le_trans hB (joinB hb1 h).size
 have hcW:∀ {W},BelW W1 W→Cir W B (.agg #[.slice A0 n c0,.slice A1 n1 c1,.slice A2 m c2,.slice A3 n3 c3]) c:=fun {W} h=>hC.below ((joinB hb1 h).mono hB)
 have hCe:∀W,BelW W1 W→∀q:Addr,q.block<B→W.cell? q=w.cell? q:=fun W h q hq=>Below.cell (joinB hb1 h) (Nat.lt_of_lt_of_le hq hB)
 have hRC:∀W,BelW W1 W→Calls Tryz.prog 21 #[.agg #[.slice A0 n c0,.slice A1 n1 c1,.slice A2 m c2,.slice A3 n3 c3]] W fun e w'=>e=.returned (.int .i64 (chkErr c))∧BelW W w':=
  fun W hb=>(rchk_any c _ W B (hBW hb) (hcW hb)).mono fun e w' ⟨h1,h2⟩=>⟨h1,h2⟩
 have hOF:∀kd W,BelW W1 W→Calls Tryz.prog 43 #[.agg #[.slice A0 n c0,.slice A1 n1 c1,.slice A2 m c2,.slice A3 n3 c3],.int .u8 kd] W fun e w'=>∃A d,e=.returned (.slice A (ofTo c.nodes [kd] c.nodes.length).length d)∧BelW W w':=
  fun kd W hb=>(refOf_any c kd _ W B (hBW hb) (hcW hb) hsz).mono fun e w' ⟨⟨s,h1,h2⟩,h3⟩=>by
   obtain⟨A,_,_,d,e2,-⟩:=h2.opens
   exact⟨A,d,by rw[h1,e2],h3⟩
 have hO0:=hOF 0
 have hO4:=hOF 14
 rw[hni]at hO0
 rw[hns]at hO4
 have hns2:ns≤1000000:=by rw[←hns];exact Nat.le_trans (ofTo_len _ _ _) hsz
 have hni2:ni≤1000000:=by rw[←hni];exact Nat.le_trans (ofTo_len _ _ _) hsz
 have hd:s9.dff.length=p0:=by
  obtain⟨_,_,_,_,e,-⟩:=hS.sd.opens
  simp only[Value.slice.injEq]at e
  exact e.2.1.symm
 have hw:s9.words.length=p1∧p1≤maxLen:=by
  have h2:=Arr.len hS.sw
  obtain⟨_,_,_,_,e,-⟩:=hS.sw
  simp only[Value.slice.injEq]at e
  exact⟨e.2.1.symm,by rw[e.2.1];exact h2⟩
 have hr:s9.read.length=p2∧p2≤maxLen:=by
  have h2:=Arr.len hS.sr
  obtain⟨_,_,_,_,e,-⟩:=hS.sr
  simp only[Value.slice.injEq]at e
  exact⟨e.2.1.symm,by rw[e.2.1];exact h2⟩
 have hil:inp.length=mi:=by
  obtain⟨_,_,_,_,e,-⟩:=hI.opens
  simp only[Value.slice.injEq]at e
  exact e.2.1.symm
 have hM:c.mems.length=m∧Ms w B (.slice A2 m c2) c.mems:=by
  obtain⟨v0,v1,v2,v3,e,-,-,hM,-⟩:=hC
  have e0:v2=.slice A2 m c2:=by have:=congrArg (fun v=>match v with|Value.agg a=>a[2]? |_=>none) e;simpa using this.symm
  subst e0
  refine⟨?_,hM⟩
  obtain⟨_,_,_,_,e1,-⟩:=hM
  simp only[Value.slice.injEq]at e1
  exact e1.2.1.symm
 have hm2:m≤maxLen:=by rw[←hM.1];exact Arr.len hM.2
 have hmem:∀k,k<m→∃b o Aa na ca Ad nd cd,A2=some ⟨b,o,none⟩∧b<B∧na=(c.mems.getD k default).addr.length∧nd=(c.mems.getD k default).data.length∧∀W,BelW W1 W→W.cell? ⟨b,o+k*3,none⟩=some (.slice Aa na ca)∧W.cell? ⟨b,o+k*3+1,none⟩=some (.slice Ad nd cd):=fun k hk=>by
  obtain⟨A,b,oo,cc,e1,hA,-,-,hc⟩:=hM.2
  simp only[Value.slice.injEq]at e1
  obtain⟨rfl,-,rfl⟩:=e1
  obtain⟨hb,s,t,f0,f1,f2,h4,h5⟩:=hc k (by rw[hM.1];exact hk)
  obtain⟨A4,b4,o4,c4,rfl,-⟩:=h4
  obtain⟨A5,b5,o5,c5,rfl,-⟩:=h5
  exact⟨b,oo,A4,_,c4,A5,_,c5,hA (by have:=hM.1;omega),hb,rfl,rfl,fun W h=>⟨(hCe W h ⟨b,_,none⟩ hb).trans f0,(hCe W h ⟨b,_,none⟩ hb).trans f1⟩⟩
 have hwk:∀k,k<p1→∃b o Aw nw cw,As1=some ⟨b,o,none⟩∧nw=(s9.words.getD k []).length∧nw≤maxLen∧(∀W,BelW W1 W→W.cell? ⟨b,o+k,none⟩=some (.slice Aw nw cw))∧∀i,i<nw→∃b2 o2 Ax nx cx,Aw=some ⟨b2,o2,none⟩∧nx=((s9.words.getD k []).getD i []).length∧∀W,BelW W1 W→W.cell? ⟨b2,o2+i,none⟩=some (.slice Ax nx cx)∧Ks W W.heap.size (.slice Ax nx cx) ((s9.words.getD k []).getD i []):=fun k hk=>by
  obtain⟨b,oo,Aw,cw,e,hb,hcell,hwr⟩:=hS.sw.at9 hk
  refine⟨b,oo,Aw,_,cw,e,rfl,Arr.len hwr,fun W h=>(hCe W h ⟨b,_,none⟩ hb).trans hcell,fun i hi=>?_⟩
  obtain⟨b2,o2,Ax,cx,e2,hb2,hc2,hk2⟩:=hwr.at9 hi
  exact⟨b2,o2,Ax,_,cx,e2,rfl,fun W h=>⟨(hCe W h ⟨b2,_,none⟩ hb2).trans hc2,Arr.keep stays_u8 hk2 (hBW h) fun q hq=>hCe W h q hq⟩⟩
 have hrk:∀k,k<p2→∃b o Ar nr cr,As2=some ⟨b,o,none⟩∧nr=(s9.read.getD k []).length∧nr≤maxLen∧∀W,BelW W1 W→W.cell? ⟨b,o+k,none⟩=some (.slice Ar nr cr)∧Ks W W.heap.size (.slice Ar nr cr) (s9.read.getD k []):=fun k hk=>by
  obtain⟨b,oo,Ar,cr,e,hb,hcell,hkr⟩:=hS.sr.at9 hk
  exact⟨b,oo,Ar,_,cr,e,rfl,Arr.len hkr,fun W h=>⟨(hCe W h ⟨b,_,none⟩ hb).trans hcell,Arr.keep stays_u8 hkr (hBW h) fun q hq=>hCe W h q hq⟩⟩
 have hdk:∀W,BelW W1 W→Ks W W.heap.size (.slice As0 p0 d0) s9.dff:=fun W h=>Arr.keep stays_u8 hS.sd (hBW h) fun q hq=>hCe W h q hq
 obtain⟨Ai',bi,oi,ci',e,hAi,-,hmi,hci⟩:=hI.opens
 simp only[Value.slice.injEq]at e
 obtain⟨rfl,-,rfl⟩:=e
 rw[hil]at hAi hmi hci
 have hCI:∀W,BelW W1 W→∀k,k<mi→W.cell? ⟨bi,oi+k,none⟩=some (.int .u8 (inp.getD k 0)):=fun W h k hk=>(hCe W h ⟨bi,oi+k,none⟩ (hci k hk).1).trans (hci k hk).2
 have hshp:chkErr c=0→m≤16∧∀k,k<m→1≤(c.mems.getD k default).addr.length∧(c.mems.getD k default).addr.length≤8∧1≤(c.mems.getD k default).data.length∧(c.mems.getD k default).data.length≤32:=fun h=>by
  have hz:=shape_zero (chk_shape h)
  refine⟨by rw[←hM.1];exact hz.2.1,fun k hk=>?_⟩
  have h1:=hz.2.2.2.2.2.2.1 _ (getD_mem_mm (by rw[hM.1];exact hk))
  unfold memErr at h1
  split at h1
  ·cases h1
  ·rename_i h2
   omega
 have HSHP:=Lib.hid hshp
 have HMEM:=Lib.hid hmem
 have HWK:=Lib.hid hwk
 have HRK:=Lib.hid hrk
 have HDK:=Lib.hid hdk
 have HCI:=Lib.hid hCI
 have HAI:=Lib.hid hAi
 have HRC:=Lib.hid hRC
 have HO0:=Lib.hid hO0
 have HO4:=Lib.hid hO4
 have HB1:=Lib.hid hb1
 have HCE:Hid (∀W,BelW W1 W→W.cell? ⟨w.heap.size,0,none⟩=some (.slice A0 n c0)∧W.cell? ⟨w.heap.size,1,none⟩=some (.slice A1 n1 c1)∧W.cell? ⟨w.heap.size,2,none⟩=some (.slice A2 m c2)∧W.cell? ⟨w.heap.size,3,none⟩=some (.slice A3 n3 c3)):=Lib.hid fun W h=>⟨(hfc.below h).cell 0,(hfc.below h).cell 1,(hfc.below h).cell 2,(hfc.below h).cell 3⟩
 obtain⟨r,HR⟩:=named (if chkErr c=0 then ckC c ni ns m s9 inp else chkErr c)
 rw[←HR.out]
 have HE0:Hid (chkErr c≠0→r=chkErr c):=Lib.hid fun h=>by rw[HR.out,if_neg h]
 have HE1:Hid (chkErr c=0→¬(mi=ni∧p0=ns∧p1=m∧p2=m)→r=8):=Lib.hid fun h h2=>by
  rw[HR.out,if_pos h]
  by_cases h3:mi=ni
  ·exact ck_wide fun F=>h2 ⟨h3,hd.symm.trans F.d,hw.1.symm.trans F.w,hr.1.symm.trans F.r⟩
  ·exact ck_wide_in (by rw[hil];exact h3)
 have HE2:Hid (chkErr c=0→∀k,k<m→¬okM c s9 k→r=8):=Lib.hid fun h k hk h2=>by
  rw[HR.out,if_pos h]
  exact ck_wide fun F=>h2 (F.k k hk)
 have hlen:p0=ns→p1=m→p2=m→(∀k,k<m→okM c s9 k)→LenS c ns m s9:=fun e0 e1 e2 h=>⟨hd.trans e0,hw.1.trans e1,hr.1.trans e2,h⟩
 have HE3:Hid (chkErr c=0→mi=ni→p0=ns→p1=m→p2=m→(∀k,k<m→okM c s9 k)→∀j,j<(allL c s9 m).length→2<(allL c s9 m).getD j 0→r=1):=Lib.hid fun h e3 e0 e1 e2 h2 j hj hx=>by
  rw[HR.out,if_pos h]
  exact ck_high (hil.trans e3) (hlen e0 e1 e2 h2) ⟨j,hj,hx⟩
 have HE4:Hid (chkErr c=0→mi=ni→p0=ns→p1=m→p2=m→(∀k,k<m→okM c s9 k)→∀j,j<mi→3<inp.getD j 0→r=1):=Lib.hid fun h e3 e0 e1 e2 h2 j hj hx=>by
  rw[HR.out,if_pos h]
  exact ck_high_in (hil.trans e3) (hlen e0 e1 e2 h2) ⟨j,by rw[hil];exact hj,hx⟩
 have HE5:Hid (chkErr c=0→mi=ni→p0=ns→p1=m→p2=m→(∀k,k<m→okM c s9 k)→no2 (allL c s9 m) (allL c s9 m).length→no3 inp mi→r=0):=Lib.hid fun h e3 e0 e1 e2 h2 h3 h4=>by
  rw[HR.out,if_pos h]
  exact ck_none (hil.trans e3) (hlen e0 e1 e2 h2) h3 (by rw[hil];exact h4)
 obtain⟨z,HZ⟩:=named (chkErr c)
 rw[←HZ.out]at HE0 HE1 HE2 HE3 HE4 HE5 HRC HSHP
 have HDL:=Lib.hid hd
 obtain⟨i1,hi1,hz0,hz1,hz2⟩:=info_parts info_val
 have hwm:=hw.2
 have hrm:=hr.2
 unfold maxLen at hwm hrm hm2 hmi
 clear hC hS hI hb1 hBW hcW hCe hRC hOF hO0 hO4 hd hw hr hM hmem hwk hrk hdk hCI hAi hci hil hshp hfc hlen hns hni HZ HR i1 hi1 hz0 hz1 hz2 hB
 have hs0:BelW W1 W1:=Below.refl _ _
 go_enter Tryz.func18,Tryz.ntmps18
 go_upto_region 1 with (fail)
 rw[←HW1.out]
 obtain⟨x0,x1,x2,x3⟩:=HCE.out W1 hs0
 go_upto_region 2 with (go_at_call 21;(with_reducible refine (HRC.out _ hs0).mono ?_);rintro e w2 ⟨rfl,hb⟩;have hs2:BelW W1 w2:=hb;clear hb x0 x1 x2 x3)
 obtain⟨x0,x1,x2,x3⟩:=HCE.out w2 hs2
 by_cases hz:z=0
 rotate_left
 ·have q0:(z != 0)=true:=by simpa using hz
  have q1:(z==0)=false:=by simpa using hz
  obtain rfl:=HE0.out hz
  clear hz
  go_wp2
  go_ret
  exact⟨rfl,joinB HB1.out hs2⟩
 subst hz
 obtain⟨hm16,hports⟩:=HSHP.out rfl
 have HPORT:=Lib.hid hports
 have HX1:Hid (¬(mi=ni∧p0=ns∧p1=m∧p2=m)→r=8):=Lib.hid (HE1.out rfl)
 have HX2:Hid (∀k,k<m→¬okM c s9 k→r=8):=Lib.hid (HE2.out rfl)
 have HX3:=Lib.hid (HE3.out rfl)
 have HX4:=Lib.hid (HE4.out rfl)
 have HX5:=Lib.hid (HE5.out rfl)
 clear HE1 HE2 HE3 HE4 HE5
 clear hports HSHP HE0
 have HBE:Hid (∀W,BelW w2 W→BelW W1 W):=Lib.hid fun W h=>joinB hs2 h
 have hn8:∀(e0:¬(mi=ni∧p0=ns∧p1=m∧p2=m)),r=8:=fun e0=>HX1.out e0
 have HN8:=Lib.hid hn8
 clear hn8
 by_cases e0:mi=ni
 rotate_left
 ·have q0:((mi:Int) != (ni:Int))=true:=by simpa using fun h=>e0 (by exact_mod_cast h)
  obtain rfl:=HN8.out fun h=>e0 h.1
  clear e0
  go_upto_region 5 with (first
  |(go_at_call 43;(with_reducible refine (HO0.out _ hs2).mono ?_);rintro e w3 ⟨Ax0,dx0,rfl,hb⟩;have hs3:BelW W1 w3:=joinB hs2 hb;clear hb x0 x1 x2 x3;obtain⟨x0,x1,x2,x3⟩:=HCE.out w3 hs3))
  go_wp2
  go_ret
  exact⟨rfl,joinB HB1.out hs3⟩
 have q0:((mi:Int) != (ni:Int))=false:=by simp[e0]
 by_cases e1:p0=ns
 rotate_left
 ·have q1:((p0:Int) != (ns:Int))=true:=by simpa using fun h=>e1 (by exact_mod_cast h)
  obtain rfl:=HN8.out fun h=>e1 h.2.1
  clear e1
  go_upto_region 5 with (first
  |(go_at_call 43;(with_reducible refine (HO0.out _ hs2).mono ?_);rintro e w3 ⟨Ax0,dx0,rfl,hb⟩;have hs3:BelW W1 w3:=joinB hs2 hb;clear hb x0 x1 x2 x3;obtain⟨x0,x1,x2,x3⟩:=HCE.out w3 hs3)
  |(go_at_call 43;(with_reducible refine (HO4.out _ hs3).mono ?_);rintro e w4 ⟨Ax4,dx4,rfl,hb⟩;have hs4:BelW W1 w4:=joinB hs3 hb;clear hb x0 x1 x2 x3;obtain⟨x0,x1,x2,x3⟩:=HCE.out w4 hs4))
  go_wp2
  go_ret
  exact⟨rfl,joinB HB1.out hs4⟩
 have q1:((p0:Int) != (ns:Int))=false:=by simp[e1]
 by_cases e2:p1=m
 rotate_left
 ·have q2:((p1:Int) != (m:Int))=true:=by simpa using fun h=>e2 (by exact_mod_cast h)
  obtain rfl:=HN8.out fun h=>e2 h.2.2.1
  clear e2
  go_upto_region 5 with (first
  |(go_at_call 43;(with_reducible refine (HO0.out _ hs2).mono ?_);rintro e w3 ⟨Ax0,dx0,rfl,hb⟩;have hs3:BelW W1 w3:=joinB hs2 hb;clear hb x0 x1 x2 x3;obtain⟨x0,x1,x2,x3⟩:=HCE.out w3 hs3)
  |(go_at_call 43;(with_reducible refine (HO4.out _ hs3).mono ?_);rintro e w4 ⟨Ax4,dx4,rfl,hb⟩;have hs4:BelW W1 w4:=joinB hs3 hb;clear hb x0 x1 x2 x3;obtain⟨x0,x1,x2,x3⟩:=HCE.out w4 hs4))
  go_wp2
  go_ret
  exact⟨rfl,joinB HB1.out hs4⟩
 have q2:((p1:Int) != (m:Int))=false:=by simp[e2]
 by_cases e3:p2=m
 rotate_left
 ·have q3:((p2:Int) != (m:Int))=true:=by simpa using fun h=>e3 (by exact_mod_cast h)
  obtain rfl:=HN8.out fun h=>e3 h.2.2.2
  clear e3
  go_upto_region 5 with (first
  |(go_at_call 43;(with_reducible refine (HO0.out _ hs2).mono ?_);rintro e w3 ⟨Ax0,dx0,rfl,hb⟩;have hs3:BelW W1 w3:=joinB hs2 hb;clear hb x0 x1 x2 x3;obtain⟨x0,x1,x2,x3⟩:=HCE.out w3 hs3)
  |(go_at_call 43;(with_reducible refine (HO4.out _ hs3).mono ?_);rintro e w4 ⟨Ax4,dx4,rfl,hb⟩;have hs4:BelW W1 w4:=joinB hs3 hb;clear hb x0 x1 x2 x3;obtain⟨x0,x1,x2,x3⟩:=HCE.out w4 hs4))
  go_wp2
  go_ret
  exact⟨rfl,joinB HB1.out hs4⟩
 have q3:((p2:Int) != (m:Int))=false:=by simp[e3]
 have HE:=Lib.hid (And.intro e0 (And.intro e1 (And.intro e2 e3)))
 go_upto_region 6 with (first
  |(go_at_call 43;(with_reducible refine (HO0.out _ hs2).mono ?_);rintro e w3 ⟨Ax0,dx0,rfl,hb⟩;have hs3:BelW W1 w3:=joinB hs2 hb;clear hb x0 x1 x2 x3;obtain⟨x0,x1,x2,x3⟩:=HCE.out w3 hs3)
  |(go_at_call 43;(with_reducible refine (HO4.out _ hs3).mono ?_);rintro e w4 ⟨Ax4,dx4,rfl,hb⟩;have hs4:BelW W1 w4:=joinB hs3 hb;clear hb x0 x1 x2 x3;obtain⟨x0,x1,x2,x3⟩:=HCE.out w4 hs4))
 clear q0 q1 q2 q3 e0 e1 e2 e3 HN8 x0 x1 x2 x3
 have HS4:=Lib.hid hs4
 clear hs0 hs2 hs3 hs4
 obtain⟨W4,rfl⟩:∃z:World,z=w4:=⟨_,rfl⟩
 have HBS:Hid (w.heap.size≤W4.heap.size):=Lib.hid (Nat.le_trans (Below.size HB1.out) (Below.size HS4.out))
 go_wp2
 go_loopw [12,13] (fun sv ci wr=>∃(k nal:Nat) (Aal:Option Addr) (cal:Nat) (al:List Int),k≤m∧ci=.int .i64 k∧sv=.slice Aal nal cal∧VStk wr W4.heap.size (.slice Aal nal cal) al∧al.length=nal∧nal≤8300*k∧Hid (al=memsL c s9 k∧∀j,j<k→okM c s9 j)∧BelW W4 wr) (fun _ ci _=>m-(intOf ci).toNat)
 case atStart=>exact⟨0,0,none,0,[],Nat.zero_le _,rfl,rfl,VStk.nil _ _,rfl,Nat.le_refl _,Lib.hid ⟨rfl,fun j hj=>absurd hj (Nat.not_lt_zero j)⟩,Below.refl _ _⟩
 case round=>
  obtain⟨k,nal,Aal,cal,al,hk,rfl,rfl,hv,hal,hnb,HAK,hb4⟩:=hrel
  obtain⟨Vr,rfl⟩:∃V:World,V=wr:=⟨_,rfl⟩
  have hb:BelW W1 Vr:=joinB HS4.out hb4
  obtain⟨x0,x1,x2,x3⟩:=HCE.out Vr hb
  by_cases hlt:k<m
  ·have hk2:(k:Int)<(m:Int):=by omega
   obtain⟨bm,om,Aa,na,ca,Ad,nd,cd,hA2,-,hna,hnd,hmc⟩:=HMEM.out k hlt
   obtain⟨pa1,pa2,pd1,pd2⟩:=HPORT.out k hlt
   rw[←hna]at pa1 pa2
   rw[←hnd]at pd1 pd2
   have HNA:=Lib.hid hna
   have HND:=Lib.hid hnd
   have HMC:=Lib.hid hmc
   have HV:=Lib.hid (And.intro hv hb4)
   clear hna hnd hmc hv hb4
   subst hA2
   obtain⟨y0,y1⟩:=HMC.out Vr hb
   go_wp2
   go_loop [14,15] (fun mv ci=>∃j p:Nat,j≤na∧ci=.int .i64 j∧mv=.int .i64 (p:Int)∧Hid (p=2^j)∧p≤256) (fun _ ci=>na-(intOf ci).toNat)
   case atStart=>exact⟨0,1,Nat.zero_le _,rfl,rfl,Lib.hid rfl,by decide⟩
   case round=>
    obtain⟨j,p,hj,rfl,rfl,HP,hp2⟩:=hrel
    by_cases hjl:j<na
    ·have hj2:(j:Int)<(na:Int):=by omega
     have hwp:IntKind.i64.wrap (2*(p:Int))=((2*p:Nat):Int):=by rw[IntKind.wrap_i64];omega
     obtain⟨p',HP'⟩:=named (2*p)
     rw[←HP'.out]at hwp
     go_wp2
     go_round
     case rel=>
      have e2:p'=2^(j+1):=by rw[HP'.out,HP.out,Nat.pow_succ,Nat.mul_comm]
      have h3:2^(j+1)≤2^8:=Nat.pow_le_pow_right (by decide) (by omega)
      exact⟨j+1,p',by omega,by go_num,rfl,Lib.hid e2,by rw[e2];exact h3⟩
     case measure=>simp[intOf];omega
    ·obtain rfl:na=j:=by omega
     have HNB:Hid (p=blN c.mems k):=Lib.hid (by rw[HP.out,HNA.out];rfl)
     clear HP
     obtain⟨m1,HM1⟩:∃z,Hid (z=p1∧z=p2∧z=m):=⟨m,Lib.hid ⟨HE.out.2.2.1.symm,HE.out.2.2.2.symm,rfl⟩⟩
     obtain⟨bw,ow,Aw,nw,cw,hA1,hnw,hnwm,hwc,hwi⟩:=HWK.out k (by rw[←HM1.out.1,HM1.out.2.2];exact hlt)
     obtain⟨br,or,Ar,nr,cr,hA4,hnr,hnrm,hrc⟩:=HRK.out k (by rw[←HM1.out.2.1,HM1.out.2.2];exact hlt)
     subst hA1
     subst hA4
     have hkp1:(k:Int)<(p1:Int):=by have:=HM1.out;omega
     have hkp2:(k:Int)<(p2:Int):=by have:=HM1.out;omega
     have HNW:=Lib.hid hnw
     have HNR:=Lib.hid hnr
     have HWI:=Lib.hid hwi
     have HRC2:=Lib.hid hrc
     have HWC:=Lib.hid hwc
     clear hnw hnr hwi hrc hwc
     have z1:=HWC.out Vr hb
     have z2:=(HRC2.out Vr hb).1
     unfold maxLen at hnwm hnrm
     have hq8:¬(nw=p∧nr=nd)→r=8:=fun h=>HX2.out k hlt fun g=>h ⟨by rw[HNW.out,HNB.out];exact g.1,by rw[HNR.out,HND.out];exact g.2.1⟩
     have HQ8:=Lib.hid hq8
     clear hq8
     go_upto_region 15 with (fail)
     by_cases f0:nw=p
     rotate_left
     ·have q0:((nw:Int) != (p:Int))=true:=by simpa using fun h=>f0 (by exact_mod_cast h)
      obtain rfl:=HQ8.out fun h=>f0 h.1
      clear f0
      go_quiet (fail)
      go_wp2
      go_ret
      exact⟨rfl,joinB HB1.out (by first|exact hb|exact below_drewN hb _|exact Below.drew hb)⟩
     have q0:((nw:Int) != (p:Int))=false:=by simp[f0]
     by_cases f1:nr=nd
     rotate_left
     ·have q1:((nr:Int) != (nd:Int))=true:=by simpa using fun h=>f1 (by exact_mod_cast h)
      obtain rfl:=HQ8.out fun h=>f1 h.2
      clear f1 f0
      go_quiet (fail)
      go_wp2
      go_ret
      exact⟨rfl,joinB HB1.out (by first|exact hb|exact below_drewN hb _|exact Below.drew hb)⟩
     have q1:((nr:Int) != (nd:Int))=false:=by simp[f1]
     have HF:=Lib.hid (And.intro f0 f1)
     clear f0 f1
     go_quiet (fail)
     have HVS:Hid (∀W,BelW Vr W→VStk W W4.heap.size (.slice Aal nal cal) al∧BelW W4 W∧BelW W1 W):=Lib.hid fun W h=>⟨HV.out.1.below h,joinB HV.out.2 h,joinB hb h⟩
     have HAL:=Lib.hid hal
     have hr32:nr≤32:=by have:=HF.out.2;omega
     go_upto_region 18 with (at_builtin;refine wpList_appV rfl _ _ rfl W4.heap.size (.slice Aal nal cal) al (s9.read.getD k []) Ar nal nr cr rfl rfl (HVS.out _ (by first|exact Below.refl _ _|exact below_drewN (Below.refl _ _) _|exact Below.drew (Below.refl _ _))).1 HAL.out ((fun W h=>(HRC2.out W h).2) _ (HVS.out _ (by first|exact Below.refl _ _|exact below_drewN (Below.refl _ _) _|exact Below.drew (Below.refl _ _))).2.2) (by omega) (Below.size (HVS.out _ (by first|exact Below.refl _ _|exact below_drewN (Below.refl _ _) _|exact Below.drew (Below.refl _ _))).2.1) ?_;intro A5 c5 w5 hv5 hg5;have HB5:Hid (BelW W4 w5):=Lib.hid (bel_grown (HVS.out _ (by first|exact Below.refl _ _|exact below_drewN (Below.refl _ _) _|exact Below.drew (Below.refl _ _))).2.1 hg5 fun q hq=>(World.ownsRow.lt (HVS.out _ (by first|exact Below.refl _ _|exact below_drewN (Below.refl _ _) _|exact Below.drew (Below.refl _ _))).1 q hq).1);have HV5:=Lib.hid hv5;clear hv5 hg5)
     obtain⟨V5,rfl⟩:∃V:World,V=w5:=⟨_,rfl⟩
     have HN5:Hid (nal≤8300*k):=Lib.hid (by omega)
     clear x0 x1 x2 x3 y0 y1 z1 z2 q0 q1 hb hnb
     go_wp2
     go_loopw [12,16] (fun sv ci wr=>∃(i nal2:Nat) (A2:Option Addr) (ca2:Nat) (al2:List Int),i≤p∧ci=.int .i64 i∧sv=.slice A2 nal2 ca2∧VStk wr W4.heap.size (.slice A2 nal2 ca2) al2∧al2.length=nal2∧nal2≤8300*k+32+32*i∧Hid (al2=al++s9.read.getD k []++wrdL s9 k i∧∀j,j<i→((s9.words.getD k []).getD j []).length=nd)∧BelW W4 wr) (fun _ ci _=>p-(intOf ci).toNat)
     case atStart=>exact⟨0,nal+nr,A5,c5,al++s9.read.getD k [],Nat.zero_le _,rfl,rfl,HV5.out,by rw[List.length_append,HAL.out,←HNR.out],by have:=HN5.out;omega,Lib.hid ⟨by simp[wrdL],fun j hj=>absurd hj (Nat.not_lt_zero j)⟩,HB5.out⟩
     case round=>
      clear HV5 HVS
      obtain⟨i,nal2,Aal,cal,al2,hi,rfl,rfl,hv,hal2,hnb,HAI2,hb4⟩:=hrel
      obtain⟨Vi,rfl⟩:∃V:World,V=wr:=⟨_,rfl⟩
      have hb:BelW W1 Vi:=joinB HS4.out hb4
      obtain⟨x0,x1,x2,x3⟩:=HCE.out Vi hb
      obtain⟨y0,y1⟩:=HMC.out Vi hb
      have z1:=HWC.out Vi hb
      by_cases hil:i<p
      ·have hil2:(i:Int)<(p:Int):=by omega
       have hiw:i<nw:=by have:=HF.out.1;omega
       have hiw2:(i:Int)<(nw:Int):=by omega
       obtain⟨b2,o2,Ax,nx,cx,hAw,hnx,hxc⟩:=HWI.out i hiw
       subst hAw
       have z3:=(hxc Vi hb).1
       have HXC:=Lib.hid hxc
       have HNX:=Lib.hid hnx
       have HV2:=Lib.hid (And.intro hv hb4)
       clear hxc hnx hv hb4
       have hq8:¬nx=nd→r=8:=fun h=>HX2.out k hlt fun g=>h (by rw[HNX.out,HND.out];exact g.2.2 i (by rw[←HNB.out];exact hil))
       have HQ8:=Lib.hid hq8
       clear hq8
       go_upto_region 21 with (fail)
       by_cases f2:nx=nd
       rotate_left
       ·have q0:((nx:Int) != (nd:Int))=true:=by simpa using fun h=>f2 (by exact_mod_cast h)
        obtain rfl:=HQ8.out f2
        clear f2
        go_quiet (fail)
        go_wp2
        go_ret
        exact⟨rfl,joinB HB1.out (by first|exact hb|exact below_drewN hb _|exact Below.drew hb)⟩
       have q0:((nx:Int) != (nd:Int))=false:=by simp[f2]
       have HF2:=Lib.hid f2
       have hx32:nx≤32:=by omega
       clear f2
       go_quiet (fail)
       have HVS:Hid (∀W,BelW Vi W→VStk W W4.heap.size (.slice Aal nal2 cal) al2∧BelW W4 W∧BelW W1 W):=Lib.hid fun W h=>⟨HV2.out.1.below h,joinB HV2.out.2 h,joinB hb h⟩
       have HAL2:=Lib.hid hal2
       clear hal2
       go_upto_region 20 with (at_builtin;refine wpList_appV rfl _ _ rfl W4.heap.size (.slice Aal nal2 cal) al2 ((s9.words.getD k []).getD i []) Ax nal2 nx cx rfl rfl (HVS.out _ (by first|exact Below.refl _ _|exact below_drewN (Below.refl _ _) _|exact Below.drew (Below.refl _ _))).1 HAL2.out ((fun W h=>(HXC.out W h).2) _ (HVS.out _ (by first|exact Below.refl _ _|exact below_drewN (Below.refl _ _) _|exact Below.drew (Below.refl _ _))).2.2) (by omega) (Below.size (HVS.out _ (by first|exact Below.refl _ _|exact below_drewN (Below.refl _ _) _|exact Below.drew (Below.refl _ _))).2.1) ?_;intro A5 c5 w5 hv5 hg5;have HB5:Hid (BelW W4 w5):=Lib.hid (bel_grown (HVS.out _ (by first|exact Below.refl _ _|exact below_drewN (Below.refl _ _) _|exact Below.drew (Below.refl _ _))).2.1 hg5 fun q hq=>(World.ownsRow.lt (HVS.out _ (by first|exact Below.refl _ _|exact below_drewN (Below.refl _ _) _|exact Below.drew (Below.refl _ _))).1 q hq).1);have HV5:=Lib.hid hv5;clear hv5 hg5)
       go_wp2
       go_roundw
       case rel=>exact⟨i+1,nal2+nx,A5,c5,al2++(s9.words.getD k []).getD i [],by omega,by go_num,rfl,HV5.out,by rw[List.length_append,HAL2.out,←HNX.out],by omega,Lib.hid ⟨by rw[HAI2.out.1,wrdL_succ];simp only[List.append_assoc],fun j hj=>by
        by_cases e:j=i
        ·subst e;rw[←HNX.out];exact HF2.out
        ·exact HAI2.out.2 j (by omega)⟩,HB5.out⟩
       case measure=>simp[intOf];omega
      ·obtain rfl:p=i:=by omega
       have hnb2:nal2≤8300*(k+1):=by omega
       have HV2:=Lib.hid (And.intro hv (And.intro hal2 hb4))
       clear hv hal2 hb4
       go_wp2
       go_roundw
       case rel=>exact⟨k+1,nal2,Aal,cal,al2,by omega,by go_num,rfl,HV2.out.1,HV2.out.2.1,hnb2,Lib.hid ⟨by rw[HAI2.out.1,HAK.out.1,memsL_succ,List.append_assoc];unfold memL;rw[←HNB.out],fun j hj=>by
        by_cases e:j=k
        ·subst e;exact⟨by rw[←HNW.out,HF.out.1];exact HNB.out,by rw[←HNR.out,HF.out.2];exact HND.out,fun i hi=>by rw[HAI2.out.2 i (by rw[HNB.out];exact hi)];exact HND.out⟩
        ·exact HAK.out.2 j (by omega)⟩,HV2.out.2.2⟩
       case measure=>simp[intOf];omega
  ·obtain rfl:m=k:=by omega
   have HVS:Hid (∀W,BelW Vr W→VStk W W4.heap.size (.slice Aal nal cal) al∧BelW W4 W∧BelW W1 W):=Lib.hid fun W h=>⟨hv.below h,joinB hb4 h,joinB hb h⟩
   have HAL:=Lib.hid hal
   have HDK2:Hid (∀W,BelW W1 W→Ks W W.heap.size (.slice As0 ns d0) s9.dff):=Lib.hid (by have e:=HE.out.2.1;have h:=HDK.out;rw[e]at h;exact h)
   have HDL2:Hid (s9.dff.length=ns):=Lib.hid (HDL.out.trans HE.out.2.1)
   have HAI2:Hid (0<ni→Ai=some ⟨bi,oi,none⟩):=Lib.hid (by have e:=HE.out.1;have h:=HAI.out;rw[e]at h;exact h)
   have HCI2:Hid (∀W,BelW W1 W→∀k,k<ni→W.cell? ⟨bi,oi+k,none⟩=some (.int .u8 (inp.getD k 0))):=Lib.hid (by have e:=HE.out.1;have h:=HCI.out;rw[e]at h;exact h)
   have HNI:Hid (mi=ni):=Lib.hid HE.out.1
   clear hv hb4 hal
   go_upto_region 25 with (at_builtin;refine wpList_appV rfl _ _ rfl W4.heap.size (.slice Aal nal cal) al (s9.dff) As0 nal ns d0 rfl rfl (HVS.out _ (by first|exact Below.refl _ _|exact below_drewN (Below.refl _ _) _|exact Below.drew (Below.refl _ _))).1 HAL.out ((fun W h=>HDK2.out W h) _ (HVS.out _ (by first|exact Below.refl _ _|exact below_drewN (Below.refl _ _) _|exact Below.drew (Below.refl _ _))).2.2) (by omega) (Below.size (HVS.out _ (by first|exact Below.refl _ _|exact below_drewN (Below.refl _ _) _|exact Below.drew (Below.refl _ _))).2.1) ?_;intro A5 c5 w5 hv5 hg5;have HB5:Hid (BelW W4 w5):=Lib.hid (bel_grown (HVS.out _ (by first|exact Below.refl _ _|exact below_drewN (Below.refl _ _) _|exact Below.drew (Below.refl _ _))).2.1 hg5 fun q hq=>(World.ownsRow.lt (HVS.out _ (by first|exact Below.refl _ _|exact below_drewN (Below.refl _ _) _|exact Below.drew (Below.refl _ _))).1 q hq).1);have HV5:=Lib.hid hv5;clear hv5 hg5)
   obtain⟨V5,rfl⟩:∃V:World,V=w5:=⟨_,rfl⟩
   have HALL:Hid (al++s9.dff=allL c s9 m):=Lib.hid (by rw[HAK.out.1];rfl)
   have HLL:Hid ((al++s9.dff).length=nal+ns):=Lib.hid (by rw[List.length_append,HAL.out,HDL2.out])
   obtain⟨L,HL⟩:=named (al++s9.dff)
   rw[←HL.out]at HV5 HALL HLL
   obtain⟨N,HN⟩:=named (nal+ns)
   rw[←HN.out]at HV5 HLL
   rw[←HN.out]
   have hN:N≤10000000:=by rw[HN.out];omega
   have hk5:Ks V5 V5.heap.size (.slice A5 N c5) L:=by have:=HV5.out.ks;exact this
   obtain⟨A9,b9,o9,c9,e9,hA9,-,-,hc9⟩:=hk5.opens
   simp only[Value.slice.injEq]at e9
   obtain⟨rfl,-,rfl⟩:=e9
   rw[HLL.out]at hA9 hc9
   have HA9:=Lib.hid hA9
   have HC9:=Lib.hid hc9
   have hbv:BelW W1 V5:=joinB HS4.out HB5.out
   clear hk5 hA9 hc9 HL HN hnb HVS hb x0 x1 x2 x3
   obtain⟨x0,x1,x2,x3⟩:=HCE.out V5 hbv
   go_wp2
   go_loop [17] (fun ci=>∃j:Nat,j≤N∧ci=.int .i64 j∧Hid (no2 L j)) (fun ci=>N-(intOf ci).toNat)
   case atStart=>exact⟨0,Nat.zero_le _,rfl,Lib.hid fun j hj=>absurd hj (Nat.not_lt_zero j)⟩
   case round=>
    obtain⟨j,hj,rfl,HNO⟩:=hrel
    by_cases hjl:j<N
    ·have hj2:(j:Int)<(N:Int):=by omega
     obtain rfl:=HA9.out (by omega)
     have z4:=(HC9.out j hjl).2
     obtain⟨y,HY⟩:=named (L.getD j 0)
     rw[←HY.out]at z4
     by_cases hy:2<y
     ·have q0:decide (2<y)=true:=by simpa using hy
      obtain rfl:r=1:=HX3.out HE.out.1 HE.out.2.1 HE.out.2.2.1 HE.out.2.2.2 HAK.out.2 j (by rw[←HALL.out,HLL.out];exact hjl) (by rw[←HALL.out,←HY.out];exact hy)
      clear HY
      go_wp2
      go_ret
      exact⟨rfl,joinB HB1.out hbv⟩
     ·have q0:decide (2<y)=false:=by simpa using hy
      have hy2:y≤2:=by omega
      go_wp2
      go_round
      case rel=>exact⟨j+1,by omega,by go_num,Lib.hid (no2_succ HNO.out (by rw[←HY.out];exact hy))⟩
      case measure=>simp[intOf];omega
    ·obtain rfl:N=j:=by omega
     have HNO2:Hid (no2 (allL c s9 m) (allL c s9 m).length):=Lib.hid (by rw[←HALL.out,HLL.out];exact HNO.out)
     clear HNO
     go_wp2
     go_loop [18] (fun ci=>∃j:Nat,j≤ni∧ci=.int .i64 j∧Hid (no3 inp j)) (fun ci=>ni-(intOf ci).toNat)
     case atStart=>exact⟨0,Nat.zero_le _,rfl,Lib.hid fun j hj=>absurd hj (Nat.not_lt_zero j)⟩
     case round=>
      obtain⟨j,hj,rfl,HNO⟩:=hrel
      by_cases hjl:j<ni
      ·have hj2:(j:Int)<(ni:Int):=by omega
       obtain rfl:=HAI2.out (by omega)
       have z4:=HCI2.out V5 hbv j hjl
       obtain⟨y,HY⟩:=named (inp.getD j 0)
       rw[←HY.out]at z4
       by_cases hy:3<y
       ·have q0:decide (3<y)=true:=by simpa using hy
        obtain rfl:r=1:=HX4.out HE.out.1 HE.out.2.1 HE.out.2.2.1 HE.out.2.2.2 HAK.out.2 j (by rw[HNI.out];exact hjl) (by rw[←HY.out];exact hy)
        clear HY
        go_wp2
        go_ret
        exact⟨rfl,joinB HB1.out hbv⟩
       ·have q0:decide (3<y)=false:=by simpa using hy
        have hy2:y≤3:=by omega
        go_wp2
        go_round
        case rel=>exact⟨j+1,by omega,by go_num,Lib.hid (no3_succ HNO.out (by rw[←HY.out];exact hy))⟩
        case measure=>simp[intOf];omega
      ·obtain rfl:ni=j:=by omega
       obtain rfl:r=0:=HX5.out HE.out.1 HE.out.2.1 HE.out.2.2.1 HE.out.2.2.2 HAK.out.2 HNO2.out (by rw[HNI.out];exact HNO.out)
       go_wp2
       go_ret
       exact⟨rfl,joinB HB1.out hbv⟩
end Go.Proofs.YtemjmfpcopfdbaaGreatDoor
