/- The texts Unq. -/
import Derived.Test.YtcbllelkgniogaaDoorM06
import Derived.Maps.OwnOps
import Derived.Maps.OwnSet
import Derived.Maps.Views
import Derived.StringKeys
import Derived.Deep.AppendLies
namespace Go.Proofs.YtcbllelkgniogaaDoor
open Go.RowKit Go.Maps Go.WideMaps
theorem lawS:Keyed Tryd.prog 9:=string_keyed Tryd.underlying9
theorem zeroB(w:World):(zeroValue 4).run Tryd.prog w=.ok (.bool false) w:=by kernel_rfl
theorem makeMap_hint(n:Nat)(w:World):(Instr.makeMap 141 (some (.int .i64 n))).run Tryd.prog w=.ok (.map (some w.heap.size)) (w.alloc (.map #[] 0)):=by
 simp[Instr.makeMap,run_underlying Tryd.underlying141,asInt,asIntOf,Result.andThen]
theorem plainElem_bool_inv{H:Type}{P:Program}{e:TypeId}(he:P.underlying e=some .bool){v:Value}{z:DataW H×List MemPlace}(h:plainElem P e v=some z):∃x,v=.bool x∧z=(.lit (.bool x),[]):=by
 unfold plainElem at h
 rw[he]at h
 cases v<;>simp at h
 exact⟨_,rfl,h.symm⟩
def Noted(w:World)(b:Nat)(ks:List (List UInt8)):Prop:=
 ∃D:DataW Unit,w.ownsMap Tryd.prog 9 (plainElem Tryd.prog 4) b ks.length D∧IsMap D∧∀s:List UInt8,D.atKey (.string s) (.lit (.bool false))=.lit (.bool (decide (s∈ks)))
theorem Noted.lt{w:World}{b:Nat}{ks:List (List UInt8)}(h:Noted w b ks):b<w.heap.size:=by obtain⟨D,h,-⟩:=h;exact h.lt
theorem Noted.start(w:World):Noted (w.alloc (.map #[] 0)) w.heap.size []:=
 ⟨.map [],World.ownsMap_made _ _ _ _,isMap_empty,fun s=>by rw[atKey_of_not_has (by simp[has_eq])];simp⟩
theorem Noted.kept{w w':World}{b:Nat}{ks:List (List UInt8)}(h:Noted w b ks)(hb:Below w.heap.size w w'):Noted w' b ks:=by
 obtain⟨D,hD,h2,h3⟩:=h
 refine⟨D,?_,h2,h3⟩
 have hlt:=hD.lt
 obtain⟨es,clock,hb',F,hs,e⟩:=hD
 exact⟨es,clock,(hb.block b hlt).trans hb',F,hs,e⟩
def NmPost(w:World)(b:Nat)(ks:List (List UInt8))(s:List UInt8)(e:Ending)(w':World):Prop:=
 e=.returned (.bool (decide (s∈ks)|| !nameOk s))∧Noted w' b (ks++[s])∧w.grownBy w' (some b)
set_option maxHeartbeats 1000000 in
theorem names1_any(s:ByteArray)(hs:s.size≤maxLen)(ks:List (List UInt8))(hk:ks.length<1000000)(b q:Nat)(w:World)(hN:Noted w b ks)(hq:w.cell? ⟨q,0,none⟩=some (.map (some b))):
 Calls Tryd.prog 89 #[.string s,.pointer (some ⟨q,0,none⟩)] w (NmPost w b ks s.data.toList):=by
 obtain⟨D,hown,hM,hat⟩:=hN
 have hkey:keyOf Tryd.prog 9 (.string s)=some (.string s.data.toList):=keyOf_string_mk Tryd.underlying9 hs
 obtain⟨v,ps,hrun,hv⟩:=hown.lookup lawS Tryd.underlying141 (zeroB w) (plainElem_bool Tryd.underlying4 false) hkey
 rw[hat]at hv
 obtain⟨x,rfl,hx⟩:=plainElem_bool_inv Tryd.underlying4 hv
 have hx':decide (s.data.toList∈ks)=x:=by have:=congrArg Prod.fst hx;simpa using this
 have hqb:q≠b:=by
  rintro rfl
  obtain⟨es,clock,hb',-⟩:=hown
  simp[World.cell?,hb']at hq
 have hI:=fun w=>isName_any s w
 have hstep:∀w1,w1.ownsMap Tryd.prog 9 (plainElem Tryd.prog 4) b (ks.length+1) (D.put (.string s.data.toList) (.lit (.bool true)))→Noted w1 b (ks++[s.data.toList]):=by
  intro w1 h1
  refine⟨_,by simpa using h1,hM.put _ _,fun t=>?_⟩
  by_cases ht:t=s.data.toList
  ·subst ht
   rw[atKey_put_same hM (by exact trivial)]
   simp
  ·rw[atKey_put_other (fun e=>ht (by injection e)),hat]
   simp[ht]
 obtain⟨z,HZ⟩:=named (nameOk s.data.toList)
 rw[←HZ.out]at hI
 have HI:=Lib.hid hI
 have HX:=Lib.hid hx'
 have HS:=Lib.hid hstep
 have HAT:=Lib.hid hat
 have HOWN:=Lib.hid hown
 have HKEY:=Lib.hid hkey
 have hqb':some q≠some b:=by simpa using hqb
 have HQB:=Lib.hid hqb'
 clear hx hv hx' hI hstep hat hown hkey hM hqb'
 cases x
 all_goals
  go_enter Tryd.func89,Tryd.ntmps89
  go_wp2_with (first
   |(at_mapUpdate;refine wpList_mapUpdate_own _ rfl _ _ _ 141 rfl 9 4 lawS Tryd.underlying141 _ b ks.length D rfl HOWN.out (by unfold maxLen;omega) _ _ _ rfl rfl HKEY.out _ [] (plainElem_bool Tryd.underlying4 _) ?_;intro w1 hown1 hgrow1;have HO1:=Lib.hid (HS.out _ hown1);have HG1:=Lib.hid hgrow1;have hq1:=hgrow1.cell hq HQB.out;clear hown1 hgrow1)
   |(go_at_call 90;(with_reducible refine (HI.out _).mono ?_);rintro e w' ⟨rfl,rfl⟩))
  go_ret
  exact⟨ret_bool (by rw[HX.out,←HZ.out];rfl),HO1.out,HG1.out⟩
def badName(l:List ByteArray)(k:Nat):Bool:=decide ((l.getD k ByteArray.empty).data.toList∈(l.take k).map fun s=>s.data.toList)|| !nameOk (l.getD k ByteArray.empty).data.toList
def namesOk(l:List ByteArray):Bool:=(List.range l.length).all fun k=> !badName l k
theorem namesOk_no{l:List ByteArray}(k:Nat)(hk:k<l.length)(h:badName l k=true):namesOk l=false:=by
 unfold namesOk
 rw[List.all_eq_false]
 exact⟨k,by simpa using hk,by simp[h]⟩
theorem namesOk_yes{l:List ByteArray}(h:∀k,k<l.length→badName l k=false):namesOk l=true:=by
 unfold namesOk
 rw[List.all_eq_true]
 intro k hk
 simp[h k (by simpa using hk)]
theorem take_map_snoc(l:List ByteArray)(k:Nat)(h:k<l.length):(l.take (k+1)).map (fun s=>s.data.toList)=(l.take k).map (fun s=>s.data.toList)++[(l.getD k ByteArray.empty).data.toList]:=by
 rw[List.take_succ_eq_append_getElem h,List.getD_eq_getElem?_getD,List.getElem?_eq_getElem h,List.map_append];rfl
def IdxB(b:Bool)(w0:World)(e:Ending)(w':World):Prop:=∃i:Int,e=.returned (.int .i64 i)∧(0≤i↔b=true)∧Below w0.heap.size w0 w'
set_option maxHeartbeats 1000000 in
theorem indexS_any(l:List ByteArray)(hl:l.length<1000000)(s:Value)(w0 w:World)(B b q:Nat)(hB:B≤w0.heap.size)(hs:Ss w0 B s l)(hb0:Below w0.heap.size w0 w)(hbb:w0.heap.size≤b)(hN:Noted w b [])(hq:w.cell? ⟨q,0,none⟩=some (.map (some b))):
 Calls Tryd.prog 102 #[s,.func (.func 89) #[] #[.pointer (some ⟨q,0,none⟩)]] w (IdxB (!namesOk l) w0):=by
 obtain⟨A,bs,o,c,rfl,hA,-,hm,hc⟩:=hs.opens
 unfold maxLen at hm
 have HC:=Lib.hid hc
 have HAA:=Lib.hid hA
 have HN0:=Lib.hid hN
 have HQ0:=Lib.hid hq
 have HB0:=Lib.hid hb0
 clear hc hA hs hN hq hb0
 obtain⟨n,hn⟩:∃n,n=l.length:=⟨_,rfl⟩
 rw[←hn]at hm hl
 rw[←hn]
 have HN:=Lib.hid hn
 clear hn
 go_enter Tryd.func102,Tryd.ntmps102
 go_wp2
 go_loopw [8] (fun i wr=>Below w0.heap.size w0 wr∧∃k:Nat,k≤n∧i=.int .i64 k∧Noted wr b ((l.take k).map fun s=>s.data.toList)∧wr.cell? ⟨q,0,none⟩=some (.map (some b))∧∀j,j<k→badName l j=false) (fun i _=>n-(intOf i).toNat)
 case atStart=>exact⟨HB0.out,0,Nat.zero_le _,rfl,HN0.out,HQ0.out,fun j hj=>absurd hj (by omega)⟩
 case round=>
  obtain⟨hbr,k,hk,rfl,hN,hq,hno⟩:=hrel
  have HNO:=Lib.hid hno
  clear hno
  by_cases hlt:k<n
  ·obtain rfl:=HAA.out (by rw[←HN.out];omega)
   obtain⟨hlb,hcell,hsz⟩:=HC.out k (by rw[←HN.out];omega)
   have hcell:=(hbr.cell (p:=⟨bs,o+k,none⟩) (by show bs<w0.heap.size;omega)).trans hcell
   have htk:=take_map_snoc l k (by rw[←HN.out];exact hlt)
   have hbad:badName l k=(decide ((l.getD k ByteArray.empty).data.toList∈(l.take k).map fun s=>s.data.toList)|| !nameOk (l.getD k ByteArray.empty).data.toList):=rfl
   have hlk:((l.take k).map fun s=>s.data.toList).length<1000000:=by simp;omega
   obtain⟨ks,HKS⟩:=named ((l.take k).map fun s=>s.data.toList)
   rw[←HKS.out]at hN htk hbad hlk
   obtain⟨x,HX⟩:=named (l.getD k ByteArray.empty)
   rw[←HX.out]at hcell htk hsz hbad
   have hcall:=names1_any x hsz ks hlk b q wr hN hq
   have hqb:some q≠some b:=by
    rintro e
    obtain rfl:q=b:=by injection e
    obtain⟨D,hown,-⟩:=hN
    obtain⟨es,clock,hb',-⟩:=hown
    simp[World.cell?,hb']at hq
   unfold NmPost at hcall
   rw[←hbad]at hcall
   rw[←htk]at hcall
   have HT:=Lib.hid htk
   have HQB:=Lib.hid hqb
   have HQ:=Lib.hid hq
   have HBR:=Lib.hid hbr
   have hlt':=hN.lt
   have HBL:=Lib.hid hlt'
   clear htk hbad hsz hN hqb hq hbr hlk hlt'
   cases hv:badName l k
   all_goals
    rw[hv]at hcall
    have HCALL:=Lib.hid hcall
    have HV:=Lib.hid hv
    clear hcall hv
    go_wp2_with (go_at_call 89;(with_reducible refine HCALL.out.mono ?_);rintro e w1 ⟨rfl,hN1,hg1⟩;have HN1:=Lib.hid hN1;have HG1:=Lib.hid hg1;clear hN1 hg1)
    have HB1:=Lib.hid (HBR.out.grown HG1.out HBR.out.size (fun j hj=>by cases hj;exact hbb))
   ·go_roundw
    case rel=>
     refine⟨HB1.out,k+1,by omega,by go_num,HN1.out,HG1.out.cell HQ.out HQB.out,fun j hj=>?_⟩
     by_cases hjk:j=k
     ·rw[hjk];exact HV.out
     ·exact HNO.out j (by omega)
    case measure=>simp[intOf];omega
   ·go_ret
    exact⟨k,rfl,⟨fun _=>by rw[namesOk_no k (by rw[←HN.out];exact hlt) HV.out];rfl,fun _=>by omega⟩,HB1.out⟩
  ·go_wp2
   go_ret
   exact⟨-1,rfl,⟨fun h=>absurd h (by omega),fun h=>by rw[namesOk_yes (fun j hj=>HNO.out j (by rw[←HN.out]at hj;omega))]at h;cases h⟩,hbr⟩
set_option maxHeartbeats 400000 in
theorem containsS_any(l:List ByteArray)(hl:l.length<1000000)(s:Value)(w0 w:World)(B b q:Nat)(hB:B≤w0.heap.size)(hs:Ss w0 B s l)(hb0:Below w0.heap.size w0 w)(hbb:w0.heap.size≤b)(hN:Noted w b [])(hq:w.cell? ⟨q,0,none⟩=some (.map (some b))):
 Calls Tryd.prog 88 #[s,.func (.func 89) #[] #[.pointer (some ⟨q,0,none⟩)]] w fun e w'=>e=.returned (.bool (!namesOk l))∧Below w0.heap.size w0 w':=by
 obtain⟨y,HY⟩:=named (!namesOk l)
 rw[←HY.out]
 have hI:=indexS_any l hl s w0 w B b q hB hs hb0 hbb hN hq
 rw[←HY.out]at hI
 have HI:=Lib.hid hI
 clear hI hs hb0 hN hq
 go_enter Tryd.func88,Tryd.ntmps88
 go_wp2_with (go_at_call 102;(with_reducible refine HI.out.mono ?_);rintro e w' ⟨i,rfl,hi,hb⟩;have HI2:=Lib.hid hi;have HB:=Lib.hid hb;clear hi hb)
 go_ret
 exact⟨ret_bool (Bool.eq_iff_iff.2 (by simpa using HI2.out)),HB.out⟩
set_option maxHeartbeats 400000 in
theorem areNames_any(l:List ByteArray)(hl:l.length<1000000)(A:Option Addr)(c:Nat)(w:World)(B:Nat)(hB:B≤w.heap.size)(hs:Ss w B (.slice A l.length c) l):
 Calls Tryd.prog 70 #[.slice A l.length c] w fun e w'=>e=.returned (.bool (namesOk l))∧Below w.heap.size w w':=by
 obtain⟨W,HW⟩:=named ((w.alloc (.map #[] 0)).alloc (.cells #[.map (some w.heap.size)] 141))
 have hbW:Below w.heap.size w W:=by rw[HW.out];exact ((Below.refl _ _).alloc (Nat.le_refl _) _).alloc (by simp) _
 have hN:Noted W w.heap.size []:=by rw[HW.out];exact (Noted.start w).kept ((Below.refl _ _).alloc (Nat.le_refl _) _)
 have hq:W.cell? ⟨w.heap.size+1,0,none⟩=some (.map (some w.heap.size)):=by
  rw[HW.out,World.cell?_alloc_at _ _ _ _ (by simp)];rfl
 have hC:=containsS_any l hl _ w W B w.heap.size (w.heap.size+1) hB hs hbW (Nat.le_refl _) hN hq
 obtain⟨y,HY⟩:=named (namesOk l)
 rw[←HY.out]at hC ⊢
 generalize l.length=n at hC ⊢
 have hmk:=makeMap_hint n w
 obtain rfl:=HW.out
 have HC:=Lib.hid hC
 clear hC hs hN hq hbW HW
 go_enter Tryd.func70,Tryd.ntmps70
 go_wp2_with (go_at_call 88;(with_reducible refine HC.out.mono ?_);rintro e w' ⟨rfl,hb⟩;have HB:=Lib.hid hb;clear hb)
 go_ret
 exact⟨ret_bool (by simp),HB.out⟩
end Go.Proofs.YtcbllelkgniogaaDoor
