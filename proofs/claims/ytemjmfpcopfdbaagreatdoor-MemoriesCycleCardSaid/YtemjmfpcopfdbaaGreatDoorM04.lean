/- The texts Unq Prt Lev Ofk. -/
import Derived.Test.YtemjmfpcopfdbaaGreatDoorM03
import Derived.Maps.OwnOps
import Derived.Maps.OwnSet
import Derived.Maps.Views
import Derived.StringKeys
import Derived.Deep.AppendLies
import Derived.OwnWalk
import Derived.Maps.AppendAt
namespace Go.Proofs.YtemjmfpcopfdbaaGreatDoor
open Go.RowKit Go.Maps Go.WideMaps
theorem lawS:Keyed Tryz.prog 9:=string_keyed Tryz.underlying9
theorem zeroB(w:World):(zeroValue 4).run Tryz.prog w=.ok (.bool false) w:=by kernel_rfl
theorem makeMap_hint(n:Nat)(w:World):(Instr.makeMap 189 (some (.int .i64 n))).run Tryz.prog w=.ok (.map (some w.heap.size)) (w.alloc (.map #[] 0)):=by
 simp[Instr.makeMap,run_underlying Tryz.underlying189,asInt,asIntOf,Result.andThen]
theorem plainElem_bool_inv{H:Type}{P:Program}{e:TypeId}(he:P.underlying e=some .bool){v:Value}{z:DataW H×List MemPlace}(h:plainElem P e v=some z):∃x,v=.bool x∧z=(.lit (.bool x),[]):=by
 unfold plainElem at h
 rw[he]at h
 cases v<;>simp at h
 exact⟨_,rfl,h.symm⟩
def Noted(w:World)(b:Nat)(ks:List (List UInt8)):Prop:=
 ∃D:DataW Unit,w.ownsMap Tryz.prog 9 (plainElem Tryz.prog 4) b ks.length D∧IsMap D∧∀s:List UInt8,D.atKey (.string s) (.lit (.bool false))=.lit (.bool (decide (s∈ks)))
theorem Noted.lt{w:World}{b:Nat}{ks:List (List UInt8)}(h:Noted w b ks):b<w.heap.size:=by obtain⟨D,h,-⟩:=h;exact h.lt
theorem Noted.start(w:World):Noted (w.alloc (.map #[] 0)) w.heap.size []:=
 ⟨.map [],World.ownsMap_made _ _ _ _,isMap_empty,fun s=>by rw[atKey_of_not_has (by simp[has_eq])];simp⟩
theorem Noted.kept{w w':World}{b:Nat}{ks:List (List UInt8)}(h:Noted w b ks)(hb:Below w.heap.size w w'):Noted w' b ks:=by
 obtain⟨D,hD,h2,h3⟩:=h
 refine⟨D,?_,h2,h3⟩
 have hlt:=hD.lt
 obtain⟨es,clock,hb',F,hs,e⟩:=hD
 exact⟨es,clock,(hb.block b hlt).trans hb',F,hs,e⟩
def NmPost(w:World)(b:Nat)(ks:List (List UInt8))(s:List UInt8)(e:Ending)(w':World):Prop:=
 e=.returned (.bool (decide (s∈ks)|| !nameOk s))∧Noted w' b (ks++[s])∧w.grownBy w' (some b)
set_option maxHeartbeats 1000000 in
theorem names1_any(s:ByteArray)(hs:s.size≤maxLen)(ks:List (List UInt8))(hk:ks.length<1000000)(b q:Nat)(w:World)(hN:Noted w b ks)(hq:w.cell? ⟨q,0,none⟩=some (.map (some b))):
 Calls Tryz.prog 154 #[.string s,.pointer (some ⟨q,0,none⟩)] w (NmPost w b ks s.data.toList):=by
 obtain⟨D,hown,hM,hat⟩:=hN
 have hkey:keyOf Tryz.prog 9 (.string s)=some (.string s.data.toList):=keyOf_string_mk Tryz.underlying9 hs
 obtain⟨v,ps,hrun,hv⟩:=hown.lookup lawS Tryz.underlying189 (zeroB w) (plainElem_bool Tryz.underlying4 false) hkey
 rw[hat]at hv
 obtain⟨x,rfl,hx⟩:=plainElem_bool_inv Tryz.underlying4 hv
 have hx':decide (s.data.toList∈ks)=x:=by have:=congrArg Prod.fst hx;simpa using this
 have hqb:q≠b:=by
  rintro rfl
  obtain⟨es,clock,hb',-⟩:=hown
  simp[World.cell?,hb']at hq
 have hI:=fun w=>isName_any s w
 have hstep:∀w1,w1.ownsMap Tryz.prog 9 (plainElem Tryz.prog 4) b (ks.length+1) (D.put (.string s.data.toList) (.lit (.bool true)))→Noted w1 b (ks++[s.data.toList]):=by
  intro w1 h1
  refine⟨_,by simpa using h1,hM.put _ _,fun t=>?_⟩
  by_cases ht:t=s.data.toList
  ·subst ht
   rw[atKey_put_same hM (by exact trivial)]
   simp
  ·rw[atKey_put_other (fun e=>ht (by injection e)),hat]
   simp[ht]
 obtain⟨z,HZ⟩:=named (nameOk s.data.toList)
 rw[←HZ.out]at hI
 have HI:=Lib.hid hI
 have HX:=Lib.hid hx'
 have HS:=Lib.hid hstep
 have HAT:=Lib.hid hat
 have HOWN:=Lib.hid hown
 have HKEY:=Lib.hid hkey
 have hqb':some q≠some b:=by simpa using hqb
 have HQB:=Lib.hid hqb'
 clear hx hv hx' hI hstep hat hown hkey hM hqb'
 cases x
 all_goals
  go_enter Tryz.func154,Tryz.ntmps154
  go_wp2_with (first
   |(at_mapUpdate;refine wpList_mapUpdate_own _ rfl _ _ _ 189 rfl 9 4 lawS Tryz.underlying189 _ b ks.length D rfl HOWN.out (by unfold maxLen;omega) _ _ _ rfl rfl HKEY.out _ [] (plainElem_bool Tryz.underlying4 _) ?_;intro w1 hown1 hgrow1;have HO1:=Lib.hid (HS.out _ hown1);have HG1:=Lib.hid hgrow1;have hq1:=hgrow1.cell hq HQB.out;clear hown1 hgrow1)
   |(go_at_call 155;(with_reducible refine (HI.out _).mono ?_);rintro e w' ⟨rfl,rfl⟩))
  go_ret
  exact⟨ret_bool (by rw[HX.out,←HZ.out];rfl),HO1.out,HG1.out⟩
def badName(l:List ByteArray)(k:Nat):Bool:=decide ((l.getD k ByteArray.empty).data.toList∈(l.take k).map fun s=>s.data.toList)|| !nameOk (l.getD k ByteArray.empty).data.toList
def namesOk(l:List ByteArray):Bool:=(List.range l.length).all fun k=> !badName l k
theorem namesOk_no{l:List ByteArray}(k:Nat)(hk:k<l.length)(h:badName l k=true):namesOk l=false:=by
 unfold namesOk
 rw[List.all_eq_false]
 exact⟨k,by simpa using hk,by simp[h]⟩
theorem namesOk_yes{l:List ByteArray}(h:∀k,k<l.length→badName l k=false):namesOk l=true:=by
 unfold namesOk
 rw[List.all_eq_true]
 intro k hk
 simp[h k (by simpa using hk)]
theorem take_map_snoc(l:List ByteArray)(k:Nat)(h:k<l.length):(l.take (k+1)).map (fun s=>s.data.toList)=(l.take k).map (fun s=>s.data.toList)++[(l.getD k ByteArray.empty).data.toList]:=by
 rw[List.take_succ_eq_append_getElem h,List.getD_eq_getElem?_getD,List.getElem?_eq_getElem h,List.map_append];rfl
def IdxB(b:Bool)(w0:World)(e:Ending)(w':World):Prop:=∃i:Int,e=.returned (.int .i64 i)∧(0≤i↔b=true)∧Below w0.heap.size w0 w'
set_option maxHeartbeats 1000000 in
theorem indexS_any(l:List ByteArray)(hl:l.length<1000000)(s:Value)(w0 w:World)(B b q:Nat)(hB:B≤w0.heap.size)(hs:Ss w0 B s l)(hb0:Below w0.heap.size w0 w)(hbb:w0.heap.size≤b)(hN:Noted w b [])(hq:w.cell? ⟨q,0,none⟩=some (.map (some b))):
 Calls Tryz.prog 161 #[s,.func (.func 154) #[] #[.pointer (some ⟨q,0,none⟩)]] w (IdxB (!namesOk l) w0):=by
 obtain⟨A,bs,o,c,rfl,hA,-,hm,hc⟩:=hs.opens
 unfold maxLen at hm
 have HC:=Lib.hid hc
 have HAA:=Lib.hid hA
 have HN0:=Lib.hid hN
 have HQ0:=Lib.hid hq
 have HB0:=Lib.hid hb0
 clear hc hA hs hN hq hb0
 obtain⟨n,hn⟩:∃n,n=l.length:=⟨_,rfl⟩
 rw[←hn]at hm hl
 rw[←hn]
 have HN:=Lib.hid hn
 clear hn
 go_enter Tryz.func161,Tryz.ntmps161
 go_wp2
 go_loopw [8] (fun i wr=>Below w0.heap.size w0 wr∧∃k:Nat,k≤n∧i=.int .i64 k∧Noted wr b ((l.take k).map fun s=>s.data.toList)∧wr.cell? ⟨q,0,none⟩=some (.map (some b))∧∀j,j<k→badName l j=false) (fun i _=>n-(intOf i).toNat)
 case atStart=>exact⟨HB0.out,0,Nat.zero_le _,rfl,HN0.out,HQ0.out,fun j hj=>absurd hj (by omega)⟩
 case round=>
  obtain⟨hbr,k,hk,rfl,hN,hq,hno⟩:=hrel
  have HNO:=Lib.hid hno
  clear hno
  by_cases hlt:k<n
  ·obtain rfl:=HAA.out (by rw[←HN.out];omega)
   obtain⟨hlb,hcell,hsz⟩:=HC.out k (by rw[←HN.out];omega)
   have hcell:=(hbr.cell (p:=⟨bs,o+k,none⟩) (by show bs<w0.heap.size;omega)).trans hcell
   have htk:=take_map_snoc l k (by rw[←HN.out];exact hlt)
   have hbad:badName l k=(decide ((l.getD k ByteArray.empty).data.toList∈(l.take k).map fun s=>s.data.toList)|| !nameOk (l.getD k ByteArray.empty).data.toList):=rfl
   have hlk:((l.take k).map fun s=>s.data.toList).length<1000000:=by simp;omega
   obtain⟨ks,HKS⟩:=named ((l.take k).map fun s=>s.data.toList)
   rw[←HKS.out]at hN htk hbad hlk
   obtain⟨x,HX⟩:=named (l.getD k ByteArray.empty)
   rw[←HX.out]at hcell htk hsz hbad
   have hcall:=names1_any x hsz ks hlk b q wr hN hq
   have hqb:some q≠some b:=by
    rintro e
    obtain rfl:q=b:=by injection e
    obtain⟨D,hown,-⟩:=hN
    obtain⟨es,clock,hb',-⟩:=hown
    simp[World.cell?,hb']at hq
   unfold NmPost at hcall
   rw[←hbad]at hcall
   rw[←htk]at hcall
   have HT:=Lib.hid htk
   have HQB:=Lib.hid hqb
   have HQ:=Lib.hid hq
   have HBR:=Lib.hid hbr
   have hlt':=hN.lt
   have HBL:=Lib.hid hlt'
   clear htk hbad hsz hN hqb hq hbr hlk hlt'
   cases hv:badName l k
   all_goals
    rw[hv]at hcall
    have HCALL:=Lib.hid hcall
    have HV:=Lib.hid hv
    clear hcall hv
    go_wp2_with (go_at_call 154;(with_reducible refine HCALL.out.mono ?_);rintro e w1 ⟨rfl,hN1,hg1⟩;have HN1:=Lib.hid hN1;have HG1:=Lib.hid hg1;clear hN1 hg1)
    have HB1:=Lib.hid (HBR.out.grown HG1.out HBR.out.size (fun j hj=>by cases hj;exact hbb))
   ·go_roundw
    case rel=>
     refine⟨HB1.out,k+1,by omega,by go_num,HN1.out,HG1.out.cell HQ.out HQB.out,fun j hj=>?_⟩
     by_cases hjk:j=k
     ·rw[hjk];exact HV.out
     ·exact HNO.out j (by omega)
    case measure=>simp[intOf];omega
   ·go_ret
    exact⟨k,rfl,⟨fun _=>by rw[namesOk_no k (by rw[←HN.out];exact hlt) HV.out];rfl,fun _=>by omega⟩,HB1.out⟩
  ·go_wp2
   go_ret
   exact⟨-1,rfl,⟨fun h=>absurd h (by omega),fun h=>by rw[namesOk_yes (fun j hj=>HNO.out j (by rw[←HN.out]at hj;omega))]at h;cases h⟩,hbr⟩
set_option maxHeartbeats 400000 in
theorem containsS_any(l:List ByteArray)(hl:l.length<1000000)(s:Value)(w0 w:World)(B b q:Nat)(hB:B≤w0.heap.size)(hs:Ss w0 B s l)(hb0:Below w0.heap.size w0 w)(hbb:w0.heap.size≤b)(hN:Noted w b [])(hq:w.cell? ⟨q,0,none⟩=some (.map (some b))):
 Calls Tryz.prog 153 #[s,.func (.func 154) #[] #[.pointer (some ⟨q,0,none⟩)]] w fun e w'=>e=.returned (.bool (!namesOk l))∧Below w0.heap.size w0 w':=by
 obtain⟨y,HY⟩:=named (!namesOk l)
 rw[←HY.out]
 have hI:=indexS_any l hl s w0 w B b q hB hs hb0 hbb hN hq
 rw[←HY.out]at hI
 have HI:=Lib.hid hI
 clear hI hs hb0 hN hq
 go_enter Tryz.func153,Tryz.ntmps153
 go_wp2_with (go_at_call 161;(with_reducible refine HI.out.mono ?_);rintro e w' ⟨i,rfl,hi,hb⟩;have HI2:=Lib.hid hi;have HB:=Lib.hid hb;clear hi hb)
 go_ret
 exact⟨ret_bool (Bool.eq_iff_iff.2 (by simpa using HI2.out)),HB.out⟩
set_option maxHeartbeats 400000 in
theorem areNames_any(l:List ByteArray)(hl:l.length<1000000)(A:Option Addr)(c:Nat)(w:World)(B:Nat)(hB:B≤w.heap.size)(hs:Ss w B (.slice A l.length c) l):
 Calls Tryz.prog 138 #[.slice A l.length c] w fun e w'=>e=.returned (.bool (namesOk l))∧Below w.heap.size w w':=by
 obtain⟨W,HW⟩:=named ((w.alloc (.map #[] 0)).alloc (.cells #[.map (some w.heap.size)] 189))
 have hbW:Below w.heap.size w W:=by rw[HW.out];exact ((Below.refl _ _).alloc (Nat.le_refl _) _).alloc (by simp) _
 have hN:Noted W w.heap.size []:=by rw[HW.out];exact (Noted.start w).kept ((Below.refl _ _).alloc (Nat.le_refl _) _)
 have hq:W.cell? ⟨w.heap.size+1,0,none⟩=some (.map (some w.heap.size)):=by
  rw[HW.out,World.cell?_alloc_at _ _ _ _ (by simp)];rfl
 have hC:=containsS_any l hl _ w W B w.heap.size (w.heap.size+1) hB hs hbW (Nat.le_refl _) hN hq
 obtain⟨y,HY⟩:=named (namesOk l)
 rw[←HY.out]at hC ⊢
 generalize l.length=n at hC ⊢
 have hmk:=makeMap_hint n w
 obtain rfl:=HW.out
 have HC:=Lib.hid hC
 clear hC hs hN hq hbW HW
 go_enter Tryz.func138,Tryz.ntmps138
 go_wp2_with (go_at_call 153;(with_reducible refine HC.out.mono ?_);rintro e w' ⟨rfl,hb⟩;have HB:=Lib.hid hb;clear hb)
 go_ret
 exact⟨ret_bool (by simp),HB.out⟩
open Go.RowKit
def shapeErr(c:Ck):Int:=
 if 16384<c.nodes.length∨16<c.mems.length∨16384<c.outs.length then 3
 else if c.names.length≠c.nodes.length then 8
 else if firstE (nodeErr c) c.nodes≠0 then firstE (nodeErr c) c.nodes
 else if namesOk c.names=false then 5
 else if firstE (memErr c) c.mems≠0 then firstE (memErr c) c.mems
 else if areIdx c.nodes.length c.outs=false then 1 else 0
set_option maxHeartbeats 2000000 in
theorem parts_any(c:Ck)(A0 A1 A2 A3:Option Addr)(c0 c1 c2 c3:Nat)(w:World)(B:Nat)(hB:B≤w.heap.size)(hT:Tabs w)
 (hns:Ns w B (.slice A0 c.nodes.length c0) c.nodes) (hss:Ss w B (.slice A1 c.names.length c1) c.names) (hms:Ms w B (.slice A2 c.mems.length c2) c.mems) (hos:Is w B (.slice A3 c.outs.length c3) c.outs):
 Calls Tryz.prog 121 #[.agg #[.slice A0 c.nodes.length c0,.slice A1 c.names.length c1,.slice A2 c.mems.length c2,.slice A3 c.outs.length c3]] w
  fun e w'=>e=.returned (.int .i64 (shapeErr c))∧Below w.heap.size w w':=by
 obtain⟨W,HW⟩:=named (w.alloc (.cells #[.slice A0 c.nodes.length c0,.slice A1 c.names.length c1,.slice A2 c.mems.length c2,.slice A3 c.outs.length c3] 39))
 have hbW:Below w.heap.size w W:=by rw[HW.out];exact (Below.refl _ _).alloc (Nat.le_refl _) _
 have hbox:Boxed W w.heap.size (.slice A0 c.nodes.length c0) (.slice A1 c.names.length c1) (.slice A2 c.mems.length c2) (.slice A3 c.outs.length c3):=by rw[HW.out];exact Boxed.new _ _ _ _ _ _
 have hBW:B≤W.heap.size:=Nat.le_trans hB hbW.size
 have hns':=hns.below (hbW.mono hB)
 have hss':=hss.below (hbW.mono hB)
 have hms':=hms.below (hbW.mono hB)
 have hos':=hos.below (hbW.mono hB)
 have hTW:=hT.below hbW
 have hN:Calls Tryz.prog 135 #[.slice A0 c.nodes.length c0,.func (.func 136) #[] #[.pointer (some ⟨w.heap.size,0,none⟩)]] W fun e w'=>e=.returned (.int .i64 (firstE (nodeErr c) c.nodes))∧Below W.heap.size W w':=
  firstN_any (nodeErr c) _ c.nodes A0 c0 W B hBW hns' fun k hk A4 c4 W1 hin h0 hb1=>
   parts1_any c _ A0 A1 A2 A3 A4 c0 c1 c2 c3 c4 _ W1 B (Nat.le_trans hBW hb1.size) (hTW.below hb1) (hbox.below hb1) (hns'.below (hb1.mono hBW)) (hms'.below (hb1.mono hBW)) (hin.below (hb1.mono hBW)) h0
 have hS:c.names.length<1000000→∀w1,Below W.heap.size W w1→Calls Tryz.prog 138 #[.slice A1 c.names.length c1] w1 fun e w'=>e=.returned (.bool (namesOk c.names))∧Below W.heap.size W w':=
  fun hl w1 hb1=>rel (areNames_any c.names hl A1 c1 w1 B (Nat.le_trans hBW hb1.size) (hss'.below (hb1.mono hBW))) hb1
 have hM:∀w1,Below W.heap.size W w1→Calls Tryz.prog 139 #[.slice A2 c.mems.length c2,.func (.func 140) #[] #[.pointer (some ⟨w.heap.size,0,none⟩)]] w1 fun e w'=>e=.returned (.int .i64 (firstE (memErr c) c.mems))∧Below W.heap.size W w':=
  fun w1 hb1=>rel (firstM_any (memErr c) _ c.mems A2 c2 w1 B (Nat.le_trans hBW hb1.size) (hms'.below (hb1.mono hBW)) fun k hk A4 c4 A5 c5 W1 ha hd hb2=>
   parts2_any c _ A0 A1 A2 A3 A4 A5 c0 c1 c2 c3 c4 c5 _ W1 B (Nat.le_trans hBW (Nat.le_trans hb1.size hb2.size)) ((hbox.below hb1).below hb2) (ha.below (hb2.mono (Nat.le_trans hBW hb1.size))) (hd.below (hb2.mono (Nat.le_trans hBW hb1.size)))) hb1
 have hO:∀w1,Below W.heap.size W w1→Calls Tryz.prog 142 #[.agg #[.slice A0 c.nodes.length c0,.slice A1 c.names.length c1,.slice A2 c.mems.length c2,.slice A3 c.outs.length c3],.slice A3 c.outs.length c3] w1 fun e w'=>e=.returned (.bool (areIdx c.nodes.length c.outs))∧Below W.heap.size W w':=
  fun w1 hb1=>rel (areNets_any _ _ _ _ _ _ _ _ _ _ _ _ _ _ w1 B (Nat.le_trans hBW hb1.size) (hos'.below (hb1.mono hBW))) hb1
 obtain⟨y,HY⟩:=named (shapeErr c)
 rw[←HY.out]
 have hy:shapeErr c=if 16384<c.nodes.length∨16<c.mems.length∨16384<c.outs.length then 3 else if c.names.length≠c.nodes.length then 8 else if firstE (nodeErr c) c.nodes≠0 then firstE (nodeErr c) c.nodes else if namesOk c.names=false then 5 else if firstE (memErr c) c.mems≠0 then firstE (memErr c) c.mems else if areIdx c.nodes.length c.outs=false then 1 else 0:=rfl
 clear hns hss hms hos hT hns' hss' hms' hos' hTW hbox hBW
 generalize areIdx c.nodes.length c.outs=ok at hy hO
 generalize namesOk c.names=nok at hy hS
 generalize firstE (nodeErr c) c.nodes=e1 at hy hN
 generalize firstE (memErr c) c.mems=e2 at hy hM
 generalize c.nodes.length=n0 at hy hN hO HW ⊢
 generalize c.names.length=n1 at hy hS hO HW ⊢
 generalize c.mems.length=n2 at hy hM hO HW ⊢
 generalize c.outs.length=n3 at hy hO HW ⊢
 have HYY:=Lib.hid hy
 obtain rfl:=HW.out
 have HN:=Lib.hid hN
 have HS:=Lib.hid hS
 have HM:=Lib.hid hM
 have HO:=Lib.hid hO
 have HBW:=Lib.hid hbW
 clear hy hN hS hM hO HW hbW
 by_cases h1:16384<n0
 ·have hv:shapeErr c=3:=by rw[HYY.out,if_pos (.inl h1)]
  have HV:=Lib.hid hv
  clear hv
  go_enter Tryz.func121,Tryz.ntmps121
  go_wp2
  go_ret
  exact⟨ret_int (by rw[HY.out,HV.out]),HBW.out⟩
 by_cases h2:16<n2
 ·have hv:shapeErr c=3:=by rw[HYY.out,if_pos (.inr (.inl h2))]
  have HV:=Lib.hid hv
  clear hv
  go_enter Tryz.func121,Tryz.ntmps121
  go_wp2
  go_ret
  exact⟨ret_int (by rw[HY.out,HV.out]),HBW.out⟩
 by_cases h3:16384<n3
 ·have hv:shapeErr c=3:=by rw[HYY.out,if_pos (.inr (.inr h3))]
  have HV:=Lib.hid hv
  clear hv
  go_enter Tryz.func121,Tryz.ntmps121
  go_wp2
  go_ret
  exact⟨ret_int (by rw[HY.out,HV.out]),HBW.out⟩
 have hno:¬(16384<n0∨16<n2∨16384<n3):=by omega
 have HNO:=Lib.hid hno
 clear hno
 by_cases h4:n1=n0
 rotate_left
 ·have h4':(n1 != n0)=true:=by simpa using h4
  have H4:=Lib.hid h4
  have hv:shapeErr c=8:=by rw[HYY.out,if_neg HNO.out,if_pos H4.out]
  have HV:=Lib.hid hv
  clear hv
  go_enter Tryz.func121,Tryz.ntmps121
  go_wp2
  go_ret
  exact⟨ret_int (by rw[HY.out,HV.out]),HBW.out⟩
 subst h4
 have hnn:¬(n1≠n1):=fun h=>h rfl
 have HNN:=Lib.hid hnn
 have HSS:=Lib.hid (HS.out (by omega))
 clear hnn HS
 by_cases h5:e1=0
 rotate_left
 ·have h5':(e1 != 0)=true:=by simpa using h5
  have H5:=Lib.hid h5
  clear h5
  have hv:shapeErr c=e1:=by rw[HYY.out,if_neg HNO.out,if_neg HNN.out,if_pos H5.out]
  have HV:=Lib.hid hv
  clear hv
  go_enter Tryz.func121,Tryz.ntmps121
  go_wp2_with (go_at_call 135;(with_reducible refine HN.out.mono ?_);rintro e w1 ⟨rfl,hb⟩;have HB1:=Lib.hid hb;obtain⟨hc,hf⟩:=bcell hb;clear hb)
  go_ret
  exact⟨ret_int (by rw[HY.out,HV.out]),joinB HBW.out HB1.out⟩
 subst h5
 have h00:¬((0:Int)≠0):=fun h=>h rfl
 have H00:=Lib.hid h00
 clear h00
 cases nok
 ·have hv:shapeErr c=5:=by rw[HYY.out,if_neg HNO.out,if_neg HNN.out,if_neg H00.out,if_pos rfl]
  have HV:=Lib.hid hv
  clear hv
  go_enter Tryz.func121,Tryz.ntmps121
  go_wp2_with (first
   |(go_at_call 135;(with_reducible refine HN.out.mono ?_);rintro e w1 ⟨rfl,hb⟩;have HB1:=Lib.hid hb;obtain⟨hc,hf⟩:=bcell hb;clear hb)
   |(go_at_call 138;(with_reducible refine (HSS.out _ HB1.out).mono ?_);rintro e w2 ⟨rfl,hb⟩;have HB2:=Lib.hid hb;obtain⟨hc2,hf2⟩:=bcell hb;clear hb))
  go_ret
  exact⟨ret_int (by rw[HY.out,HV.out]),joinB HBW.out HB2.out⟩
 have htf:¬(true=false):=by decide
 have HTF:=Lib.hid htf
 clear htf
 by_cases h6:e2=0
 rotate_left
 ·have h6':(e2 != 0)=true:=by simpa using h6
  have H6:=Lib.hid h6
  clear h6
  have hv:shapeErr c=e2:=by rw[HYY.out,if_neg HNO.out,if_neg HNN.out,if_neg H00.out,if_neg HTF.out,if_pos H6.out]
  have HV:=Lib.hid hv
  clear hv
  go_enter Tryz.func121,Tryz.ntmps121
  go_wp2_with (first
   |(go_at_call 135;(with_reducible refine HN.out.mono ?_);rintro e w1 ⟨rfl,hb⟩;have HB1:=Lib.hid hb;obtain⟨hc,hf⟩:=bcell hb;clear hb)
   |(go_at_call 138;(with_reducible refine (HSS.out _ HB1.out).mono ?_);rintro e w2 ⟨rfl,hb⟩;have HB2:=Lib.hid hb;obtain⟨hc2,hf2⟩:=bcell hb;clear hb)
   |(go_at_call 139;(with_reducible refine (HM.out _ HB2.out).mono ?_);rintro e w3 ⟨rfl,hb⟩;have HB3:=Lib.hid hb;obtain⟨hc3,hf3⟩:=bcell hb;clear hb))
  go_ret
  exact⟨ret_int (by rw[HY.out,HV.out]),joinB HBW.out HB3.out⟩
 subst h6
 cases ok
 ·have hv:shapeErr c=1:=by rw[HYY.out,if_neg HNO.out,if_neg HNN.out,if_neg H00.out,if_neg HTF.out,if_neg H00.out,if_pos rfl]
  have HV:=Lib.hid hv
  clear hv
  go_enter Tryz.func121,Tryz.ntmps121
  go_wp2_with (first
   |(go_at_call 135;(with_reducible refine HN.out.mono ?_);rintro e w1 ⟨rfl,hb⟩;have HB1:=Lib.hid hb;obtain⟨hc,hf⟩:=bcell hb;clear hb)
   |(go_at_call 138;(with_reducible refine (HSS.out _ HB1.out).mono ?_);rintro e w2 ⟨rfl,hb⟩;have HB2:=Lib.hid hb;obtain⟨hc2,hf2⟩:=bcell hb;clear hb)
   |(go_at_call 139;(with_reducible refine (HM.out _ HB2.out).mono ?_);rintro e w3 ⟨rfl,hb⟩;have HB3:=Lib.hid hb;obtain⟨hc3,hf3⟩:=bcell hb;clear hb)
   |(go_at_call 142;(with_reducible refine (HO.out _ HB3.out).mono ?_);rintro e w4 ⟨rfl,hb⟩;have HB4:=Lib.hid hb;clear hb))
  go_ret
  exact⟨ret_int (by rw[HY.out,HV.out]),joinB HBW.out HB4.out⟩
 ·have hv:shapeErr c=0:=by rw[HYY.out,if_neg HNO.out,if_neg HNN.out,if_neg H00.out,if_neg HTF.out,if_neg H00.out,if_neg HTF.out]
  have HV:=Lib.hid hv
  clear hv
  go_enter Tryz.func121,Tryz.ntmps121
  go_wp2_with (first
   |(go_at_call 135;(with_reducible refine HN.out.mono ?_);rintro e w1 ⟨rfl,hb⟩;have HB1:=Lib.hid hb;obtain⟨hc,hf⟩:=bcell hb;clear hb)
   |(go_at_call 138;(with_reducible refine (HSS.out _ HB1.out).mono ?_);rintro e w2 ⟨rfl,hb⟩;have HB2:=Lib.hid hb;obtain⟨hc2,hf2⟩:=bcell hb;clear hb)
   |(go_at_call 139;(with_reducible refine (HM.out _ HB2.out).mono ?_);rintro e w3 ⟨rfl,hb⟩;have HB3:=Lib.hid hb;obtain⟨hc3,hf3⟩:=bcell hb;clear hb)
   |(go_at_call 142;(with_reducible refine (HO.out _ HB3.out).mono ?_);rintro e w4 ⟨rfl,hb⟩;have HB4:=Lib.hid hb;clear hb))
  go_ret
  exact⟨ret_int (by rw[HY.out,HV.out]),joinB HBW.out HB4.out⟩
def fillL(f:Nat→Value)(z:Value)(n k:Nat):List Value:=(List.range n).map fun j=>if j<k then f j else z
theorem fillL_len(f:Nat→Value)(z:Value)(n k:Nat):(fillL f z n k).length=n:=by simp[fillL]
theorem fillL_get(f:Nat→Value)(z:Value)(n k j:Nat)(h:j<n):(fillL f z n k)[j]? =some (if j<k then f j else z):=by
 simp[fillL,List.getElem?_map,List.getElem?_range h]
theorem fillL_set(f:Nat→Value)(z:Value)(n k:Nat):(fillL f z n k).set k (f k)=fillL f z n (k+1):=by
 apply List.ext_getElem?
 intro j
 by_cases hj:j<n
 ·rw[List.getElem?_set,fillL_get _ _ _ _ _ hj,fillL_get _ _ _ _ _ hj,fillL_len]
  by_cases hk:k=j
  ·subst hk;simp[hj]
  ·rw[if_neg hk]
   by_cases h1:j<k
   ·rw[if_pos h1,if_pos (by omega)]
   ·rw[if_neg h1,if_neg (by omega)]
 ·rw[List.getElem?_eq_none (by simp[fillL_len];omega),List.getElem?_eq_none (by simp[fillL_len];omega)]
theorem fillL_start(f:Nat→Value)(z:Value)(n:Nat):(madeCells #[z] n).toList=fillL f z n 0:=by
 apply List.ext_getElem?
 intro j
 by_cases hj:j<n
 ·rw[fillL_get _ _ _ _ _ hj];simp[madeCells,hj,Nat.mod_one]
 ·rw[List.getElem?_eq_none (by simp[madeCells];omega),List.getElem?_eq_none (by simp[fillL_len];omega)]
theorem fillL_end(x:Int)(z:Value)(n:Nat):fillL (fun _=>.int .i64 x) z n n=(List.replicate n x).map (Value.int .i64):=by
 apply List.ext_getElem?
 intro j
 by_cases hj:j<n
 ·rw[fillL_get _ _ _ _ _ hj,if_pos hj];simp[hj]
 ·rw[List.getElem?_eq_none (by simp[fillL_len];omega),List.getElem?_eq_none (by simp;omega)]
theorem info_int:(Tryz.prog.info? 3).map (fun i=>(i.zero,i.size,i.bytes))=some (some (.int .i64 0),1,8):=by kernel_rfl
theorem grown_set(w:World)(g j:Nat)(v:Value):w.grownBy (w.setCell ⟨g,j,none⟩ v) (some g):=
 ⟨rfl,rfl,rfl,by simp[World.setCell],fun i _ hne=>Below.heap_setCell _ _ _ _ (fun e=>hne (by rw[e]))⟩
def Row(w:World)(g:Nat)(l:List Int):Prop:=w.ownsRow g 3 1 (.slice (some ⟨g,0,none⟩) l.length l.length) l.length (l.map (Value.int .i64))
theorem Row.cell{w:World}{g:Nat}{l:List Int}(h:Row w g l){j:Nat}(hj:j<l.length):w.cell? ⟨g,j,none⟩=some (.int .i64 (lat l j)):=by
 have:=World.ownsRow.cellAt h j (by omega)
 rw[this,List.getElem?_map,List.getElem?_eq_getElem hj]
 simp[lat,List.getD_eq_getElem?_getD,List.getElem?_eq_getElem hj]
theorem Row.frozen{w:World}{g:Nat}{l:List Int}(h:Row w g l)(j:Nat):w.frozen? ⟨g,j,none⟩=false:=World.ownsRow.frozenAt h j
theorem Row.set{w:World}{g:Nat}{l:List Int}(h:Row w g l)(j:Nat)(x:Int):Row (w.setCell ⟨g,j,none⟩ (.int .i64 x)) g (l.set j x):=by
 have:=(World.ownsRow.stored h j (.int .i64 x)).1
 unfold Row
 rw[List.length_set,List.map_set]
 exact this
theorem Row.lt{w:World}{g:Nat}{l:List Int}(h:Row w g l):g<w.heap.size:=(World.ownsRow.lt h g rfl).2
theorem Row.kept{w w':World}{g:Nat}{l:List Int}{row:Option Nat}(h:Row w g l)(hg:w.grownBy w' row)(hne:some g≠row):Row w' g l:=World.ownsRow.kept h hg (.inr hne)
theorem Row.below{w w':World}{g:Nat}{l:List Int}(h:Row w g l)(hb:Below w.heap.size w w'):Row w' g l:=
 h.kept (row:=none) ⟨hb.os,hb.tape,hb.output,hb.size,fun i hi _=>hb.block i hi⟩ (by simp)
def Stk(w:World)(base:Nat)(v:Value)(l:List Int):Prop:=w.ownsRow base 3 1 v l.length (l.map (Value.int .i64))
theorem Stk.nil(w:World)(base:Nat):Stk w base (.slice none 0 0) []:=World.ownsRow_nil w base _ _
theorem Stk.kept{w w':World}{base:Nat}{v:Value}{l:List Int}{row:Option Nat}(h:Stk w base v l)(hg:w.grownBy w' row)(hne:∀q,row=some q→q<base):Stk w' base v l:=by
 refine World.ownsRow.kept h hg ?_
 rcases ho:v.ownBlock with _|q
 ·exact .inl rfl
 ·refine .inr fun e=>?_
  have:=(World.ownsRow.lt h q ho).1
  have:=hne q e.symm
  omega
theorem Stk.below{w w':World}{base:Nat}{v:Value}{l:List Int}(h:Stk w base v l)(hb:Below w.heap.size w w'):Stk w' base v l:=
 h.kept (row:=none) ⟨hb.os,hb.tape,hb.output,hb.size,fun i hi _=>hb.block i hi⟩ (by simp)
theorem Stk.form{w:World}{base:Nat}{v:Value}{l:List Int}(h:Stk w base v l):∃A c,v=.slice A l.length c∧l.length≤c∧c≤maxLen∧(0<l.length→∃q,A=some ⟨q,0,none⟩∧base≤q∧q<w.heap.size):=by
 have hlt:=World.ownsRow.lt h
 rcases h.2 with⟨rfl,hn⟩| ⟨g,cap,cur,rfl,hb,hg,hle,hm,-⟩
 ·exact⟨none,0,by rw[hn],by omega,by simp,fun h=>by omega⟩
 ·exact⟨_,cap,rfl,hle,hm,fun _=>⟨g,rfl,hb,(hlt g rfl).2⟩⟩
theorem Stk.cell{w:World}{base q c:Nat}{l:List Int}(h:Stk w base (.slice (some ⟨q,0,none⟩) l.length c) l){j:Nat}(hj:j<l.length):w.cell? ⟨q,j,none⟩=some (.int .i64 (l.getD j 0)):=by
 rw[World.ownsRow.cellAt h j (by omega),List.getElem?_map,List.getElem?_eq_getElem hj]
 simp[List.getD_eq_getElem?_getD,List.getElem?_eq_getElem hj]
theorem Stk.pop{w:World}{base q c:Nat}{r:List Int}{t:Int}(h:Stk w base (.slice (some ⟨q,0,none⟩) (r++[t]).length c) (r++[t])):Stk w base (.slice (some ⟨q,0,none⟩) r.length c) r:=by
 obtain⟨h1,h2⟩:=h
 rcases h2 with⟨e,-⟩| ⟨g,cap,cur,e,hb,hg,hle,hm,hsz,htake⟩
 ·cases e
 ·simp only[Value.slice.injEq,Option.some.injEq,Addr.mk.injEq]at e
  obtain⟨⟨rfl,-⟩,-,rfl⟩:=e
  refine⟨by simp,.inr ⟨q,c,cur,rfl,hb,hg,by simp at hle;omega,hm,hsz,?_⟩⟩
  have:=congrArg (List.take r.length) htake
  rw[List.take_take]at this
  simp only[List.length_append,List.length_singleton,Nat.mul_one,List.map_append]at this ⊢
  rw[show min r.length (r.length+1)=r.length by omega]at this
  rw[this,List.take_append_of_le_length (by simp),List.take_of_length_le (by simp)]
theorem one_new(w:World)(u:Value)(t:TypeId):∀(j:Nat) (v:Value),[u][j]? =some v→(w.alloc (.cells #[u] t)).cell? ((⟨w.heap.size,0,none⟩:Addr).add j)=some v:=by
 intro j v h
 match j,h with
 |0,h=>
  obtain rfl:u=v:=by simpa using h
  rw[show (⟨w.heap.size,0,none⟩:Addr).add 0=⟨w.heap.size,0,none⟩ from rfl,World.cell?_alloc_at _ _ _ _ rfl]
  rfl
theorem push_facts{w wo w1:World}{g:Nat}{sv v':Value}{st lv:List Int}{x:Int}{o:Obj}(hb:Below g w wo)(hrow:Row wo g lv)(hstk:Stk wo (g+1) sv st)
 (hown:w1.ownsRow (g+1) 3 1 v' (st.length+1) (st.map (Value.int .i64)++[.int .i64 x])) (hgr:(wo.alloc o).grownBy w1 sv.ownBlock):Below g w w1∧Row w1 g lv∧Stk w1 (g+1) v' (st++[x]):=by
 have hlt:=hrow.lt
 have hq:∀q,sv.ownBlock=some q→g+1≤q:=fun q h=>(World.ownsRow.lt hstk q h).1
 refine⟨(hb.alloc (by omega) o).grown hgr (by simp;omega) (fun q h=>by have:=hq q h;omega),?_,?_⟩
 ·exact (hrow.kept (World.grownBy_alloc wo o none) (by simp)).kept hgr (fun e=>by have:=hq g e.symm;omega)
 ·unfold Stk
  rw[List.length_append,List.map_append]
  exact hown
theorem set_facts{w wo:World}{g j:Nat}{sv:Value}{st lv:List Int}(x:Int)(hb:Below g w wo)(hrow:Row wo g lv)(hstk:Stk wo (g+1) sv st):
 Below g w (wo.setCell ⟨g,j,none⟩ (.int .i64 x))∧Row (wo.setCell ⟨g,j,none⟩ (.int .i64 x)) g (lv.set j x)∧Stk (wo.setCell ⟨g,j,none⟩ (.int .i64 x)) (g+1) sv st:=
 ⟨hb.setCell (Nat.le_refl g) _,hrow.set j x,hstk.kept (grown_set _ _ _ _) (fun q e=>by cases e;omega)⟩
theorem next_facts{w wo w1:World}{g:Nat}{sv:Value}{st lv:List Int}(h:Below g w wo∧Row wo g lv∧Stk wo (g+1) sv st)(hb:Below wo.heap.size wo w1):Below g w w1∧Row w1 g lv∧Stk w1 (g+1) sv st:=
 ⟨h.1.trans (hb.mono (by have:=h.2.1.lt;omega)),h.2.1.below hb,h.2.2.below hb⟩
theorem node_at{nodes:List Nd}{A:Option Addr}{c:Nat}{w:World}{B:Nat}(hn:Ns w B (.slice A nodes.length c) nodes){t:Nat}(ht:t<nodes.length):
 ∃b o A4 n4 c4 kd mm bt A5 n5 c5,A=some ⟨b,o,none⟩∧b<B∧w.cell? ⟨b,o+t*4,none⟩=some (.int .u8 kd)∧w.cell? ⟨b,o+t*4+1,none⟩=some (.slice A4 n4 c4)∧w.cell? ⟨b,o+t*4+2,none⟩=some (.int .i64 mm)∧w.cell? ⟨b,o+t*4+3,none⟩=some (.int .i64 bt)∧
  (if cmb kd=true then Value.slice A4 n4 c4 else .slice none 0 0)=.slice A5 n5 c5∧n5=(dep nodes t).length∧Is w B (.slice A5 n5 c5) (dep nodes t):=by
 obtain⟨A',b,o,c',e,hA,-,-,hc⟩:=hn
 simp only[Value.slice.injEq,true_and]at e
 obtain⟨rfl,rfl⟩:=e
 obtain rfl:=hA (by omega)
 obtain⟨hlt,s,h0,h1,h2,h3,h4,-⟩:=hc t ht
 obtain⟨A4,b4,o4,c4,rfl,-⟩:=id h4
 have hd:dep nodes t=if cmb (nodes.getD t default).kind=true then (nodes.getD t default).ins else []:=rfl
 cases hk:cmb (nodes.getD t default).kind
 ·refine⟨b,o,A4,_,c4,_,_,_,none,0,0,rfl,hlt,h0,h1,h2,h3,by rw[hk];rfl,?_,?_⟩
  ·rw[hd,hk];rfl
  ·rw[hd,hk];exact Arr.nil _ _ _ _ _
 ·refine⟨b,o,A4,_,c4,_,_,_,A4,_,c4,rfl,hlt,h0,h1,h2,h3,by rw[hk];rfl,?_,?_⟩
  ·rw[hd,hk];rfl
  ·rw[hd,hk];exact h4
theorem snoc_of{l:List Int}(h:l≠[]):∃r t,l=r++[t]:=by
 rcases List.eq_nil_or_concat l with e| ⟨r,t,e⟩
 ·exact absurd e h
 ·exact⟨r,t,by simpa using e⟩
theorem getD_snoc(r:List Int)(t:Int):(r++[t]).getD r.length 0=t:=by simp[List.getD_eq_getElem?_getD]
theorem take_snoc(l:List Int)(k:Nat)(h:k<l.length):l.take (k+1)=l.take k++[l.getD k 0]:=by
 rw[List.take_succ_eq_append_getElem h,List.getD_eq_getElem?_getD,List.getElem?_eq_getElem h];rfl
set_option maxHeartbeats 400000 in
theorem depends_any(x:Nd)(A4:Option Addr)(n4 c4:Nat)(w:World):
 Calls Tryz.prog 143 #[.agg #[.int .u8 x.kind,.slice A4 n4 c4,.int .i64 x.mem,.int .i64 x.bit]] w fun e w'=>e=.returned (if cmb x.kind=true then .slice A4 n4 c4 else .slice none 0 0)∧Below w.heap.size w w':=by
 have hb:Below w.heap.size w (w.alloc (.cells #[.int .u8 x.kind,.slice A4 n4 c4,.int .i64 x.mem,.int .i64 x.bit] 65)):=(Below.refl _ _).alloc (Nat.le_refl _) _
 have HB:=Lib.hid hb
 clear hb
 generalize x.kind=kd at HB ⊢
 generalize x.mem=mm at HB ⊢
 generalize x.bit=bt at HB ⊢
 cases h:cmb kd
 ·rw[if_neg (by decide)]
  have H:=Lib.hid h
  clear h
  go_enter Tryz.func143,Tryz.ntmps143
  go_wp2_with (go_at_call 70;(with_reducible refine (comb_any _ _).mono ?_);rintro e w' ⟨rfl,rfl⟩;rw[H.out])
  go_ret
  exact⟨rfl,HB.out⟩
 ·rw[if_pos rfl]
  have H:=Lib.hid h
  clear h
  go_enter Tryz.func143,Tryz.ntmps143
  go_wp2_with (go_at_call 70;(with_reducible refine (comb_any _ _).mono ?_);rintro e w' ⟨rfl,rfl⟩;rw[H.out])
  go_ret
  exact⟨rfl,HB.out⟩
set_option maxHeartbeats 400000 in
theorem clip_any(A:Option Addr)(n c:Nat)(w:World)(hA:(A=none∧n=0∧c=0)∨∃a:Addr,A=some a)(hn:n≤c)(hc:c≤maxLen):
 Calls Tryz.prog 127 #[.slice A n c] w fun e w'=>e=.returned (.slice A n n)∧w=w':=by
 unfold maxLen at hc
 rcases hA with⟨rfl,rfl,rfl⟩| ⟨a,rfl⟩
 ·go_enter Tryz.func127,Tryz.ntmps127
  go_wp2
  go_ret
  exact⟨rfl,rfl⟩
 ·go_enter Tryz.func127,Tryz.ntmps127
  go_wp2
  go_ret
  exact⟨rfl,rfl⟩
def U8At(w:World)(_B b p:Nat)(x:Int):Prop:=w.cell? ⟨b,p,none⟩=some (.int .u8 x)
theorem stays_u8:Stays U8At:=fun w w' B B' b p x hb hB h hk=>(hk ⟨b,p,none⟩ hb).trans h
def Ks(w:World)(B:Nat)(v:Value)(l:List Int):Prop:=Arr 0 1 U8At w B v l
theorem Ks.below{w w':World}{B:Nat}{v:Value}{l:List Int}(h:Ks w B v l)(hb:Below B w w'):Ks w' B v l:=Arr.keep stays_u8 h (Nat.le_refl _) fun _ hp=>hb.cell hp
theorem Ks.opens{w:World}{B:Nat}{v:Value}{l:List Int}(h:Ks w B v l):∃A b o c,v=.slice A l.length c∧(0<l.length→A=some ⟨b,o,none⟩)∧l.length≤c∧l.length≤maxLen∧∀k,k<l.length→b<B∧w.cell? ⟨b,o+k,none⟩=some (.int .u8 (l.getD k 0)):=by
 obtain⟨A,b,o,c,h1,h2,h3,h4,h5⟩:=h
 exact⟨A,b,o,c,h1,h2,h3,h4,fun k hk=>⟨(h5 k hk).1,by have:=(h5 k hk).2;rw[Nat.mul_one]at this;exact this⟩⟩
def isK(kl:List Int)(x:Int):Bool:=anyP (fun y=>x==y) kl
set_option maxHeartbeats 1000000 in
theorem indexK_any(x:Int)(l:List Int)(s:Value)(w:World)(B:Nat)(hs:Ks w B s l):
 Calls Tryz.prog 146 #[s,.int .u8 x] w (IdxP (isK l x) w):=by
 obtain⟨A,b,o,c,rfl,hA,-,hm,hc⟩:=hs.opens
 unfold maxLen at hm
 have HC:=Lib.hid hc
 have HAA:=Lib.hid hA
 clear hc hA hs
 obtain⟨n,hn⟩:∃n,n=l.length:=⟨_,rfl⟩
 rw[←hn]at hm
 rw[←hn]
 have HN:=Lib.hid hn
 clear hn
 go_enter Tryz.func146,Tryz.ntmps146
 go_wp2
 go_loopw [8] (fun i wr=>wr=w∧∃k:Nat,k≤n∧i=.int .i64 k∧∀j,j<k→(x==l.getD j 0)=false) (fun i _=>n-(intOf i).toNat)
 case atStart=>exact⟨rfl,0,Nat.zero_le _,rfl,fun j hj=>absurd hj (by omega)⟩
 case round=>
  obtain⟨rfl,k,hk,rfl,hno⟩:=hrel
  have HNO:=Lib.hid hno
  clear hno
  by_cases hlt:k<n
  ·obtain rfl:=HAA.out (by rw[←HN.out];omega)
   have hcell:=(HC.out k (by rw[←HN.out];omega)).2
   obtain⟨y,HX⟩:=named (l.getD k 0)
   rw[←HX.out]at hcell
   cases hv:x==y
   ·have HV:=Lib.hid hv
    go_wp2
    go_roundw
    case rel=>
     refine⟨by trivial,k+1,by omega,by go_num,fun j hj=>?_⟩
     by_cases hjk:j=k
     ·rw[hjk,←HX.out];exact HV.out
     ·exact HNO.out j (by omega)
    case measure=>simp[intOf];omega
   ·have HV:=Lib.hid hv
    go_wp2
    go_ret
    exact⟨k,rfl,⟨fun _=>anyP_yes k (by rw[←HN.out];omega) (by rw[←HX.out];exact HV.out),fun _=>by omega⟩,rfl⟩
  ·go_wp2
   go_ret
   exact⟨-1,rfl,⟨fun h=>absurd h (by omega),fun h=>by rw[isK,anyP_no (fun j hj=>HNO.out j (by rw[←HN.out]at hj;omega))]at h;cases h⟩,rfl⟩
set_option maxHeartbeats 400000 in
theorem containsK_any(x:Int)(l:List Int)(s:Value)(w:World)(B:Nat)(hs:Ks w B s l):
 Calls Tryz.prog 126 #[s,.int .u8 x] w fun e w'=>e=.returned (.bool (isK l x))∧w=w':=by
 obtain⟨y,HY⟩:=named (isK l x)
 rw[←HY.out]
 have HI:=Lib.hid (indexK_any x l s w B hs)
 clear hs
 go_enter Tryz.func126,Tryz.ntmps126
 go_wp2_with (go_at_call 146;(with_reducible refine HI.out.mono ?_);rintro e w' ⟨i,rfl,hi,rfl⟩;have HI2:=Lib.hid hi;clear hi)
 go_ret
 exact⟨ret_bool (by rw[HY.out];exact Bool.eq_iff_iff.2 (by simpa using HI2.out)),rfl⟩
def ofTo(nodes:List Nd)(kl:List Int)(k:Nat):List Int:=List.map (fun i:Nat=>(i:Int)) (List.filter (fun i=>isK kl (nodes.getD i default).kind) (List.range k))
theorem ofTo_succ(nodes:List Nd)(kl:List Int)(k:Nat):ofTo nodes kl (k+1)=ofTo nodes kl k++(if isK kl (nodes.getD k default).kind=true then [(k:Int)] else []):=by
 unfold ofTo
 rw[List.range_succ,List.filter_append,List.map_append]
 congr 1
 cases h:isK kl (nodes.getD k default).kind<;>(simp only[List.filter_cons,List.filter_nil,h];rfl)
theorem ofTo_len(nodes:List Nd)(kl:List Int)(k:Nat):(ofTo nodes kl k).length≤k:=by
 unfold ofTo
 rw[List.length_map]
 have:=List.length_filter_le (fun i=>isK kl (nodes.getD i default).kind) (List.range k)
 simpa using this
theorem push_own{w wo w1:World}{g:Nat}{sv v':Value}{st:List Int}{x:Int}{o:Obj}(hg:g≤wo.heap.size)(hb:Below g w wo)(hstk:Stk wo g sv st)
 (hown:w1.ownsRow g 3 1 v' (st.length+1) (st.map (Value.int .i64)++[.int .i64 x])) (hgr:(wo.alloc o).grownBy w1 sv.ownBlock):Below g w w1∧Stk w1 g v' (st++[x]):=by
 have hq:∀q,sv.ownBlock=some q→g≤q:=fun q h=>(World.ownsRow.lt hstk q h).1
 refine⟨(hb.alloc hg o).grown hgr (by simp;omega) hq,?_⟩
 unfold Stk
 rw[List.length_append,List.map_append]
 exact hown
theorem Stk.reads{w:World}{g c:Nat}{A:Option Addr}{l:List Int}(h:Stk w g (.slice A l.length c) l)(k:Nat)(hk:l.length≤k)(hkm:l.length≤maxLen):Is w w.heap.size (.slice A l.length k) l:=by
 obtain⟨A',c',e,-,-,hq⟩:=h.form
 simp only[Value.slice.injEq,true_and]at e
 obtain⟨rfl,rfl⟩:=e
 by_cases h0:0<l.length
 ·obtain⟨q,rfl,-,hlt⟩:=hq h0
  refine⟨_,q,0,k,rfl,fun _=>rfl,hk,hkm,fun j hj=>⟨hlt,?_⟩⟩
  show World.cell? _ _=_
  rw[Nat.zero_add,Nat.mul_one]
  exact h.cell hj
 ·exact⟨A,0,0,k,rfl,fun h=>absurd h h0,hk,hkm,fun j hj=>absurd hj (by omega)⟩
theorem Stk.shape{w:World}{g:Nat}{v:Value}{l:List Int}(h:Stk w g v l):∃A c,v=.slice A l.length c∧l.length≤c∧c≤maxLen∧((A=none∧l.length=0∧c=0)∨∃a:Addr,A=some a):=by
 rcases h.2 with⟨rfl,hn⟩| ⟨g,cap,cur,rfl,hb,hg,hle,hm,-⟩
 ·exact⟨none,0,by rw[hn],by omega,by simp,.inl ⟨rfl,hn,rfl⟩⟩
 ·exact⟨_,cap,rfl,hle,hm,.inr ⟨_,rfl⟩⟩
def OfPost(l:List Int)(w:World)(e:Ending)(w':World):Prop:=∃A,e=.returned (.slice A l.length l.length)∧Is w' w'.heap.size (.slice A l.length l.length) l∧Below w.heap.size w w'
set_option maxHeartbeats 4000000 in
theorem of_any(c:Ck)(kl:List Int)(v s:Value)(w:World)(B:Nat)(hB:B≤w.heap.size)(hc:Cir w B v c)(hk:Ks w B s kl)(hsz:c.nodes.length≤1000000):
 Calls Tryz.prog 84 #[v,s] w (OfPost (ofTo c.nodes kl c.nodes.length) w):=by
 obtain⟨v0,v1,v2,v3,rfl,hns,hss,hms,hos⟩:=hc
 obtain⟨A0,b,o,c0,rfl,hA,-,-,hcell⟩:=id hns
 obtain⟨A1,b1,o1,c1,rfl,-⟩:=id hss
 obtain⟨A2,b2,o2,c2,rfl,-⟩:=id hms
 obtain⟨A3,b3,o3,c3,rfl,-⟩:=id hos
 obtain⟨As,bs,os,cs,rfl,-⟩:=id hk
 have hbW:Below w.heap.size w (w.alloc (.cells #[.slice A0 c.nodes.length c0,.slice A1 c.names.length c1,.slice A2 c.mems.length c2,.slice A3 c.outs.length c3] 39)):=(Below.refl _ _).alloc (Nat.le_refl _) _
 have HKS:=Lib.hid hk
 have HCE:=Lib.hid hcell
 have HAA:=Lib.hid hA
 clear hns hss hms hos hk hcell hA
 generalize c.names.length=n1 at hbW ⊢
 generalize c.mems.length=n2 at hbW ⊢
 generalize c.outs.length=n3 at hbW ⊢
 obtain⟨n,HN⟩:=named c.nodes.length
 rw[←HN.out]at hbW hsz
 rw[←HN.out]
 obtain⟨W,HW⟩:=named (w.alloc (.cells #[.slice A0 n c0,.slice A1 n1 c1,.slice A2 n2 c2,.slice A3 n3 c3] 39))
 have hzW:W.heap.size=w.heap.size+1:=by rw[HW.out];simp
 rw[←HW.out]at hbW
 have HBW:=Lib.hid hbW
 have HZW:=Lib.hid hzW
 clear hbW hzW
 generalize kl.length=nk at HKS ⊢
 go_enter Tryz.func84,Tryz.ntmps84
 go_wp2
 go_loopw [11,5] (fun i sv wr=>∃k:Nat,k≤n∧i=.int .i64 k∧Below w.heap.size w wr∧w.heap.size≤wr.heap.size∧Stk wr w.heap.size sv (ofTo c.nodes kl k)) (fun i _ _=>n-(intOf i).toNat)
 case atStart=>exact⟨0,Nat.zero_le _,rfl,by rw[←HW.out];exact HBW.out,by simp,Stk.nil _ _⟩
 case round=>
  obtain⟨k,hk,rfl,hb,hg,hst⟩:=hrel
  obtain⟨A6,c6,rfl,hle6,hc6,hsh⟩:=hst.shape
  have hol:=ofTo_len c.nodes kl k
  by_cases hlt:k<n
  ·obtain rfl:=HAA.out (by rw[←HN.out];omega)
   obtain⟨hlb,s,h0,h1,h2,h3,h4,h5,-⟩:=HCE.out k (by rw[←HN.out];exact hlt)
   obtain⟨A4,b4,o4,c4,rfl,-⟩:=id h4
   have hsu:=ofTo_succ c.nodes kl k
   have hlb':b<w.heap.size:=by omega
   have e0:=(hb.cell (p:=⟨b,o+k*4,none⟩) hlb').trans h0
   have e1:=(hb.cell (p:=⟨b,o+k*4+1,none⟩) hlb').trans h1
   have e2:=(hb.cell (p:=⟨b,o+k*4+2,none⟩) hlb').trans h2
   have e3:=(hb.cell (p:=⟨b,o+k*4+3,none⟩) hlb').trans h3
   clear h0 h1 h2 h3 h4
   generalize (c.nodes.getD k default).ins.length=ni at e1
   generalize (c.nodes.getD k default).mem=mm at e2
   generalize (c.nodes.getD k default).bit=bt at e3
   obtain⟨kd,HKD⟩:=named (c.nodes.getD k default).kind
   rw[←HKD.out]at e0 hsu h5
   have hcon:=containsK_any kd kl (.slice As nk cs) (wr.alloc (.cells #[.int .u8 kd,.slice A4 ni c4,.int .i64 mm,.int .i64 bt] 65)) B (HKS.out.below ((hb.alloc hg _).mono hB))
   have HST:=Lib.hid hst
   have HB:=Lib.hid hb
   have hb2:=hb.alloc hg (.cells #[.int .u8 kd,.slice A4 ni c4,.int .i64 mm,.int .i64 bt] 65)
   have hst2:Stk (wr.alloc (.cells #[.int .u8 kd,.slice A4 ni c4,.int .i64 mm,.int .i64 bt] 65)) w.heap.size (.slice A6 (ofTo c.nodes kl k).length c6) (ofTo c.nodes kl k):=hst.below ((Below.refl _ _).alloc (Nat.le_refl _) _)
   have HB2:=Lib.hid hb2
   have HST2:=Lib.hid hst2
   clear hst hb hb2 hst2
   obtain⟨L,HL⟩:=named (ofTo c.nodes kl k)
   rw[←HL.out]at hsu HST2 hol hle6 hsh
   rw[←HL.out]
   cases hv:isK kl kd
   ·rw[hv]at hcon hsu
    rw[if_neg (by decide),List.append_nil]at hsu
    have HSU:=Lib.hid hsu
    have HCON:=Lib.hid hcon
    clear hcon hsu hv hsh
    go_wp2_with (go_at_call 126;(with_reducible refine HCON.out.mono ?_);rintro e w1 ⟨rfl,rfl⟩)
    go_roundw
    case rel=>
     refine⟨k+1,by omega,by go_num,HB2.out,by simp;omega,?_⟩
     rw[HSU.out];exact HST2.out
    case measure=>simp[intOf];omega
   ·rw[hv]at hcon hsu
    rw[if_pos rfl]at hsu
    have HSU:=Lib.hid hsu
    have HCON:=Lib.hid hcon
    clear hcon hsu hv hsh
    obtain⟨i1,hi1,hz0,hz1,hz2⟩:=info_parts info_int
    have HI:=Lib.hid (And.intro hi1 (And.intro hz0 (And.intro hz1 hz2)))
    clear hi1 hz0 hz1 hz2
    go_wp2_with (first
     |(go_at_call 126;(with_reducible refine HCON.out.mono ?_);rintro e w1 ⟨rfl,rfl⟩)
     |(at_builtin;refine wpList_append_own_at _ rfl _ _ 37 rfl w.heap.size 3 i1 (.int .i64 0) 1 8 Tryz.underlying37 HI.out.1 HI.out.2.1 HI.out.2.2.1 HI.out.2.2.2 rfl (by decide) _ _ _ rfl (World.ownsRow.alloc HST2.out _) ⟨wr.heap.size+1,0,none⟩ 1 1 [.int .i64 (k:Int)] rfl rfl (by have:=one_new (wr.alloc (.cells #[.int .u8 kd,.slice A4 ni c4,.int .i64 mm,.int .i64 bt] 65)) (.int .i64 (k:Int)) 3;simpa using this) (ints_oneCell .i64 [(k:Int)]) (by unfold maxLen;omega) (by omega) (by simp;omega) ?_;intro v' w2 hown' hgrow hnil hloc;have HF:=Lib.hid (push_own (by simp;omega) HB2.out HST2.out hown' hgrow);have HZ:=Lib.hid hgrow.size;clear hown' hgrow hnil hloc))
    go_roundw
    case rel=>
     refine⟨k+1,by omega,by go_num,HF.out.1,by have:=HZ.out;simp at this;omega,?_⟩
     rw[HSU.out];exact HF.out.2
    case measure=>simp[intOf];omega
  ·obtain rfl:n=k:=by omega
   have hr:=hst.reads _ (Nat.le_refl _) (by unfold maxLen;omega)
   have HR:=Lib.hid hr
   have HB:=Lib.hid hb
   have hclip:=clip_any A6 (ofTo c.nodes kl n).length c6 wr hsh hle6 hc6
   obtain⟨L,HL⟩:=named (ofTo c.nodes kl n)
   rw[←HL.out]at hclip HR
   rw[←HL.out]
   have HCL:=Lib.hid hclip
   clear hr hb hst hclip hsh hle6
   go_wp2_with (go_at_call 127;(with_reducible refine HCL.out.mono ?_);rintro e w1 ⟨rfl,rfl⟩)
   go_ret
   rw[←HL.out]
   exact⟨A6,rfl,HR.out,HB.out⟩
theorem Ks.one(w:World)(x:Int)(t:TypeId){n:Nat}(hn:n=w.heap.size):Ks (w.alloc (.cells #[.int .u8 x] t)) (w.alloc (.cells #[.int .u8 x] t)).heap.size (.slice (some ⟨n,0,none⟩) 1 1) [x]:=by
 subst hn
 refine⟨_,w.heap.size,0,1,rfl,fun _=>rfl,by simp,by simp[maxLen],fun k hk=>?_⟩
 have hk0:k=0:=by simpa using hk
 subst hk0
 refine⟨by simp,?_⟩
 show World.cell? _ _=_
 rw[World.cell?_alloc_at _ _ _ _ rfl];rfl
theorem OfPost.from{l:List Int}{w0 w:World}{P:Program}{f:FuncId}{args:Array Value}(h:Calls P f args w (OfPost l w))(hb:Below w0.heap.size w0 w):Calls P f args w (OfPost l w0):=
 h.mono fun _ _ ⟨A,he,hi,h'⟩=>⟨A,he,hi,joinB hb h'⟩
set_option maxHeartbeats 1000000 in
theorem inputs_any(c:Ck)(v:Value)(w:World)(B:Nat)(hB:B≤w.heap.size)(hc:Cir w B v c)(hsz:c.nodes.length≤1000000):
 Calls Tryz.prog 36 #[v] w (OfPost (ofTo c.nodes [0] c.nodes.length) w):=by
 have hb0:=hc
 obtain⟨v0,v1,v2,v3,rfl,hns,hss,hms,hos⟩:=hc
 obtain⟨A0,b0,o0,c0,rfl,-⟩:=id hns
 obtain⟨A1,b1,o1,c1,rfl,-⟩:=id hss
 obtain⟨A2,b2,o2,c2,rfl,-⟩:=id hms
 obtain⟨A3,b3,o3,c3,rfl,-⟩:=id hos
 obtain⟨W,HW⟩:=named (w.alloc (.cells #[.slice A0 c.nodes.length c0,.slice A1 c.names.length c1,.slice A2 c.mems.length c2,.slice A3 c.outs.length c3] 39))
 have hbW:Below w.heap.size w W:=by rw[HW.out];exact (Below.refl _ _).alloc (Nat.le_refl _) _
 have hzW:W.heap.size=w.heap.size+1:=by rw[HW.out];simp
 have hbK:Below w.heap.size w (W.alloc (.cells #[.int .u8 0] 63)):=hbW.alloc hbW.size _
 have hL:=OfPost.from (of_any c [0] _ (.slice (some ⟨w.heap.size+1,0,none⟩) 1 1) (W.alloc (.cells #[.int .u8 0] 63)) _ (Nat.le_refl _) ((hb0.below (hbK.mono hB)).more (Nat.le_trans hB hbK.size)) (Ks.one W 0 _ hzW.symm) hsz) hbK
 clear hns hss hms hos hb0 hbK hzW hbW
 generalize ofTo c.nodes [0] c.nodes.length=L at hL ⊢
 generalize c.nodes.length=n0 at hL HW ⊢
 generalize c.names.length=n1 at hL HW ⊢
 generalize c.mems.length=n2 at hL HW ⊢
 generalize c.outs.length=n3 at hL HW ⊢
 obtain rfl:=HW.out
 have HL:=Lib.hid hL
 clear hL HW
 go_enter Tryz.func36,Tryz.ntmps36
 go_wp2_with (go_at_call 84;(with_reducible refine HL.out.mono ?_);rintro e w1 ⟨A,rfl,hi,hb⟩;have HI:=Lib.hid hi;have HB1:=Lib.hid hb;clear hi hb)
 go_ret
 exact⟨A,rfl,HI.out,HB1.out⟩
set_option maxHeartbeats 1000000 in
theorem states_any(c:Ck)(v:Value)(w:World)(B:Nat)(hB:B≤w.heap.size)(hc:Cir w B v c)(hsz:c.nodes.length≤1000000):
 Calls Tryz.prog 37 #[v] w (OfPost (ofTo c.nodes [14] c.nodes.length) w):=by
 have hb0:=hc
 obtain⟨v0,v1,v2,v3,rfl,hns,hss,hms,hos⟩:=hc
 obtain⟨A0,b0,o0,c0,rfl,-⟩:=id hns
 obtain⟨A1,b1,o1,c1,rfl,-⟩:=id hss
 obtain⟨A2,b2,o2,c2,rfl,-⟩:=id hms
 obtain⟨A3,b3,o3,c3,rfl,-⟩:=id hos
 obtain⟨W,HW⟩:=named (w.alloc (.cells #[.slice A0 c.nodes.length c0,.slice A1 c.names.length c1,.slice A2 c.mems.length c2,.slice A3 c.outs.length c3] 39))
 have hbW:Below w.heap.size w W:=by rw[HW.out];exact (Below.refl _ _).alloc (Nat.le_refl _) _
 have hzW:W.heap.size=w.heap.size+1:=by rw[HW.out];simp
 have hbK:Below w.heap.size w (W.alloc (.cells #[.int .u8 14] 63)):=hbW.alloc hbW.size _
 have hL:=OfPost.from (of_any c [14] _ (.slice (some ⟨w.heap.size+1,0,none⟩) 1 1) (W.alloc (.cells #[.int .u8 14] 63)) _ (Nat.le_refl _) ((hb0.below (hbK.mono hB)).more (Nat.le_trans hB hbK.size)) (Ks.one W 14 _ hzW.symm) hsz) hbK
 clear hns hss hms hos hb0 hbK hzW hbW
 generalize ofTo c.nodes [14] c.nodes.length=L at hL ⊢
 generalize c.nodes.length=n0 at hL HW ⊢
 generalize c.names.length=n1 at hL HW ⊢
 generalize c.mems.length=n2 at hL HW ⊢
 generalize c.outs.length=n3 at hL HW ⊢
 obtain rfl:=HW.out
 have HL:=Lib.hid hL
 clear hL HW
 go_enter Tryz.func37,Tryz.ntmps37
 go_wp2_with (go_at_call 84;(with_reducible refine HL.out.mono ?_);rintro e w1 ⟨A,rfl,hi,hb⟩;have HI:=Lib.hid hi;have HB1:=Lib.hid hb;clear hi hb)
 go_ret
 exact⟨A,rfl,HI.out,HB1.out⟩
end Go.Proofs.YtemjmfpcopfdbaaGreatDoor
