/- The texts Prt Lev Cln Cpp Cpy. -/
import Derived.Test.YtemjmfpcopfdbaaGreatDoorM05
import Derived.OwnWalk
import Derived.Maps.AppendAt
import Derived.Laws.CopyRow
import Derived.Laws.CopyOwn
import Derived.Deep.OwnRows
import Derived.Deep.DeepCutAuto
import Derived.Deep.CutBlock
import Derived.Deep.RegionHeld3
namespace Go.Proofs.YtemjmfpcopfdbaaGreatDoor
open Go.RowKit
def shapeErr(c:Ck):Int:=
 if 16384<c.nodes.length∨16<c.mems.length∨16384<c.outs.length then 3
 else if c.names.length≠c.nodes.length then 8
 else if firstE (nodeErr c) c.nodes≠0 then firstE (nodeErr c) c.nodes
 else if namesOk c.names=false then 5
 else if firstE (memErr c) c.mems≠0 then firstE (memErr c) c.mems
 else if areIdx c.nodes.length c.outs=false then 1 else 0
set_option maxHeartbeats 2000000 in
theorem parts_any(c:Ck)(A0 A1 A2 A3:Option Addr)(c0 c1 c2 c3:Nat)(w:World)(B:Nat)(hB:B≤w.heap.size)(hT:Tabs w)
 (hns:Ns w B (.slice A0 c.nodes.length c0) c.nodes) (hss:Ss w B (.slice A1 c.names.length c1) c.names) (hms:Ms w B (.slice A2 c.mems.length c2) c.mems) (hos:Is w B (.slice A3 c.outs.length c3) c.outs):
 Calls Tryz.prog 121 #[.agg #[.slice A0 c.nodes.length c0,.slice A1 c.names.length c1,.slice A2 c.mems.length c2,.slice A3 c.outs.length c3]] w
  fun e w'=>e=.returned (.int .i64 (shapeErr c))∧Below w.heap.size w w':=by
 obtain⟨W,HW⟩:=named (w.alloc (.cells #[.slice A0 c.nodes.length c0,.slice A1 c.names.length c1,.slice A2 c.mems.length c2,.slice A3 c.outs.length c3] 39))
 have hbW:Below w.heap.size w W:=by rw[HW.out];exact (Below.refl _ _).alloc (Nat.le_refl _) _
 have hbox:Boxed W w.heap.size (.slice A0 c.nodes.length c0) (.slice A1 c.names.length c1) (.slice A2 c.mems.length c2) (.slice A3 c.outs.length c3):=by rw[HW.out];exact Boxed.new _ _ _ _ _ _
 have hBW:B≤W.heap.size:=Nat.le_trans hB hbW.size
 have hns':=hns.below (hbW.mono hB)
 have hss':=hss.below (hbW.mono hB)
 have hms':=hms.below (hbW.mono hB)
 have hos':=hos.below (hbW.mono hB)
 have hTW:=hT.below hbW
 have hN:Calls Tryz.prog 135 #[.slice A0 c.nodes.length c0,.func (.func 136) #[] #[.pointer (some ⟨w.heap.size,0,none⟩)]] W fun e w'=>e=.returned (.int .i64 (firstE (nodeErr c) c.nodes))∧Below W.heap.size W w':=
  firstN_any (nodeErr c) _ c.nodes A0 c0 W B hBW hns' fun k hk A4 c4 W1 hin h0 hb1=>
   parts1_any c _ A0 A1 A2 A3 A4 c0 c1 c2 c3 c4 _ W1 B (Nat.le_trans hBW hb1.size) (hTW.below hb1) (hbox.below hb1) (hns'.below (hb1.mono hBW)) (hms'.below (hb1.mono hBW)) (hin.below (hb1.mono hBW)) h0
 have hS:c.names.length<1000000→∀w1,Below W.heap.size W w1→Calls Tryz.prog 138 #[.slice A1 c.names.length c1] w1 fun e w'=>e=.returned (.bool (namesOk c.names))∧Below W.heap.size W w':=
  fun hl w1 hb1=>rel (areNames_any c.names hl A1 c1 w1 B (Nat.le_trans hBW hb1.size) (hss'.below (hb1.mono hBW))) hb1
 have hM:∀w1,Below W.heap.size W w1→Calls Tryz.prog 139 #[.slice A2 c.mems.length c2,.func (.func 140) #[] #[.pointer (some ⟨w.heap.size,0,none⟩)]] w1 fun e w'=>e=.returned (.int .i64 (firstE (memErr c) c.mems))∧Below W.heap.size W w':=
  fun w1 hb1=>rel (firstM_any (memErr c) _ c.mems A2 c2 w1 B (Nat.le_trans hBW hb1.size) (hms'.below (hb1.mono hBW)) fun k hk A4 c4 A5 c5 W1 ha hd hb2=>
   parts2_any c _ A0 A1 A2 A3 A4 A5 c0 c1 c2 c3 c4 c5 _ W1 B (Nat.le_trans hBW (Nat.le_trans hb1.size hb2.size)) ((hbox.below hb1).below hb2) (ha.below (hb2.mono (Nat.le_trans hBW hb1.size))) (hd.below (hb2.mono (Nat.le_trans hBW hb1.size)))) hb1
 have hO:∀w1,Below W.heap.size W w1→Calls Tryz.prog 142 #[.agg #[.slice A0 c.nodes.length c0,.slice A1 c.names.length c1,.slice A2 c.mems.length c2,.slice A3 c.outs.length c3],.slice A3 c.outs.length c3] w1 fun e w'=>e=.returned (.bool (areIdx c.nodes.length c.outs))∧Below W.heap.size W w':=
  fun w1 hb1=>rel (areNets_any _ _ _ _ _ _ _ _ _ _ _ _ _ _ w1 B (Nat.le_trans hBW hb1.size) (hos'.below (hb1.mono hBW))) hb1
 obtain⟨y,HY⟩:=named (shapeErr c)
 rw[←HY.out]
 have hy:shapeErr c=if 16384<c.nodes.length∨16<c.mems.length∨16384<c.outs.length then 3 else if c.names.length≠c.nodes.length then 8 else if firstE (nodeErr c) c.nodes≠0 then firstE (nodeErr c) c.nodes else if namesOk c.names=false then 5 else if firstE (memErr c) c.mems≠0 then firstE (memErr c) c.mems else if areIdx c.nodes.length c.outs=false then 1 else 0:=rfl
 clear hns hss hms hos hT hns' hss' hms' hos' hTW hbox hBW
 generalize areIdx c.nodes.length c.outs=ok at hy hO
 generalize namesOk c.names=nok at hy hS
 generalize firstE (nodeErr c) c.nodes=e1 at hy hN
 generalize firstE (memErr c) c.mems=e2 at hy hM
 generalize c.nodes.length=n0 at hy hN hO HW ⊢
 generalize c.names.length=n1 at hy hS hO HW ⊢
 generalize c.mems.length=n2 at hy hM hO HW ⊢
 generalize c.outs.length=n3 at hy hO HW ⊢
 have HYY:=Lib.hid hy
 obtain rfl:=HW.out
 have HN:=Lib.hid hN
 have HS:=Lib.hid hS
 have HM:=Lib.hid hM
 have HO:=Lib.hid hO
 have HBW:=Lib.hid hbW
 clear hy hN hS hM hO HW hbW
 by_cases h1:16384<n0
 ·have hv:shapeErr c=3:=by rw[HYY.out,if_pos (.inl h1)]
  have HV:=Lib.hid hv
  clear hv
  go_enter Tryz.func121,Tryz.ntmps121
  go_wp2
  go_ret
  exact⟨ret_int (by rw[HY.out,HV.out]),HBW.out⟩
 by_cases h2:16<n2
 ·have hv:shapeErr c=3:=by rw[HYY.out,if_pos (.inr (.inl h2))]
  have HV:=Lib.hid hv
  clear hv
  go_enter Tryz.func121,Tryz.ntmps121
  go_wp2
  go_ret
  exact⟨ret_int (by rw[HY.out,HV.out]),HBW.out⟩
 by_cases h3:16384<n3
 ·have hv:shapeErr c=3:=by rw[HYY.out,if_pos (.inr (.inr h3))]
  have HV:=Lib.hid hv
  clear hv
  go_enter Tryz.func121,Tryz.ntmps121
  go_wp2
  go_ret
  exact⟨ret_int (by rw[HY.out,HV.out]),HBW.out⟩
 have hno:¬(16384<n0∨16<n2∨16384<n3):=by omega
 have HNO:=Lib.hid hno
 clear hno
 by_cases h4:n1=n0
 rotate_left
 ·have h4':(n1 != n0)=true:=by simpa using h4
  have H4:=Lib.hid h4
  have hv:shapeErr c=8:=by rw[HYY.out,if_neg HNO.out,if_pos H4.out]
  have HV:=Lib.hid hv
  clear hv
  go_enter Tryz.func121,Tryz.ntmps121
  go_wp2
  go_ret
  exact⟨ret_int (by rw[HY.out,HV.out]),HBW.out⟩
 subst h4
 have hnn:¬(n1≠n1):=fun h=>h rfl
 have HNN:=Lib.hid hnn
 have HSS:=Lib.hid (HS.out (by omega))
 clear hnn HS
 by_cases h5:e1=0
 rotate_left
 ·have h5':(e1 != 0)=true:=by simpa using h5
  have H5:=Lib.hid h5
  clear h5
  have hv:shapeErr c=e1:=by rw[HYY.out,if_neg HNO.out,if_neg HNN.out,if_pos H5.out]
  have HV:=Lib.hid hv
  clear hv
  go_enter Tryz.func121,Tryz.ntmps121
  go_wp2_with (go_at_call 135;(with_reducible refine HN.out.mono ?_);rintro e w1 ⟨rfl,hb⟩;have HB1:=Lib.hid hb;obtain⟨hc,hf⟩:=bcell hb;clear hb)
  go_ret
  exact⟨ret_int (by rw[HY.out,HV.out]),joinB HBW.out HB1.out⟩
 subst h5
 have h00:¬((0:Int)≠0):=fun h=>h rfl
 have H00:=Lib.hid h00
 clear h00
 cases nok
 ·have hv:shapeErr c=5:=by rw[HYY.out,if_neg HNO.out,if_neg HNN.out,if_neg H00.out,if_pos rfl]
  have HV:=Lib.hid hv
  clear hv
  go_enter Tryz.func121,Tryz.ntmps121
  go_wp2_with (first
   |(go_at_call 135;(with_reducible refine HN.out.mono ?_);rintro e w1 ⟨rfl,hb⟩;have HB1:=Lib.hid hb;obtain⟨hc,hf⟩:=bcell hb;clear hb)
   |(go_at_call 138;(with_reducible refine (HSS.out _ HB1.out).mono ?_);rintro e w2 ⟨rfl,hb⟩;have HB2:=Lib.hid hb;obtain⟨hc2,hf2⟩:=bcell hb;clear hb))
  go_ret
  exact⟨ret_int (by rw[HY.out,HV.out]),joinB HBW.out HB2.out⟩
 have htf:¬(true=false):=by decide
 have HTF:=Lib.hid htf
 clear htf
 by_cases h6:e2=0
 rotate_left
 ·have h6':(e2 != 0)=true:=by simpa using h6
  have H6:=Lib.hid h6
  clear h6
  have hv:shapeErr c=e2:=by rw[HYY.out,if_neg HNO.out,if_neg HNN.out,if_neg H00.out,if_neg HTF.out,if_pos H6.out]
  have HV:=Lib.hid hv
  clear hv
  go_enter Tryz.func121,Tryz.ntmps121
  go_wp2_with (first
   |(go_at_call 135;(with_reducible refine HN.out.mono ?_);rintro e w1 ⟨rfl,hb⟩;have HB1:=Lib.hid hb;obtain⟨hc,hf⟩:=bcell hb;clear hb)
   |(go_at_call 138;(with_reducible refine (HSS.out _ HB1.out).mono ?_);rintro e w2 ⟨rfl,hb⟩;have HB2:=Lib.hid hb;obtain⟨hc2,hf2⟩:=bcell hb;clear hb)
   |(go_at_call 139;(with_reducible refine (HM.out _ HB2.out).mono ?_);rintro e w3 ⟨rfl,hb⟩;have HB3:=Lib.hid hb;obtain⟨hc3,hf3⟩:=bcell hb;clear hb))
  go_ret
  exact⟨ret_int (by rw[HY.out,HV.out]),joinB HBW.out HB3.out⟩
 subst h6
 cases ok
 ·have hv:shapeErr c=1:=by rw[HYY.out,if_neg HNO.out,if_neg HNN.out,if_neg H00.out,if_neg HTF.out,if_neg H00.out,if_pos rfl]
  have HV:=Lib.hid hv
  clear hv
  go_enter Tryz.func121,Tryz.ntmps121
  go_wp2_with (first
   |(go_at_call 135;(with_reducible refine HN.out.mono ?_);rintro e w1 ⟨rfl,hb⟩;have HB1:=Lib.hid hb;obtain⟨hc,hf⟩:=bcell hb;clear hb)
   |(go_at_call 138;(with_reducible refine (HSS.out _ HB1.out).mono ?_);rintro e w2 ⟨rfl,hb⟩;have HB2:=Lib.hid hb;obtain⟨hc2,hf2⟩:=bcell hb;clear hb)
   |(go_at_call 139;(with_reducible refine (HM.out _ HB2.out).mono ?_);rintro e w3 ⟨rfl,hb⟩;have HB3:=Lib.hid hb;obtain⟨hc3,hf3⟩:=bcell hb;clear hb)
   |(go_at_call 142;(with_reducible refine (HO.out _ HB3.out).mono ?_);rintro e w4 ⟨rfl,hb⟩;have HB4:=Lib.hid hb;clear hb))
  go_ret
  exact⟨ret_int (by rw[HY.out,HV.out]),joinB HBW.out HB4.out⟩
 ·have hv:shapeErr c=0:=by rw[HYY.out,if_neg HNO.out,if_neg HNN.out,if_neg H00.out,if_neg HTF.out,if_neg H00.out,if_neg HTF.out]
  have HV:=Lib.hid hv
  clear hv
  go_enter Tryz.func121,Tryz.ntmps121
  go_wp2_with (first
   |(go_at_call 135;(with_reducible refine HN.out.mono ?_);rintro e w1 ⟨rfl,hb⟩;have HB1:=Lib.hid hb;obtain⟨hc,hf⟩:=bcell hb;clear hb)
   |(go_at_call 138;(with_reducible refine (HSS.out _ HB1.out).mono ?_);rintro e w2 ⟨rfl,hb⟩;have HB2:=Lib.hid hb;obtain⟨hc2,hf2⟩:=bcell hb;clear hb)
   |(go_at_call 139;(with_reducible refine (HM.out _ HB2.out).mono ?_);rintro e w3 ⟨rfl,hb⟩;have HB3:=Lib.hid hb;obtain⟨hc3,hf3⟩:=bcell hb;clear hb)
   |(go_at_call 142;(with_reducible refine (HO.out _ HB3.out).mono ?_);rintro e w4 ⟨rfl,hb⟩;have HB4:=Lib.hid hb;clear hb))
  go_ret
  exact⟨ret_int (by rw[HY.out,HV.out]),joinB HBW.out HB4.out⟩
def fillL(f:Nat→Value)(z:Value)(n k:Nat):List Value:=(List.range n).map fun j=>if j<k then f j else z
theorem fillL_len(f:Nat→Value)(z:Value)(n k:Nat):(fillL f z n k).length=n:=by simp[fillL]
theorem fillL_get(f:Nat→Value)(z:Value)(n k j:Nat)(h:j<n):(fillL f z n k)[j]? =some (if j<k then f j else z):=by
 simp[fillL,List.getElem?_map,List.getElem?_range h]
theorem fillL_set(f:Nat→Value)(z:Value)(n k:Nat):(fillL f z n k).set k (f k)=fillL f z n (k+1):=by
 apply List.ext_getElem?
 intro j
 by_cases hj:j<n
 ·rw[List.getElem?_set,fillL_get _ _ _ _ _ hj,fillL_get _ _ _ _ _ hj,fillL_len]
  by_cases hk:k=j
  ·subst hk;simp[hj]
  ·rw[if_neg hk]
   by_cases h1:j<k
   ·rw[if_pos h1,if_pos (by omega)]
   ·rw[if_neg h1,if_neg (by omega)]
 ·rw[List.getElem?_eq_none (by simp[fillL_len];omega),List.getElem?_eq_none (by simp[fillL_len];omega)]
theorem fillL_start(f:Nat→Value)(z:Value)(n:Nat):(madeCells #[z] n).toList=fillL f z n 0:=by
 apply List.ext_getElem?
 intro j
 by_cases hj:j<n
 ·rw[fillL_get _ _ _ _ _ hj];simp[madeCells,hj,Nat.mod_one]
 ·rw[List.getElem?_eq_none (by simp[madeCells];omega),List.getElem?_eq_none (by simp[fillL_len];omega)]
theorem fillL_end(x:Int)(z:Value)(n:Nat):fillL (fun _=>.int .i64 x) z n n=(List.replicate n x).map (Value.int .i64):=by
 apply List.ext_getElem?
 intro j
 by_cases hj:j<n
 ·rw[fillL_get _ _ _ _ _ hj,if_pos hj];simp[hj]
 ·rw[List.getElem?_eq_none (by simp[fillL_len];omega),List.getElem?_eq_none (by simp;omega)]
theorem info_int:(Tryz.prog.info? 3).map (fun i=>(i.zero,i.size,i.bytes))=some (some (.int .i64 0),1,8):=by kernel_rfl
theorem grown_set(w:World)(g j:Nat)(v:Value):w.grownBy (w.setCell ⟨g,j,none⟩ v) (some g):=
 ⟨rfl,rfl,rfl,by simp[World.setCell],fun i _ hne=>Below.heap_setCell _ _ _ _ (fun e=>hne (by rw[e]))⟩
def Row(w:World)(g:Nat)(l:List Int):Prop:=w.ownsRow g 3 1 (.slice (some ⟨g,0,none⟩) l.length l.length) l.length (l.map (Value.int .i64))
theorem Row.cell{w:World}{g:Nat}{l:List Int}(h:Row w g l){j:Nat}(hj:j<l.length):w.cell? ⟨g,j,none⟩=some (.int .i64 (lat l j)):=by
 have:=World.ownsRow.cellAt h j (by omega)
 rw[this,List.getElem?_map,List.getElem?_eq_getElem hj]
 simp[lat,List.getD_eq_getElem?_getD,List.getElem?_eq_getElem hj]
theorem Row.frozen{w:World}{g:Nat}{l:List Int}(h:Row w g l)(j:Nat):w.frozen? ⟨g,j,none⟩=false:=World.ownsRow.frozenAt h j
theorem Row.set{w:World}{g:Nat}{l:List Int}(h:Row w g l)(j:Nat)(x:Int):Row (w.setCell ⟨g,j,none⟩ (.int .i64 x)) g (l.set j x):=by
 have:=(World.ownsRow.stored h j (.int .i64 x)).1
 unfold Row
 rw[List.length_set,List.map_set]
 exact this
theorem Row.lt{w:World}{g:Nat}{l:List Int}(h:Row w g l):g<w.heap.size:=(World.ownsRow.lt h g rfl).2
theorem Row.kept{w w':World}{g:Nat}{l:List Int}{row:Option Nat}(h:Row w g l)(hg:w.grownBy w' row)(hne:some g≠row):Row w' g l:=World.ownsRow.kept h hg (.inr hne)
theorem Row.below{w w':World}{g:Nat}{l:List Int}(h:Row w g l)(hb:Below w.heap.size w w'):Row w' g l:=
 h.kept (row:=none) ⟨hb.os,hb.tape,hb.output,hb.size,fun i hi _=>hb.block i hi⟩ (by simp)
def Stk(w:World)(base:Nat)(v:Value)(l:List Int):Prop:=w.ownsRow base 3 1 v l.length (l.map (Value.int .i64))
theorem Stk.nil(w:World)(base:Nat):Stk w base (.slice none 0 0) []:=World.ownsRow_nil w base _ _
theorem Stk.kept{w w':World}{base:Nat}{v:Value}{l:List Int}{row:Option Nat}(h:Stk w base v l)(hg:w.grownBy w' row)(hne:∀q,row=some q→q<base):Stk w' base v l:=by
 refine World.ownsRow.kept h hg ?_
 rcases ho:v.ownBlock with _|q
 ·exact .inl rfl
 ·refine .inr fun e=>?_
  have:=(World.ownsRow.lt h q ho).1
  have:=hne q e.symm
  omega
theorem Stk.below{w w':World}{base:Nat}{v:Value}{l:List Int}(h:Stk w base v l)(hb:Below w.heap.size w w'):Stk w' base v l:=
 h.kept (row:=none) ⟨hb.os,hb.tape,hb.output,hb.size,fun i hi _=>hb.block i hi⟩ (by simp)
theorem Stk.form{w:World}{base:Nat}{v:Value}{l:List Int}(h:Stk w base v l):∃A c,v=.slice A l.length c∧l.length≤c∧c≤maxLen∧(0<l.length→∃q,A=some ⟨q,0,none⟩∧base≤q∧q<w.heap.size):=by
 have hlt:=World.ownsRow.lt h
 rcases h.2 with⟨rfl,hn⟩| ⟨g,cap,cur,rfl,hb,hg,hle,hm,-⟩
 ·exact⟨none,0,by rw[hn],by omega,by simp,fun h=>by omega⟩
 ·exact⟨_,cap,rfl,hle,hm,fun _=>⟨g,rfl,hb,(hlt g rfl).2⟩⟩
theorem Stk.cell{w:World}{base q c:Nat}{l:List Int}(h:Stk w base (.slice (some ⟨q,0,none⟩) l.length c) l){j:Nat}(hj:j<l.length):w.cell? ⟨q,j,none⟩=some (.int .i64 (l.getD j 0)):=by
 rw[World.ownsRow.cellAt h j (by omega),List.getElem?_map,List.getElem?_eq_getElem hj]
 simp[List.getD_eq_getElem?_getD,List.getElem?_eq_getElem hj]
theorem Stk.pop{w:World}{base q c:Nat}{r:List Int}{t:Int}(h:Stk w base (.slice (some ⟨q,0,none⟩) (r++[t]).length c) (r++[t])):Stk w base (.slice (some ⟨q,0,none⟩) r.length c) r:=by
 obtain⟨h1,h2⟩:=h
 rcases h2 with⟨e,-⟩| ⟨g,cap,cur,e,hb,hg,hle,hm,hsz,htake⟩
 ·cases e
 ·simp only[Value.slice.injEq,Option.some.injEq,Addr.mk.injEq]at e
  obtain⟨⟨rfl,-⟩,-,rfl⟩:=e
  refine⟨by simp,.inr ⟨q,c,cur,rfl,hb,hg,by simp at hle;omega,hm,hsz,?_⟩⟩
  have:=congrArg (List.take r.length) htake
  rw[List.take_take]at this
  simp only[List.length_append,List.length_singleton,Nat.mul_one,List.map_append]at this ⊢
  rw[show min r.length (r.length+1)=r.length by omega]at this
  rw[this,List.take_append_of_le_length (by simp),List.take_of_length_le (by simp)]
theorem one_new(w:World)(u:Value)(t:TypeId):∀(j:Nat) (v:Value),[u][j]? =some v→(w.alloc (.cells #[u] t)).cell? ((⟨w.heap.size,0,none⟩:Addr).add j)=some v:=by
 intro j v h
 match j,h with
 |0,h=>
  obtain rfl:u=v:=by simpa using h
  rw[show (⟨w.heap.size,0,none⟩:Addr).add 0=⟨w.heap.size,0,none⟩ from rfl,World.cell?_alloc_at _ _ _ _ rfl]
  rfl
theorem push_facts{w wo w1:World}{g:Nat}{sv v':Value}{st lv:List Int}{x:Int}{o:Obj}(hb:Below g w wo)(hrow:Row wo g lv)(hstk:Stk wo (g+1) sv st)
 (hown:w1.ownsRow (g+1) 3 1 v' (st.length+1) (st.map (Value.int .i64)++[.int .i64 x])) (hgr:(wo.alloc o).grownBy w1 sv.ownBlock):Below g w w1∧Row w1 g lv∧Stk w1 (g+1) v' (st++[x]):=by
 have hlt:=hrow.lt
 have hq:∀q,sv.ownBlock=some q→g+1≤q:=fun q h=>(World.ownsRow.lt hstk q h).1
 refine⟨(hb.alloc (by omega) o).grown hgr (by simp;omega) (fun q h=>by have:=hq q h;omega),?_,?_⟩
 ·exact (hrow.kept (World.grownBy_alloc wo o none) (by simp)).kept hgr (fun e=>by have:=hq g e.symm;omega)
 ·unfold Stk
  rw[List.length_append,List.map_append]
  exact hown
theorem set_facts{w wo:World}{g j:Nat}{sv:Value}{st lv:List Int}(x:Int)(hb:Below g w wo)(hrow:Row wo g lv)(hstk:Stk wo (g+1) sv st):
 Below g w (wo.setCell ⟨g,j,none⟩ (.int .i64 x))∧Row (wo.setCell ⟨g,j,none⟩ (.int .i64 x)) g (lv.set j x)∧Stk (wo.setCell ⟨g,j,none⟩ (.int .i64 x)) (g+1) sv st:=
 ⟨hb.setCell (Nat.le_refl g) _,hrow.set j x,hstk.kept (grown_set _ _ _ _) (fun q e=>by cases e;omega)⟩
theorem next_facts{w wo w1:World}{g:Nat}{sv:Value}{st lv:List Int}(h:Below g w wo∧Row wo g lv∧Stk wo (g+1) sv st)(hb:Below wo.heap.size wo w1):Below g w w1∧Row w1 g lv∧Stk w1 (g+1) sv st:=
 ⟨h.1.trans (hb.mono (by have:=h.2.1.lt;omega)),h.2.1.below hb,h.2.2.below hb⟩
theorem node_at{nodes:List Nd}{A:Option Addr}{c:Nat}{w:World}{B:Nat}(hn:Ns w B (.slice A nodes.length c) nodes){t:Nat}(ht:t<nodes.length):
 ∃b o A4 n4 c4 kd mm bt A5 n5 c5,A=some ⟨b,o,none⟩∧b<B∧w.cell? ⟨b,o+t*4,none⟩=some (.int .u8 kd)∧w.cell? ⟨b,o+t*4+1,none⟩=some (.slice A4 n4 c4)∧w.cell? ⟨b,o+t*4+2,none⟩=some (.int .i64 mm)∧w.cell? ⟨b,o+t*4+3,none⟩=some (.int .i64 bt)∧
  (if cmb kd=true then Value.slice A4 n4 c4 else .slice none 0 0)=.slice A5 n5 c5∧n5=(dep nodes t).length∧Is w B (.slice A5 n5 c5) (dep nodes t):=by
 obtain⟨A',b,o,c',e,hA,-,-,hc⟩:=hn
 simp only[Value.slice.injEq,true_and]at e
 obtain⟨rfl,rfl⟩:=e
 obtain rfl:=hA (by omega)
 obtain⟨hlt,s,h0,h1,h2,h3,h4,-⟩:=hc t ht
 obtain⟨A4,b4,o4,c4,rfl,-⟩:=id h4
 have hd:dep nodes t=if cmb (nodes.getD t default).kind=true then (nodes.getD t default).ins else []:=rfl
 cases hk:cmb (nodes.getD t default).kind
 ·refine⟨b,o,A4,_,c4,_,_,_,none,0,0,rfl,hlt,h0,h1,h2,h3,by rw[hk];rfl,?_,?_⟩
  ·rw[hd,hk];rfl
  ·rw[hd,hk];exact Arr.nil _ _ _ _ _
 ·refine⟨b,o,A4,_,c4,_,_,_,A4,_,c4,rfl,hlt,h0,h1,h2,h3,by rw[hk];rfl,?_,?_⟩
  ·rw[hd,hk];rfl
  ·rw[hd,hk];exact h4
theorem snoc_of{l:List Int}(h:l≠[]):∃r t,l=r++[t]:=by
 rcases List.eq_nil_or_concat l with e| ⟨r,t,e⟩
 ·exact absurd e h
 ·exact⟨r,t,by simpa using e⟩
theorem getD_snoc(r:List Int)(t:Int):(r++[t]).getD r.length 0=t:=by simp[List.getD_eq_getElem?_getD]
theorem take_snoc(l:List Int)(k:Nat)(h:k<l.length):l.take (k+1)=l.take k++[l.getD k 0]:=by
 rw[List.take_succ_eq_append_getElem h,List.getD_eq_getElem?_getD,List.getElem?_eq_getElem h];rfl
set_option maxHeartbeats 400000 in
theorem depends_any(x:Nd)(A4:Option Addr)(n4 c4:Nat)(w:World):
 Calls Tryz.prog 143 #[.agg #[.int .u8 x.kind,.slice A4 n4 c4,.int .i64 x.mem,.int .i64 x.bit]] w fun e w'=>e=.returned (if cmb x.kind=true then .slice A4 n4 c4 else .slice none 0 0)∧Below w.heap.size w w':=by
 have hb:Below w.heap.size w (w.alloc (.cells #[.int .u8 x.kind,.slice A4 n4 c4,.int .i64 x.mem,.int .i64 x.bit] 65)):=(Below.refl _ _).alloc (Nat.le_refl _) _
 have HB:=Lib.hid hb
 clear hb
 generalize x.kind=kd at HB ⊢
 generalize x.mem=mm at HB ⊢
 generalize x.bit=bt at HB ⊢
 cases h:cmb kd
 ·rw[if_neg (by decide)]
  have H:=Lib.hid h
  clear h
  go_enter Tryz.func143,Tryz.ntmps143
  go_wp2_with (go_at_call 70;(with_reducible refine (comb_any _ _).mono ?_);rintro e w' ⟨rfl,rfl⟩;rw[H.out])
  go_ret
  exact⟨rfl,HB.out⟩
 ·rw[if_pos rfl]
  have H:=Lib.hid h
  clear h
  go_enter Tryz.func143,Tryz.ntmps143
  go_wp2_with (go_at_call 70;(with_reducible refine (comb_any _ _).mono ?_);rintro e w' ⟨rfl,rfl⟩;rw[H.out])
  go_ret
  exact⟨rfl,HB.out⟩
def rdC(w:World)(b o m:Nat):List Value:=(List.range m).map fun j=>(w.cell? ⟨b,o+j,none⟩).getD undef
def Fr(w:World)(g:Nat)(t:TypeId)(cs:List Value):Prop:=w.heap[g]? =some (.cells cs.toArray t (0,0))
theorem Fr.lt{w:World}{g:Nat}{t:TypeId}{cs:List Value}(h:Fr w g t cs):g<w.heap.size:=(Array.getElem?_eq_some_iff.1 h).1
theorem Fr.cell{w:World}{g:Nat}{t:TypeId}{cs:List Value}(h:Fr w g t cs)(j:Nat):w.cell? ⟨g,j,none⟩=cs[j]? :=by
 unfold Fr at h;simp[World.cell?,h]
theorem Fr.frozen{w:World}{g:Nat}{t:TypeId}{cs:List Value}(h:Fr w g t cs)(j:Nat):w.frozen? ⟨g,j,none⟩=false:=by
 unfold Fr at h;simp[World.frozen?,h]
theorem Fr.set{w:World}{g:Nat}{t:TypeId}{cs:List Value}(h:Fr w g t cs)(j:Nat)(v:Value):Fr (w.setCell ⟨g,j,none⟩ v) g t (cs.set j v):=by
 unfold Fr at*
 rw[setCell_eq_setRow w g j cs.toArray t (0,0) v h]
 rw[setRow_heap w g cs.toArray _ t _ h]
 simp
theorem Fr.kept{w w':World}{g:Nat}{t:TypeId}{cs:List Value}{row:Option Nat}(h:Fr w g t cs)(hg:w.grownBy w' row)(hne:some g≠row):Fr w' g t cs:=(hg.block g h.lt hne).trans h
theorem Fr.below{w w':World}{g:Nat}{t:TypeId}{cs:List Value}(h:Fr w g t cs)(hb:Below w.heap.size w w'):Fr w' g t cs:=(hb.block g h.lt).trans h
def ndF(l:List Nd)(h:Nat→Nat)(orig:Nat→Value)(m:Nat)(j:Nat):Value:=
 if j%4=0 then .int .u8 (l.getD (j/4) default).kind
 else if j%4=1 then (if j/4<m then .slice (some ⟨h (j/4),0,none⟩) (l.getD (j/4) default).ins.length (l.getD (j/4) default).ins.length else orig (j/4))
 else if j%4=2 then .int .i64 (l.getD (j/4) default).mem else .int .i64 (l.getD (j/4) default).bit
def ndC(l:List Nd)(h:Nat→Nat)(orig:Nat→Value)(m:Nat):List Value:=(List.range (l.length*4)).map (ndF l h orig m)
def mmF(l:List Mm)(ha hd:Nat→Nat)(oa od:Nat→Value)(m:Nat)(j:Nat):Value:=
 if j%3=0 then (if j/3<m then .slice (some ⟨ha (j/3),0,none⟩) (l.getD (j/3) default).addr.length (l.getD (j/3) default).addr.length else oa (j/3))
 else if j%3=1 then (if j/3<m then .slice (some ⟨hd (j/3),0,none⟩) (l.getD (j/3) default).data.length (l.getD (j/3) default).data.length else od (j/3))
 else .int .i64 (l.getD (j/3) default).write
def mmC(l:List Mm)(ha hd:Nat→Nat)(oa od:Nat→Value)(m:Nat):List Value:=(List.range (l.length*3)).map (mmF l ha hd oa od m)
structure OwnC(x:Ck)(G g0 g1 g2 g3:Nat)(h ha hd:Nat→Nat)(w:World):Prop where
 low:G≤g0∧g0<g1∧g1<g2∧g2<g3
 f0:Fr w g0 65 (ndC x.nodes h (fun _=>undef) x.nodes.length)
 f1:Fr w g1 9 (x.names.map Value.string)
 f2:Fr w g2 67 (mmC x.mems ha hd (fun _=>undef) (fun _=>undef) x.mems.length)
 f3:Row w g3 x.outs
 rn:∀k,k<x.nodes.length→g3<h k∧Row w (h k) (x.nodes.getD k default).ins
 rm:∀k,k<x.mems.length→g3<ha k∧Row w (ha k) (x.mems.getD k default).addr∧g3<hd k∧Row w (hd k) (x.mems.getD k default).data
 nn:∀i j,i<j→j<x.nodes.length→h i<h j
 nm:∀i j,i<x.nodes.length→j<x.mems.length→h i<ha j
 mm:∀i,i<x.mems.length→ha i<hd i
 ml:∀i j,i<j→j<x.mems.length→hd i<ha j
theorem Fr.alloc{w:World}{g:Nat}{t:TypeId}{cs:List Value}(h:Fr w g t cs)(o:Obj):Fr (w.alloc o) g t cs:=h.below ((Below.refl _ _).alloc (Nat.le_refl _) o)
theorem Fr.other{w:World}{g:Nat}{t:TypeId}{cs:List Value}(h:Fr w g t cs){a:Addr}(ha:a.block≠g)(v:Value):Fr (w.setCell a v) g t cs:=
 h.kept (row:=some a.block) ⟨rfl,rfl,rfl,by simp[World.setCell],fun i _ hne=>Below.heap_setCell _ _ _ _ (fun e=>hne (by rw[e]))⟩ (fun e=>ha (by injection e with e;exact e.symm))
def BelW(w w':World):Prop:=Below w.heap.size w w'
theorem BelW.next{w w1 w2:World}(h:BelW w w1)(hb:Below w1.heap.size w1 w2):BelW w w2:=joinB h hb
theorem BelW.trans{w w1 w2:World}(h:BelW w w1)(hb:BelW w1 w2):BelW w w2:=joinB h hb
theorem BelW.alloc{w w1:World}(h:BelW w w1)(o:Obj):BelW w (w1.alloc o):=below_new h o
theorem BelW.drew{w w1:World}(h:BelW w w1):BelW w w1.drew:=Below.drew h
structure Cp1(n0 n1 n2 n3:Nat)(w:World)(b0 o0 b1 o1 b2 o2 b3 o3:Nat)(D g0 g1 g2 g3:Nat)(wx:World):Prop where
 bel:BelW w wx
 low:w.heap.size+1<g0∧g0<g1∧g1<g2∧g2<g3∧w.heap.size+1<D∧D≠g0∧D≠g1∧D≠g2∧D≠g3
 f0:Fr wx g0 65 (rdC w b0 o0 (n0*4))
 f1:Fr wx g1 9 (rdC w b1 o1 (n1*1))
 f2:Fr wx g2 67 (rdC w b2 o2 (n2*3))
 f3:Fr wx g3 3 (rdC w b3 o3 (n3*1))
 fd:Fr wx D 39 [.slice (some ⟨g0,0,none⟩) n0 n0,.slice (some ⟨g1,0,none⟩) n1 n1,.slice (some ⟨g2,0,none⟩) n2 n2,.slice (some ⟨g3,0,none⟩) n3 n3]
 fr:Fr wx (w.heap.size+1) 39 [.slice none 0 0,.slice none 0 0,.slice none 0 0,.slice none 0 0]
theorem Fr.made(w:World)(cs:List Value)(t:TypeId){g:Nat}(hg:g=w.heap.size):Fr (w.alloc (.cells cs.toArray t)) g t cs:=by
 subst hg;unfold Fr;exact heap_alloc_new _ _
structure SzOk(c:Ck):Prop where
 n:c.nodes.length≤1000000
 s:c.names.length≤1000000
 m:c.mems.length≤1000000
 o:c.outs.length≤1000000
 i:∀k,k<c.nodes.length→(c.nodes.getD k default).ins.length≤17592186044416
 a:∀k,k<c.mems.length→(c.mems.getD k default).addr.length≤17592186044416
 d:∀k,k<c.mems.length→(c.mems.getD k default).data.length≤17592186044416
structure Nd1(c:Ck)(w:World)(D g0 g1 g2 g3 n0 n1 n2 n3 T:Nat)(sN sA sD:Nat→Value)(k:Nat)(h:Nat→Nat)(wr:World):Prop where
 bel:BelW w wr
 top:T≤wr.heap.size
 f0:Fr wr g0 65 (ndC c.nodes h sN k)
 f1:Fr wr g1 9 (c.names.map Value.string)
 f2:Fr wr g2 67 (mmC c.mems (fun _=>0) (fun _=>0) sA sD 0)
 f3:Fr wr g3 3 (c.outs.map (Value.int .i64))
 fd:Fr wr D 39 [.slice (some ⟨g0,0,none⟩) n0 n0,.slice (some ⟨g1,0,none⟩) n1 n1,.slice (some ⟨g2,0,none⟩) n2 n2,.slice (some ⟨g3,0,none⟩) n3 n3]
 fr:Fr wr (w.heap.size+1) 39 [.slice none 0 0,.slice none 0 0,.slice none 0 0,.slice none 0 0]
 rows:∀j,j<k→T≤h j∧Row wr (h j) (c.nodes.getD j default).ins
 inc:∀i j,i<j→j<k→h i<h j
structure Nd2(c:Ck)(w:World)(D g0 g1 g2 g3 n0 n1 n2 n3 T:Nat)(sN sA sD:Nat→Value)(h:Nat→Nat)(k:Nat)(ha hd:Nat→Nat)(wr:World):Prop where
 bel:BelW w wr
 top:T≤wr.heap.size
 f0:Fr wr g0 65 (ndC c.nodes h sN c.nodes.length)
 f1:Fr wr g1 9 (c.names.map Value.string)
 f2:Fr wr g2 67 (mmC c.mems ha hd sA sD k)
 f3:Fr wr g3 3 (c.outs.map (Value.int .i64))
 fd:Fr wr D 39 [.slice (some ⟨g0,0,none⟩) n0 n0,.slice (some ⟨g1,0,none⟩) n1 n1,.slice (some ⟨g2,0,none⟩) n2 n2,.slice (some ⟨g3,0,none⟩) n3 n3]
 fr:Fr wr (w.heap.size+1) 39 [.slice none 0 0,.slice none 0 0,.slice none 0 0,.slice none 0 0]
 rows:∀j,j<c.nodes.length→T≤h j∧Row wr (h j) (c.nodes.getD j default).ins
 inc:∀i j,i<j→j<c.nodes.length→h i<h j
 mrows:∀j,j<k→T≤ha j∧Row wr (ha j) (c.mems.getD j default).addr∧ha j<hd j∧Row wr (hd j) (c.mems.getD j default).data
 nm:∀i j,i<c.nodes.length→j<k→h i<ha j
 ml:∀i j,i<j→j<k→hd i<ha j
end Go.Proofs.YtemjmfpcopfdbaaGreatDoor
