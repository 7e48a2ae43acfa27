/- The texts Lev Cln Cpp Cpy Rgo Fa1 Fa2. -/
import Derived.Test.YtcbllelkgniogaaDoorM08
import Derived.OwnWalk
import Derived.Maps.AppendAt
import Derived.Laws.CopyRow
import Derived.Laws.CopyOwn
import Derived.Deep.OwnRows
import Derived.Deep.DeepCutAuto
import Derived.Deep.CutBlock
import Derived.Deep.RegionHeld3
import Derived.Test.YtcbllelkgniogaaDoorM01
namespace Go.Proofs.YtcbllelkgniogaaDoor
open Go.RowKit
def fillL(f:Nat→Value)(z:Value)(n k:Nat):List Value:=(List.range n).map fun j=>if j<k then f j else z
theorem fillL_len(f:Nat→Value)(z:Value)(n k:Nat):(fillL f z n k).length=n:=by simp[fillL]
theorem fillL_get(f:Nat→Value)(z:Value)(n k j:Nat)(h:j<n):(fillL f z n k)[j]? =some (if j<k then f j else z):=by
 simp[fillL,List.getElem?_map,List.getElem?_range h]
theorem fillL_set(f:Nat→Value)(z:Value)(n k:Nat):(fillL f z n k).set k (f k)=fillL f z n (k+1):=by
 apply List.ext_getElem?
 intro j
 by_cases hj:j<n
 ·rw[List.getElem?_set,fillL_get _ _ _ _ _ hj,fillL_get _ _ _ _ _ hj,fillL_len]
  by_cases hk:k=j
  ·subst hk;simp[hj]
  ·rw[if_neg hk]
   by_cases h1:j<k
   ·rw[if_pos h1,if_pos (by omega)]
   ·rw[if_neg h1,if_neg (by omega)]
 ·rw[List.getElem?_eq_none (by simp[fillL_len];omega),List.getElem?_eq_none (by simp[fillL_len];omega)]
theorem fillL_start(f:Nat→Value)(z:Value)(n:Nat):(madeCells #[z] n).toList=fillL f z n 0:=by
 apply List.ext_getElem?
 intro j
 by_cases hj:j<n
 ·rw[fillL_get _ _ _ _ _ hj];simp[madeCells,hj,Nat.mod_one]
 ·rw[List.getElem?_eq_none (by simp[madeCells];omega),List.getElem?_eq_none (by simp[fillL_len];omega)]
theorem fillL_end(x:Int)(z:Value)(n:Nat):fillL (fun _=>.int .i64 x) z n n=(List.replicate n x).map (Value.int .i64):=by
 apply List.ext_getElem?
 intro j
 by_cases hj:j<n
 ·rw[fillL_get _ _ _ _ _ hj,if_pos hj];simp[hj]
 ·rw[List.getElem?_eq_none (by simp[fillL_len];omega),List.getElem?_eq_none (by simp;omega)]
theorem info_int:(Tryd.prog.info? 3).map (fun i=>(i.zero,i.size,i.bytes))=some (some (.int .i64 0),1,8):=by kernel_rfl
theorem grown_set(w:World)(g j:Nat)(v:Value):w.grownBy (w.setCell ⟨g,j,none⟩ v) (some g):=
 ⟨rfl,rfl,rfl,by simp[World.setCell],fun i _ hne=>Below.heap_setCell _ _ _ _ (fun e=>hne (by rw[e]))⟩
def Row(w:World)(g:Nat)(l:List Int):Prop:=w.ownsRow g 3 1 (.slice (some ⟨g,0,none⟩) l.length l.length) l.length (l.map (Value.int .i64))
theorem Row.cell{w:World}{g:Nat}{l:List Int}(h:Row w g l){j:Nat}(hj:j<l.length):w.cell? ⟨g,j,none⟩=some (.int .i64 (lat l j)):=by
 have:=World.ownsRow.cellAt h j (by omega)
 rw[this,List.getElem?_map,List.getElem?_eq_getElem hj]
 simp[lat,List.getD_eq_getElem?_getD,List.getElem?_eq_getElem hj]
theorem Row.frozen{w:World}{g:Nat}{l:List Int}(h:Row w g l)(j:Nat):w.frozen? ⟨g,j,none⟩=false:=World.ownsRow.frozenAt h j
theorem Row.set{w:World}{g:Nat}{l:List Int}(h:Row w g l)(j:Nat)(x:Int):Row (w.setCell ⟨g,j,none⟩ (.int .i64 x)) g (l.set j x):=by
 have:=(World.ownsRow.stored h j (.int .i64 x)).1
 unfold Row
 rw[List.length_set,List.map_set]
 exact this
theorem Row.lt{w:World}{g:Nat}{l:List Int}(h:Row w g l):g<w.heap.size:=(World.ownsRow.lt h g rfl).2
theorem Row.kept{w w':World}{g:Nat}{l:List Int}{row:Option Nat}(h:Row w g l)(hg:w.grownBy w' row)(hne:some g≠row):Row w' g l:=World.ownsRow.kept h hg (.inr hne)
theorem Row.below{w w':World}{g:Nat}{l:List Int}(h:Row w g l)(hb:Below w.heap.size w w'):Row w' g l:=
 h.kept (row:=none) ⟨hb.os,hb.tape,hb.output,hb.size,fun i hi _=>hb.block i hi⟩ (by simp)
def Stk(w:World)(base:Nat)(v:Value)(l:List Int):Prop:=w.ownsRow base 3 1 v l.length (l.map (Value.int .i64))
theorem Stk.nil(w:World)(base:Nat):Stk w base (.slice none 0 0) []:=World.ownsRow_nil w base _ _
theorem Stk.kept{w w':World}{base:Nat}{v:Value}{l:List Int}{row:Option Nat}(h:Stk w base v l)(hg:w.grownBy w' row)(hne:∀q,row=some q→q<base):Stk w' base v l:=by
 refine World.ownsRow.kept h hg ?_
 rcases ho:v.ownBlock with _|q
 ·exact .inl rfl
 ·refine .inr fun e=>?_
  have:=(World.ownsRow.lt h q ho).1
  have:=hne q e.symm
  omega
theorem Stk.below{w w':World}{base:Nat}{v:Value}{l:List Int}(h:Stk w base v l)(hb:Below w.heap.size w w'):Stk w' base v l:=
 h.kept (row:=none) ⟨hb.os,hb.tape,hb.output,hb.size,fun i hi _=>hb.block i hi⟩ (by simp)
theorem Stk.form{w:World}{base:Nat}{v:Value}{l:List Int}(h:Stk w base v l):∃A c,v=.slice A l.length c∧l.length≤c∧c≤maxLen∧(0<l.length→∃q,A=some ⟨q,0,none⟩∧base≤q∧q<w.heap.size):=by
 have hlt:=World.ownsRow.lt h
 rcases h.2 with⟨rfl,hn⟩| ⟨g,cap,cur,rfl,hb,hg,hle,hm,-⟩
 ·exact⟨none,0,by rw[hn],by omega,by simp,fun h=>by omega⟩
 ·exact⟨_,cap,rfl,hle,hm,fun _=>⟨g,rfl,hb,(hlt g rfl).2⟩⟩
theorem Stk.cell{w:World}{base q c:Nat}{l:List Int}(h:Stk w base (.slice (some ⟨q,0,none⟩) l.length c) l){j:Nat}(hj:j<l.length):w.cell? ⟨q,j,none⟩=some (.int .i64 (l.getD j 0)):=by
 rw[World.ownsRow.cellAt h j (by omega),List.getElem?_map,List.getElem?_eq_getElem hj]
 simp[List.getD_eq_getElem?_getD,List.getElem?_eq_getElem hj]
theorem Stk.pop{w:World}{base q c:Nat}{r:List Int}{t:Int}(h:Stk w base (.slice (some ⟨q,0,none⟩) (r++[t]).length c) (r++[t])):Stk w base (.slice (some ⟨q,0,none⟩) r.length c) r:=by
 obtain⟨h1,h2⟩:=h
 rcases h2 with⟨e,-⟩| ⟨g,cap,cur,e,hb,hg,hle,hm,hsz,htake⟩
 ·cases e
 ·simp only[Value.slice.injEq,Option.some.injEq,Addr.mk.injEq]at e
  obtain⟨⟨rfl,-⟩,-,rfl⟩:=e
  refine⟨by simp,.inr ⟨q,c,cur,rfl,hb,hg,by simp at hle;omega,hm,hsz,?_⟩⟩
  have:=congrArg (List.take r.length) htake
  rw[List.take_take]at this
  simp only[List.length_append,List.length_singleton,Nat.mul_one,List.map_append]at this ⊢
  rw[show min r.length (r.length+1)=r.length by omega]at this
  rw[this,List.take_append_of_le_length (by simp),List.take_of_length_le (by simp)]
theorem one_new(w:World)(u:Value)(t:TypeId):∀(j:Nat) (v:Value),[u][j]? =some v→(w.alloc (.cells #[u] t)).cell? ((⟨w.heap.size,0,none⟩:Addr).add j)=some v:=by
 intro j v h
 match j,h with
 |0,h=>
  obtain rfl:u=v:=by simpa using h
  rw[show (⟨w.heap.size,0,none⟩:Addr).add 0=⟨w.heap.size,0,none⟩ from rfl,World.cell?_alloc_at _ _ _ _ rfl]
  rfl
theorem push_facts{w wo w1:World}{g:Nat}{sv v':Value}{st lv:List Int}{x:Int}{o:Obj}(hb:Below g w wo)(hrow:Row wo g lv)(hstk:Stk wo (g+1) sv st)
 (hown:w1.ownsRow (g+1) 3 1 v' (st.length+1) (st.map (Value.int .i64)++[.int .i64 x])) (hgr:(wo.alloc o).grownBy w1 sv.ownBlock):Below g w w1∧Row w1 g lv∧Stk w1 (g+1) v' (st++[x]):=by
 have hlt:=hrow.lt
 have hq:∀q,sv.ownBlock=some q→g+1≤q:=fun q h=>(World.ownsRow.lt hstk q h).1
 refine⟨(hb.alloc (by omega) o).grown hgr (by simp;omega) (fun q h=>by have:=hq q h;omega),?_,?_⟩
 ·exact (hrow.kept (World.grownBy_alloc wo o none) (by simp)).kept hgr (fun e=>by have:=hq g e.symm;omega)
 ·unfold Stk
  rw[List.length_append,List.map_append]
  exact hown
theorem set_facts{w wo:World}{g j:Nat}{sv:Value}{st lv:List Int}(x:Int)(hb:Below g w wo)(hrow:Row wo g lv)(hstk:Stk wo (g+1) sv st):
 Below g w (wo.setCell ⟨g,j,none⟩ (.int .i64 x))∧Row (wo.setCell ⟨g,j,none⟩ (.int .i64 x)) g (lv.set j x)∧Stk (wo.setCell ⟨g,j,none⟩ (.int .i64 x)) (g+1) sv st:=
 ⟨hb.setCell (Nat.le_refl g) _,hrow.set j x,hstk.kept (grown_set _ _ _ _) (fun q e=>by cases e;omega)⟩
theorem next_facts{w wo w1:World}{g:Nat}{sv:Value}{st lv:List Int}(h:Below g w wo∧Row wo g lv∧Stk wo (g+1) sv st)(hb:Below wo.heap.size wo w1):Below g w w1∧Row w1 g lv∧Stk w1 (g+1) sv st:=
 ⟨h.1.trans (hb.mono (by have:=h.2.1.lt;omega)),h.2.1.below hb,h.2.2.below hb⟩
theorem node_at{nodes:List Nd}{A:Option Addr}{c:Nat}{w:World}{B:Nat}(hn:Ns w B (.slice A nodes.length c) nodes){t:Nat}(ht:t<nodes.length):
 ∃b o A4 n4 c4 kd mm bt A5 n5 c5,A=some ⟨b,o,none⟩∧b<B∧w.cell? ⟨b,o+t*4,none⟩=some (.int .u8 kd)∧w.cell? ⟨b,o+t*4+1,none⟩=some (.slice A4 n4 c4)∧w.cell? ⟨b,o+t*4+2,none⟩=some (.int .i64 mm)∧w.cell? ⟨b,o+t*4+3,none⟩=some (.int .i64 bt)∧
  (if cmb kd=true then Value.slice A4 n4 c4 else .slice none 0 0)=.slice A5 n5 c5∧n5=(dep nodes t).length∧Is w B (.slice A5 n5 c5) (dep nodes t):=by
 obtain⟨A',b,o,c',e,hA,-,-,hc⟩:=hn
 simp only[Value.slice.injEq,true_and]at e
 obtain⟨rfl,rfl⟩:=e
 obtain rfl:=hA (by omega)
 obtain⟨hlt,s,h0,h1,h2,h3,h4,-⟩:=hc t ht
 obtain⟨A4,b4,o4,c4,rfl,-⟩:=id h4
 have hd:dep nodes t=if cmb (nodes.getD t default).kind=true then (nodes.getD t default).ins else []:=rfl
 cases hk:cmb (nodes.getD t default).kind
 ·refine⟨b,o,A4,_,c4,_,_,_,none,0,0,rfl,hlt,h0,h1,h2,h3,by rw[hk];rfl,?_,?_⟩
  ·rw[hd,hk];rfl
  ·rw[hd,hk];exact Arr.nil _ _ _ _ _
 ·refine⟨b,o,A4,_,c4,_,_,_,A4,_,c4,rfl,hlt,h0,h1,h2,h3,by rw[hk];rfl,?_,?_⟩
  ·rw[hd,hk];rfl
  ·rw[hd,hk];exact h4
theorem snoc_of{l:List Int}(h:l≠[]):∃r t,l=r++[t]:=by
 rcases List.eq_nil_or_concat l with e| ⟨r,t,e⟩
 ·exact absurd e h
 ·exact⟨r,t,by simpa using e⟩
theorem getD_snoc(r:List Int)(t:Int):(r++[t]).getD r.length 0=t:=by simp[List.getD_eq_getElem?_getD]
theorem take_snoc(l:List Int)(k:Nat)(h:k<l.length):l.take (k+1)=l.take k++[l.getD k 0]:=by
 rw[List.take_succ_eq_append_getElem h,List.getD_eq_getElem?_getD,List.getElem?_eq_getElem h];rfl
set_option maxHeartbeats 400000 in
theorem depends_any(x:Nd)(A4:Option Addr)(n4 c4:Nat)(w:World):
 Calls Tryd.prog 75 #[.agg #[.int .u8 x.kind,.slice A4 n4 c4,.int .i64 x.mem,.int .i64 x.bit]] w fun e w'=>e=.returned (if cmb x.kind=true then .slice A4 n4 c4 else .slice none 0 0)∧Below w.heap.size w w':=by
 have hb:Below w.heap.size w (w.alloc (.cells #[.int .u8 x.kind,.slice A4 n4 c4,.int .i64 x.mem,.int .i64 x.bit] 53)):=(Below.refl _ _).alloc (Nat.le_refl _) _
 have HB:=Lib.hid hb
 clear hb
 generalize x.kind=kd at HB ⊢
 generalize x.mem=mm at HB ⊢
 generalize x.bit=bt at HB ⊢
 cases h:cmb kd
 ·rw[if_neg (by decide)]
  have H:=Lib.hid h
  clear h
  go_enter Tryd.func75,Tryd.ntmps75
  go_wp2_with (go_at_call 93;(with_reducible refine (comb_any _ _).mono ?_);rintro e w' ⟨rfl,rfl⟩;rw[H.out])
  go_ret
  exact⟨rfl,HB.out⟩
 ·rw[if_pos rfl]
  have H:=Lib.hid h
  clear h
  go_enter Tryd.func75,Tryd.ntmps75
  go_wp2_with (go_at_call 93;(with_reducible refine (comb_any _ _).mono ?_);rintro e w' ⟨rfl,rfl⟩;rw[H.out])
  go_ret
  exact⟨rfl,HB.out⟩
def rdC(w:World)(b o m:Nat):List Value:=(List.range m).map fun j=>(w.cell? ⟨b,o+j,none⟩).getD undef
def Fr(w:World)(g:Nat)(t:TypeId)(cs:List Value):Prop:=w.heap[g]? =some (.cells cs.toArray t (0,0))
theorem Fr.lt{w:World}{g:Nat}{t:TypeId}{cs:List Value}(h:Fr w g t cs):g<w.heap.size:=(Array.getElem?_eq_some_iff.1 h).1
theorem Fr.cell{w:World}{g:Nat}{t:TypeId}{cs:List Value}(h:Fr w g t cs)(j:Nat):w.cell? ⟨g,j,none⟩=cs[j]? :=by
 unfold Fr at h;simp[World.cell?,h]
theorem Fr.frozen{w:World}{g:Nat}{t:TypeId}{cs:List Value}(h:Fr w g t cs)(j:Nat):w.frozen? ⟨g,j,none⟩=false:=by
 unfold Fr at h;simp[World.frozen?,h]
theorem Fr.set{w:World}{g:Nat}{t:TypeId}{cs:List Value}(h:Fr w g t cs)(j:Nat)(v:Value):Fr (w.setCell ⟨g,j,none⟩ v) g t (cs.set j v):=by
 unfold Fr at*
 rw[setCell_eq_setRow w g j cs.toArray t (0,0) v h]
 rw[setRow_heap w g cs.toArray _ t _ h]
 simp
theorem Fr.kept{w w':World}{g:Nat}{t:TypeId}{cs:List Value}{row:Option Nat}(h:Fr w g t cs)(hg:w.grownBy w' row)(hne:some g≠row):Fr w' g t cs:=(hg.block g h.lt hne).trans h
theorem Fr.below{w w':World}{g:Nat}{t:TypeId}{cs:List Value}(h:Fr w g t cs)(hb:Below w.heap.size w w'):Fr w' g t cs:=(hb.block g h.lt).trans h
theorem Fr.row{w:World}{g:Nat}{l:List Int}(h:Fr w g 3 (l.map (Value.int .i64)))(hm:l.length≤maxLen):Row w g l:=by
 refine⟨by simp,.inr ⟨g,l.length,_,rfl,Nat.le_refl _,h,Nat.le_refl _,hm,by simp,by rw[List.toList_toArray,Nat.mul_one,List.take_of_length_le (by simp)]⟩⟩
theorem info_str:(Tryd.prog.info? 9).map (fun i=>(i.zero,i.size,i.bytes))=some (some (.string ⟨#[]⟩),1,16):=by kernel_rfl
def ndF(l:List Nd)(h:Nat→Nat)(orig:Nat→Value)(m:Nat)(j:Nat):Value:=
 if j%4=0 then .int .u8 (l.getD (j/4) default).kind
 else if j%4=1 then (if j/4<m then .slice (some ⟨h (j/4),0,none⟩) (l.getD (j/4) default).ins.length (l.getD (j/4) default).ins.length else orig (j/4))
 else if j%4=2 then .int .i64 (l.getD (j/4) default).mem else .int .i64 (l.getD (j/4) default).bit
def ndC(l:List Nd)(h:Nat→Nat)(orig:Nat→Value)(m:Nat):List Value:=(List.range (l.length*4)).map (ndF l h orig m)
theorem ndC_len(l:List Nd)(h:Nat→Nat)(orig:Nat→Value)(m:Nat):(ndC l h orig m).length=l.length*4:=by simp[ndC]
theorem ndC_get{l:List Nd}{h:Nat→Nat}{orig:Nat→Value}{m j:Nat}(hj:j<l.length*4):(ndC l h orig m)[j]? =some (ndF l h orig m j):=by simp[ndC,hj]
theorem ndF_0(l:List Nd)(h:Nat→Nat)(orig:Nat→Value)(m k:Nat):ndF l h orig m (k*4)=.int .u8 (l.getD k default).kind:=by
 unfold ndF;rw[if_pos (by omega),show k*4/4=k by omega]
theorem ndF_1(l:List Nd)(h:Nat→Nat)(orig:Nat→Value)(m k:Nat):ndF l h orig m (k*4+1)=if k<m then .slice (some ⟨h k,0,none⟩) (l.getD k default).ins.length (l.getD k default).ins.length else orig k:=by
 unfold ndF;rw[if_neg (by omega),if_pos (by omega),show (k*4+1)/4=k by omega]
theorem ndF_2(l:List Nd)(h:Nat→Nat)(orig:Nat→Value)(m k:Nat):ndF l h orig m (k*4+2)=.int .i64 (l.getD k default).mem:=by
 unfold ndF;rw[if_neg (by omega),if_neg (by omega),if_pos (by omega),show (k*4+2)/4=k by omega]
theorem ndF_3(l:List Nd)(h:Nat→Nat)(orig:Nat→Value)(m k:Nat):ndF l h orig m (k*4+3)=.int .i64 (l.getD k default).bit:=by
 unfold ndF;rw[if_neg (by omega),if_neg (by omega),if_neg (by omega),show (k*4+3)/4=k by omega]
theorem ndC_set{l:List Nd}{h:Nat→Nat}{orig:Nat→Value}{k b:Nat}(hk:k<l.length):
 (ndC l h orig k).set (k*4+1) (.slice (some ⟨b,0,none⟩) (l.getD k default).ins.length (l.getD k default).ins.length)=ndC l (fun i=>if i=k then b else h i) orig (k+1):=by
 apply List.ext_getElem?
 intro j
 by_cases hj:j<l.length*4
 ·rw[List.getElem?_set,ndC_get hj,ndC_get hj,ndC_len]
  by_cases e:k*4+1=j
  ·subst e
   rw[if_pos rfl,if_pos (by omega),ndF_1,if_pos (by omega),if_pos rfl]
  ·rw[if_neg e]
   unfold ndF
   by_cases h1:j%4=1
   ·have hne:j/4≠k:=by omega
    have h00:¬j%4=0:=by omega
    rw[if_neg h00,if_pos h1,if_neg h00,if_pos h1]
    by_cases h2:j/4<k
    ·rw[if_pos h2,if_pos (show j/4<k+1 by omega)]
     show _=some (Value.slice (some ⟨if j/4=k then b else h (j/4),0,none⟩) _ _)
     rw[if_neg hne]
    ·rw[if_neg h2,if_neg (show ¬j/4<k+1 by omega)]
   ·rw[if_neg h1,if_neg h1]
 ·rw[List.getElem?_eq_none (by simp[ndC_len];omega),List.getElem?_eq_none (by simp[ndC_len];omega)]
def mmF(l:List Mm)(ha hd:Nat→Nat)(oa od:Nat→Value)(m:Nat)(j:Nat):Value:=
 if j%3=0 then (if j/3<m then .slice (some ⟨ha (j/3),0,none⟩) (l.getD (j/3) default).addr.length (l.getD (j/3) default).addr.length else oa (j/3))
 else if j%3=1 then (if j/3<m then .slice (some ⟨hd (j/3),0,none⟩) (l.getD (j/3) default).data.length (l.getD (j/3) default).data.length else od (j/3))
 else .int .i64 (l.getD (j/3) default).write
def mmC(l:List Mm)(ha hd:Nat→Nat)(oa od:Nat→Value)(m:Nat):List Value:=(List.range (l.length*3)).map (mmF l ha hd oa od m)
theorem mmC_len(l:List Mm)(ha hd:Nat→Nat)(oa od:Nat→Value)(m:Nat):(mmC l ha hd oa od m).length=l.length*3:=by simp[mmC]
theorem mmC_get{l:List Mm}{ha hd:Nat→Nat}{oa od:Nat→Value}{m j:Nat}(hj:j<l.length*3):(mmC l ha hd oa od m)[j]? =some (mmF l ha hd oa od m j):=by simp[mmC,hj]
theorem mmF_0(l:List Mm)(ha hd:Nat→Nat)(oa od:Nat→Value)(m k:Nat):mmF l ha hd oa od m (k*3)=if k<m then .slice (some ⟨ha k,0,none⟩) (l.getD k default).addr.length (l.getD k default).addr.length else oa k:=by
 unfold mmF;rw[if_pos (by omega),show k*3/3=k by omega]
theorem mmF_1(l:List Mm)(ha hd:Nat→Nat)(oa od:Nat→Value)(m k:Nat):mmF l ha hd oa od m (k*3+1)=if k<m then .slice (some ⟨hd k,0,none⟩) (l.getD k default).data.length (l.getD k default).data.length else od k:=by
 unfold mmF;rw[if_neg (by omega),if_pos (by omega),show (k*3+1)/3=k by omega]
theorem mmF_2(l:List Mm)(ha hd:Nat→Nat)(oa od:Nat→Value)(m k:Nat):mmF l ha hd oa od m (k*3+2)=.int .i64 (l.getD k default).write:=by
 unfold mmF;rw[if_neg (by omega),if_neg (by omega),show (k*3+2)/3=k by omega]
theorem mmC_set{l:List Mm}{ha hd:Nat→Nat}{oa od:Nat→Value}{k b d:Nat}(hk:k<l.length):
 ((mmC l ha hd oa od k).set (k*3) (.slice (some ⟨b,0,none⟩) (l.getD k default).addr.length (l.getD k default).addr.length)).set (k*3+1) (.slice (some ⟨d,0,none⟩) (l.getD k default).data.length (l.getD k default).data.length)=
   mmC l (fun i=>if i=k then b else ha i) (fun i=>if i=k then d else hd i) oa od (k+1):=by
 apply List.ext_getElem?
 intro j
 by_cases hj:j<l.length*3
 ·rw[List.getElem?_set,List.getElem?_set,mmC_get hj,mmC_get hj,List.length_set,mmC_len]
  by_cases e:k*3+1=j
  ·subst e
   rw[if_pos rfl,if_pos (by omega),mmF_1,if_pos (by omega),if_pos rfl]
  ·rw[if_neg e]
   by_cases e0:k*3=j
   ·subst e0
    rw[if_pos rfl,if_pos (by omega),mmF_0,if_pos (by omega),if_pos rfl]
   ·rw[if_neg e0]
    unfold mmF
    have hne:j%3≠2→j/3≠k:=by omega
    by_cases h0:j%3=0
    ·have hn:=hne (by omega)
     rw[if_pos h0,if_pos h0]
     by_cases h2:j/3<k
     ·rw[if_pos h2,if_pos (show j/3<k+1 by omega)]
      show _=some (Value.slice (some ⟨if j/3=k then b else ha (j/3),0,none⟩) _ _)
      rw[if_neg hn]
     ·rw[if_neg h2,if_neg (show ¬j/3<k+1 by omega)]
    ·rw[if_neg h0,if_neg h0]
     by_cases h1:j%3=1
     ·have hn:=hne (by omega)
      rw[if_pos h1,if_pos h1]
      by_cases h2:j/3<k
      ·rw[if_pos h2,if_pos (show j/3<k+1 by omega)]
       show _=some (Value.slice (some ⟨if j/3=k then d else hd (j/3),0,none⟩) _ _)
       rw[if_neg hn]
      ·rw[if_neg h2,if_neg (show ¬j/3<k+1 by omega)]
     ·rw[if_neg h1,if_neg h1]
 ·rw[List.getElem?_eq_none (by simp[mmC_len];omega),List.getElem?_eq_none (by simp[mmC_len];omega)]
structure OwnC(x:Ck)(G g0 g1 g2 g3:Nat)(h ha hd:Nat→Nat)(w:World):Prop where
 low:G≤g0∧g0<g1∧g1<g2∧g2<g3
 f0:Fr w g0 53 (ndC x.nodes h (fun _=>undef) x.nodes.length)
 f1:Fr w g1 9 (x.names.map Value.string)
 f2:Fr w g2 58 (mmC x.mems ha hd (fun _=>undef) (fun _=>undef) x.mems.length)
 f3:Row w g3 x.outs
 rn:∀k,k<x.nodes.length→g3<h k∧Row w (h k) (x.nodes.getD k default).ins
 rm:∀k,k<x.mems.length→g3<ha k∧Row w (ha k) (x.mems.getD k default).addr∧g3<hd k∧Row w (hd k) (x.mems.getD k default).data
 nn:∀i j,i<j→j<x.nodes.length→h i<h j
 nm:∀i j,i<x.nodes.length→j<x.mems.length→h i<ha j
 mm:∀i,i<x.mems.length→ha i<hd i
 ml:∀i j,i<j→j<x.mems.length→hd i<ha j
theorem Fr.alloc{w:World}{g:Nat}{t:TypeId}{cs:List Value}(h:Fr w g t cs)(o:Obj):Fr (w.alloc o) g t cs:=h.below ((Below.refl _ _).alloc (Nat.le_refl _) o)
theorem Fr.drew{w:World}{g:Nat}{t:TypeId}{cs:List Value}(h:Fr w g t cs):Fr w.drew g t cs:=h
theorem Fr.other{w:World}{g:Nat}{t:TypeId}{cs:List Value}(h:Fr w g t cs){a:Addr}(ha:a.block≠g)(v:Value):Fr (w.setCell a v) g t cs:=
 h.kept (row:=some a.block) ⟨rfl,rfl,rfl,by simp[World.setCell],fun i _ hne=>Below.heap_setCell _ _ _ _ (fun e=>hne (by rw[e]))⟩ (fun e=>ha (by injection e with e;exact e.symm))
def BelW(w w':World):Prop:=Below w.heap.size w w'
theorem BelW.next{w w1 w2:World}(h:BelW w w1)(hb:Below w1.heap.size w1 w2):BelW w w2:=joinB h hb
theorem BelW.trans{w w1 w2:World}(h:BelW w w1)(hb:BelW w1 w2):BelW w w2:=joinB h hb
theorem BelW.alloc{w w1:World}(h:BelW w w1)(o:Obj):BelW w (w1.alloc o):=below_new h o
theorem BelW.drew{w w1:World}(h:BelW w w1):BelW w w1.drew:=Below.drew h
theorem BelW.set{w w1:World}(h:BelW w w1){a:Addr}(ha:w.heap.size≤a.block)(v:Value):BelW w (w1.setCell a v):=Below.setCell h ha v
structure Cp1(n0 n1 n2 n3:Nat)(w:World)(b0 o0 b1 o1 b2 o2 b3 o3:Nat)(D g0 g1 g2 g3:Nat)(wx:World):Prop where
 bel:BelW w wx
 low:w.heap.size+1<g0∧g0<g1∧g1<g2∧g2<g3∧w.heap.size+1<D∧D≠g0∧D≠g1∧D≠g2∧D≠g3
 f0:Fr wx g0 53 (rdC w b0 o0 (n0*4))
 f1:Fr wx g1 9 (rdC w b1 o1 (n1*1))
 f2:Fr wx g2 58 (rdC w b2 o2 (n2*3))
 f3:Fr wx g3 3 (rdC w b3 o3 (n3*1))
 fd:Fr wx D 39 [.slice (some ⟨g0,0,none⟩) n0 n0,.slice (some ⟨g1,0,none⟩) n1 n1,.slice (some ⟨g2,0,none⟩) n2 n2,.slice (some ⟨g3,0,none⟩) n3 n3]
 fr:Fr wx (w.heap.size+1) 39 [.slice none 0 0,.slice none 0 0,.slice none 0 0,.slice none 0 0]
theorem BelW.set4{w w1:World}{D:Nat}(h:BelW w w1)(hD:w.heap.size≤D)(a b c d:Value):
 BelW w ((((w1.setCell ⟨D,0,none⟩ a).setCell ⟨D,1,none⟩ b).setCell ⟨D,2,none⟩ c).setCell ⟨D,3,none⟩ d):=(((h.set hD a).set hD b).set hD c).set hD d
theorem Fr.set4{w:World}{D:Nat}{t:TypeId}{x y z u:Value}(h:Fr w D t [x,y,z,u])(a b c d:Value):
 Fr ((((w.setCell ⟨D,0,none⟩ a).setCell ⟨D,1,none⟩ b).setCell ⟨D,2,none⟩ c).setCell ⟨D,3,none⟩ d) D t [a,b,c,d]:=(((h.set 0 a).set 1 b).set 2 c).set 3 d
theorem Fr.made(w:World)(cs:List Value)(t:TypeId){g:Nat}(hg:g=w.heap.size):Fr (w.alloc (.cells cs.toArray t)) g t cs:=by
 subst hg;unfold Fr;exact heap_alloc_new _ _
structure SzOk(c:Ck):Prop where
 n:c.nodes.length≤1000000
 s:c.names.length≤1000000
 m:c.mems.length≤1000000
 o:c.outs.length≤1000000
 i:∀k,k<c.nodes.length→(c.nodes.getD k default).ins.length≤17592186044416
 a:∀k,k<c.mems.length→(c.mems.getD k default).addr.length≤17592186044416
 d:∀k,k<c.mems.length→(c.mems.getD k default).data.length≤17592186044416
structure Nd1(c:Ck)(w:World)(D g0 g1 g2 g3 n0 n1 n2 n3 T:Nat)(sN sA sD:Nat→Value)(k:Nat)(h:Nat→Nat)(wr:World):Prop where
 bel:BelW w wr
 top:T≤wr.heap.size
 f0:Fr wr g0 53 (ndC c.nodes h sN k)
 f1:Fr wr g1 9 (c.names.map Value.string)
 f2:Fr wr g2 58 (mmC c.mems (fun _=>0) (fun _=>0) sA sD 0)
 f3:Fr wr g3 3 (c.outs.map (Value.int .i64))
 fd:Fr wr D 39 [.slice (some ⟨g0,0,none⟩) n0 n0,.slice (some ⟨g1,0,none⟩) n1 n1,.slice (some ⟨g2,0,none⟩) n2 n2,.slice (some ⟨g3,0,none⟩) n3 n3]
 fr:Fr wr (w.heap.size+1) 39 [.slice none 0 0,.slice none 0 0,.slice none 0 0,.slice none 0 0]
 rows:∀j,j<k→T≤h j∧Row wr (h j) (c.nodes.getD j default).ins
 inc:∀i j,i<j→j<k→h i<h j
theorem Row.other{w:World}{g:Nat}{l:List Int}(h:Row w g l){a:Addr}(ha:a.block≠g)(v:Value):Row (w.setCell a v) g l:=
 h.kept (row:=some a.block) ⟨rfl,rfl,rfl,by simp[World.setCell],fun i _ hne=>Below.heap_setCell _ _ _ _ (fun e=>hne (by rw[e]))⟩ (fun e=>ha (by injection e with e;exact e.symm))
theorem Nd1.step{c:Ck}{w:World}{D g0 g1 g2 g3 n0 n1 n2 n3 T:Nat}{sN sA sD:Nat→Value}{k:Nat}{h:Nat→Nat}{wr w1:World}(hnd:Nd1 c w D g0 g1 g2 g3 n0 n1 n2 n3 T sN sA sD k h wr)
 (hk:k<c.nodes.length) (hb:BelW wr w1) {y:Nat} (hy:wr.heap.size≤y) (hr:Row w1 y (c.nodes.getD k default).ins)
 (h0:w.heap.size+1<g0) (h1:g0<g1) (h2:g1<g2) (h3:g2<g3) (h4:g3<T) (hD:D≠g0):
 Nd1 c w D g0 g1 g2 g3 n0 n1 n2 n3 T sN sA sD (k+1) (fun i=>if i=k then y else h i) (w1.setCell ⟨g0,k*4+1,none⟩ (.slice (some ⟨y,0,none⟩) (c.nodes.getD k default).ins.length (c.nodes.getD k default).ins.length)):=by
 have ht:=hnd.top
 have hlt:∀j,j<k→h j<wr.heap.size:=fun j hj=>(hnd.rows j hj).2.lt
 refine⟨(hnd.bel.trans hb).set (by show w.heap.size≤g0;omega) _,?_,?_,Fr.other (Fr.below hnd.f1 hb) (by show g0≠g1;omega) _,Fr.other (Fr.below hnd.f2 hb) (by show g0≠g2;omega) _,Fr.other (Fr.below hnd.f3 hb) (by show g0≠g3;omega) _,Fr.other (Fr.below hnd.fd hb) (by show g0≠D;omega) _,Fr.other (Fr.below hnd.fr hb) (by show g0≠w.heap.size+1;omega) _,fun j hj=>?_,fun i j hij hj=>?_⟩
 ·have:=hb.size
  simp only[World.size_setCell];omega
 ·rw[←ndC_set hk]
  exact (Fr.below hnd.f0 hb).set _ _
 ·by_cases e:j=k
  ·subst e
   rw[if_pos rfl]
   exact⟨by omega,hr.other (by show g0≠y;omega) _⟩
  ·rw[if_neg e]
   have hj':=hnd.rows j (by omega)
   exact⟨hj'.1,(hj'.2.below hb).other (by show g0≠h j;omega) _⟩
 ·have hi:i≠k:=by omega
  rw[if_neg hi]
  by_cases e:j=k
  ·rw[if_pos e];have:=hlt i (by omega);omega
  ·rw[if_neg e];exact hnd.inc i j hij (by omega)
structure Nd2(c:Ck)(w:World)(D g0 g1 g2 g3 n0 n1 n2 n3 T:Nat)(sN sA sD:Nat→Value)(h:Nat→Nat)(k:Nat)(ha hd:Nat→Nat)(wr:World):Prop where
 bel:BelW w wr
 top:T≤wr.heap.size
 f0:Fr wr g0 53 (ndC c.nodes h sN c.nodes.length)
 f1:Fr wr g1 9 (c.names.map Value.string)
 f2:Fr wr g2 58 (mmC c.mems ha hd sA sD k)
 f3:Fr wr g3 3 (c.outs.map (Value.int .i64))
 fd:Fr wr D 39 [.slice (some ⟨g0,0,none⟩) n0 n0,.slice (some ⟨g1,0,none⟩) n1 n1,.slice (some ⟨g2,0,none⟩) n2 n2,.slice (some ⟨g3,0,none⟩) n3 n3]
 fr:Fr wr (w.heap.size+1) 39 [.slice none 0 0,.slice none 0 0,.slice none 0 0,.slice none 0 0]
 rows:∀j,j<c.nodes.length→T≤h j∧Row wr (h j) (c.nodes.getD j default).ins
 inc:∀i j,i<j→j<c.nodes.length→h i<h j
 mrows:∀j,j<k→T≤ha j∧Row wr (ha j) (c.mems.getD j default).addr∧ha j<hd j∧Row wr (hd j) (c.mems.getD j default).data
 nm:∀i j,i<c.nodes.length→j<k→h i<ha j
 ml:∀i j,i<j→j<k→hd i<ha j
theorem Nd2.step{c:Ck}{w:World}{D g0 g1 g2 g3 n0 n1 n2 n3 T:Nat}{sN sA sD:Nat→Value}{h:Nat→Nat}{k:Nat}{ha hd:Nat→Nat}{wr w2:World}(hnd:Nd2 c w D g0 g1 g2 g3 n0 n1 n2 n3 T sN sA sD h k ha hd wr)
 (hk:k<c.mems.length) (hb:BelW wr w2) {y z:Nat} (hy:wr.heap.size≤y) (hyz:y<z) (hr:Row w2 y (c.mems.getD k default).addr) (hs:Row w2 z (c.mems.getD k default).data)
 (h0:w.heap.size+1<g0) (h1:g0<g1) (h2:g1<g2) (h3:g2<g3) (h4:g3<T) (hD:D≠g2):
 Nd2 c w D g0 g1 g2 g3 n0 n1 n2 n3 T sN sA sD h (k+1) (fun i=>if i=k then y else ha i) (fun i=>if i=k then z else hd i) ((w2.setCell ⟨g2,k*3,none⟩ (.slice (some ⟨y,0,none⟩) (c.mems.getD k default).addr.length (c.mems.getD k default).addr.length)).setCell ⟨g2,k*3+1,none⟩ (.slice (some ⟨z,0,none⟩) (c.mems.getD k default).data.length (c.mems.getD k default).data.length)):=by
 have ht:=hnd.top
 have hlt:∀j,j<c.nodes.length→h j<wr.heap.size:=fun j hj=>(hnd.rows j hj).2.lt
 have hlm:∀j,j<k→hd j<wr.heap.size:=fun j hj=>(hnd.mrows j hj).2.2.2.lt
 have fo:∀ {g:Nat} {t:TypeId} {cs:List Value} {p q:Nat} {u v:Value},g≠g2→Fr wr g t cs→Fr ((w2.setCell ⟨g2,p,none⟩ u).setCell ⟨g2,q,none⟩ v) g t cs:=fun hne hf=>((Fr.below hf hb).other (fun e=>hne e.symm) _).other (fun e=>hne e.symm) _
 have ro:∀ {g:Nat} {l:List Int} {p q:Nat} {u v:Value},g≠g2→Row w2 g l→Row ((w2.setCell ⟨g2,p,none⟩ u).setCell ⟨g2,q,none⟩ v) g l:=fun hne hf=>(hf.other (fun e=>hne e.symm) _).other (fun e=>hne e.symm) _
 refine⟨((hnd.bel.trans hb).set (by show w.heap.size≤g2;omega) _).set (by show w.heap.size≤g2;omega) _,?_,fo (by omega) hnd.f0,fo (by omega) hnd.f1,?_,fo (by omega) hnd.f3,fo hD hnd.fd,fo (by omega) hnd.fr,fun j hj=>?_,hnd.inc,fun j hj=>?_,fun i j hi hj=>?_,fun i j hij hj=>?_⟩
 ·have:=hb.size
  simp only[World.size_setCell];omega
 ·rw[←mmC_set hk]
  exact ((Fr.below hnd.f2 hb).set _ _).set _ _
 ·have hj':=hnd.rows j hj
  exact⟨hj'.1,ro (by omega) (hj'.2.below hb)⟩
 ·by_cases e:j=k
  ·subst e
   rw[if_pos rfl,if_pos rfl]
   exact⟨by omega,ro (by omega) hr,hyz,ro (by omega) hs⟩
  ·rw[if_neg e,if_neg e]
   obtain⟨q1,q2,q3,q4⟩:=hnd.mrows j (by omega)
   exact⟨q1,ro (by omega) (q2.below hb),q3,ro (by omega) (q4.below hb)⟩
 ·by_cases e:j=k
  ·rw[if_pos e];have:=hlt i hi;omega
  ·rw[if_neg e];exact hnd.nm i j hi (by omega)
 ·have hi:i≠k:=by omega
  rw[if_neg hi]
  by_cases e:j=k
  ·rw[if_pos e];have:=hlm i (by omega);omega
  ·rw[if_neg e];exact hnd.ml i j hij (by omega)
theorem heap_set_ne5(W:World)(a:Addr)(v:Value){b:Nat}(h:b≠a.block):(W.setCell a v).heap[b]? =W.heap[b]? :=by
 simp[World.setCell,Array.getElem?_modify,Ne.symm h]
structure Rel5(B:Nat)(K:World→World→Prop):Prop where
 trans:∀ {A C D:World},K A C→K C D→K A D
 below:∀ {A C:World},Below A.heap.size A C→K A C
 put:∀(W:World) (l:Nat) (o o':Obj),B≤l→W.heap[l]? =some o→o.isCells=false→K W (W.putObj l o')
def Kt(B:Nat)(ts:List TypeId)(V V':World):Prop:=(∀(b:Nat),b<B→b<V.heap.size→V'.heap[b]? =V.heap[b]?)∧∀(b:Nat) (cs:Array Value) (u:TypeId),V.heap[b]? =some (.cells cs u)→u ∉ ts→V'.heap[b]? =some (.cells cs u)
theorem lt_of_some{W:World}{b:Nat}{o:Obj}(h:W.heap[b]? =some o):b<W.heap.size:=(Array.getElem?_eq_some_iff.1 h).1
theorem Kt.rel(B:Nat)(ts:List TypeId):Rel5 B (fun V V'=>V.heap.size≤V'.heap.size∧Kt B ts V V') where
 trans h k:=⟨Nat.le_trans h.1 k.1,fun b hb hv=>(k.2.1 b hb (by have:=h.1;omega)).trans (h.2.1 b hb hv),fun b cs u hb hu=>k.2.2 b cs u (h.2.2 b cs u hb hu) hu⟩
 below h:=⟨Below.size h,fun b _ hv=>h.block b hv,fun b cs u hb _=>(h.block b (lt_of_some hb)).trans hb⟩
 put W l o o' hB hl ho:=⟨by simp[World.putObj],fun b hb _=>World.putObj_heap_other (by omega),fun b cs u hb _=>by
  by_cases e:b=l
  ·subst e
   rw[hl]at hb
   cases hb
   cases ho
  ·exact (World.putObj_heap_other (fun g=>e g)).trans hb⟩
def Kr(B:Nat)(ts:List TypeId)(V V':World):Prop:=V.heap.size≤V'.heap.size∧Kt B ts V V'
theorem Kr.rel(B:Nat)(ts:List TypeId):Rel5 B (Kr B ts):=Kt.rel B ts
theorem Kr.cell{B:Nat}{ts:List TypeId}{V V':World}(h:Kr B ts V V'){b j:Nat}{v:Value}(hb:b<B)(hc:V.cell? ⟨b,j,none⟩=some v):V'.cell? ⟨b,j,none⟩=some v:=by
 rw[←hc]
 exact World.cell?_of_block (h.2.1 b hb (cell_lt hc))
theorem Kr.row{B:Nat}{ts:List TypeId}{V V':World}(h:Kr B ts V V'){b:Nat}{t:TypeId}{xs:List Value}(hf:Fr V b t xs)(ht:t ∉ ts):Fr V' b t xs:=h.2.2 b _ t hf ht
section
variable {α:Type} {F:Fence} {n m:Nat} {P:Program} {K:World→World→Prop}
def SeqT(B0:Nat)(K:World→World→Prop)(F:Fence)(n m:Nat)(P:Program)(gf:Nat)(lb:Array Value)(encs:α→Array Value)(zs:List α)(w:World):Prop:=
 ∀(l:Nat) (J:Nat→World→Prop) (W:World),Below w.heap.size w W→
  OwnFrom W.heap.size J→
  (∀k x V,zs[k]? =some x→J k V→YieldAt F m P l (encs x) V fun e V'=>e=.returned (.bool true)∧J (k+1) V'∧K V V'∧KeepsFrom B0 V V')→
  J 0 W→CallsIn F n P gf (#[.func (.yield l) #[] #[]]++lb) W fun e V'=>(∃v,e=.returned v)∧J zs.length V'
theorem own_below{B:Nat}{I:Nat→World→Prop}(hI:OwnFrom B I){k:Nat}{V V':World}(h:I k V)(hb:Below V.heap.size V V'):I k V':=
 hI k V V' none h ⟨hb.os,hb.tape,hb.output,hb.size,fun i hi _=>hb.block i hi⟩ (fun r e=>by cases e)
theorem range_t{g:Operand}{ps:Array Tmp}{assign body:Code}{Q:Exit→Act→World→Prop}{a:Act}{w:World}{gf:Nat}{lb:Array Value}{encs:α→Array Value}{zs:List α}
 {B0:Nat} (hK:Rel5 B0 K) (hB0:B0≤w.heap.size) (hro:F.round=none) (h1:1≤n) (hg:a.eval g=.func (.func gf) #[] lb) (hF:F.fn gf) (hen:∀args V,(callFunc gf args).run P V=.ok (.enter gf args) V)
 (hseq:SeqT B0 K F (n-1) m P gf lb encs zs w) (hps:∀x,(encs x).size=ps.size)
 (I:Nat→World→Prop) (hI:OwnFrom w.heap.size I) (h0:I 0 w) (Ax:α→Act→World→Prop) (hAx:∀x a',OwnFrom w.heap.size (fun(_:Unit) V=>Ax x a' V))
 (hassign:∀l k x V (K':Act→World→Prop),zs[k]? =some x→I k V→(∀a' V1,Below V.heap.size V V1→Ax x a' V1→K' a' V1)→assign.wpIn (F.inRound l) m P (Exit.then K' (fun _ _ _=>False)) { tmps:=(ps.zip (encs x)).foldl (fun t (p,v)=>t.setIfInBounds p v) a.tmps,defers:=[] } V)
 (hbody:∀l k x a' V,w.heap.size≤l→zs[k]? =some x→I k V→Ax x a' V→body.wpIn (F.inRound l) m P (fun e _ V'=>e=.normal∧KeepsFrom B0 V V'∧K V V'∧I (k+1) V') a' V)
 (hdone:∀D V,w.heap.size≤D→I zs.length V→V.heap[D]? =some (.deferred (some []))→Q .normal { a with defers:= { target:=.collected D,args:=#[] } ::a.defers } V):
 (Code.rangeFunc g ps assign body).wpIn F n P Q a w:=by
 refine wpIn_rangeFunc fun fn hfn=>?_
 rw[hro]
 generalize hd:w.heap.size=d at*
 let r:LoopState→Loop:=fun s=> { state:=s,pending:=none,fn,tmps:=a.tmps,params:=ps,assign,body,defers:=d }
 let J:Nat→World→Prop:=fun k V=>I k V∧V.heap[d+1]? =some (.loop (r .ready))∧V.heap[d]? =some (.deferred (some []))
 obtain⟨V0,hV0⟩:∃V0,V0=(w.alloc (.deferred (some []))).alloc (.loop (r .ready)):=⟨_,rfl⟩
 have hJ0:J 0 V0:=by
  refine⟨by rw[hV0];exact hI.alloc _ (hI.alloc _ h0),?_,?_⟩
  ·have:=World.alloc_heap_new (w.alloc (.deferred (some []))) (.loop (r .ready))
   rw[World.size_alloc,hd]at this
   rw[hV0];exact this
  ·have e1:=World.alloc_heap_new w (.deferred (some []))
   rw[hd]at e1
   rw[hV0]
   exact (Below.heap_alloc (w.alloc (.deferred (some []))) (.loop (r .ready)) d (by rw[World.size_alloc,hd];exact Nat.lt_succ_self d)).trans e1
 have hb0:Below d w V0:=by
  rw[hV0]
  have:=((Below.refl w.heap.size w).alloc (Nat.le_refl _) (.deferred (some []))).alloc (by simp) (.loop (r .ready))
  rwa [hd]at this
 have hz0:V0.heap.size=d+2:=by rw[hV0];simp[hd]
 have hst:OwnFrom V0.heap.size J:=by
  rintro k V V' row ⟨hi,hl,hk⟩ hg hr
  refine⟨hI k V V' row hi hg fun r e=>⟨by have:=(hr r e).1;omega,(hr r e).2⟩,(hg.block _ (lt_of_some hl) fun e=>?_).trans hl,(hg.block _ (lt_of_some hk) fun e=>?_).trans hk⟩
  ·have:=(hr _ e.symm).1;omega
  ·have:=(hr _ e.symm).1;omega
 have hround:∀k x V,zs[k]? =some x→J k V→YieldAt F m P (d+1) (encs x) V fun e V'=>e=.returned (.bool true)∧J (k+1) V'∧K V V'∧KeepsFrom B0 V V':=by
  rintro k x V hx ⟨hi,hl,hk⟩
  refine⟨fn,_,assign,body,run_yield (P:=P) (args:=encs x) hl (hps x),roundIn_of_wpIn hfn (hassign _ k x V _ hx hi fun a1 V1 hb1 ha1=>⟨_,run_beginRound ((hb1.block _ (Array.getElem?_eq_some_iff.1 hl).1).trans hl) rfl,?_⟩)⟩
  have hl1:V1.heap[d+1]? =some (.loop (r .ready)):=(hb1.block _ (Array.getElem?_eq_some_iff.1 hl).1).trans hl
  have hk1:V1.heap[d]? =some (.deferred (some [])):=(hb1.block _ (Array.getElem?_eq_some_iff.1 hk).1).trans hk
  have hi1:I k V1:=own_below hI hi hb1
  have hlt:d+1<V1.heap.size:=(Array.getElem?_eq_some_iff.1 hl1).1
  have hl2:(V1.putObj (d+1) (.loop (r .busy))).heap[d+1]? =some (.loop (r .busy)):=World.putObj_heap_same hlt
  have hk2:(V1.putObj (d+1) (.loop (r .busy))).heap[d]? =some (.deferred (some [])):=(World.putObj_heap_other (by omega)).trans hk1
  have hb2:K V1 (V1.putObj (d+1) (.loop (r .busy))):=hK.put _ _ _ _ (by omega) hl1 rfl
  refine wpIn_mono (hbody _ k x a1 _ (by omega) hx (hI.putObj _ hi1 (by omega) hl1 rfl) ((hAx x a1).putObj (s:=()) _ ha1 (by omega) hl1 rfl)) ?_
  rintro e a3 V3 ⟨rfl,hkf,hbb,hi3⟩
  have hl3:=hkf.same _ _ (by omega) hl2 rfl
  have hk3:=hkf.same _ _ (by omega) hk2 rfl
  refine⟨_,_,run_endRound (P:=P) none hl3,rfl,⟨hI.putObj _ hi3 (by omega) hl3 rfl,?_,?_⟩,?_,?_⟩
  ·exact World.putObj_heap_same (Array.getElem?_eq_some_iff.1 hl3).1
  ·exact (World.putObj_heap_other (by omega)).trans hk3
  ·exact hK.trans (hK.below hb1) (hK.trans hb2 (hK.trans hbb (hK.put _ _ _ _ (by omega) hl3 rfl)))
  ·refine⟨?_,fun b o hb hbo hoc=>?_⟩
   ·have h1:=Below.size hb1
    have h2:=hkf.size
    simp[World.putObj]at h2 ⊢
    omega
   ·by_cases e:b=d+1
    ·subst e
     rw[hl]at hbo
     rw[←hbo]
     exact World.putObj_heap_same (lt_of_some hl3)
    ·refine (World.putObj_heap_other (fun g=>e g)).trans (hkf.same b o hb ?_ hoc)
     exact (World.putObj_heap_other (fun g=>e g)).trans ((hb1.block b (lt_of_some hbo)).trans hbo)
 refine⟨d+1,[{ target:=.collected d,args:=#[] }],V0, { target:=.fn (.func gf) lb,args:=#[.func (.yield (d+1)) #[] #[]] },V0,gf,#[.func (.yield (d+1)) #[] #[]]++lb,V0,?_,?_,?_,?_,fun _=>h1,?_⟩
 ·have:=run_enterLoop_outer (P:=P) (w:=w) fn a.tmps ps assign body
  rw[hd]at this
  rw[hV0];exact this
 ·simp only[resolve,hg]
  simp[go_sem]
 ·intro f' hf'
  simp[Target.leads]at hf'
  subst hf';exact hF
 ·simp[invoke,go_sem,hen]
 ·refine (hseq (d+1) J V0 (by rw[hd];exact hb0) hst hround hJ0).mono ?_
  rintro e V2 ⟨⟨v,rfl⟩,hi,hl,hk⟩
  exact⟨none,_,run_endLoop (P:=P) hl (by simp[r]),hdone _ _ (Nat.le_refl _) (hI.putObj _ hi (by omega) hl rfl) ((World.putObj_heap_other (by omega)).trans hk)⟩
end
structure Ft where
 md:Int
 nd:Int
 pn:Int
 vl:Int
 ot:Int
def lnsN(nodes:List Nd)(k:Nat):List (Int×Int):=(List.range k).flatMap fun(i:Nat)=>(List.range ((nodes.getD i default).ins.length+1)).map fun(p:Nat)=>((i:Int),(p:Int)-1)
def lnsL(c:Ck):List (Int×Int):=lnsN c.nodes c.nodes.length
theorem lnsN_succ(nodes:List Nd)(k:Nat):lnsN nodes (k+1)=lnsN nodes k++(List.range ((nodes.getD k default).ins.length+1)).map fun(p:Nat)=>((k:Int),(p:Int)-1):=by
 unfold lnsN;rw[List.range_succ,List.flatMap_append,List.flatMap_cons,List.flatMap_nil,List.append_nil]
def lnsC(nodes:List Nd)(k:Nat):Nat:=(lnsN nodes k).length
theorem lnsC_succ(nodes:List Nd)(k:Nat):lnsC nodes (k+1)=lnsC nodes k+((nodes.getD k default).ins.length+1):=by
 unfold lnsC;rw[lnsN_succ,List.length_append,List.length_map,List.length_range]
theorem lnsN_at(nodes:List Nd){k p n:Nat}(hk:k<n)(hp:p<(nodes.getD k default).ins.length+1):(lnsN nodes n)[lnsC nodes k+p]? =some ((k:Int),(p:Int)-1):=by
 induction n with
 |zero=>omega
 |succ n ih=>
  rw[lnsN_succ]
  by_cases e:k=n
  ·subst e
   rw[List.getElem?_append_right (by unfold lnsC;omega)]
   have:lnsC nodes k+p-(lnsN nodes k).length=p:=by unfold lnsC;omega
   rw[this,List.getElem?_map,List.getElem?_range hp];rfl
  ·have h1:=ih (by omega)
   have h2:lnsC nodes k+p<(lnsN nodes n).length:=(List.getElem?_eq_some_iff.1 h1).1
   rw[List.getElem?_append_left h2]
   exact h1
def stkL(c:Ck)(m:Int):List Ft:=(lnsL c).flatMap fun l=>[⟨m,l.1,l.2,0,0⟩,⟨m,l.1,l.2,1,0⟩]
theorem flat2_at{α β:Type}(f:α→β×β)(l:List α)(i:Nat):(l.flatMap fun x=>[(f x).1,(f x).2])[2*i]? =(l[i]?).map (fun x=>(f x).1)∧(l.flatMap fun x=>[(f x).1,(f x).2])[2*i+1]? =(l[i]?).map (fun x=>(f x).2):=by
 induction l generalizing i with
 |nil=>simp
 |cons x l ih=>
  cases i with
  |zero=>simp
  |succ i=>
   have:=ih i
   rw[List.flatMap_cons]
   have e1:2*(i+1)=2*i+1+1:=by omega
   rw[e1]
   simpa using this
theorem stkL_len(c:Ck)(m:Int):(stkL c m).length=2*(lnsL c).length:=by
 unfold stkL
 induction lnsL c with
 |nil=>rfl
 |cons x l ih=>rw[List.flatMap_cons,List.length_append,ih];simp;omega
end Go.Proofs.YtcbllelkgniogaaDoor
