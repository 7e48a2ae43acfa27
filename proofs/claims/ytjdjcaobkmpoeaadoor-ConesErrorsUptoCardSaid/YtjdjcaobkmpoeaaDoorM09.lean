/- The texts Lev Ofk Fnp Co2 Fan. -/
import Derived.Test.YtjdjcaobkmpoeaaDoorM08
import Derived.OwnWalk
import Derived.Maps.AppendAt
import Derived.Test.YtjdjcaobkmpoeaaDoorM02
import Derived.Deep.LoopGhost
namespace Go.Proofs.YtjdjcaobkmpoeaaDoor
open Go.RowKit
def fillL(f:Nat→Value)(z:Value)(n k:Nat):List Value:=(List.range n).map fun j=>if j<k then f j else z
theorem fillL_len(f:Nat→Value)(z:Value)(n k:Nat):(fillL f z n k).length=n:=by simp[fillL]
theorem fillL_get(f:Nat→Value)(z:Value)(n k j:Nat)(h:j<n):(fillL f z n k)[j]? =some (if j<k then f j else z):=by
 simp[fillL,List.getElem?_map,List.getElem?_range h]
theorem fillL_set(f:Nat→Value)(z:Value)(n k:Nat):(fillL f z n k).set k (f k)=fillL f z n (k+1):=by
 apply List.ext_getElem?
 intro j
 by_cases hj:j<n
 ·rw[List.getElem?_set,fillL_get _ _ _ _ _ hj,fillL_get _ _ _ _ _ hj,fillL_len]
  by_cases hk:k=j
  ·subst hk;simp[hj]
  ·rw[if_neg hk]
   by_cases h1:j<k
   ·rw[if_pos h1,if_pos (by omega)]
   ·rw[if_neg h1,if_neg (by omega)]
 ·rw[List.getElem?_eq_none (by simp[fillL_len];omega),List.getElem?_eq_none (by simp[fillL_len];omega)]
theorem fillL_start(f:Nat→Value)(z:Value)(n:Nat):(madeCells #[z] n).toList=fillL f z n 0:=by
 apply List.ext_getElem?
 intro j
 by_cases hj:j<n
 ·rw[fillL_get _ _ _ _ _ hj];simp[madeCells,hj,Nat.mod_one]
 ·rw[List.getElem?_eq_none (by simp[madeCells];omega),List.getElem?_eq_none (by simp[fillL_len];omega)]
theorem fillL_end(x:Int)(z:Value)(n:Nat):fillL (fun _=>.int .i64 x) z n n=(List.replicate n x).map (Value.int .i64):=by
 apply List.ext_getElem?
 intro j
 by_cases hj:j<n
 ·rw[fillL_get _ _ _ _ _ hj,if_pos hj];simp[hj]
 ·rw[List.getElem?_eq_none (by simp[fillL_len];omega),List.getElem?_eq_none (by simp;omega)]
theorem info_int:(Tryd.prog.info? 3).map (fun i=>(i.zero,i.size,i.bytes))=some (some (.int .i64 0),1,8):=by kernel_rfl
theorem grown_set(w:World)(g j:Nat)(v:Value):w.grownBy (w.setCell ⟨g,j,none⟩ v) (some g):=
 ⟨rfl,rfl,rfl,by simp[World.setCell],fun i _ hne=>Below.heap_setCell _ _ _ _ (fun e=>hne (by rw[e]))⟩
def Row(w:World)(g:Nat)(l:List Int):Prop:=w.ownsRow g 3 1 (.slice (some ⟨g,0,none⟩) l.length l.length) l.length (l.map (Value.int .i64))
theorem Row.cell{w:World}{g:Nat}{l:List Int}(h:Row w g l){j:Nat}(hj:j<l.length):w.cell? ⟨g,j,none⟩=some (.int .i64 (lat l j)):=by
 have:=World.ownsRow.cellAt h j (by omega)
 rw[this,List.getElem?_map,List.getElem?_eq_getElem hj]
 simp[lat,List.getD_eq_getElem?_getD,List.getElem?_eq_getElem hj]
theorem Row.frozen{w:World}{g:Nat}{l:List Int}(h:Row w g l)(j:Nat):w.frozen? ⟨g,j,none⟩=false:=World.ownsRow.frozenAt h j
theorem Row.set{w:World}{g:Nat}{l:List Int}(h:Row w g l)(j:Nat)(x:Int):Row (w.setCell ⟨g,j,none⟩ (.int .i64 x)) g (l.set j x):=by
 have:=(World.ownsRow.stored h j (.int .i64 x)).1
 unfold Row
 rw[List.length_set,List.map_set]
 exact this
theorem Row.lt{w:World}{g:Nat}{l:List Int}(h:Row w g l):g<w.heap.size:=(World.ownsRow.lt h g rfl).2
theorem Row.kept{w w':World}{g:Nat}{l:List Int}{row:Option Nat}(h:Row w g l)(hg:w.grownBy w' row)(hne:some g≠row):Row w' g l:=World.ownsRow.kept h hg (.inr hne)
theorem Row.below{w w':World}{g:Nat}{l:List Int}(h:Row w g l)(hb:Below w.heap.size w w'):Row w' g l:=
 h.kept (row:=none) ⟨hb.os,hb.tape,hb.output,hb.size,fun i hi _=>hb.block i hi⟩ (by simp)
def Stk(w:World)(base:Nat)(v:Value)(l:List Int):Prop:=w.ownsRow base 3 1 v l.length (l.map (Value.int .i64))
theorem Stk.nil(w:World)(base:Nat):Stk w base (.slice none 0 0) []:=World.ownsRow_nil w base _ _
theorem Stk.kept{w w':World}{base:Nat}{v:Value}{l:List Int}{row:Option Nat}(h:Stk w base v l)(hg:w.grownBy w' row)(hne:∀q,row=some q→q<base):Stk w' base v l:=by
 refine World.ownsRow.kept h hg ?_
 rcases ho:v.ownBlock with _|q
 ·exact .inl rfl
 ·refine .inr fun e=>?_
  have:=(World.ownsRow.lt h q ho).1
  have:=hne q e.symm
  omega
theorem Stk.below{w w':World}{base:Nat}{v:Value}{l:List Int}(h:Stk w base v l)(hb:Below w.heap.size w w'):Stk w' base v l:=
 h.kept (row:=none) ⟨hb.os,hb.tape,hb.output,hb.size,fun i hi _=>hb.block i hi⟩ (by simp)
theorem Stk.form{w:World}{base:Nat}{v:Value}{l:List Int}(h:Stk w base v l):∃A c,v=.slice A l.length c∧l.length≤c∧c≤maxLen∧(0<l.length→∃q,A=some ⟨q,0,none⟩∧base≤q∧q<w.heap.size):=by
 have hlt:=World.ownsRow.lt h
 rcases h.2 with⟨rfl,hn⟩| ⟨g,cap,cur,rfl,hb,hg,hle,hm,-⟩
 ·exact⟨none,0,by rw[hn],by omega,by simp,fun h=>by omega⟩
 ·exact⟨_,cap,rfl,hle,hm,fun _=>⟨g,rfl,hb,(hlt g rfl).2⟩⟩
theorem Stk.cell{w:World}{base q c:Nat}{l:List Int}(h:Stk w base (.slice (some ⟨q,0,none⟩) l.length c) l){j:Nat}(hj:j<l.length):w.cell? ⟨q,j,none⟩=some (.int .i64 (l.getD j 0)):=by
 rw[World.ownsRow.cellAt h j (by omega),List.getElem?_map,List.getElem?_eq_getElem hj]
 simp[List.getD_eq_getElem?_getD,List.getElem?_eq_getElem hj]
theorem Stk.pop{w:World}{base q c:Nat}{r:List Int}{t:Int}(h:Stk w base (.slice (some ⟨q,0,none⟩) (r++[t]).length c) (r++[t])):Stk w base (.slice (some ⟨q,0,none⟩) r.length c) r:=by
 obtain⟨h1,h2⟩:=h
 rcases h2 with⟨e,-⟩| ⟨g,cap,cur,e,hb,hg,hle,hm,hsz,htake⟩
 ·cases e
 ·simp only[Value.slice.injEq,Option.some.injEq,Addr.mk.injEq]at e
  obtain⟨⟨rfl,-⟩,-,rfl⟩:=e
  refine⟨by simp,.inr ⟨q,c,cur,rfl,hb,hg,by simp at hle;omega,hm,hsz,?_⟩⟩
  have:=congrArg (List.take r.length) htake
  rw[List.take_take]at this
  simp only[List.length_append,List.length_singleton,Nat.mul_one,List.map_append]at this ⊢
  rw[show min r.length (r.length+1)=r.length by omega]at this
  rw[this,List.take_append_of_le_length (by simp),List.take_of_length_le (by simp)]
theorem one_new(w:World)(u:Value)(t:TypeId):∀(j:Nat) (v:Value),[u][j]? =some v→(w.alloc (.cells #[u] t)).cell? ((⟨w.heap.size,0,none⟩:Addr).add j)=some v:=by
 intro j v h
 match j,h with
 |0,h=>
  obtain rfl:u=v:=by simpa using h
  rw[show (⟨w.heap.size,0,none⟩:Addr).add 0=⟨w.heap.size,0,none⟩ from rfl,World.cell?_alloc_at _ _ _ _ rfl]
  rfl
theorem push_facts{w wo w1:World}{g:Nat}{sv v':Value}{st lv:List Int}{x:Int}{o:Obj}(hb:Below g w wo)(hrow:Row wo g lv)(hstk:Stk wo (g+1) sv st)
 (hown:w1.ownsRow (g+1) 3 1 v' (st.length+1) (st.map (Value.int .i64)++[.int .i64 x])) (hgr:(wo.alloc o).grownBy w1 sv.ownBlock):Below g w w1∧Row w1 g lv∧Stk w1 (g+1) v' (st++[x]):=by
 have hlt:=hrow.lt
 have hq:∀q,sv.ownBlock=some q→g+1≤q:=fun q h=>(World.ownsRow.lt hstk q h).1
 refine⟨(hb.alloc (by omega) o).grown hgr (by simp;omega) (fun q h=>by have:=hq q h;omega),?_,?_⟩
 ·exact (hrow.kept (World.grownBy_alloc wo o none) (by simp)).kept hgr (fun e=>by have:=hq g e.symm;omega)
 ·unfold Stk
  rw[List.length_append,List.map_append]
  exact hown
theorem set_facts{w wo:World}{g j:Nat}{sv:Value}{st lv:List Int}(x:Int)(hb:Below g w wo)(hrow:Row wo g lv)(hstk:Stk wo (g+1) sv st):
 Below g w (wo.setCell ⟨g,j,none⟩ (.int .i64 x))∧Row (wo.setCell ⟨g,j,none⟩ (.int .i64 x)) g (lv.set j x)∧Stk (wo.setCell ⟨g,j,none⟩ (.int .i64 x)) (g+1) sv st:=
 ⟨hb.setCell (Nat.le_refl g) _,hrow.set j x,hstk.kept (grown_set _ _ _ _) (fun q e=>by cases e;omega)⟩
theorem next_facts{w wo w1:World}{g:Nat}{sv:Value}{st lv:List Int}(h:Below g w wo∧Row wo g lv∧Stk wo (g+1) sv st)(hb:Below wo.heap.size wo w1):Below g w w1∧Row w1 g lv∧Stk w1 (g+1) sv st:=
 ⟨h.1.trans (hb.mono (by have:=h.2.1.lt;omega)),h.2.1.below hb,h.2.2.below hb⟩
theorem node_at{nodes:List Nd}{A:Option Addr}{c:Nat}{w:World}{B:Nat}(hn:Ns w B (.slice A nodes.length c) nodes){t:Nat}(ht:t<nodes.length):
 ∃b o A4 n4 c4 kd mm bt A5 n5 c5,A=some ⟨b,o,none⟩∧b<B∧w.cell? ⟨b,o+t*4,none⟩=some (.int .u8 kd)∧w.cell? ⟨b,o+t*4+1,none⟩=some (.slice A4 n4 c4)∧w.cell? ⟨b,o+t*4+2,none⟩=some (.int .i64 mm)∧w.cell? ⟨b,o+t*4+3,none⟩=some (.int .i64 bt)∧
  (if cmb kd=true then Value.slice A4 n4 c4 else .slice none 0 0)=.slice A5 n5 c5∧n5=(dep nodes t).length∧Is w B (.slice A5 n5 c5) (dep nodes t):=by
 obtain⟨A',b,o,c',e,hA,-,-,hc⟩:=hn
 simp only[Value.slice.injEq,true_and]at e
 obtain⟨rfl,rfl⟩:=e
 obtain rfl:=hA (by omega)
 obtain⟨hlt,s,h0,h1,h2,h3,h4,-⟩:=hc t ht
 obtain⟨A4,b4,o4,c4,rfl,-⟩:=id h4
 have hd:dep nodes t=if cmb (nodes.getD t default).kind=true then (nodes.getD t default).ins else []:=rfl
 cases hk:cmb (nodes.getD t default).kind
 ·refine⟨b,o,A4,_,c4,_,_,_,none,0,0,rfl,hlt,h0,h1,h2,h3,by rw[hk];rfl,?_,?_⟩
  ·rw[hd,hk];rfl
  ·rw[hd,hk];exact Arr.nil _ _ _ _ _
 ·refine⟨b,o,A4,_,c4,_,_,_,A4,_,c4,rfl,hlt,h0,h1,h2,h3,by rw[hk];rfl,?_,?_⟩
  ·rw[hd,hk];rfl
  ·rw[hd,hk];exact h4
theorem snoc_of{l:List Int}(h:l≠[]):∃r t,l=r++[t]:=by
 rcases List.eq_nil_or_concat l with e| ⟨r,t,e⟩
 ·exact absurd e h
 ·exact⟨r,t,by simpa using e⟩
theorem getD_snoc(r:List Int)(t:Int):(r++[t]).getD r.length 0=t:=by simp[List.getD_eq_getElem?_getD]
theorem take_snoc(l:List Int)(k:Nat)(h:k<l.length):l.take (k+1)=l.take k++[l.getD k 0]:=by
 rw[List.take_succ_eq_append_getElem h,List.getD_eq_getElem?_getD,List.getElem?_eq_getElem h];rfl
set_option maxHeartbeats 400000 in
theorem depends_any(x:Nd)(A4:Option Addr)(n4 c4:Nat)(w:World):
 Calls Tryd.prog 86 #[.agg #[.int .u8 x.kind,.slice A4 n4 c4,.int .i64 x.mem,.int .i64 x.bit]] w fun e w'=>e=.returned (if cmb x.kind=true then .slice A4 n4 c4 else .slice none 0 0)∧Below w.heap.size w w':=by
 have hb:Below w.heap.size w (w.alloc (.cells #[.int .u8 x.kind,.slice A4 n4 c4,.int .i64 x.mem,.int .i64 x.bit] 57)):=(Below.refl _ _).alloc (Nat.le_refl _) _
 have HB:=Lib.hid hb
 clear hb
 generalize x.kind=kd at HB ⊢
 generalize x.mem=mm at HB ⊢
 generalize x.bit=bt at HB ⊢
 cases h:cmb kd
 ·rw[if_neg (by decide)]
  have H:=Lib.hid h
  clear h
  go_enter Tryd.func86,Tryd.ntmps86
  go_wp2_with (go_at_call 44;(with_reducible refine (comb_any _ _).mono ?_);rintro e w' ⟨rfl,rfl⟩;rw[H.out])
  go_ret
  exact⟨rfl,HB.out⟩
 ·rw[if_pos rfl]
  have H:=Lib.hid h
  clear h
  go_enter Tryd.func86,Tryd.ntmps86
  go_wp2_with (go_at_call 44;(with_reducible refine (comb_any _ _).mono ?_);rintro e w' ⟨rfl,rfl⟩;rw[H.out])
  go_ret
  exact⟨rfl,HB.out⟩
set_option maxHeartbeats 400000 in
theorem clip_any(A:Option Addr)(n c:Nat)(w:World)(hA:(A=none∧n=0∧c=0)∨∃a:Addr,A=some a)(hn:n≤c)(hc:c≤maxLen):
 Calls Tryd.prog 32 #[.slice A n c] w fun e w'=>e=.returned (.slice A n n)∧w=w':=by
 unfold maxLen at hc
 rcases hA with⟨rfl,rfl,rfl⟩| ⟨a,rfl⟩
 ·go_enter Tryd.func32,Tryd.ntmps32
  go_wp2
  go_ret
  exact⟨rfl,rfl⟩
 ·go_enter Tryd.func32,Tryd.ntmps32
  go_wp2
  go_ret
  exact⟨rfl,rfl⟩
def U8At(w:World)(_B b p:Nat)(x:Int):Prop:=w.cell? ⟨b,p,none⟩=some (.int .u8 x)
theorem stays_u8:Stays U8At:=fun w w' B B' b p x hb hB h hk=>(hk ⟨b,p,none⟩ hb).trans h
def Ks(w:World)(B:Nat)(v:Value)(l:List Int):Prop:=Arr 0 1 U8At w B v l
theorem Ks.below{w w':World}{B:Nat}{v:Value}{l:List Int}(h:Ks w B v l)(hb:Below B w w'):Ks w' B v l:=Arr.keep stays_u8 h (Nat.le_refl _) fun _ hp=>hb.cell hp
theorem Ks.opens{w:World}{B:Nat}{v:Value}{l:List Int}(h:Ks w B v l):∃A b o c,v=.slice A l.length c∧(0<l.length→A=some ⟨b,o,none⟩)∧l.length≤c∧l.length≤maxLen∧∀k,k<l.length→b<B∧w.cell? ⟨b,o+k,none⟩=some (.int .u8 (l.getD k 0)):=by
 obtain⟨A,b,o,c,h1,h2,h3,h4,h5⟩:=h
 exact⟨A,b,o,c,h1,h2,h3,h4,fun k hk=>⟨(h5 k hk).1,by have:=(h5 k hk).2;rw[Nat.mul_one]at this;exact this⟩⟩
def isK(kl:List Int)(x:Int):Bool:=anyP (fun y=>x==y) kl
set_option maxHeartbeats 1000000 in
theorem indexK_any(x:Int)(l:List Int)(s:Value)(w:World)(B:Nat)(hs:Ks w B s l):
 Calls Tryd.prog 104 #[s,.int .u8 x] w (IdxP (isK l x) w):=by
 obtain⟨A,b,o,c,rfl,hA,-,hm,hc⟩:=hs.opens
 unfold maxLen at hm
 have HC:=Lib.hid hc
 have HAA:=Lib.hid hA
 clear hc hA hs
 obtain⟨n,hn⟩:∃n,n=l.length:=⟨_,rfl⟩
 rw[←hn]at hm
 rw[←hn]
 have HN:=Lib.hid hn
 clear hn
 go_enter Tryd.func104,Tryd.ntmps104
 go_wp2
 go_loopw [8] (fun i wr=>wr=w∧∃k:Nat,k≤n∧i=.int .i64 k∧∀j,j<k→(x==l.getD j 0)=false) (fun i _=>n-(intOf i).toNat)
 case atStart=>exact⟨rfl,0,Nat.zero_le _,rfl,fun j hj=>absurd hj (by omega)⟩
 case round=>
  obtain⟨rfl,k,hk,rfl,hno⟩:=hrel
  have HNO:=Lib.hid hno
  clear hno
  by_cases hlt:k<n
  ·obtain rfl:=HAA.out (by rw[←HN.out];omega)
   have hcell:=(HC.out k (by rw[←HN.out];omega)).2
   obtain⟨y,HX⟩:=named (l.getD k 0)
   rw[←HX.out]at hcell
   cases hv:x==y
   ·have HV:=Lib.hid hv
    go_wp2
    go_roundw
    case rel=>
     refine⟨by trivial,k+1,by omega,by go_num,fun j hj=>?_⟩
     by_cases hjk:j=k
     ·rw[hjk,←HX.out];exact HV.out
     ·exact HNO.out j (by omega)
    case measure=>simp[intOf];omega
   ·have HV:=Lib.hid hv
    go_wp2
    go_ret
    exact⟨k,rfl,⟨fun _=>anyP_yes k (by rw[←HN.out];omega) (by rw[←HX.out];exact HV.out),fun _=>by omega⟩,rfl⟩
  ·go_wp2
   go_ret
   exact⟨-1,rfl,⟨fun h=>absurd h (by omega),fun h=>by rw[isK,anyP_no (fun j hj=>HNO.out j (by rw[←HN.out]at hj;omega))]at h;cases h⟩,rfl⟩
set_option maxHeartbeats 400000 in
theorem containsK_any(x:Int)(l:List Int)(s:Value)(w:World)(B:Nat)(hs:Ks w B s l):
 Calls Tryd.prog 94 #[s,.int .u8 x] w fun e w'=>e=.returned (.bool (isK l x))∧w=w':=by
 obtain⟨y,HY⟩:=named (isK l x)
 rw[←HY.out]
 have HI:=Lib.hid (indexK_any x l s w B hs)
 clear hs
 go_enter Tryd.func94,Tryd.ntmps94
 go_wp2_with (go_at_call 104;(with_reducible refine HI.out.mono ?_);rintro e w' ⟨i,rfl,hi,rfl⟩;have HI2:=Lib.hid hi;clear hi)
 go_ret
 exact⟨ret_bool (by rw[HY.out];exact Bool.eq_iff_iff.2 (by simpa using HI2.out)),rfl⟩
def ofTo(nodes:List Nd)(kl:List Int)(k:Nat):List Int:=List.map (fun i:Nat=>(i:Int)) (List.filter (fun i=>isK kl (nodes.getD i default).kind) (List.range k))
theorem ofTo_succ(nodes:List Nd)(kl:List Int)(k:Nat):ofTo nodes kl (k+1)=ofTo nodes kl k++(if isK kl (nodes.getD k default).kind=true then [(k:Int)] else []):=by
 unfold ofTo
 rw[List.range_succ,List.filter_append,List.map_append]
 congr 1
 cases h:isK kl (nodes.getD k default).kind<;>(simp only[List.filter_cons,List.filter_nil,h];rfl)
theorem ofTo_len(nodes:List Nd)(kl:List Int)(k:Nat):(ofTo nodes kl k).length≤k:=by
 unfold ofTo
 rw[List.length_map]
 have:=List.length_filter_le (fun i=>isK kl (nodes.getD i default).kind) (List.range k)
 simpa using this
theorem push_own{w wo w1:World}{g:Nat}{sv v':Value}{st:List Int}{x:Int}{o:Obj}(hg:g≤wo.heap.size)(hb:Below g w wo)(hstk:Stk wo g sv st)
 (hown:w1.ownsRow g 3 1 v' (st.length+1) (st.map (Value.int .i64)++[.int .i64 x])) (hgr:(wo.alloc o).grownBy w1 sv.ownBlock):Below g w w1∧Stk w1 g v' (st++[x]):=by
 have hq:∀q,sv.ownBlock=some q→g≤q:=fun q h=>(World.ownsRow.lt hstk q h).1
 refine⟨(hb.alloc hg o).grown hgr (by simp;omega) hq,?_⟩
 unfold Stk
 rw[List.length_append,List.map_append]
 exact hown
theorem Stk.reads{w:World}{g c:Nat}{A:Option Addr}{l:List Int}(h:Stk w g (.slice A l.length c) l)(k:Nat)(hk:l.length≤k)(hkm:l.length≤maxLen):Is w w.heap.size (.slice A l.length k) l:=by
 obtain⟨A',c',e,-,-,hq⟩:=h.form
 simp only[Value.slice.injEq,true_and]at e
 obtain⟨rfl,rfl⟩:=e
 by_cases h0:0<l.length
 ·obtain⟨q,rfl,-,hlt⟩:=hq h0
  refine⟨_,q,0,k,rfl,fun _=>rfl,hk,hkm,fun j hj=>⟨hlt,?_⟩⟩
  show World.cell? _ _=_
  rw[Nat.zero_add,Nat.mul_one]
  exact h.cell hj
 ·exact⟨A,0,0,k,rfl,fun h=>absurd h h0,hk,hkm,fun j hj=>absurd hj (by omega)⟩
theorem Stk.shape{w:World}{g:Nat}{v:Value}{l:List Int}(h:Stk w g v l):∃A c,v=.slice A l.length c∧l.length≤c∧c≤maxLen∧((A=none∧l.length=0∧c=0)∨∃a:Addr,A=some a):=by
 rcases h.2 with⟨rfl,hn⟩| ⟨g,cap,cur,rfl,hb,hg,hle,hm,-⟩
 ·exact⟨none,0,by rw[hn],by omega,by simp,.inl ⟨rfl,hn,rfl⟩⟩
 ·exact⟨_,cap,rfl,hle,hm,.inr ⟨_,rfl⟩⟩
def OfPost(l:List Int)(w:World)(e:Ending)(w':World):Prop:=∃A,e=.returned (.slice A l.length l.length)∧Is w' w'.heap.size (.slice A l.length l.length) l∧Below w.heap.size w w'
set_option maxHeartbeats 4000000 in
theorem of_any(c:Ck)(kl:List Int)(v s:Value)(w:World)(B:Nat)(hB:B≤w.heap.size)(hc:Cir w B v c)(hk:Ks w B s kl)(hsz:c.nodes.length≤1000000):
 Calls Tryd.prog 77 #[v,s] w (OfPost (ofTo c.nodes kl c.nodes.length) w):=by
 obtain⟨v0,v1,v2,v3,rfl,hns,hss,hms,hos⟩:=hc
 obtain⟨A0,b,o,c0,rfl,hA,-,-,hcell⟩:=id hns
 obtain⟨A1,b1,o1,c1,rfl,-⟩:=id hss
 obtain⟨A2,b2,o2,c2,rfl,-⟩:=id hms
 obtain⟨A3,b3,o3,c3,rfl,-⟩:=id hos
 obtain⟨As,bs,os,cs,rfl,-⟩:=id hk
 have hbW:Below w.heap.size w (w.alloc (.cells #[.slice A0 c.nodes.length c0,.slice A1 c.names.length c1,.slice A2 c.mems.length c2,.slice A3 c.outs.length c3] 27)):=(Below.refl _ _).alloc (Nat.le_refl _) _
 have HKS:=Lib.hid hk
 have HCE:=Lib.hid hcell
 have HAA:=Lib.hid hA
 clear hns hss hms hos hk hcell hA
 generalize c.names.length=n1 at hbW ⊢
 generalize c.mems.length=n2 at hbW ⊢
 generalize c.outs.length=n3 at hbW ⊢
 obtain⟨n,HN⟩:=named c.nodes.length
 rw[←HN.out]at hbW hsz
 rw[←HN.out]
 obtain⟨W,HW⟩:=named (w.alloc (.cells #[.slice A0 n c0,.slice A1 n1 c1,.slice A2 n2 c2,.slice A3 n3 c3] 27))
 have hzW:W.heap.size=w.heap.size+1:=by rw[HW.out];simp
 rw[←HW.out]at hbW
 have HBW:=Lib.hid hbW
 have HZW:=Lib.hid hzW
 clear hbW hzW
 generalize kl.length=nk at HKS ⊢
 go_enter Tryd.func77,Tryd.ntmps77
 go_wp2
 go_loopw [11,5] (fun i sv wr=>∃k:Nat,k≤n∧i=.int .i64 k∧Below w.heap.size w wr∧w.heap.size≤wr.heap.size∧Stk wr w.heap.size sv (ofTo c.nodes kl k)) (fun i _ _=>n-(intOf i).toNat)
 case atStart=>exact⟨0,Nat.zero_le _,rfl,by rw[←HW.out];exact HBW.out,by simp,Stk.nil _ _⟩
 case round=>
  obtain⟨k,hk,rfl,hb,hg,hst⟩:=hrel
  obtain⟨A6,c6,rfl,hle6,hc6,hsh⟩:=hst.shape
  have hol:=ofTo_len c.nodes kl k
  by_cases hlt:k<n
  ·obtain rfl:=HAA.out (by rw[←HN.out];omega)
   obtain⟨hlb,s,h0,h1,h2,h3,h4,h5,-⟩:=HCE.out k (by rw[←HN.out];exact hlt)
   obtain⟨A4,b4,o4,c4,rfl,-⟩:=id h4
   have hsu:=ofTo_succ c.nodes kl k
   have hlb':b<w.heap.size:=by omega
   have e0:=(hb.cell (p:=⟨b,o+k*4,none⟩) hlb').trans h0
   have e1:=(hb.cell (p:=⟨b,o+k*4+1,none⟩) hlb').trans h1
   have e2:=(hb.cell (p:=⟨b,o+k*4+2,none⟩) hlb').trans h2
   have e3:=(hb.cell (p:=⟨b,o+k*4+3,none⟩) hlb').trans h3
   clear h0 h1 h2 h3 h4
   generalize (c.nodes.getD k default).ins.length=ni at e1
   generalize (c.nodes.getD k default).mem=mm at e2
   generalize (c.nodes.getD k default).bit=bt at e3
   obtain⟨kd,HKD⟩:=named (c.nodes.getD k default).kind
   rw[←HKD.out]at e0 hsu h5
   have hcon:=containsK_any kd kl (.slice As nk cs) (wr.alloc (.cells #[.int .u8 kd,.slice A4 ni c4,.int .i64 mm,.int .i64 bt] 57)) B (HKS.out.below ((hb.alloc hg _).mono hB))
   have HST:=Lib.hid hst
   have HB:=Lib.hid hb
   have hb2:=hb.alloc hg (.cells #[.int .u8 kd,.slice A4 ni c4,.int .i64 mm,.int .i64 bt] 57)
   have hst2:Stk (wr.alloc (.cells #[.int .u8 kd,.slice A4 ni c4,.int .i64 mm,.int .i64 bt] 57)) w.heap.size (.slice A6 (ofTo c.nodes kl k).length c6) (ofTo c.nodes kl k):=hst.below ((Below.refl _ _).alloc (Nat.le_refl _) _)
   have HB2:=Lib.hid hb2
   have HST2:=Lib.hid hst2
   clear hst hb hb2 hst2
   obtain⟨L,HL⟩:=named (ofTo c.nodes kl k)
   rw[←HL.out]at hsu HST2 hol hle6 hsh
   rw[←HL.out]
   cases hv:isK kl kd
   ·rw[hv]at hcon hsu
    rw[if_neg (by decide),List.append_nil]at hsu
    have HSU:=Lib.hid hsu
    have HCON:=Lib.hid hcon
    clear hcon hsu hv hsh
    go_wp2_with (go_at_call 94;(with_reducible refine HCON.out.mono ?_);rintro e w1 ⟨rfl,rfl⟩)
    go_roundw
    case rel=>
     refine⟨k+1,by omega,by go_num,HB2.out,by simp;omega,?_⟩
     rw[HSU.out];exact HST2.out
    case measure=>simp[intOf];omega
   ·rw[hv]at hcon hsu
    rw[if_pos rfl]at hsu
    have HSU:=Lib.hid hsu
    have HCON:=Lib.hid hcon
    clear hcon hsu hv hsh
    obtain⟨i1,hi1,hz0,hz1,hz2⟩:=info_parts info_int
    have HI:=Lib.hid (And.intro hi1 (And.intro hz0 (And.intro hz1 hz2)))
    clear hi1 hz0 hz1 hz2
    go_wp2_with (first
     |(go_at_call 94;(with_reducible refine HCON.out.mono ?_);rintro e w1 ⟨rfl,rfl⟩)
     |(at_builtin;refine wpList_append_own_at _ rfl _ _ 25 rfl w.heap.size 3 i1 (.int .i64 0) 1 8 Tryd.underlying25 HI.out.1 HI.out.2.1 HI.out.2.2.1 HI.out.2.2.2 rfl (by decide) _ _ _ rfl (World.ownsRow.alloc HST2.out _) ⟨wr.heap.size+1,0,none⟩ 1 1 [.int .i64 (k:Int)] rfl rfl (by have:=one_new (wr.alloc (.cells #[.int .u8 kd,.slice A4 ni c4,.int .i64 mm,.int .i64 bt] 57)) (.int .i64 (k:Int)) 3;simpa using this) (ints_oneCell .i64 [(k:Int)]) (by unfold maxLen;omega) (by omega) (by simp;omega) ?_;intro v' w2 hown' hgrow hnil hloc;have HF:=Lib.hid (push_own (by simp;omega) HB2.out HST2.out hown' hgrow);have HZ:=Lib.hid hgrow.size;clear hown' hgrow hnil hloc))
    go_roundw
    case rel=>
     refine⟨k+1,by omega,by go_num,HF.out.1,by have:=HZ.out;simp at this;omega,?_⟩
     rw[HSU.out];exact HF.out.2
    case measure=>simp[intOf];omega
  ·obtain rfl:n=k:=by omega
   have hr:=hst.reads _ (Nat.le_refl _) (by unfold maxLen;omega)
   have HR:=Lib.hid hr
   have HB:=Lib.hid hb
   have hclip:=clip_any A6 (ofTo c.nodes kl n).length c6 wr hsh hle6 hc6
   obtain⟨L,HL⟩:=named (ofTo c.nodes kl n)
   rw[←HL.out]at hclip HR
   rw[←HL.out]
   have HCL:=Lib.hid hclip
   clear hr hb hst hclip hsh hle6
   go_wp2_with (go_at_call 32;(with_reducible refine HCL.out.mono ?_);rintro e w1 ⟨rfl,rfl⟩)
   go_ret
   rw[←HL.out]
   exact⟨A6,rfl,HR.out,HB.out⟩
theorem Ks.one(w:World)(x:Int)(t:TypeId){n:Nat}(hn:n=w.heap.size):Ks (w.alloc (.cells #[.int .u8 x] t)) (w.alloc (.cells #[.int .u8 x] t)).heap.size (.slice (some ⟨n,0,none⟩) 1 1) [x]:=by
 subst hn
 refine⟨_,w.heap.size,0,1,rfl,fun _=>rfl,by simp,by simp[maxLen],fun k hk=>?_⟩
 have hk0:k=0:=by simpa using hk
 subst hk0
 refine⟨by simp,?_⟩
 show World.cell? _ _=_
 rw[World.cell?_alloc_at _ _ _ _ rfl];rfl
theorem OfPost.from{l:List Int}{w0 w:World}{P:Program}{f:FuncId}{args:Array Value}(h:Calls P f args w (OfPost l w))(hb:Below w0.heap.size w0 w):Calls P f args w (OfPost l w0):=
 h.mono fun _ _ ⟨A,he,hi,h'⟩=>⟨A,he,hi,joinB hb h'⟩
set_option maxHeartbeats 1000000 in
theorem states_any(c:Ck)(v:Value)(w:World)(B:Nat)(hB:B≤w.heap.size)(hc:Cir w B v c)(hsz:c.nodes.length≤1000000):
 Calls Tryd.prog 58 #[v] w (OfPost (ofTo c.nodes [14] c.nodes.length) w):=by
 have hb0:=hc
 obtain⟨v0,v1,v2,v3,rfl,hns,hss,hms,hos⟩:=hc
 obtain⟨A0,b0,o0,c0,rfl,-⟩:=id hns
 obtain⟨A1,b1,o1,c1,rfl,-⟩:=id hss
 obtain⟨A2,b2,o2,c2,rfl,-⟩:=id hms
 obtain⟨A3,b3,o3,c3,rfl,-⟩:=id hos
 obtain⟨W,HW⟩:=named (w.alloc (.cells #[.slice A0 c.nodes.length c0,.slice A1 c.names.length c1,.slice A2 c.mems.length c2,.slice A3 c.outs.length c3] 27))
 have hbW:Below w.heap.size w W:=by rw[HW.out];exact (Below.refl _ _).alloc (Nat.le_refl _) _
 have hzW:W.heap.size=w.heap.size+1:=by rw[HW.out];simp
 have hbK:Below w.heap.size w (W.alloc (.cells #[.int .u8 14] 55)):=hbW.alloc hbW.size _
 have hL:=OfPost.from (of_any c [14] _ (.slice (some ⟨w.heap.size+1,0,none⟩) 1 1) (W.alloc (.cells #[.int .u8 14] 55)) _ (Nat.le_refl _) ((hb0.below (hbK.mono hB)).more (Nat.le_trans hB hbK.size)) (Ks.one W 14 _ hzW.symm) hsz) hbK
 clear hns hss hms hos hb0 hbK hzW hbW
 generalize ofTo c.nodes [14] c.nodes.length=L at hL ⊢
 generalize c.nodes.length=n0 at hL HW ⊢
 generalize c.names.length=n1 at hL HW ⊢
 generalize c.mems.length=n2 at hL HW ⊢
 generalize c.outs.length=n3 at hL HW ⊢
 obtain rfl:=HW.out
 have HL:=Lib.hid hL
 clear hL HW
 go_enter Tryd.func58,Tryd.ntmps58
 go_wp2_with (go_at_call 77;(with_reducible refine HL.out.mono ?_);rintro e w1 ⟨A,rfl,hi,hb⟩;have HI:=Lib.hid hi;have HB1:=Lib.hid hb;clear hi hb)
 go_ret
 exact⟨A,rfl,HI.out,HB1.out⟩
def insP(i:Nat)(ins:List Int)(p:Nat):List (Int×Int×Int):=(List.range p).map fun(k:Nat)=>(ins.getD k 0,(i:Int),(k:Int))
def nodP(nodes:List Nd)(i:Nat):List (Int×Int×Int):=(List.range i).flatMap fun k=>insP k (nodes.getD k default).ins (nodes.getD k default).ins.length
def pinsAt(nodes:List Nd)(i p:Nat):List (Int×Int×Int):=nodP nodes i++insP i (nodes.getD i default).ins p
theorem insP_succ(i:Nat)(ins:List Int)(p:Nat):insP i ins (p+1)=insP i ins p++[(ins.getD p 0,(i:Int),(p:Int))]:=by
 simp[insP,List.range_succ]
theorem pinsAt_succ(nodes:List Nd)(i p:Nat):pinsAt nodes i (p+1)=pinsAt nodes i p++[((nodes.getD i default).ins.getD p 0,(i:Int),(p:Int))]:=by
 rw[pinsAt,insP_succ,←List.append_assoc];rfl
theorem pinsAt_zero(nodes:List Nd)(i:Nat):pinsAt nodes i 0=nodP nodes i:=by simp[pinsAt,insP]
theorem nodP_succ(nodes:List Nd)(i:Nat):nodP nodes (i+1)=pinsAt nodes i (nodes.getD i default).ins.length:=by
 simp[nodP,pinsAt,List.range_succ]
theorem nodP_le(nodes:List Nd)(i:Nat):∀d,(nodP nodes i).length≤(nodP nodes (i+d)).length
 |0=>Nat.le_refl _
 |d+1=>by
   refine Nat.le_trans (nodP_le nodes i d) ?_
   rw[←Nat.add_assoc,nodP_succ,pinsAt,List.length_append];omega
theorem pinsAt_len(nodes:List Nd){i p n:Nat}(hi:i<n)(hp:p<(nodes.getD i default).ins.length):(pinsAt nodes i p).length<(nodP nodes n).length:=by
 have h1:=nodP_le nodes (i+1) (n-(i+1))
 rw[show i+1+(n-(i+1))=n by omega,nodP_succ]at h1
 have h2:(pinsAt nodes i p).length+((nodes.getD i default).ins.length-p)=(pinsAt nodes i (nodes.getD i default).ins.length).length:=by
  simp only[pinsAt,insP,List.length_append,List.length_map,List.length_range];omega
 omega
def fan(l:List (Int×Int×Int))(j:Nat):List (Int×Int):=(l.filter fun q=>q.1==(j:Int)).map (·.2)
theorem fan_len(l:List (Int×Int×Int))(j:Nat):(fan l j).length≤l.length:=by
 unfold fan;rw[List.length_map];exact List.length_filter_le _ _
theorem fan_snoc(l:List (Int×Int×Int))(x:Int)(y:Int×Int)(j:Nat):fan (l++[(x,y)]) j=if x=(j:Int) then fan l j++[y] else fan l j:=by
 unfold fan
 rw[List.filter_append,List.map_append]
 by_cases h:x=(j:Int)
 ·simp[h]
 ·simp[h]
def lnC(l:List (Int×Int)):List Value:=l.flatMap fun q=>[.int .i64 q.1,.int .i64 q.2]
theorem lnC_snoc(l:List (Int×Int))(x y:Int):lnC (l++[(x,y)])=lnC l++[.int .i64 x,.int .i64 y]:=by simp[lnC]
theorem lnC_get:∀(l:List (Int×Int)) (k:Nat),k<l.length→(lnC l)[k*2]? =some (.int .i64 (l.getD k (0,0)).1)∧(lnC l)[k*2+1]? =some (.int .i64 (l.getD k (0,0)).2)
 |[],k,h=>absurd h (by simp)
 |q::r,0,h=>by simp[lnC]
 |q::r,k+1,h=>by
   have hr:=lnC_get r k (by simpa using h)
   have e:lnC (q::r)=[.int .i64 q.1,.int .i64 q.2]++lnC r:=rfl
   rw[e,show (k+1)*2=k*2+2 by omega,show k*2+2+1=(k*2+1)+2 by omega]
   rw[List.getElem?_append_right (by simp),List.getElem?_append_right (by simp)]
   simpa using hr
def vat(Vs:List Value)(j:Nat):Value:=Vs.getD j (.slice none 0 0)
theorem vat_set(Vs:List Value)(j k:Nat)(v:Value)(hj:j<Vs.length):vat (Vs.set j v) k=if k=j then v else vat Vs k:=by
 unfold vat
 rw[List.getD_eq_getElem?_getD,List.getD_eq_getElem?_getD,List.getElem?_set]
 by_cases h:j=k
 ·subst h;simp[hj]
 ·rw[if_neg h,if_neg (fun e=>h e.symm)]
structure FS(n g:Nat)(Vs:List Value)(F:Nat→List (Int×Int))(w:World):Prop where
 top:w.ownsRow g 89 1 (.slice (some ⟨g,0,none⟩) n n) n Vs
 row:∀j,j<n→w.ownsRow (g+1) 91 2 (vat Vs j) (F j).length (lnC (F j))
 dis:∀i j,i<n→j<n→i≠j→(vat Vs i).ownBlock=none∨(vat Vs i).ownBlock≠(vat Vs j).ownBlock
theorem FS.len{n g:Nat}{Vs:List Value}{F:Nat→List (Int×Int)}{w:World}(h:FS n g Vs F w):Vs.length=n:=by
 have:=h.top.1;omega
theorem FS.lt{n g:Nat}{Vs:List Value}{F:Nat→List (Int×Int)}{w:World}(h:FS n g Vs F w):g<w.heap.size:=(World.ownsRow.lt h.top g rfl).2
theorem FS.below{n g:Nat}{Vs:List Value}{F:Nat→List (Int×Int)}{w w':World}(h:FS n g Vs F w)(hb:Below w.heap.size w w'):FS n g Vs F w':=by
 have hg:w.grownBy w' none:=⟨hb.os,hb.tape,hb.output,hb.size,fun i hi _=>hb.block i hi⟩
 refine⟨h.top.kept hg (.inr (by simp[Value.ownBlock])),fun j hj=>(h.row j hj).kept hg ?_,h.dis⟩
 rcases (vat Vs j).ownBlock with _|q
 ·exact .inl rfl
 ·exact .inr (by simp)
theorem FS.cell{n g:Nat}{Vs:List Value}{F:Nat→List (Int×Int)}{w:World}(h:FS n g Vs F w){j:Nat}(hj:j<n):w.cell? ⟨g,j,none⟩=some (vat Vs j):=by
 rw[h.top.cellAt j (by omega),vat,List.getD_eq_getElem?_getD,List.getElem?_eq_getElem (by rw[h.len];exact hj)]
 rfl
theorem FS.shape{n g:Nat}{Vs:List Value}{F:Nat→List (Int×Int)}{w:World}(h:FS n g Vs F w){j:Nat}(hj:j<n):
 ∃A c,vat Vs j=.slice A (F j).length c∧(F j).length≤c∧c≤maxLen∧((A=none∧(F j).length=0∧c=0)∨∃b,A=some ⟨b,0,none⟩∧g<b∧b<w.heap.size):=by
 have hlt:=World.ownsRow.lt (h.row j hj)
 rcases (h.row j hj).2 with⟨e,hn⟩| ⟨q,cap,cur,e,hb,hg,hle,hm,-⟩
 ·exact⟨none,0,by rw[e,hn],by omega,by simp,.inl ⟨rfl,hn,rfl⟩⟩
 ·exact⟨_,cap,e,hle,hm,.inr ⟨q,rfl,hb,(hlt q (by rw[e];rfl)).2⟩⟩
theorem FS.push{n g:Nat}{Vs:List Value}{F:Nat→List (Int×Int)}{w w1:World}{j:Nat}{v':Value}{x y:Int}(h:FS n g Vs F w)(hj:j<n)
 (hown:w1.ownsRow (g+1) 91 2 v' ((F j).length+1) (lnC (F j)++[.int .i64 x,.int .i64 y])) (hgr:w.grownBy w1 (vat Vs j).ownBlock)
 (hat:v'.ownBlock=(vat Vs j).ownBlock∨v'.ownBlock=some w.heap.size):
 FS n g (Vs.set j v') (fun k=>if k=j then F k++[(x,y)] else F k) (w1.setCell ⟨g,j,none⟩ v'):=by
 have hlen:=h.len
 have hjq:∀q,(vat Vs j).ownBlock=some q→g+1≤q:=fun q e=>(World.ownsRow.lt (h.row j hj) q e).1
 have ht:=h.top.kept hgr (.inr fun e=>by have:=hjq g e.symm;omega)
 have hs:=ht.stored j v'
 have hv:∀q,v'.ownBlock=some q→g+1≤q:=fun q e=>(World.ownsRow.lt hown q e).1
 have hgo:∀ {v:Value},(∀q,v.ownBlock=some q→g+1≤q)→v.ownBlock=none∨v.ownBlock≠some g:=fun {v} hq=>by
  rcases ho:v.ownBlock with _|q
  ·exact .inl rfl
  ·refine .inr fun e=>?_
   have:=hq q ho
   simp only[Option.some.injEq]at e
   omega
 refine⟨hs.1,fun k hk=>?_,fun a b ha hb hab=>?_⟩
 ·rw[vat_set _ _ _ _ (by omega)]
  by_cases hkj:k=j
  ·subst hkj
   simp only[if_true]
   rw[List.length_append,lnC_snoc]
   exact hown.kept hs.2 (hgo hv)
  ·rw[if_neg hkj]
   simp only[if_neg hkj]
   refine ((h.row k hk).kept hgr (h.dis k j hk hj hkj)).kept hs.2 (hgo ?_)
   exact fun q e=>(World.ownsRow.lt (h.row k hk) q e).1
 ·rw[vat_set _ _ _ _ (by omega),vat_set _ _ _ _ (by omega)]
  have hz:∀k,k<n→∀q,(vat Vs k).ownBlock=some q→q<w.heap.size:=fun k hk q e=>(World.ownsRow.lt (h.row k hk) q e).2
  by_cases haj:a=j
  ·rw[if_pos haj,if_neg (by omega)]
   rcases hat with e|e
   ·rw[e,←haj];exact h.dis a b ha hb hab
   ·refine .inr fun e'=>?_
    rw[e]at e'
    have:=hz b hb _ e'.symm
    omega
  ·rw[if_neg haj]
   by_cases hbj:b=j
   ·rw[if_pos hbj]
    rcases hat with e|e
    ·rw[e,←hbj];exact h.dis a b ha hb hab
    ·rcases ho:(vat Vs a).ownBlock with _|q
     ·exact .inl rfl
     ·refine .inr fun e'=>?_
      rw[e]at e'
      have:=hz a ha q ho
      simp only[Option.some.injEq]at e'
      omega
   ·rw[if_neg hbj];exact h.dis a b ha hb hab
theorem FS.mid{n g:Nat}{Vs:List Value}{F:Nat→List (Int×Int)}{w w1:World}{j:Nat}(h:FS n g Vs F w)(hj:j<n)(hgr:w.grownBy w1 (vat Vs j).ownBlock):
 w1.cell? ⟨g,j,none⟩=some (vat Vs j)∧w1.frozen? ⟨g,j,none⟩=false:=by
 have hjq:∀q,(vat Vs j).ownBlock=some q→g+1≤q:=fun q e=>(World.ownsRow.lt (h.row j hj) q e).1
 have ht:=h.top.kept hgr (.inr fun e=>by have:=hjq g e.symm;omega)
 exact⟨hgr.cell (h.cell hj) (fun e=>by have:=hjq g e.symm;omega),ht.frozenAt j⟩
theorem FS.grown{n g B:Nat}{Vs:List Value}{F:Nat→List (Int×Int)}{w0 w w1:World}{j:Nat}(h:FS n g Vs F w)(hj:j<n)(hb:Below B w0 w)(hB:B≤g)(hgr:w.grownBy w1 (vat Vs j).ownBlock)(v':Value):
 Below B w0 (w1.setCell ⟨g,j,none⟩ v'):=
 (hb.grown hgr (by have:=h.lt;omega) (fun q e=>by have:=(World.ownsRow.lt (h.row j hj) q e).1;omega)).setCell hB _
theorem FS.congr{n g:Nat}{Vs:List Value}{F F':Nat→List (Int×Int)}{w:World}(h:FS n g Vs F w)(e:∀j,j<n→F j=F' j):FS n g Vs F' w:=
 ⟨h.top,fun j hj=>by rw[←e j hj];exact h.row j hj,h.dis⟩
def clipV:Value→Value
 | .slice A n _=>.slice A n n
 |v=>v
def clipTo(Vs:List Value)(n k:Nat):List Value:=(List.range n).map fun j=>if j<k then clipV (vat Vs j) else vat Vs j
theorem clipTo_zero(Vs:List Value)(n:Nat)(h:Vs.length=n):clipTo Vs n 0=Vs:=by
 apply List.ext_getElem?
 intro j
 by_cases hj:j<n
 ·simp[clipTo,hj,vat,List.getD_eq_getElem?_getD,h]
 ·simp[clipTo,hj,h]
theorem clipTo_get(Vs:List Value)(n k j:Nat)(h:j<n):(clipTo Vs n k)[j]? =some (if j<k then clipV (vat Vs j) else vat Vs j):=by
 simp[clipTo,h]
theorem clipTo_set(Vs:List Value)(n k:Nat):(clipTo Vs n k).set k (clipV (vat Vs k))=clipTo Vs n (k+1):=by
 apply List.ext_getElem?
 intro j
 rw[List.getElem?_set]
 by_cases hjn:j<n
 ·rw[clipTo_get _ _ _ _ hjn,clipTo_get _ _ _ _ hjn]
  by_cases hjk:k=j
  ·subst hjk
   have:k<(clipTo Vs n k).length:=by simp[clipTo,hjn]
   simp[this]
  ·rw[if_neg hjk]
   by_cases hl:j<k
   ·rw[if_pos hl,if_pos (by omega)]
   ·rw[if_neg hl,if_neg (by omega)]
 ·have h1:¬j<(clipTo Vs n k).length:=by simp[clipTo];omega
  simp[clipTo,hjn]
  omega
def LnAt(w:World)(_B b p:Nat)(x:Int×Int):Prop:=w.cell? ⟨b,p,none⟩=some (.int .i64 x.1)∧w.cell? ⟨b,p+1,none⟩=some (.int .i64 x.2)
theorem stays_ln:Stays LnAt:=fun w w' B B' b p x hb hB h hk=>⟨(hk ⟨b,p,none⟩ hb).trans h.1,(hk ⟨b,p+1,none⟩ hb).trans h.2⟩
def Lns(w:World)(B:Nat)(v:Value)(l:List (Int×Int)):Prop:=Arr (0,0) 2 LnAt w B v l
def LnsAt(w:World)(B b p:Nat)(l:List (Int×Int)):Prop:=∃A,w.cell? ⟨b,p,none⟩=some (.slice A l.length l.length)∧Lns w B (.slice A l.length l.length) l
theorem stays_lns:Stays LnsAt:=fun w w' B B' b p x hb hB ⟨s,h,k⟩ hk=>⟨s,(hk ⟨b,p,none⟩ hb).trans h,Arr.keep stays_ln k hB hk⟩
def Fos(w:World)(B:Nat)(v:Value)(l:List (List (Int×Int))):Prop:=Arr [] 1 LnsAt w B v l
theorem Fos.keep{w w':World}{B B':Nat}{v:Value}{l:List (List (Int×Int))}(h:Fos w B v l)(hB:B≤B')(hk:∀q:Addr,q.block<B→w'.cell? q=w.cell? q):Fos w' B' v l:=Arr.keep stays_lns h hB hk
def fanL(nodes:List Nd):List (List (Int×Int)):=(List.range nodes.length).map (fan (nodP nodes nodes.length))
theorem clip_reads{w:World}{g:Nat}{v:Value}{l:List (Int×Int)}(h:w.ownsRow g 91 2 v l.length (lnC l)):Lns w w.heap.size (clipV v) l:=by
 have hlt:=World.ownsRow.lt h
 rcases id h.2 with⟨rfl,hn⟩| ⟨q,cap,cur,rfl,hb,hg,hle,hm,-⟩
 ·refine⟨none,0,0,0,?_,fun h=>by omega,by omega,by simp[hn],fun k hk=>by omega⟩
  rw[hn];rfl
 ·refine⟨some ⟨q,0,none⟩,q,0,l.length,rfl,fun _=>rfl,Nat.le_refl _,Nat.le_trans hle hm,fun k hk=>⟨(hlt q rfl).2,?_⟩⟩
  have hc:=lnC_get l k hk
  refine⟨?_,?_⟩
  ·rw[h.cellAt _ (by omega),Nat.zero_add];exact hc.1
  ·rw[h.cellAt _ (by omega),Nat.zero_add];exact hc.2
theorem clip_form{w:World}{g:Nat}{v:Value}{l:List (Int×Int)}(h:w.ownsRow g 91 2 v l.length (lnC l)):∃A,clipV v=.slice A l.length l.length:=by
 rcases id h.2 with⟨rfl,hn⟩| ⟨q,cap,cur,rfl,hb,hg,hle,hm,-⟩
 ·exact⟨none,by rw[hn];rfl⟩
 ·exact⟨some ⟨q,0,none⟩,rfl⟩
theorem FS.reads{n g:Nat}{Vs:List Value}{F:Nat→List (Int×Int)}{w':World}(hn:n≤maxLen)
 (hr:∀j,j<n→w'.ownsRow (g+1) 91 2 (vat Vs j) (F j).length (lnC (F j))) (ht:w'.ownsRow g 89 1 (.slice (some ⟨g,0,none⟩) n n) n (clipTo Vs n n)):
 Fos w' w'.heap.size (.slice (some ⟨g,0,none⟩) n n) ((List.range n).map F):=by
 refine⟨some ⟨g,0,none⟩,g,0,n,by simp,fun _=>rfl,by simp,by simpa using hn,fun k hk=>⟨(World.ownsRow.lt ht g rfl).2,?_⟩⟩
 have hk':k<n:=by simpa using hk
 have e:((List.range n).map F).getD k []=F k:=by simp[hk',List.getD_eq_getElem?_getD]
 rw[e]
 obtain⟨A,hA⟩:=clip_form (hr k hk')
 refine⟨A,?_,?_⟩
 ·rw[Nat.zero_add,Nat.mul_one,ht.cellAt _ (by omega),clipTo_get _ _ _ _ hk',if_pos hk',hA]
 ·rw[←hA]
  exact clip_reads (hr k hk')
def rdT(nodes:List Nd)(k j:Nat):List Int:=(List.range k).flatMap fun(i:Nat)=>List.replicate ((dep nodes (i:Int)).count (j:Int)) (i:Int)
def rdL(nodes:List Nd)(j:Nat):List Int:=rdT nodes nodes.length j
theorem rdT_succ(nodes:List Nd)(k j:Nat):rdT nodes (k+1) j=rdT nodes k j++List.replicate ((dep nodes (k:Int)).count (j:Int)) (k:Int):=by
 unfold rdT;rw[List.range_succ,List.flatMap_append,List.flatMap_cons,List.flatMap_nil,List.append_nil]
theorem mem_rdL{nodes:List Nd}{j:Nat}{y:Int} :y∈rdL nodes j↔0≤y∧y<(nodes.length:Int)∧(j:Int)∈dep nodes y:=by
 unfold rdL rdT
 constructor
 ·intro h
  obtain⟨i,hi,h⟩:=List.mem_flatMap.1 h
  obtain⟨h1,rfl⟩:=List.mem_replicate.1 h
  have:=List.mem_range.1 hi
  exact⟨by omega,by omega,List.count_pos_iff.1 (by omega)⟩
 ·rintro⟨h0,h1,h2⟩
  refine List.mem_flatMap.2 ⟨y.toNat,List.mem_range.2 (by omega),?_⟩
  rw[Int.toNat_of_nonneg h0]
  exact List.mem_replicate.2 ⟨by have:=List.count_pos_iff.2 h2;omega,rfl⟩
theorem rdL_inr(nodes:List Nd)(j:Nat):Inr nodes.length (rdL nodes j):=fun _ h=>⟨(mem_rdL.1 h).1,(mem_rdL.1 h).2.1⟩
theorem fan_app(a b:List (Int×Int×Int))(j:Nat):fan (a++b) j=fan a j++fan b j:=by
 unfold fan;rw[List.filter_append,List.map_append]
theorem fan_ins(i:Nat)(ins:List Int)(j:Nat):∀p,p≤ins.length→(fan (insP i ins p) j).map (·.1)=List.replicate ((ins.take p).count (j:Int)) (i:Int)
 |0,_=>by simp[insP,fan]
 |p+1,h=>by
  have ih:=fan_ins i ins j p (by omega)
  rw[insP_succ,fan_app,List.map_append,ih,List.take_succ_eq_append_getElem (by omega),List.count_append]
  have e:ins.getD p 0=ins[p]:=by rw[List.getD_eq_getElem?_getD,List.getElem?_eq_getElem (by omega)];rfl
  rw[e]
  by_cases hj:ins[p]=(j:Int)
  ·rw[hj,←List.replicate_append_replicate]
   simp[fan]
  ·have:(ins[p]==(j:Int))=false:=by simpa using hj
   simp[fan,this,List.count_cons]
theorem fan_node(i:Nat)(ins:List Int)(j p:Nat):∀q∈fan (insP i ins p) j,q.1=(i:Int):=fun q hq=>by
 unfold fan insP at hq
 obtain⟨x,hx,rfl⟩:=List.mem_map.1 hq
 obtain⟨k,-,rfl⟩:=List.mem_map.1 (List.mem_filter.1 hx).1
 rfl
theorem rd_fan(nodes:List Nd)(j:Nat):∀k,((fan (nodP nodes k) j).filter fun p=>cmb (nodes.getD p.1.toNat default).kind).map (·.1)=rdT nodes k j
 |0=>by simp[nodP,fan,rdT]
 |k+1=>by
  rw[nodP_succ,rdT_succ]
  unfold pinsAt
  rw[fan_app,List.filter_append,List.map_append,rd_fan nodes j k]
  congr 1
  have hk:=fan_node k (nodes.getD k default).ins j (nodes.getD k default).ins.length
  unfold dep depsOf
  rw[Int.toNat_natCast]
  by_cases hc:cmb (nodes.getD k default).kind=true
  ·rw[if_pos hc,List.filter_eq_self.2 fun q hq=>by rw[hk q hq,Int.toNat_natCast];exact hc,fan_ins _ _ _ _ (Nat.le_refl _),List.take_length]
  ·rw[if_neg hc,List.filter_eq_nil_iff.2 fun q hq=>by rw[hk q hq,Int.toNat_natCast];exact hc]
   simp
def dffL(nodes:List Nd)(k:Nat):List Int:=(List.range k).flatMap fun i=>if (nodes.getD i default).kind=14 then (nodes.getD i default).ins else []
def mmL(x:Mm):List Int:=x.addr++x.data++[x.write]
def mmsL(ms:List Mm)(k:Nat):List Int:=(List.range k).flatMap fun i=>mmL (ms.getD i default)
def obsN(c:Ck):List Int:=c.outs++dffL c.nodes c.nodes.length++mmsL c.mems c.mems.length
def mk1(n:Nat)(R:List Bool)(x:Int):List Bool:=if 0≤x∧x<(n:Int) then R.set x.toNat true else R
def mkL(n:Nat)(R:List Bool)(l:List Int):List Bool:=l.foldl (mk1 n) R
theorem mk1_len(n:Nat)(R:List Bool)(x:Int):(mk1 n R x).length=R.length:=by unfold mk1;split<;>simp
theorem mkL_len(n:Nat):∀(l:List Int) (R:List Bool),(mkL n R l).length=R.length
 |[],_=>rfl
 |x::l,R=>(mkL_len n l (mk1 n R x)).trans (mk1_len n R x)
theorem mkL_app(n:Nat)(R:List Bool)(l k:List Int):mkL n R (l++k)=mkL n (mkL n R l) k:=by unfold mkL;rw[List.foldl_append]
theorem mkL_snoc(n:Nat)(R:List Bool)(l:List Int)(x:Int):mkL n R (l++[x])=mk1 n (mkL n R l) x:=by rw[mkL_app];rfl
theorem mkL_bat(n:Nat):∀(l:List Int) (R:List Bool),R.length=n→∀j,j<n→bat (mkL n R l) j=(bat R j||l.contains (j:Int))
 |[],R,_,j,_=>by simp[mkL]
 |x::l,R,h,j,hj=>by
  show bat (mkL n (mk1 n R x) l) j=_
  rw[mkL_bat n l (mk1 n R x) ((mk1_len n R x).trans h) j hj]
  have e:bat (mk1 n R x) j=(bat R j||((j:Int)==x)):=by
   unfold mk1
   by_cases hx:0≤x∧x<(n:Int)
   ·rw[if_pos hx,bat_set (by omega)]
    by_cases h2:j=x.toNat
    ·rw[if_pos h2]
     have:((j:Int)==x)=true:=by simp;omega
     rw[this,Bool.or_true]
    ·rw[if_neg h2]
     have:((j:Int)==x)=false:=by simp;omega
     rw[this,Bool.or_false]
   ·rw[if_neg hx]
    have:((j:Int)==x)=false:=by simp;omega
    rw[this,Bool.or_false]
  rw[e,List.contains_cons,Bool.or_assoc]
def ptB(c:Ck):List Bool:=mkL c.nodes.length (List.replicate c.nodes.length false) (obsN c)
theorem ptB_len(c:Ck):(ptB c).length=c.nodes.length:=by unfold ptB;rw[mkL_len,List.length_replicate]
theorem ptB_bat(c:Ck){j:Nat}(hj:j<c.nodes.length):bat (ptB c) j=true↔(j:Int)∈obsN c:=by
 unfold ptB
 rw[mkL_bat _ _ _ (List.length_replicate) j hj,bat_rep,Bool.false_or,List.contains_iff_mem]
set_option maxHeartbeats 400000 in
theorem clipL_any(A:Option Addr)(n c:Nat)(w:World)(hA:(A=none∧n=0∧c=0)∨∃a:Addr,A=some a)(hn:n≤c)(hc:c≤maxLen):
 Calls Tryd.prog 76 #[.slice A n c] w fun e w'=>e=.returned (.slice A n n)∧w=w':=by
 unfold maxLen at hc
 rcases hA with⟨rfl,rfl,rfl⟩| ⟨a,rfl⟩
 ·go_enter Tryd.func76,Tryd.ntmps76
  go_wp2
  go_ret
  exact⟨rfl,rfl⟩
 ·go_enter Tryd.func76,Tryd.ntmps76
  go_wp2
  go_ret
  exact⟨rfl,rfl⟩
theorem info_lines:(Tryd.prog.info? 89).map (fun i=>(i.zero,i.size,i.bytes))=some (some (.slice none 0 0),1,24):=by kernel_rfl
theorem info_line:(Tryd.prog.info? 91).map (fun i=>(i.zero,i.size,i.bytes))=some (some (.agg #[.int .i64 0,.int .i64 0]),2,16):=by kernel_rfl
theorem two_new(w:World)(u v:Value)(t:TypeId):∀(j:Nat) (x:Value),[u,v][j]? =some x→(w.alloc (.cells #[u,v] t)).cell? ((⟨w.heap.size,0,none⟩:Addr).add j)=some x:=by
 intro j x hj
 match j,hj with
 |0,hj=>
  rw[show (⟨w.heap.size,0,none⟩:Addr).add 0=⟨w.heap.size,0,none⟩ from rfl,World.cell?_alloc_at _ _ _ _ rfl]
  simpa using hj
 |1,hj=>
  rw[show (⟨w.heap.size,0,none⟩:Addr).add 1=⟨w.heap.size,1,none⟩ from rfl,World.cell?_alloc_at _ _ _ _ rfl]
  simpa using hj
 |j+2,hj=>simp at hj
theorem FS.start{w:World}{g n:Nat}(h:w.ownsRow g 89 1 (.slice (some ⟨g,0,none⟩) n n) n (fillL (fun _=>.slice none 0 0) (.slice none 0 0) n 0)):
 FS n g (fillL (fun _=>.slice none 0 0) (.slice none 0 0) n 0) (fan []) w:=by
 have e:∀j,vat (fillL (fun _=>.slice none 0 0) (.slice none 0 0) n 0) j=.slice none 0 0:=fun j=>by
  unfold vat
  rw[List.getD_eq_getElem?_getD]
  by_cases hj:j<n
  ·rw[fillL_get _ _ _ _ _ hj];simp
  ·rw[List.getElem?_eq_none (by rw[fillL_len];omega)];rfl
 refine⟨h,fun j hj=>?_,fun i j _ _ _=>.inl (by rw[e];rfl)⟩
 rw[e]
 exact World.ownsRow_nil w _ _ _
theorem own_form{w:World}{base:Nat}{e:TypeId}{size:Nat}{v:Value}{n:Nat}{xs:List Value}(h:w.ownsRow base e size v n xs):∃A c,v=.slice A n c:=by
 rcases h.2 with⟨rfl,hn⟩| ⟨g,cap,cur,rfl,-⟩
 ·exact⟨none,0,by rw[hn]⟩
 ·exact⟨_,cap,rfl⟩
def FanPost(nodes:List Nd)(w:World)(e:Ending)(w':World):Prop:=
 ∃g,e=.returned (.slice (some ⟨g,0,none⟩) nodes.length nodes.length)∧w.heap.size≤g∧Fos w' w'.heap.size (.slice (some ⟨g,0,none⟩) nodes.length nodes.length) (fanL nodes)∧Below w.heap.size w w'
def FanI(nodes:List Nd)(w:World)(n g i p:Nat)(wr:World):Prop:=
 ∃Vs,Below w.heap.size w wr∧FS n g Vs (fan (pinsAt nodes i p)) wr
set_option maxRecDepth 100000 in
set_option maxHeartbeats 4000000 in
theorem fanout_any(c:Ck)(v:Value)(w:World)(B:Nat)(hB:B≤w.heap.size)(hc:Cir w B v c)(hsz:c.nodes.length≤1000000000000)(hpz:(nodP c.nodes c.nodes.length).length≤1000000000000):
 Calls Tryd.prog 55 #[v] w (FanPost c.nodes w):=by
 obtain⟨v0,v1,v2,v3,rfl,hns,hss,hms,hos⟩:=hc
 obtain⟨A0,b,o,c0,rfl,hA,-,-,hcell⟩:=id hns
 obtain⟨A1,b1,o1,c1,rfl,-⟩:=id hss
 obtain⟨A2,b2,o2,c2,rfl,-⟩:=id hms
 obtain⟨A3,b3,o3,c3,rfl,-⟩:=id hos
 have hbW:Below w.heap.size w (w.alloc (.cells #[.slice A0 c.nodes.length c0,.slice A1 c.names.length c1,.slice A2 c.mems.length c2,.slice A3 c.outs.length c3] 27)):=(Below.refl _ _).alloc (Nat.le_refl _) _
 have HCE:=Lib.hid hcell
 have HAA:=Lib.hid hA
 clear hns hss hms hos hcell hA
 generalize c.names.length=n1 at hbW ⊢
 generalize c.mems.length=n2 at hbW ⊢
 generalize c.outs.length=n3 at hbW ⊢
 obtain⟨n,HN⟩:=named c.nodes.length
 rw[←HN.out]at hbW hsz hpz
 unfold FanPost
 rw[←HN.out]
 obtain⟨W,HW⟩:=named (w.alloc (.cells #[.slice A0 n c0,.slice A1 n1 c1,.slice A2 n2 c2,.slice A3 n3 c3] 27))
 have hzW:W.heap.size=w.heap.size+1:=by rw[HW.out];simp
 rw[←HW.out]at hbW
 have HBW:=Lib.hid hbW
 have HZW:=Lib.hid hzW
 have HPZ:=Lib.hid hpz
 obtain⟨i0,hi,hz0,hz1,hz2⟩:=info_parts info_lines
 have HI:=Lib.hid (And.intro hi (And.intro hz0 (And.intro hz1 hz2)))
 clear hi hz0 hz1 hz2 hbW hzW hpz
 go_enter Tryd.func55,Tryd.ntmps55
 go_wp2_with (at_make;refine wpList_make_full _ rfl _ _ 87 rfl (w.heap.size+1) 89 i0 (.slice none 0 0) 1 Tryd.underlying87 HI.out.1 HI.out.2.1 HI.out.2.2.1 .i64 .i64 _ _ n rfl rfl rfl rfl ?b2 ?b3 ?b4 ?_)
 case b2=>rw[HI.out.2.2.2];omega
 case b3=>unfold maxLen;omega
 case b4=>simp
 intro w2 hown hgr
 rw[fillL_start (fun _=>.slice none 0 0)]at hown
 rw[←HW.out]at hgr
 have hb2:Below w.heap.size w w2:=HBW.out.grown hgr HBW.out.size (fun k h=>by cases h)
 have hcb:w2.cell? ⟨w.heap.size,0,none⟩=some (.slice A0 n c0):=hgr.cell (by rw[HW.out,World.cell?_alloc_at _ _ _ _ rfl];rfl) (by simp)
 obtain⟨g,HG⟩:=named (w.heap.size+1)
 rw[←HG.out]at hown
 rw[←HG.out]
 have hst:FanI c.nodes w n g 0 0 w2:=⟨_,hb2,(FS.start hown).congr fun j _=>by rw[pinsAt_zero];rfl⟩
 have HST:=Lib.hid hst
 clear hst hown hgr hb2
 go_wp2
 go_loopw [17] (fun i wr=>∃k:Nat,k≤n∧i=.int .i64 k∧FanI c.nodes w n g k 0 wr) (fun i _=>n-(intOf i).toNat)
 case atStart=>exact⟨0,Nat.zero_le _,rfl,HST.out⟩
 case round=>
  clear HST
  obtain⟨k,hk,rfl,Vs,hb,hfs⟩:=hrel
  by_cases hlt:k<n
  ·obtain rfl:=HAA.out (by rw[←HN.out];omega)
   obtain⟨hlb,s,h0,h1,h2,h3,h4,-⟩:=HCE.out k (by rw[←HN.out];exact hlt)
   obtain⟨A4,b4,o4,c4,rfl,hA4,-,hm4,hc4⟩:=id h4
   have hlb':b<w.heap.size:=by omega
   have e0:=(hb.cell (p:=⟨b,o+k*4,none⟩) hlb').trans h0
   have e1:=(hb.cell (p:=⟨b,o+k*4+1,none⟩) hlb').trans h1
   have e2:=(hb.cell (p:=⟨b,o+k*4+2,none⟩) hlb').trans h2
   have e3:=(hb.cell (p:=⟨b,o+k*4+3,none⟩) hlb').trans h3
   have HA4:=Lib.hid hA4
   have HC4:=Lib.hid hc4
   clear h0 h1 h2 h3 h4 hA4 hc4
   generalize (c.nodes.getD k default).kind=kd at e0
   generalize (c.nodes.getD k default).mem=mm at e2
   generalize (c.nodes.getD k default).bit=bt at e3
   obtain⟨m,HM⟩:=named (c.nodes.getD k default).ins.length
   rw[←HM.out]at e1 hm4
   unfold maxLen at hm4
   have hal:Below wr.heap.size wr (wr.alloc (.cells #[.int .u8 kd,.slice A4 m c4,.int .i64 mm,.int .i64 bt] 57)):=(Below.refl _ _).alloc (Nat.le_refl _) _
   have hst:FanI c.nodes w n g k 0 (wr.alloc (.cells #[.int .u8 kd,.slice A4 m c4,.int .i64 mm,.int .i64 bt] 57)):=⟨Vs,joinB hb hal,hfs.below hal⟩
   have HST:=Lib.hid hst
   clear hst hb hfs hal
   go_wp2
   go_loopw [25] (fun i wr=>∃p:Nat,p≤m∧i=.int .i64 p∧FanI c.nodes w n g k p wr) (fun i _=>m-(intOf i).toNat)
   case atStart=>exact⟨0,Nat.zero_le _,rfl,HST.out⟩
   case round=>
    clear HST
    obtain⟨p,hp,rfl,Vs,hb,hfs⟩:=hrel
    by_cases hpm:p<m
    ·obtain rfl:=HA4.out (by rw[←HM.out];omega)
     obtain⟨hb4,hx0⟩:=HC4.out p (by rw[←HM.out];exact hpm)
     have hx:wr.cell? ⟨b4,o4+p,none⟩=some (.int .i64 ((c.nodes.getD k default).ins.getD p 0)):=by
      have:=(hb.cell (p:=⟨b4,o4+p*1,none⟩) (Nat.lt_of_lt_of_le hb4 hB)).trans hx0
      rw[Nat.mul_one]at this;exact this
     have hps:=pinsAt_succ c.nodes k p
     have hpl:=pinsAt_len c.nodes (i:=k) (p:=p) (n:=n) hlt (by rw[←HM.out];exact hpm)
     obtain⟨x,HX⟩:=named ((c.nodes.getD k default).ins.getD p 0)
     rw[←HX.out]at hx hps
     have HPS:=Lib.hid hps
     have hid:=idx_any x n wr
     clear hx0 hps
     cases hv:isIdx n x
     ·have hnx:FanI c.nodes w n g k (p+1) wr:=⟨Vs,hb,hfs.congr fun j hj=>by
       rw[HPS.out,fan_snoc,if_neg]
       intro e
       subst e
       simp[isIdx]at hv
       omega⟩
      rw[hv]at hid
      have HNX:=Lib.hid hnx
      have HID:=Lib.hid hid
      clear hnx hb hfs hid hv hpl
      go_wp2_with (go_at_call 75;(with_reducible refine HID.out.mono ?_);rintro e w1 ⟨rfl,rfl⟩)
      go_roundw
      case rel=>exact⟨p+1,by omega,by go_num,HNX.out⟩
      case measure=>simp[intOf];omega
     ·rw[hv]at hid
      obtain⟨j,rfl,hjn⟩:∃j:Nat,x=(j:Int)∧j<n:=by
       simp[isIdx]at hv
       exact⟨x.toNat,by omega,by omega⟩
      obtain⟨A6,c6,hva,hle6,hc6,hsh⟩:=hfs.shape hjn
      have hcl:=hfs.cell hjn
      rw[hva]at hcl
      have hfl:=fan_len (pinsAt c.nodes k p) j
      have hrow:=hfs.row j hjn
      rw[hva]at hrow
      have hal:Below wr.heap.size wr (wr.alloc (.cells #[.int .i64 (k:Int),.int .i64 (p:Int)] 91)):=(Below.refl _ _).alloc (Nat.le_refl _) _
      have HF0:=Lib.hid (hfs.below hal)
      have HB0:=Lib.hid (joinB hb hal)
      have HVA:=Lib.hid hva
      have HRW:=Lib.hid hrow
      have HID:=Lib.hid hid
      have HPL:=Lib.hid hpl
      obtain⟨L,HL⟩:=named (fan (pinsAt c.nodes k p) j).length
      rw[←HL.out]at hle6 hcl HRW hsh hfl
      have HFL:=Lib.hid hfl
      obtain⟨i1,hi1,hz0,hz1,hz2⟩:=info_parts info_line
      have HI1:=Lib.hid (And.intro hi1 (And.intro hz0 (And.intro hz1 hz2)))
      clear hi1 hz0 hz1 hz2 hb hfs hid hv hpl hva hrow hal hfl
      go_wp2_with (first
       |(go_at_call 75;(with_reducible refine HID.out.mono ?_);rintro e w1 ⟨rfl,rfl⟩)
       |(at_builtin;refine wpList_append_own_at _ rfl _ _ 89 rfl (g+1) 91 i1 (.agg #[.int .i64 0,.int .i64 0]) 2 16 Tryd.underlying89 HI1.out.1 HI1.out.2.1 HI1.out.2.2.1 HI1.out.2.2.2 rfl (by decide) _ _ _ rfl (World.ownsRow.alloc HRW.out _) ⟨wr.heap.size,0,none⟩ 1 1 [.int .i64 (k:Int),.int .i64 (p:Int)] rfl rfl (two_new _ _ _ _) ?c1 ?c2 ?c3 ?c4 ?_))
      case c1=>exact (ints_oneCell .i64 [(k:Int),(p:Int)])
      case c2=>unfold maxLen;have:=HFL.out;have:=HPL.out;have:=HPZ.out;omega
      case c3=>have:=HFL.out;have:=HPL.out;have:=HPZ.out;omega
      case c4=>have:=HF0.out.lt;omega
      intro v' w3 hown' hgrow hnil hat
      obtain⟨Av,cv,rfl⟩:=own_form hown'
      have hgrow':(wr.alloc (.cells #[.int .i64 (k:Int),.int .i64 (p:Int)] 91)).grownBy w3 (vat Vs j).ownBlock:=by rw[HVA.out,←HL.out];exact hgrow
      have HPU:=Lib.hid (HF0.out.push (x:=(k:Int)) (y:=(p:Int)) hjn (by rw[←HL.out];exact hown') hgrow' (by rw[HVA.out,←HL.out];simpa using hat))
      have HGW:=Lib.hid (HF0.out.grown hjn HB0.out (by rw[HG.out];omega) hgrow' (.slice Av (L+1) cv))
      obtain⟨hcl3,hfz3⟩:=HF0.out.mid hjn hgrow'
      clear hown' hgrow hnil hat hgrow'
      go_wp2
      go_roundw
      case rel=>
       refine⟨p+1,by omega,by go_num,_,HGW.out,HPU.out.congr fun i hi=>?_⟩
       rw[HPS.out,fan_snoc]
       by_cases hij:i=j
       ·rw[if_pos hij,if_pos (by rw[hij])]
       ·rw[if_neg hij,if_neg (by omega)]
      case measure=>simp[intOf];omega
    ·obtain rfl:m=p:=by omega
     have hnx:FanI c.nodes w n g (k+1) 0 wr:=⟨Vs,hb,hfs.congr fun j _=>by rw[pinsAt_zero,nodP_succ,HM.out]⟩
     have HNX:=Lib.hid hnx
     clear hnx hb hfs
     go_wp2
     go_roundw
     case rel=>exact⟨k+1,by omega,by go_num,HNX.out⟩
     case measure=>simp[intOf];omega
  ·obtain rfl:n=k:=by omega
   have hfs2:=hfs.congr (F':=fan (nodP c.nodes n)) fun j _=>by rw[pinsAt_zero]
   obtain⟨ht,hrow,hdis⟩:=hfs2
   rw[←clipTo_zero Vs n hfs.len]at ht
   have HTP:=Lib.hid ht
   have HRW:=Lib.hid hrow
   have HB0:=Lib.hid hb
   have HSH:=Lib.hid (fun j (hj:j<n)=>FS.shape (hfs.congr (F':=fan (nodP c.nodes n)) fun j _=>by rw[pinsAt_zero]) hj)
   clear ht hrow hb hfs hdis
   go_wp2
   go_loopw [50] (fun i wr=>∃k:Nat,k≤n∧i=.int .i64 k∧Below w.heap.size w wr∧(∀j,j<n→wr.ownsRow (g+1) 91 2 (vat Vs j) (fan (nodP c.nodes n) j).length (lnC (fan (nodP c.nodes n) j)))∧wr.ownsRow g 89 1 (.slice (some ⟨g,0,none⟩) n n) n (clipTo Vs n k)) (fun i _=>n-(intOf i).toNat)
   case atStart=>exact⟨0,Nat.zero_le _,rfl,HB0.out,HRW.out,HTP.out⟩
   case round=>
    clear HTP HRW HB0
    obtain⟨k,hk,rfl,hb,hrow,ht⟩:=hrel
    by_cases hlt:k<n
    ·obtain⟨A6,c6,hva,hle6,hc6,hsh⟩:=HSH.out k hlt
     have hcl:wr.cell? ⟨g,k,none⟩=some (vat Vs k):=by
      rw[ht.cellAt k (by omega),clipTo_get _ _ _ _ hlt,if_neg (by omega)]
     have hfz:wr.frozen? ⟨g,k,none⟩=false:=ht.frozenAt k
     have hss:=(ht.stored k (clipV (vat Vs k)))
     rw[clipTo_set]at hss
     have hrw2:∀j,j<n→(wr.setCell ⟨g,k,none⟩ (clipV (vat Vs k))).ownsRow (g+1) 91 2 (vat Vs j) (fan (nodP c.nodes n) j).length (lnC (fan (nodP c.nodes n) j)):=fun j hj=>by
      refine (hrow j hj).kept hss.2 ?_
      rcases ho:(vat Vs j).ownBlock with _|q
      ·exact .inl rfl
      ·refine .inr fun e=>?_
       have:=(World.ownsRow.lt (hrow j hj) q ho).1
       simp only[Option.some.injEq]at e
       omega
     have hbs:Below w.heap.size w (wr.setCell ⟨g,k,none⟩ (clipV (vat Vs k))):=hb.setCell (show w.heap.size≤g by rw[HG.out];omega) _
     rw[hva]at hcl hss hrw2 hbs
     obtain⟨L,HL⟩:=named (fan (nodP c.nodes n) k).length
     rw[←HL.out]at hle6 hcl hss hrw2 hbs hsh
     have hclip:=clipL_any A6 L c6 wr (hsh.imp id fun⟨b,h,_⟩=>⟨_,h⟩) hle6 hc6
     have HCL:=Lib.hid hclip
     have HSS:=Lib.hid hss.1
     have HRW2:=Lib.hid hrw2
     have HBS:=Lib.hid hbs
     clear hclip hss hrw2 hbs hb hrow ht hva hsh
     go_wp2_with (go_at_call 76;(with_reducible refine HCL.out.mono ?_);rintro e w1 ⟨rfl,rfl⟩)
     go_roundw
     case rel=>exact⟨k+1,by omega,by go_num,HBS.out,HRW2.out,HSS.out⟩
     case measure=>simp[intOf];omega
    ·obtain rfl:n=k:=by omega
     have hrd:=FS.reads (by unfold maxLen;omega) hrow ht
     have HRD:=Lib.hid hrd
     have HB:=Lib.hid hb
     clear hrd hb hrow ht
     go_wp2
     go_ret
     refine⟨g,rfl,by rw[HG.out];omega,?_,HB.out⟩
     have:=HRD.out
     unfold fanL
     rw[←HN.out]
     exact this
end Go.Proofs.YtjdjcaobkmpoeaaDoor
