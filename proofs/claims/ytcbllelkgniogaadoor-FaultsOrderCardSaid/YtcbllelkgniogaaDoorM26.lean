/- The texts Rfl Exp Liv Lsc Nms Rlv Ror. -/
import Derived.Test.YtcbllelkgniogaaDoorM13
import Derived.Test.YtcbllelkgniogaaDoorM20
import Derived.Test.YtcbllelkgniogaaDoorM21
import Derived.Test.YtcbllelkgniogaaDoorM03
import Derived.Test.YtcbllelkgniogaaDoorM02
import Derived.Test.YtcbllelkgniogaaDoorM25
namespace Go.Proofs.YtcbllelkgniogaaDoor
open Go.RowKit
theorem Stk.all{w:World}{g:Nat}{v:Value}{l:List Int}(h:Stk w g v l)(hm:l.length≤maxLen):Is w w.heap.size v l:=by
 obtain⟨A,c,rfl,hle,-,-⟩:=h.form
 exact h.reads c hle hm
def Lst(w:World)(base:Nat)(v:Value)(l:List (Int×Int)):Prop:=w.ownsRow base 30 2 v l.length (lnC l)
theorem Lst.reads{w:World}{g:Nat}{v:Value}{l:List (Int×Int)}(h:Lst w g v l):Lns w w.heap.size v l:=by
 have hlt:=World.ownsRow.lt h
 rcases id h.2 with⟨rfl,hn⟩| ⟨q,cap,cur,rfl,hb,hg,hle,hm,-⟩
 ·exact⟨none,0,0,0,by rw[hn],fun h=>by omega,by omega,by simp[hn],fun k hk=>by omega⟩
 ·refine⟨some ⟨q,0,none⟩,q,0,cap,rfl,fun _=>rfl,hle,Nat.le_trans hle hm,fun k hk=>⟨(hlt q rfl).2,?_⟩⟩
  have hc:=lnC_get l k hk
  refine⟨?_,?_⟩
  ·rw[World.ownsRow.cellAt h _ (by omega),Nat.zero_add];exact hc.1
  ·rw[World.ownsRow.cellAt h _ (by omega),Nat.zero_add];exact hc.2
def exN(k2:Int)(i2:List Int):List Nd:=[⟨0,[],0,0⟩,⟨14,[3],0,0⟩,⟨k2,i2,0,0⟩,⟨5,[1,2],0,0⟩]
def exS(b:UInt8):List ByteArray:=[⟨#[97]⟩,⟨#[113]⟩,⟨#[b]⟩,⟨#[103]⟩]
def Ex:Ck:=⟨exN 4 [0],exS 110,[],[3]⟩
theorem is_of{w:World}{g:Nat}{l:List Int}(t:TypeId)(hg:w.heap[g]? =some (.cells (l.map (Value.int .i64)).toArray t (0,0)))(hm:l.length≤maxLen)(hB:g<w.heap.size):Is w w.heap.size (.slice (some ⟨g,0,none⟩) l.length l.length) l:=
 ⟨_,g,0,_,rfl,fun _=>rfl,Nat.le_refl _,hm,fun k hk=>⟨hB,by
  unfold IntAt
  rw[cell_of_row w g _ _ t _ hg]
  simp[hk,List.getD_eq_getElem?_getD]⟩⟩
theorem Is.on{w w':World}{v:Value}{l:List Int}(h:Is w w.heap.size v l)(hb:Below w.heap.size w w'):Is w' w'.heap.size v l:=(h.below hb).more hb.size
theorem Fos.on{w w':World}{v:Value}{l:List (List (Int×Int))}(h:Fos w w.heap.size v l)(hb:Below w.heap.size w w'):Fos w' w'.heap.size v l:=h.keep hb.size fun _ hp=>hb.cell hp
structure LW(w:World)(q:Nat)(A0 A1 A2 A3:Option Addr)(c0 c1 c2 c3:Nat)(wr:World):Prop where
 bel:Below w.heap.size w wr
 low:w.heap.size≤q
 tabs:Tabs wr
 cir:Cir wr q (.agg #[.slice A0 4 c0,.slice A1 4 c1,.slice A2 0 c2,.slice A3 1 c3]) Ex
 box:Fr wr q 39 [.slice A0 4 c0,.slice A1 4 c1,.slice A2 0 c2,.slice A3 1 c3]
section
variable {w w1 W:World} {q:Nat} {A0 A1 A2 A3:Option Addr} {c0 c1 c2 c3:Nat}
theorem LW.next(h:LW w q A0 A1 A2 A3 c0 c1 c2 c3 w1)(hb:Below w1.heap.size w1 W):LW w q A0 A1 A2 A3 c0 c1 c2 c3 W:=
 ⟨joinB h.bel hb,h.low,h.tabs.below hb,h.cir.below (hb.mono (Nat.le_of_lt h.box.lt)),h.box.below hb⟩
theorem LW.cells(h:LW w q A0 A1 A2 A3 c0 c1 c2 c3 w1):w1.cell? ⟨q,0,none⟩=some (.slice A0 4 c0)∧w1.cell? ⟨q,1,none⟩=some (.slice A1 4 c1)∧w1.cell? ⟨q,2,none⟩=some (.slice A2 0 c2)∧w1.cell? ⟨q,3,none⟩=some (.slice A3 1 c3):=
 ⟨h.box.cell 0,h.box.cell 1,h.box.cell 2,h.box.cell 3⟩
theorem LW.all(h:LW w q A0 A1 A2 A3 c0 c1 c2 c3 w1):Cir w1 w1.heap.size (.agg #[.slice A0 4 c0,.slice A1 4 c1,.slice A2 0 c2,.slice A3 1 c3]) Ex:=h.cir.more (Nat.le_of_lt h.box.lt)
end
structure LC(c:Ck)(w:World)(q:Nat)(A0 A1 A2 A3:Option Addr)(n0 n1 n2 n3 c0 c1 c2 c3:Nat)(wr:World):Prop where
 bel:Below w.heap.size w wr
 low:w.heap.size≤q
 tabs:Tabs wr
 cir:Cir wr q (.agg #[.slice A0 n0 c0,.slice A1 n1 c1,.slice A2 n2 c2,.slice A3 n3 c3]) c
 box:Fr wr q 39 [.slice A0 n0 c0,.slice A1 n1 c1,.slice A2 n2 c2,.slice A3 n3 c3]
section
variable {c:Ck} {w w1 W:World} {q:Nat} {A0 A1 A2 A3:Option Addr} {n0 n1 n2 n3 c0 c1 c2 c3:Nat}
theorem LC.next(h:LC c w q A0 A1 A2 A3 n0 n1 n2 n3 c0 c1 c2 c3 w1)(hb:Below w1.heap.size w1 W):LC c w q A0 A1 A2 A3 n0 n1 n2 n3 c0 c1 c2 c3 W:=
 ⟨joinB h.bel hb,h.low,h.tabs.below hb,h.cir.below (hb.mono (Nat.le_of_lt h.box.lt)),h.box.below hb⟩
theorem LC.cells(h:LC c w q A0 A1 A2 A3 n0 n1 n2 n3 c0 c1 c2 c3 w1):w1.cell? ⟨q,0,none⟩=some (.slice A0 n0 c0)∧w1.cell? ⟨q,1,none⟩=some (.slice A1 n1 c1)∧w1.cell? ⟨q,2,none⟩=some (.slice A2 n2 c2)∧w1.cell? ⟨q,3,none⟩=some (.slice A3 n3 c3):=
 ⟨h.box.cell 0,h.box.cell 1,h.box.cell 2,h.box.cell 3⟩
theorem LC.all(h:LC c w q A0 A1 A2 A3 n0 n1 n2 n3 c0 c1 c2 c3 w1):Cir w1 w1.heap.size (.agg #[.slice A0 n0 c0,.slice A1 n1 c1,.slice A2 n2 c2,.slice A3 n3 c3]) c:=h.cir.more (Nat.le_of_lt h.box.lt)
theorem LC.start(hT:Tabs w)(hc:Cir w w.heap.size (.agg #[.slice A0 n0 c0,.slice A1 n1 c1,.slice A2 n2 c2,.slice A3 n3 c3]) c):
 LC c w w.heap.size A0 A1 A2 A3 n0 n1 n2 n3 c0 c1 c2 c3 (w.alloc (.cells #[.slice A0 n0 c0,.slice A1 n1 c1,.slice A2 n2 c2,.slice A3 n3 c3] 39)):=
 ⟨below_new (Below.refl _ _) _,Nat.le_refl _,hT.below (below_new (Below.refl _ _) _),hc.below (below_new (Below.refl _ _) _),heap_alloc_new _ _⟩
end
def First(l:List ByteArray)(s:ByteArray)(r:Int):Prop:=
 (r= -1∧∀j:Nat,j<l.length→(s.toList==(l.getD j ByteArray.empty).toList)=false)∨∃k:Nat,k<l.length∧r=(k:Int)∧(s.toList==(l.getD k ByteArray.empty).toList)=true∧∀j:Nat,j<k→(s.toList==(l.getD j ByteArray.empty).toList)=false
def From(l:List ByteArray)(s:ByteArray)(k:Nat)(r:Int):Prop:=
 (r= -1∧∀j:Nat,k≤j→j<l.length→(s.toList==(l.getD j ByteArray.empty).toList)=false)∨∃m:Nat,k≤m∧m<l.length∧r=(m:Int)∧(s.toList==(l.getD m ByteArray.empty).toList)=true∧∀j:Nat,k≤j→j<m→(s.toList==(l.getD j ByteArray.empty).toList)=false
theorem From.first{l:List ByteArray}{s:ByteArray}{r:Int}(h:From l s 0 r):First l s r:=by
 rcases h with⟨h1,h2⟩| ⟨m,_,h1,h2,h3,h4⟩
 ·exact .inl ⟨h1,fun j hj=>h2 j (Nat.zero_le _) hj⟩
 ·exact .inr ⟨m,h1,h2,h3,fun j hj=>h4 j (Nat.zero_le _) hj⟩
theorem From.no{l:List ByteArray}{s:ByteArray}{r:Int}{k:Nat}(h:From l s (k+1) r)(hk:(s.toList==(l.getD k ByteArray.empty).toList)=false):From l s k r:=by
 rcases h with⟨h1,h2⟩| ⟨m,h0,h1,h2,h3,h4⟩
 ·refine .inl ⟨h1,fun j hj hl=>?_⟩
  by_cases e:j=k
  ·rw[e];exact hk
  ·exact h2 j (by omega) hl
 ·refine .inr ⟨m,by omega,h1,h2,h3,fun j hj hm=>?_⟩
  by_cases e:j=k
  ·rw[e];exact hk
  ·exact h4 j (by omega) hm
structure RW(w:World)(vs:List Value)(wr:World)(out:List Int):Prop where
 bel:Below w.heap.size w wr
 box:Fr wr w.heap.size 39 vs
 row:Row wr (w.heap.size+1) out
section
variable {w wr w1:World} {vs:List Value} {out:List Int}
theorem RW.next(h:RW w vs wr out)(hb:Below wr.heap.size wr w1):RW w vs w1 out:=⟨joinB h.bel hb,h.box.below hb,h.row.below hb⟩
theorem RW.set(h:RW w vs wr out)(j:Nat)(x:Int):RW w vs (wr.setCell ⟨w.heap.size+1,j,none⟩ (.int .i64 x)) (out.set j x):=
 ⟨h.bel.setCell (Nat.le_succ _) _,h.box.other (by show w.heap.size+1≠w.heap.size;omega) _,h.row.set j x⟩
theorem RW.drewN(h:RW w vs wr out)(n:Nat):RW w vs (wr.drewN n) out:=h.next (below_drewN (Below.refl _ _) n)
end
def Bd(l:List Int)(b:Nat):Prop:=∀i:Nat,lat l i≤(b:Int)
theorem Bd.zero(n:Nat):Bd (List.replicate n 0) 0:=fun i=>by
 unfold lat;rw[List.getD_eq_getElem?_getD,List.getElem?_replicate];split<;>exact Int.le_refl _
theorem Bd.le{l:List Int}{b b':Nat}(h:Bd l b)(hb:b≤b'):Bd l b':=fun i=>by have:=h i;omega
theorem getD_in{l:List Int}{k:Nat}(h:k<l.length):l.getD k 0∈l:=by
 rw[List.getD_eq_getElem?_getD,List.getElem?_eq_getElem h];exact List.getElem_mem h
structure OO(w:World)(vs:List Value)(g T:Nat)(L:List Int)(wr:World)(sv:Value)(l:List Int):Prop where
 bel:Below w.heap.size w wr
 box:Fr wr w.heap.size 39 vs
 row:Row wr g L
 stk:Stk wr T sv l
 hg:g<T
 hw:w.heap.size<T
 hT:T≤wr.heap.size
theorem OO.push{w wr w1:World}{vs:List Value}{g T:Nat}{L l:List Int}{sv v':Value}{x:Int}{o:Obj}(h:OO w vs g T L wr sv l)(hown:w1.ownsRow T 3 1 v' (l.length+1) (l.map (Value.int .i64)++[.int .i64 x]))(hgr:(wr.alloc o).grownBy w1 sv.ownBlock):OO w vs g T L w1 v' (l++[x]):=by
 have hlt:=World.ownsRow.lt h.stk
 have h1:=h.hg
 have h2:=h.hw
 have hq:∀q,sv.ownBlock=some q→T≤q:=fun q e=>(hlt q e).1
 have h3:=h.hT
 refine⟨(below_new h.bel o).grown hgr (by simp;have:=h.bel.size;omega) (fun q e=>by have:=hq q e;omega),?_,(h.row.kept (World.grownBy_alloc wr o none) (by simp)).kept hgr (fun e=>by have:=hq g e.symm;omega),?_,h1,h2,by have:=hgr.size;simp at this;omega⟩
 ·exact (h.box.alloc o).kept hgr (fun e=>by have:=hq _ e.symm;omega)
 ·unfold Stk
  rw[List.length_append,List.map_append]
  exact hown
structure OrdAt(L:List Int)(n:Nat)(R:List Int)(k y:Nat):Prop where
 at_:R.getD k 0=(y:Int)
 lt:y<n
 fresh:(y:Int) ∉ R.take k
 next:R.take (k+1)=R.take k++[(y:Int)]
 prev:∀k',k=k'+1→Lex L (R.getD k' 0) y
 deps:∀x:Nat,x<n→lat L x<lat L y→(x:Int)∈R.take (k+1)
end Go.Proofs.YtcbllelkgniogaaDoor
