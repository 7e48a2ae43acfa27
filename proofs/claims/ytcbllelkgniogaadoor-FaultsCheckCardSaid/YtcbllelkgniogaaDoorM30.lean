/- The texts Fop Krd Ktw Kco. -/
import Derived.Test.YtcbllelkgniogaaDoorM29
import Derived.Test.YtcbllelkgniogaaDoorM18
import Derived.Test.YtcbllelkgniogaaDoorM17
import Derived.Test.YtcbllelkgniogaaDoorM01
import Derived.RangeFuncBox
import Derived.Test.YtcbllelkgniogaaDoorM21
import Derived.LoopN
namespace Go.Proofs.YtcbllelkgniogaaDoor
open Go.RowKit
section
variable {P:Program} {md:Region.Mode} {ops:Array Oper} {i:Nat} {a:Act} {w:World} {Q:Exit→Act→World→Prop} {o:Oper} {d:Tmp} {Y:Value→World→Prop}
end
theorem NxR.next{V W:World}{bn on n:Nat}{nx:Nat→List Int}(h:NxR V V.heap.size bn on n nx)(hb:BelW V W):NxR W W.heap.size bn on n nx:=by
 obtain⟨h1,h2⟩:=h
 have hz:=Below.size hb
 refine⟨by omega,fun i hi=>?_⟩
 obtain⟨A,c,h3,h4⟩:=h2 i hi
 exact⟨A,c,(Below.cell hb (p:=⟨bn,on+i,none⟩) h1).trans h3,(h4.below hb).more hz⟩
theorem FI.not_int{w:World}{n g B j:Nat}{Vs:List Value}{F:Nat→List Int}{x:Int}(h:FI n g B Vs F w):w.cell? ⟨g,j,none⟩≠some (.int .i64 x):=fun e=>by
 have h1:=(own_frB h.top).cell j
 rw[e]at h1
 rcases Nat.lt_or_ge j n with hj|hj
 ·have h2:=h.cell hj
  rw[e]at h2
  obtain⟨A,c,h3,-⟩:=h.shape hj
  rw[h3]at h2
  cases h2
 ·rw[List.getElem?_eq_none (by rw[h.len];exact hj)]at h1
  cases h1
theorem Fr.apart5{w:World}{g g':Nat}{t t':TypeId}{cs cs':List Value}(h:Fr w g t cs)(h':Fr w g' t' cs')(ht:t≠t'):g≠g':=fun e=>by
 subst e
 unfold Fr at h h'
 rw[h]at h'
 simp at h'
 exact ht h'.2
theorem Is.box{w w':World}{q:Nat}{t:TypeId}{A:Option Addr}{m c:Nat}{v:Value}{l:List Int}(h:Is w w.heap.size v l)(hf:Fr w q t [.slice A m c])(hg:w.grownBy w' (some q)):Is w' w'.heap.size v l:=by
 obtain⟨A,b,o,c,e,hA,h1,h2,hc⟩:=h
 refine⟨A,b,o,c,e,hA,h1,h2,fun k hk=>?_⟩
 obtain⟨hb,hx⟩:=hc k hk
 have hx':w.cell? ⟨b,o+k*1,none⟩=some (.int .i64 (l.getD k 0)):=hx
 have hne:b≠q:=fun e=>by
  subst e
  rw[hf.cell]at hx'
  rcases Nat.eq_zero_or_pos (o+k*1) with e0|e0
  ·rw[e0]at hx';cases hx'
  ·rw[List.getElem?_eq_none (by show 1≤_;omega)]at hx';cases hx'
 exact⟨Nat.lt_of_lt_of_le hb hg.size,hg.cell hx' fun e=>hne (by simpa using e)⟩
theorem NxR.box{w w':World}{q g n m c:Nat}{t:TypeId}{A:Option Addr}{xs:List Value}{nx:Nat→List Int}(h:NxR w w.heap.size g 0 n nx)(hx:Fr w g 37 xs)(hf:Fr w q t [.slice A m c])(ht:t≠37)(hg:w.grownBy w' (some q)):NxR w' w'.heap.size g 0 n nx:=by
 obtain⟨h1,h2⟩:=h
 have hne:g≠q:=(hf.apart5 hx ht).symm
 refine⟨Nat.lt_of_lt_of_le h1 hg.size,fun i hi=>?_⟩
 obtain⟨A1,c1,h3,h4⟩:=h2 i hi
 exact⟨A1,c1,hg.cell h3 (by simpa using hne),h4.box hf hg⟩
theorem BRow.box{w w':World}{g q:Nat}{t:TypeId}{cs:List Value}{R:List Bool}(h:BRow w g R)(h':Fr w q t cs)(ht:4≠t)(hg:w.grownBy w' (some q)):BRow w' g R:=h.kept hg (by simpa using (own_frB h).apart5 h' ht)
def Turn(B:Nat)(W W':World)(row:Option Nat):Prop:=W.grownBy W' row∧∀r,row=some r→B≤r∧∃o:Obj,W.heap[r]? =some o∧o.isCells=false
theorem Turn.cell{B:Nat}{W W':World}{row:Option Nat}(h:Turn B W W' row){p:Addr}{v:Value}(hc:W.cell? p=some v):W'.cell? p=some v:=cell_kept hc h.1 fun r e=>(h.2 r e).2
theorem Turn.bel{B:Nat}{w0 W W':World}{row:Option Nat}(hT:Turn B W W' row)(hB:w0.heap.size≤B)(h:Below w0.heap.size w0 W):Below w0.heap.size w0 W':=h.grown hT.1 h.size fun k e=>Nat.le_trans hB (hT.2 k e).1
theorem BRow.other{w:World}{g:Nat}{l:List Bool}(h:BRow w g l){a:Addr}(ha:a.block≠g)(v:Value):BRow (w.setCell a v) g l:=by
 refine h.kept (row:=some a.block) ?_ (by simpa using fun e=>ha e.symm)
 exact⟨rfl,rfl,rfl,by rw[World.size_setCell];exact Nat.le_refl _,fun k _ hk=>by
  have:k≠a.block:=fun e=>hk (by rw[e])
  simp[World.setCell,this,Array.getElem?_modify,Ne.symm this]⟩
section
variable {w0 W W':World} {q6 q7 q8 g1 g3 gS n:Nat} {PT:List Bool} {RD:Nat→List Int} {St:List Int}
end
structure CoP(n:Nat)(NX:Int→List Int)(PP:Int→Prop)(N Pl:List Int)(b:Int)(l:List Int):Prop where
 ln:N.length=n
 lp:Pl.length=n+1
 hN:∀y,Nod n y→b<nrf Pl y→Near n NX PP (nrf N) (nrf Pl) y
 hl:∀s∈l,Nod n s∧b<nrf Pl s
 hp:nrf Pl (n:Int)=n
 hlt:∀y,Nod n y→0≤nrf Pl y∧nrf Pl y<(n:Int)
 inj:∀x y,Nod n x→Nod n y→nrf Pl x=nrf Pl y→x=y
 hnx:∀x,Nod n x→Inr n (NX x)
end Go.Proofs.YtcbllelkgniogaaDoor
