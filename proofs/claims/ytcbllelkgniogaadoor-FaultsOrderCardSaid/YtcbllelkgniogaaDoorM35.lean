/- The texts Krd Ktw Kco Lq5 Fq7. -/
import Derived.Test.YtcbllelkgniogaaDoorM22
import Derived.Test.YtcbllelkgniogaaDoorM23
import Derived.Test.YtcbllelkgniogaaDoorM34
import Derived.Test.YtcbllelkgniogaaDoorM01
import Derived.RangeFuncBox
import Derived.Test.YtcbllelkgniogaaDoorM25
import Derived.LoopN
import Derived.Test.YtcbllelkgniogaaDoorM18
import Derived.Test.YtcbllelkgniogaaDoorM21
import Derived.Test.YtcbllelkgniogaaDoorM10
import Derived.Deep.AppendLies
import Derived.Deep.Upon
import Derived.Test.YtcbllelkgniogaaDoorM30
import Derived.Sort.CutIn
import Derived.Test.YtcbllelkgniogaaDoorM26
import Derived.Test.YtcbllelkgniogaaDoorM17
import Derived.Test.YtcbllelkgniogaaDoorM33
namespace Go.Proofs.YtcbllelkgniogaaDoor
open Go.RowKit
theorem FI.not_int{w:World}{n g B j:Nat}{Vs:List Value}{F:Nat→List Int}{x:Int}(h:FI n g B Vs F w):w.cell? ⟨g,j,none⟩≠some (.int .i64 x):=fun e=>by
 have h1:=(own_frB h.top).cell j
 rw[e]at h1
 rcases Nat.lt_or_ge j n with hj|hj
 ·have h2:=h.cell hj
  rw[e]at h2
  obtain⟨A,c,h3,-⟩:=h.shape hj
  rw[h3]at h2
  cases h2
 ·rw[List.getElem?_eq_none (by rw[h.len];exact hj)]at h1
  cases h1
theorem Fr.apart5{w:World}{g g':Nat}{t t':TypeId}{cs cs':List Value}(h:Fr w g t cs)(h':Fr w g' t' cs')(ht:t≠t'):g≠g':=fun e=>by
 subst e
 unfold Fr at h h'
 rw[h]at h'
 simp at h'
 exact ht h'.2
theorem Is.box{w w':World}{q:Nat}{t:TypeId}{A:Option Addr}{m c:Nat}{v:Value}{l:List Int}(h:Is w w.heap.size v l)(hf:Fr w q t [.slice A m c])(hg:w.grownBy w' (some q)):Is w' w'.heap.size v l:=by
 obtain⟨A,b,o,c,e,hA,h1,h2,hc⟩:=h
 refine⟨A,b,o,c,e,hA,h1,h2,fun k hk=>?_⟩
 obtain⟨hb,hx⟩:=hc k hk
 have hx':w.cell? ⟨b,o+k*1,none⟩=some (.int .i64 (l.getD k 0)):=hx
 have hne:b≠q:=fun e=>by
  subst e
  rw[hf.cell]at hx'
  rcases Nat.eq_zero_or_pos (o+k*1) with e0|e0
  ·rw[e0]at hx';cases hx'
  ·rw[List.getElem?_eq_none (by show 1≤_;omega)]at hx';cases hx'
 exact⟨Nat.lt_of_lt_of_le hb hg.size,hg.cell hx' fun e=>hne (by simpa using e)⟩
theorem NxR.box{w w':World}{q g n m c:Nat}{t:TypeId}{A:Option Addr}{xs:List Value}{nx:Nat→List Int}(h:NxR w w.heap.size g 0 n nx)(hx:Fr w g 37 xs)(hf:Fr w q t [.slice A m c])(ht:t≠37)(hg:w.grownBy w' (some q)):NxR w' w'.heap.size g 0 n nx:=by
 obtain⟨h1,h2⟩:=h
 have hne:g≠q:=(hf.apart5 hx ht).symm
 refine⟨Nat.lt_of_lt_of_le h1 hg.size,fun i hi=>?_⟩
 obtain⟨A1,c1,h3,h4⟩:=h2 i hi
 exact⟨A1,c1,hg.cell h3 (by simpa using hne),h4.box hf hg⟩
theorem BRow.box{w w':World}{g q:Nat}{t:TypeId}{cs:List Value}{R:List Bool}(h:BRow w g R)(h':Fr w q t cs)(ht:4≠t)(hg:w.grownBy w' (some q)):BRow w' g R:=h.kept hg (by simpa using (own_frB h).apart5 h' ht)
def Turn(B:Nat)(W W':World)(row:Option Nat):Prop:=W.grownBy W' row∧∀r,row=some r→B≤r∧∃o:Obj,W.heap[r]? =some o∧o.isCells=false
theorem Turn.cell{B:Nat}{W W':World}{row:Option Nat}(h:Turn B W W' row){p:Addr}{v:Value}(hc:W.cell? p=some v):W'.cell? p=some v:=cell_kept hc h.1 fun r e=>(h.2 r e).2
theorem Turn.bel{B:Nat}{w0 W W':World}{row:Option Nat}(hT:Turn B W W' row)(hB:w0.heap.size≤B)(h:Below w0.heap.size w0 W):Below w0.heap.size w0 W':=h.grown hT.1 h.size fun k e=>Nat.le_trans hB (hT.2 k e).1
theorem BRow.other{w:World}{g:Nat}{l:List Bool}(h:BRow w g l){a:Addr}(ha:a.block≠g)(v:Value):BRow (w.setCell a v) g l:=by
 refine h.kept (row:=some a.block) ?_ (by simpa using fun e=>ha e.symm)
 exact⟨rfl,rfl,rfl,by rw[World.size_setCell];exact Nat.le_refl _,fun k _ hk=>by
  have:k≠a.block:=fun e=>hk (by rw[e])
  simp[World.setCell,this,Array.getElem?_modify,Ne.symm this]⟩
section
variable {w0 W W':World} {q6 q7 q8 g1 g3 gS n:Nat} {PT:List Bool} {RD:Nat→List Int} {St:List Int}
end
structure CoP(n:Nat)(NX:Int→List Int)(PP:Int→Prop)(N Pl:List Int)(b:Int)(l:List Int):Prop where
 ln:N.length=n
 lp:Pl.length=n+1
 hN:∀y,Nod n y→b<nrf Pl y→Near n NX PP (nrf N) (nrf Pl) y
 hl:∀s∈l,Nod n s∧b<nrf Pl s
 hp:nrf Pl (n:Int)=n
 hlt:∀y,Nod n y→0≤nrf Pl y∧nrf Pl y<(n:Int)
 inj:∀x y,Nod n x→Nod n y→nrf Pl x=nrf Pl y→x=y
 hnx:∀x,Nod n x→Inr n (NX x)
section
variable {c:Ck} {L:List Int} {A0 A1 A2 A3:Option Addr} {n n1 n2 n3 c0 c1 c2 c3:Nat}
end
section
variable {P:Program} {ops:Array Oper} {Q:Exit→Act→World→Prop} {i:Nat} {o:Oper} {d:Tmp} {Y:Value→World→Prop} {a:Act} {w:World}
theorem fop_assign{x:Tmp}{u:Value}(ho:ops[i]? =some o)(hgd:o.guard=none)(hd:o.dst=some d)(hop:o.op=.assign (.tmp x))(hu:a.eval (.tmp x)=u)(hy:Y u w):wpOp P ops Q i (fun a' w'=>∃v,a'=a.put (some d) v∧Below w.heap.size w w'∧Y v w') a w:=by
 refine wpOp_step ho fun K' hK=>?_
 have hw:Region.wanted o (yielded ops a.tmps)=true:=by simp[Region.wanted,hgd]
 rw[if_pos hw]
 have hk:=hK (a.put (some d) u) w ⟨u,rfl,Below.refl _ _,hy⟩
 unfold Oper.wp execOp
 have hx:a.tmps[x]?.getD undef=u:=by rw[←hu];simp[Act.eval]
 simp only[hop]
 simp[go_sem,hd,hx]
 exact hk
end
theorem orI_drop(l:List Int):∀k,(∀j,j<k→l.getD j 0=0)→k≤l.length→orI l=orI (l.drop k)
 |0,_,_=>rfl
 |k+1,h,hk=>by
  have ih:=orI_drop l k (fun j hj=>h j (by omega)) (by omega)
  have h1:=h k (by omega)
  rw[ih,List.drop_eq_getElem_cons (by omega)]
  rw[List.getD_eq_getElem?_getD,List.getElem?_eq_getElem (by omega),Option.getD_some]at h1
  rw[show ∀(x:Int) (t:List Int),orI (x::t)=if x=0 then orI t else x from fun _ _=>rfl,if_pos h1]
theorem orI_at(l:List Int){k:Nat}(h:∀j,j<k→l.getD j 0=0)(hk:k<l.length)(hne:l.getD k 0≠0):orI l=l.getD k 0:=by
 rw[orI_drop l k h (by omega),List.drop_eq_getElem_cons hk]
 have e:l.getD k 0=l[k]:=by rw[List.getD_eq_getElem?_getD,List.getElem?_eq_getElem hk];rfl
 rw[e]at hne ⊢
 rw[show ∀(x:Int) (t:List Int),orI (x::t)=if x=0 then orI t else x from fun _ _=>rfl,if_neg hne]
theorem orI_none(l:List Int)(h:∀j,j<l.length→l.getD j 0=0):orI l=0:=by
 rw[orI_drop l l.length h (Nat.le_refl _),List.drop_length];rfl
set_option maxHeartbeats 2000000 in
theorem or_any(l:List Int)(A:Option Addr)(n c:Nat)(w:World)(B:Nat)(hs:Is w B (.slice A n c) l):
 Calls Tryd.prog 27 #[.slice A n c] w fun e w'=>e=.returned (.int .i64 (orI l))∧w'=w:=by
 obtain⟨A',b,o,cc,e,hA,-,hm,hc⟩:=hs.opens
 simp only[Value.slice.injEq]at e
 obtain⟨rfl,rfl,rfl⟩:=e
 obtain⟨r,HR⟩:=named (orI l)
 rw[←HR.out]
 have HAT:Hid (∀k,k<l.length→(∀j,j<k→l.getD j 0=0)→l.getD k 0≠0→r=l.getD k 0):=Lib.hid fun k hk h hne=>by rw[HR.out];exact orI_at l h hk hne
 have HNO:Hid ((∀j,j<l.length→l.getD j 0=0)→r=0):=Lib.hid fun h=>by rw[HR.out];exact orI_none l h
 have HA:=Lib.hid hA
 have HC:=Lib.hid hc
 unfold maxLen at hm
 clear hA hc HR
 obtain⟨n,HN⟩:=named l.length
 rw[←HN.out]at HA HC HAT HNO hm
 rw[←HN.out]
 go_enter Tryd.func27,Tryd.ntmps27
 go_wp2
 go_loopw [8] (fun i wr=>∃k:Nat,k≤n∧i=.int .i64 k∧Hid (∀j,j<k→l.getD j 0=0)∧wr=w) (fun i _=>n-(intOf i).toNat)
 case atStart=>exact⟨0,Nat.zero_le _,rfl,Lib.hid fun j hj=>absurd hj (Nat.not_lt_zero j),rfl⟩
 case round=>
  obtain⟨k,hk,rfl,HZ,rfl⟩:=hrel
  by_cases hlt:k<n
  ·have hk2:(k:Int)<(n:Int):=by omega
   obtain rfl:=HA.out (by omega)
   have hx:=(HC.out k hlt).2
   have HRA:=Lib.hid (HAT.out k hlt HZ.out)
   have HZN:Hid (l.getD k 0=0→∀j,j<k+1→l.getD j 0=0):=Lib.hid fun h j hj=>by
    by_cases e:j=k
    ·rw[e];exact h
    ·exact HZ.out j (by omega)
   obtain⟨x,HX⟩:=named (l.getD k 0)
   rw[←HX.out]at hx HRA HZN
   by_cases h0:x=0
   ·have t0:(x != 0)=false:=by simpa using h0
    have HZ2:=Lib.hid (HZN.out h0)
    clear h0
    go_wp2
    go_roundw
    case rel=>exact⟨k+1,by omega,by go_num,HZ2,by trivial⟩
    case measure=>simp[intOf];omega
   ·have t0:(x != 0)=true:=by simpa using h0
    have HR2:=Lib.hid (HRA.out h0)
    clear h0
    go_wp2
    go_ret
    exact⟨by(rw[HR2.out];rfl),rfl⟩
  ·obtain rfl:n=k:=by omega
   have HR2:=Lib.hid (HNO.out HZ.out)
   go_wp2
   go_ret
   exact⟨by(rw[HR2.out];rfl),rfl⟩
section
variable {P:Program} {ops:Array Oper} {Q:Exit→Act→World→Prop} {i:Nat} {o:Oper} {d:Tmp} {Y:Value→World→Prop} {a:Act} {w:World}
theorem fop_F0{x:Tmp}{q:Nat}(hP:P= Tryd.prog)(ho:ops[i]? =some o)(hgd:o.guard=none)(hd:o.dst=some d)(hop:o.op=.fieldAddr 33 (.tmp x) 0)(hu:a.eval (.tmp x)=.pointer (some ⟨q,0,none⟩))(hy:Y (.pointer (some ⟨q,0,none⟩)) w):wpOp P ops Q i (fun a' w'=>∃v,a'=a.put (some d) v∧Below w.heap.size w w'∧Y v w') a w:=by
 refine wpOp_step ho fun K' hK=>?_
 have hw:Region.wanted o (yielded ops a.tmps)=true:=by simp[Region.wanted,hgd]
 rw[if_pos hw]
 subst hP
 have hk2:=hK (a.put (some d) (.pointer (some ⟨q,0,none⟩))) (w) ⟨_,rfl,Below.refl _ _,hy⟩
 unfold Oper.wp execOp
 have hx0:a.tmps[x]?.getD undef=.pointer (some ⟨q,0,none⟩):=by rw[←hu];simp[Act.eval]
 simp only[hop]
 simp[go_sem,hd,hx0]
 exact hk2
theorem fop_F1{x:Tmp}{q:Nat}(hP:P= Tryd.prog)(ho:ops[i]? =some o)(hgd:o.guard=none)(hd:o.dst=some d)(hop:o.op=.fieldAddr 33 (.tmp x) 1)(hu:a.eval (.tmp x)=.pointer (some ⟨q,0,none⟩))(hy:Y (.pointer (some ⟨q,1,none⟩)) w):wpOp P ops Q i (fun a' w'=>∃v,a'=a.put (some d) v∧Below w.heap.size w w'∧Y v w') a w:=by
 refine wpOp_step ho fun K' hK=>?_
 have hw:Region.wanted o (yielded ops a.tmps)=true:=by simp[Region.wanted,hgd]
 rw[if_pos hw]
 subst hP
 have hk2:=hK (a.put (some d) (.pointer (some ⟨q,1,none⟩))) (w) ⟨_,rfl,Below.refl _ _,hy⟩
 unfold Oper.wp execOp
 have hx0:a.tmps[x]?.getD undef=.pointer (some ⟨q,0,none⟩):=by rw[←hu];simp[Act.eval]
 simp only[hop]
 simp[go_sem,hd,hx0]
 exact hk2
theorem fop_F2{x:Tmp}{q:Nat}(hP:P= Tryd.prog)(ho:ops[i]? =some o)(hgd:o.guard=none)(hd:o.dst=some d)(hop:o.op=.fieldAddr 33 (.tmp x) 2)(hu:a.eval (.tmp x)=.pointer (some ⟨q,0,none⟩))(hy:Y (.pointer (some ⟨q,3,none⟩)) w):wpOp P ops Q i (fun a' w'=>∃v,a'=a.put (some d) v∧Below w.heap.size w w'∧Y v w') a w:=by
 refine wpOp_step ho fun K' hK=>?_
 have hw:Region.wanted o (yielded ops a.tmps)=true:=by simp[Region.wanted,hgd]
 rw[if_pos hw]
 subst hP
 have hk2:=hK (a.put (some d) (.pointer (some ⟨q,3,none⟩))) (w) ⟨_,rfl,Below.refl _ _,hy⟩
 unfold Oper.wp execOp
 have hx0:a.tmps[x]?.getD undef=.pointer (some ⟨q,0,none⟩):=by rw[←hu];simp[Act.eval]
 simp only[hop]
 simp[go_sem,hd,hx0]
 exact hk2
theorem fop_F3{x:Tmp}{q:Nat}(hP:P= Tryd.prog)(ho:ops[i]? =some o)(hgd:o.guard=none)(hd:o.dst=some d)(hop:o.op=.fieldAddr 33 (.tmp x) 3)(hu:a.eval (.tmp x)=.pointer (some ⟨q,0,none⟩))(hy:Y (.pointer (some ⟨q,4,none⟩)) w):wpOp P ops Q i (fun a' w'=>∃v,a'=a.put (some d) v∧Below w.heap.size w w'∧Y v w') a w:=by
 refine wpOp_step ho fun K' hK=>?_
 have hw:Region.wanted o (yielded ops a.tmps)=true:=by simp[Region.wanted,hgd]
 rw[if_pos hw]
 subst hP
 have hk2:=hK (a.put (some d) (.pointer (some ⟨q,4,none⟩))) (w) ⟨_,rfl,Below.refl _ _,hy⟩
 unfold Oper.wp execOp
 have hx0:a.tmps[x]?.getD undef=.pointer (some ⟨q,0,none⟩):=by rw[←hu];simp[Act.eval]
 simp only[hop]
 simp[go_sem,hd,hx0]
 exact hk2
theorem fop_L0{x:Tmp}{q:Nat}(hP:P= Tryd.prog)(ho:ops[i]? =some o)(hgd:o.guard=none)(hd:o.dst=some d)(hop:o.op=.fieldAddr 30 (.tmp x) 0)(hu:a.eval (.tmp x)=.pointer (some ⟨q,1,none⟩))(hy:Y (.pointer (some ⟨q,1,none⟩)) w):wpOp P ops Q i (fun a' w'=>∃v,a'=a.put (some d) v∧Below w.heap.size w w'∧Y v w') a w:=by
 refine wpOp_step ho fun K' hK=>?_
 have hw:Region.wanted o (yielded ops a.tmps)=true:=by simp[Region.wanted,hgd]
 rw[if_pos hw]
 subst hP
 have hk2:=hK (a.put (some d) (.pointer (some ⟨q,1,none⟩))) (w) ⟨_,rfl,Below.refl _ _,hy⟩
 unfold Oper.wp execOp
 have hx0:a.tmps[x]?.getD undef=.pointer (some ⟨q,1,none⟩):=by rw[←hu];simp[Act.eval]
 simp only[hop]
 simp[go_sem,hd,hx0]
 exact hk2
theorem fop_L1{x:Tmp}{q:Nat}(hP:P= Tryd.prog)(ho:ops[i]? =some o)(hgd:o.guard=none)(hd:o.dst=some d)(hop:o.op=.fieldAddr 30 (.tmp x) 1)(hu:a.eval (.tmp x)=.pointer (some ⟨q,1,none⟩))(hy:Y (.pointer (some ⟨q,2,none⟩)) w):wpOp P ops Q i (fun a' w'=>∃v,a'=a.put (some d) v∧Below w.heap.size w w'∧Y v w') a w:=by
 refine wpOp_step ho fun K' hK=>?_
 have hw:Region.wanted o (yielded ops a.tmps)=true:=by simp[Region.wanted,hgd]
 rw[if_pos hw]
 subst hP
 have hk2:=hK (a.put (some d) (.pointer (some ⟨q,2,none⟩))) (w) ⟨_,rfl,Below.refl _ _,hy⟩
 unfold Oper.wp execOp
 have hx0:a.tmps[x]?.getD undef=.pointer (some ⟨q,1,none⟩):=by rw[←hu];simp[Act.eval]
 simp only[hop]
 simp[go_sem,hd,hx0]
 exact hk2
theorem fop_ldM{x:Tmp}{q j:Nat}{z:Int}(hP:P= Tryd.prog)(ho:ops[i]? =some o)(hgd:o.guard=none)(hd:o.dst=some d)(hop:o.op=.load 28 (.tmp x))(hu:a.eval (.tmp x)=.pointer (some ⟨q,j,none⟩))(h0:w.cell? ⟨q,j,none⟩=some (.int .u8 z))(hy:Y (.int .u8 z) w):wpOp P ops Q i (fun a' w'=>∃v,a'=a.put (some d) v∧Below w.heap.size w w'∧Y v w') a w:=by
 refine wpOp_step ho fun K' hK=>?_
 have hw:Region.wanted o (yielded ops a.tmps)=true:=by simp[Region.wanted,hgd]
 rw[if_pos hw]
 subst hP
 have hk2:=hK (a.put (some d) (.int .u8 z)) (w) ⟨_,rfl,Below.refl _ _,hy⟩
 unfold Oper.wp execOp
 have hx0:a.tmps[x]?.getD undef=.pointer (some ⟨q,j,none⟩):=by rw[←hu];simp[Act.eval]
 simp only[hop]
 simp[go_sem,hd,hx0,h0]
 exact hk2
theorem fop_ldN{x:Tmp}{q j:Nat}{z:Int}(hP:P= Tryd.prog)(ho:ops[i]? =some o)(hgd:o.guard=none)(hd:o.dst=some d)(hop:o.op=.load 3 (.tmp x))(hu:a.eval (.tmp x)=.pointer (some ⟨q,j,none⟩))(h0:w.cell? ⟨q,j,none⟩=some (.int .i64 z))(hy:Y (.int .i64 z) w):wpOp P ops Q i (fun a' w'=>∃v,a'=a.put (some d) v∧Below w.heap.size w w'∧Y v w') a w:=by
 refine wpOp_step ho fun K' hK=>?_
 have hw:Region.wanted o (yielded ops a.tmps)=true:=by simp[Region.wanted,hgd]
 rw[if_pos hw]
 subst hP
 have hk2:=hK (a.put (some d) (.int .i64 z)) (w) ⟨_,rfl,Below.refl _ _,hy⟩
 unfold Oper.wp execOp
 have hx0:a.tmps[x]?.getD undef=.pointer (some ⟨q,j,none⟩):=by rw[←hu];simp[Act.eval]
 simp only[hop]
 simp[go_sem,hd,hx0,h0]
 exact hk2
theorem fop_ldV{x:Tmp}{q j:Nat}{z:Int}(hP:P= Tryd.prog)(ho:ops[i]? =some o)(hgd:o.guard=none)(hd:o.dst=some d)(hop:o.op=.load 31 (.tmp x))(hu:a.eval (.tmp x)=.pointer (some ⟨q,j,none⟩))(h0:w.cell? ⟨q,j,none⟩=some (.int .u8 z))(hy:Y (.int .u8 z) w):wpOp P ops Q i (fun a' w'=>∃v,a'=a.put (some d) v∧Below w.heap.size w w'∧Y v w') a w:=by
 refine wpOp_step ho fun K' hK=>?_
 have hw:Region.wanted o (yielded ops a.tmps)=true:=by simp[Region.wanted,hgd]
 rw[if_pos hw]
 subst hP
 have hk2:=hK (a.put (some d) (.int .u8 z)) (w) ⟨_,rfl,Below.refl _ _,hy⟩
 unfold Oper.wp execOp
 have hx0:a.tmps[x]?.getD undef=.pointer (some ⟨q,j,none⟩):=by rw[←hu];simp[Act.eval]
 simp only[hop]
 simp[go_sem,hd,hx0,h0]
 exact hk2
theorem fop_bs5{x0 x1 x2 x3 x4:Tmp}{z0 z1 z2 z3 z4:Int}(hP:P= Tryd.prog)(ho:ops[i]? =some o)(hgd:o.guard=none)(hd:o.dst=some d)(hop:o.op=.buildSlice 37 5 #[(0,.tmp x0),(1,.tmp x1),(2,.tmp x2),(3,.tmp x3),(4,.tmp x4)])(h0:a.eval (.tmp x0)=.int .i64 z0)(h1:a.eval (.tmp x1)=.int .i64 z1)(h2:a.eval (.tmp x2)=.int .i64 z2)(h3:a.eval (.tmp x3)=.int .i64 z3)(h4:a.eval (.tmp x4)=.int .i64 z4)(hy:∀w',Fr w' w.heap.size 3 [.int .i64 z0,.int .i64 z1,.int .i64 z2,.int .i64 z3,.int .i64 z4]→Y (.slice (some ⟨w.heap.size,0,none⟩) 5 5) w'):wpOp P ops Q i (fun a' w'=>∃v,a'=a.put (some d) v∧Below w.heap.size w w'∧Y v w') a w:=by
 refine wpOp_step ho fun K' hK=>?_
 have hw:Region.wanted o (yielded ops a.tmps)=true:=by simp[Region.wanted,hgd]
 rw[if_pos hw]
 subst hP
 have hk2:=hK (a.put (some d) (.slice (some ⟨w.heap.size,0,none⟩) 5 5)) (w.alloc (.cells #[.int .i64 z0,.int .i64 z1,.int .i64 z2,.int .i64 z3,.int .i64 z4] 3)) ⟨_,rfl,below_new (Below.refl _ _) _,hy _ (Fr.made _ _ _ rfl)⟩
 unfold Oper.wp execOp
 have hx0:a.tmps[x0]?.getD undef=.int .i64 z0:=by rw[←h0];simp[Act.eval]
 have hx1:a.tmps[x1]?.getD undef=.int .i64 z1:=by rw[←h1];simp[Act.eval]
 have hx2:a.tmps[x2]?.getD undef=.int .i64 z2:=by rw[←h2];simp[Act.eval]
 have hx3:a.tmps[x3]?.getD undef=.int .i64 z3:=by rw[←h3];simp[Act.eval]
 have hx4:a.tmps[x4]?.getD undef=.int .i64 z4:=by rw[←h4];simp[Act.eval]
 simp only[hop]
 simp[go_sem,hd,hx0,hx1,hx2,hx3,hx4]
 exact hk2
end
def YC(vals:List Value)(zs:List Value)(i:Nat)(v:Value)(W:World):Prop:=(i=29→∃g,v=.slice (some ⟨g,0,none⟩) 5 5∧Fr W g 3 zs)∧(i≠29→v=vals.getD i undef)
theorem YC.next{vals zs:List Value}(i:Nat)(v:Value)(W W':World)(h:YC vals zs i v W)(hb:Below W.heap.size W W'):YC vals zs i v W':=⟨fun e=>by
 obtain⟨g,h1,h2⟩:=h.1 e
 exact⟨g,h1,h2.below hb⟩,h.2⟩
theorem YC.v{vals zs:List Value}{i:Nat}{v:Value}{W:World}(h0:i≠29)(h:v=vals.getD i undef):YC vals zs i v W:=⟨fun e=>absurd e h0,fun _=>h⟩
set_option maxRecDepth 100000 in
set_option maxHeartbeats 8000000 in
theorem fcompare_any(a b:Ft)(w:World):
 Calls Tryd.prog 13 #[.agg #[.int .u8 a.md,.int .i64 a.nd,.int .i64 a.pn,.int .u8 a.vl,.int .i64 a.ot],.agg #[.int .u8 b.md,.int .i64 b.nd,.int .i64 b.pn,.int .u8 b.vl,.int .i64 b.ot]] w fun e w'=>e=.returned (.int .i64 (cmF a b))∧BelW w w':=by
 obtain⟨a0,a1,a2,a3,a4⟩:=a
 obtain⟨b0,b1,b2,b3,b4⟩:=b
 obtain⟨W1,HW1⟩:=named ((w.alloc (.cells #[.int .u8 a0,.int .i64 a1,.int .i64 a2,.int .u8 a3,.int .i64 a4] 33)).alloc (.cells #[.int .u8 b0,.int .i64 b1,.int .i64 b2,.int .u8 b3,.int .i64 b4] 33))
 have hb1:BelW w W1:=by rw[HW1.out];exact joinB (below_new (Below.refl _ _) _) (below_new (Below.refl _ _) _)
 have hfa:Fr W1 w.heap.size 33 [.int .u8 a0,.int .i64 a1,.int .i64 a2,.int .u8 a3,.int .i64 a4]:=by rw[HW1.out];exact (Fr.made _ _ _ rfl).alloc _
 have hfb:Fr W1 (w.heap.size+1) 33 [.int .u8 b0,.int .i64 b1,.int .i64 b2,.int .u8 b3,.int .i64 b4]:=by rw[HW1.out];exact Fr.made _ _ _ (by simp)
 have x0:W1.cell? ⟨w.heap.size,0,none⟩=some (.int .u8 a0):=hfa.cell 0
 have x1:W1.cell? ⟨w.heap.size,1,none⟩=some (.int .i64 a1):=hfa.cell 1
 have x2:W1.cell? ⟨w.heap.size,2,none⟩=some (.int .i64 a2):=hfa.cell 2
 have x3:W1.cell? ⟨w.heap.size,3,none⟩=some (.int .u8 a3):=hfa.cell 3
 have x4:W1.cell? ⟨w.heap.size,4,none⟩=some (.int .i64 a4):=hfa.cell 4
 have y0:W1.cell? ⟨w.heap.size+1,0,none⟩=some (.int .u8 b0):=hfb.cell 0
 have y1:W1.cell? ⟨w.heap.size+1,1,none⟩=some (.int .i64 b1):=hfb.cell 1
 have y2:W1.cell? ⟨w.heap.size+1,2,none⟩=some (.int .i64 b2):=hfb.cell 2
 have y3:W1.cell? ⟨w.heap.size+1,3,none⟩=some (.int .u8 b3):=hfb.cell 3
 have y4:W1.cell? ⟨w.heap.size+1,4,none⟩=some (.int .i64 b4):=hfb.cell 4
 have HB1:=Lib.hid hb1
 clear hb1
 show Calls _ _ _ _ fun e w'=>e=.returned (.int .i64 (orI [cmI a0 b0,cmI a1 b1,cmI a2 b2,cmI a4 b4,cmI a3 b3]))∧BelW w w'
 obtain⟨r,HR⟩:=named (orI [cmI a0 b0,cmI a1 b1,cmI a2 b2,cmI a4 b4,cmI a3 b3])
 rw[←HR.out]
 go_enter Tryd.func13,Tryd.ntmps13
 go_upto_region 1 with (fail)
 rw[←HW1.out]
 have HCA:Hid (∀W,BelW W1 W→(W.cell? ⟨w.heap.size,0,none⟩=some (.int .u8 a0)∧W.cell? ⟨w.heap.size,1,none⟩=some (.int .i64 a1)∧W.cell? ⟨w.heap.size,2,none⟩=some (.int .i64 a2)∧W.cell? ⟨w.heap.size,3,none⟩=some (.int .u8 a3)∧W.cell? ⟨w.heap.size,4,none⟩=some (.int .i64 a4))∧W.cell? ⟨w.heap.size+1,0,none⟩=some (.int .u8 b0)∧W.cell? ⟨w.heap.size+1,1,none⟩=some (.int .i64 b1)∧W.cell? ⟨w.heap.size+1,2,none⟩=some (.int .i64 b2)∧W.cell? ⟨w.heap.size+1,3,none⟩=some (.int .u8 b3)∧W.cell? ⟨w.heap.size+1,4,none⟩=some (.int .i64 b4)):=Lib.hid fun W h=>⟨⟨(hfa.below h).cell 0,(hfa.below h).cell 1,(hfa.below h).cell 2,(hfa.below h).cell 3,(hfa.below h).cell 4⟩,(hfb.below h).cell 0,(hfb.below h).cell 1,(hfb.below h).cell 2,(hfb.below h).cell 3,(hfb.below h).cell 4⟩
 have HOR:Hid (∀W g,Fr W g 3 [.int .i64 (cmI a0 b0),.int .i64 (cmI a1 b1),.int .i64 (cmI a2 b2),.int .i64 (cmI a4 b4),.int .i64 (cmI a3 b3)]→Calls Tryd.prog 27 #[.slice (some ⟨g,0,none⟩) 5 5] W fun e w'=>e=.returned (.int .i64 r)∧w'=W):=Lib.hid fun W g h=>by
  rw[HR.out]
  exact or_any _ _ 5 5 W W.heap.size ((Fr.row (l:=[cmI a0 b0,cmI a1 b1,cmI a2 b2,cmI a4 b4,cmI a3 b3]) h (by show 5≤maxLen;unfold maxLen;decide)).is (by show 5≤maxLen;unfold maxLen;decide))
 clear HR hfa hfb x0 x1 x2 x3 x4 y0 y1 y2 y3 y4
 have HBD:Hid (BelW W1 W1.drew):=Lib.hid (Below.drew (Below.refl _ _))
 refine AnyX.start (S:=fun _=>True) (t:=31) (by kernel_rfl) ?_
 refine AnyX.factsGo [5,6,7,8,9,10,11,12,13,14,15,16,17,18,19,20,21,22,23,24,25,26,27,28,29,30,31,32,33,34,35,4] (YC [.pointer (some ⟨w.heap.size,0,none⟩),.int .u8 a0,.pointer (some ⟨(w.heap.size+1),0,none⟩),.int .u8 b0,.int .i64 (cmI a0 b0),.pointer (some ⟨w.heap.size,1,none⟩),.pointer (some ⟨w.heap.size,1,none⟩),.int .i64 a1,.pointer (some ⟨(w.heap.size+1),1,none⟩),.pointer (some ⟨(w.heap.size+1),1,none⟩),.int .i64 b1,.int .i64 (cmI a1 b1),.pointer (some ⟨w.heap.size,1,none⟩),.pointer (some ⟨w.heap.size,2,none⟩),.int .i64 a2,.pointer (some ⟨(w.heap.size+1),1,none⟩),.pointer (some ⟨(w.heap.size+1),2,none⟩),.int .i64 b2,.int .i64 (cmI a2 b2),.pointer (some ⟨w.heap.size,4,none⟩),.int .i64 a4,.pointer (some ⟨(w.heap.size+1),4,none⟩),.int .i64 b4,.int .i64 (cmI a4 b4),.pointer (some ⟨w.heap.size,3,none⟩),.int .u8 a3,.pointer (some ⟨(w.heap.size+1),3,none⟩),.int .u8 b3,.int .i64 (cmI a3 b3),undef,.int .i64 r,.int .i64 r] [.int .i64 (cmI a0 b0),.int .i64 (cmI a1 b1),.int .i64 (cmI a2 b2),.int .i64 (cmI a4 b4),.int .i64 (cmI a3 b3)]) _ _ (by decide) ?hts (by decide) YC.next (by kernel_rfl) (by kernel_rfl) ?hst ?hdo
 case hts => intro t ht; simp only [List.mem_cons, List.not_mem_nil, or_false] at ht; rcases ht with rfl | rfl | rfl | rfl | rfl | rfl | rfl | rfl | rfl | rfl | rfl | rfl | rfl | rfl | rfl | rfl | rfl | rfl | rfl | rfl | rfl | rfl | rfl | rfl | rfl | rfl | rfl | rfl | rfl | rfl | rfl | rfl <;> (show _ < Array.size _; simp)
 case hst=>
  intro i t a w' hD hF hB hdep
  have hBW:BelW W1 w':=joinB HBD.out hB
  have hi6:i<32:=(List.getElem?_eq_some_iff.1 hD).1
  obtain⟨⟨p0,p1,p2,p3,p4⟩,q0,q1,q2,q3,q4⟩:=HCA.out w' hBW
  rcases (by omega:i=0∨i=1∨i=2∨i=3∨i=4∨i=5∨i=6∨i=7∨i=8∨i=9∨i=10∨i=11∨i=12∨i=13∨i=14∨i=15∨i=16∨i=17∨i=18∨i=19∨i=20∨i=21∨i=22∨i=23∨i=24∨i=25∨i=26∨i=27∨i=28∨i=29∨i=30∨i=31) with rfl|rfl|rfl|rfl|rfl|rfl|rfl|rfl|rfl|rfl|rfl|rfl|rfl|rfl|rfl|rfl|rfl|rfl|rfl|rfl|rfl|rfl|rfl|rfl|rfl|rfl|rfl|rfl|rfl|rfl|rfl|rfl<;>obtain rfl:=Option.some.inj hD
  ·exact fop_F0 rfl rfl rfl rfl rfl (by rw[hF.eval (by decide)];rfl) (.v (by decide) rfl)
  ·exact fop_ldM rfl rfl rfl rfl rfl ((hdep _ 0 5 rfl rfl (by kernel_rfl)).2 (by decide)) p0 (.v (by decide) rfl)
  ·exact fop_F0 rfl rfl rfl rfl rfl (by rw[hF.eval (by decide)];rfl) (.v (by decide) rfl)
  ·exact fop_ldM rfl rfl rfl rfl rfl ((hdep _ 2 7 rfl rfl (by kernel_rfl)).2 (by decide)) q0 (.v (by decide) rfl)
  ·exact fop_call2 rfl rfl rfl rfl (fun _ _=>rfl) ((hdep _ 1 6 rfl rfl (by kernel_rfl)).2 (by decide)) ((hdep _ 3 8 rfl rfl (by kernel_rfl)).2 (by decide)) ((cmp_md _ _ w').mono fun e w2 ⟨h1,h2⟩=>⟨_,h1,by subst h2;exact Below.refl _ _,(.v (by decide) rfl)⟩)
  ·exact fop_F1 rfl rfl rfl rfl rfl (by rw[hF.eval (by decide)];rfl) (.v (by decide) rfl)
  ·exact fop_L0 rfl rfl rfl rfl rfl ((hdep _ 5 10 rfl rfl (by kernel_rfl)).2 (by decide)) (.v (by decide) rfl)
  ·exact fop_ldN rfl rfl rfl rfl rfl ((hdep _ 6 11 rfl rfl (by kernel_rfl)).2 (by decide)) p1 (.v (by decide) rfl)
  ·exact fop_F1 rfl rfl rfl rfl rfl (by rw[hF.eval (by decide)];rfl) (.v (by decide) rfl)
  ·exact fop_L0 rfl rfl rfl rfl rfl ((hdep _ 8 13 rfl rfl (by kernel_rfl)).2 (by decide)) (.v (by decide) rfl)
  ·exact fop_ldN rfl rfl rfl rfl rfl ((hdep _ 9 14 rfl rfl (by kernel_rfl)).2 (by decide)) q1 (.v (by decide) rfl)
  ·exact fop_call2 rfl rfl rfl rfl (fun _ _=>rfl) ((hdep _ 7 12 rfl rfl (by kernel_rfl)).2 (by decide)) ((hdep _ 10 15 rfl rfl (by kernel_rfl)).2 (by decide)) ((cmp_in _ _ w').mono fun e w2 ⟨h1,h2⟩=>⟨_,h1,by subst h2;exact Below.refl _ _,(.v (by decide) rfl)⟩)
  ·exact fop_F1 rfl rfl rfl rfl rfl (by rw[hF.eval (by decide)];rfl) (.v (by decide) rfl)
  ·exact fop_L1 rfl rfl rfl rfl rfl ((hdep _ 12 17 rfl rfl (by kernel_rfl)).2 (by decide)) (.v (by decide) rfl)
  ·exact fop_ldN rfl rfl rfl rfl rfl ((hdep _ 13 18 rfl rfl (by kernel_rfl)).2 (by decide)) p2 (.v (by decide) rfl)
  ·exact fop_F1 rfl rfl rfl rfl rfl (by rw[hF.eval (by decide)];rfl) (.v (by decide) rfl)
  ·exact fop_L1 rfl rfl rfl rfl rfl ((hdep _ 15 20 rfl rfl (by kernel_rfl)).2 (by decide)) (.v (by decide) rfl)
  ·exact fop_ldN rfl rfl rfl rfl rfl ((hdep _ 16 21 rfl rfl (by kernel_rfl)).2 (by decide)) q2 (.v (by decide) rfl)
  ·exact fop_call2 rfl rfl rfl rfl (fun _ _=>rfl) ((hdep _ 14 19 rfl rfl (by kernel_rfl)).2 (by decide)) ((hdep _ 17 22 rfl rfl (by kernel_rfl)).2 (by decide)) ((cmp_in _ _ w').mono fun e w2 ⟨h1,h2⟩=>⟨_,h1,by subst h2;exact Below.refl _ _,(.v (by decide) rfl)⟩)
  ·exact fop_F3 rfl rfl rfl rfl rfl (by rw[hF.eval (by decide)];rfl) (.v (by decide) rfl)
  ·exact fop_ldN rfl rfl rfl rfl rfl ((hdep _ 19 24 rfl rfl (by kernel_rfl)).2 (by decide)) p4 (.v (by decide) rfl)
  ·exact fop_F3 rfl rfl rfl rfl rfl (by rw[hF.eval (by decide)];rfl) (.v (by decide) rfl)
  ·exact fop_ldN rfl rfl rfl rfl rfl ((hdep _ 21 26 rfl rfl (by kernel_rfl)).2 (by decide)) q4 (.v (by decide) rfl)
  ·exact fop_call2 rfl rfl rfl rfl (fun _ _=>rfl) ((hdep _ 20 25 rfl rfl (by kernel_rfl)).2 (by decide)) ((hdep _ 22 27 rfl rfl (by kernel_rfl)).2 (by decide)) ((cmp_in _ _ w').mono fun e w2 ⟨h1,h2⟩=>⟨_,h1,by subst h2;exact Below.refl _ _,(.v (by decide) rfl)⟩)
  ·exact fop_F2 rfl rfl rfl rfl rfl (by rw[hF.eval (by decide)];rfl) (.v (by decide) rfl)
  ·exact fop_ldV rfl rfl rfl rfl rfl ((hdep _ 24 29 rfl rfl (by kernel_rfl)).2 (by decide)) p3 (.v (by decide) rfl)
  ·exact fop_F2 rfl rfl rfl rfl rfl (by rw[hF.eval (by decide)];rfl) (.v (by decide) rfl)
  ·exact fop_ldV rfl rfl rfl rfl rfl ((hdep _ 26 31 rfl rfl (by kernel_rfl)).2 (by decide)) q3 (.v (by decide) rfl)
  ·exact fop_call2 rfl rfl rfl rfl (fun _ _=>rfl) ((hdep _ 25 30 rfl rfl (by kernel_rfl)).2 (by decide)) ((hdep _ 27 32 rfl rfl (by kernel_rfl)).2 (by decide)) ((cmp_vl _ _ w').mono fun e w2 ⟨h1,h2⟩=>⟨_,h1,by subst h2;exact Below.refl _ _,(.v (by decide) rfl)⟩)
  ·exact fop_bs5 rfl rfl rfl rfl rfl ((hdep _ 4 9 rfl rfl (by kernel_rfl)).2 (by decide)) ((hdep _ 11 16 rfl rfl (by kernel_rfl)).2 (by decide)) ((hdep _ 18 23 rfl rfl (by kernel_rfl)).2 (by decide)) ((hdep _ 23 28 rfl rfl (by kernel_rfl)).2 (by decide)) ((hdep _ 28 33 rfl rfl (by kernel_rfl)).2 (by decide)) fun w2 h=>⟨fun _=>⟨_,rfl,h⟩,fun h=>absurd rfl h⟩
  ·obtain⟨g,hg1,hg2⟩:=(hdep _ 29 34 rfl rfl (by kernel_rfl)).1 rfl;exact fop_call1 rfl rfl rfl rfl (fun _ _=>rfl) hg1 ((HOR.out w' g hg2).mono fun e w2 ⟨h1,h2⟩=>⟨_,h1,by subst h2;exact Below.refl _ _,(.v (by decide) rfl)⟩)
  ·exact fop_assign rfl rfl rfl rfl ((hdep _ 30 35 rfl rfl (by kernel_rfl)).2 (by decide)) (.v (by decide) rfl)
 intro v w5 hb5 hF
 have e0:v 0=_:=(hF 0 (by decide)).2 (by decide)
 have e1:v 1=_:=(hF 1 (by decide)).2 (by decide)
 have e2:v 2=_:=(hF 2 (by decide)).2 (by decide)
 have e3:v 3=_:=(hF 3 (by decide)).2 (by decide)
 have e4:v 4=_:=(hF 4 (by decide)).2 (by decide)
 have e5:v 5=_:=(hF 5 (by decide)).2 (by decide)
 have e6:v 6=_:=(hF 6 (by decide)).2 (by decide)
 have e7:v 7=_:=(hF 7 (by decide)).2 (by decide)
 have e8:v 8=_:=(hF 8 (by decide)).2 (by decide)
 have e9:v 9=_:=(hF 9 (by decide)).2 (by decide)
 have e10:v 10=_:=(hF 10 (by decide)).2 (by decide)
 have e11:v 11=_:=(hF 11 (by decide)).2 (by decide)
 have e12:v 12=_:=(hF 12 (by decide)).2 (by decide)
 have e13:v 13=_:=(hF 13 (by decide)).2 (by decide)
 have e14:v 14=_:=(hF 14 (by decide)).2 (by decide)
 have e15:v 15=_:=(hF 15 (by decide)).2 (by decide)
 have e16:v 16=_:=(hF 16 (by decide)).2 (by decide)
 have e17:v 17=_:=(hF 17 (by decide)).2 (by decide)
 have e18:v 18=_:=(hF 18 (by decide)).2 (by decide)
 have e19:v 19=_:=(hF 19 (by decide)).2 (by decide)
 have e20:v 20=_:=(hF 20 (by decide)).2 (by decide)
 have e21:v 21=_:=(hF 21 (by decide)).2 (by decide)
 have e22:v 22=_:=(hF 22 (by decide)).2 (by decide)
 have e23:v 23=_:=(hF 23 (by decide)).2 (by decide)
 have e24:v 24=_:=(hF 24 (by decide)).2 (by decide)
 have e25:v 25=_:=(hF 25 (by decide)).2 (by decide)
 have e26:v 26=_:=(hF 26 (by decide)).2 (by decide)
 have e27:v 27=_:=(hF 27 (by decide)).2 (by decide)
 have e28:v 28=_:=(hF 28 (by decide)).2 (by decide)
 have e30:v 30=_:=(hF 30 (by decide)).2 (by decide)
 have e31:v 31=_:=(hF 31 (by decide)).2 (by decide)
 obtain⟨g29,e29,-⟩:=(hF 29 (by decide)).1 rfl
 have HB5:Hid (BelW W1 w5):=Lib.hid (joinB HBD.out hb5)
 simp only[List.getD_cons_zero,List.getD_cons_succ]at e0 e1 e2 e3 e4 e5 e6 e7 e8 e9 e10 e11 e12 e13 e14 e15 e16 e17 e18 e19 e20 e21 e22 e23 e24 e25 e26 e27 e28 e30 e31
 simp only[putsF,Nat.zero_add,Nat.reduceAdd,e0,e1,e2,e3,e4,e5,e6,e7,e8,e9,e10,e11,e12,e13,e14,e15,e16,e17,e18,e19,e20,e21,e22,e23,e24,e25,e26,e27,e28,e29,e30,e31,Act.put,List.setIfInBounds_toArray,List.set_cons_zero,List.set_cons_succ]
 clear e0 e1 e2 e3 e4 e5 e6 e7 e8 e9 e10 e11 e12 e13 e14 e15 e16 e17 e18 e19 e20 e21 e22 e23 e24 e25 e26 e27 e28 e29 e30 e31 hF hb5
 refine AnyX.done (by kernel_rfl) ?_ _
 go_wp2
 go_ret
 exact⟨rfl,joinB HB1.out HB5.out⟩
end Go.Proofs.YtcbllelkgniogaaDoor
