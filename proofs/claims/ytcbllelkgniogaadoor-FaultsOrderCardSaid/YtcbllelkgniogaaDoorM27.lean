/- The texts Ofp Ofr. -/
import Derived.Test.YtcbllelkgniogaaDoorM12
import Derived.Test.YtcbllelkgniogaaDoorM10
import Derived.Test.YtcbllelkgniogaaDoorM26
namespace Go.Proofs.YtcbllelkgniogaaDoor
open Go.RowKit
structure Gx where
 kind:Int
 i0:Int
 i1:Int
 i2:Int
instance gxInh:Inhabited Gx:=⟨⟨0,0,0,0⟩⟩
structure Cx where
 inN:Int
 dffs:Int
 d0:Int
 d1:Int
 bus:Bool
 mem:Bool
 p0:Int
 p1:Int
 p2:Int
 p3:Int
 gates:List Gx
 outs:List Int
def U8(x:Int):Prop:=0≤x∧x≤255
def Gok(g:Gx):Prop:=U8 g.kind∧U8 g.i0∧U8 g.i1∧U8 g.i2
structure Cok(x:Cx):Prop where
 inN:U8 x.inN
 dffs:U8 x.dffs
 d0:U8 x.d0
 d1:U8 x.d1
 p0:U8 x.p0
 p1:U8 x.p1
 p2:U8 x.p2
 p3:U8 x.p3
 gates:∀k,k<x.gates.length→Gok (x.gates.getD k default)
 outs:∀k,k<x.outs.length→U8 (x.outs.getD k 0)
section
variable {bus:Bool} {k i0 i1 i2:Int} {nodes:List Nd} {n:Nat} {a b d:Int}
end
def Kp(T:Nat)(R:Option Nat)(w w':World):Prop:=w.heap.size≤w'.heap.size∧∀b,T≤b→b<w.heap.size→R≠some b→w'.heap[b]? =w.heap[b]?
theorem Kp.refl(T:Nat)(R:Option Nat)(w:World):Kp T R w w:=⟨Nat.le_refl _,fun _ _ _ _=>rfl⟩
theorem Kp.trans{T:Nat}{R:Option Nat}{w w1 w2:World}(h:Kp T R w w1)(h':Kp T R w1 w2):Kp T R w w2:=
 ⟨Nat.le_trans h.1 h'.1,fun b h1 h2 h3=>(h'.2 b h1 (Nat.lt_of_lt_of_le h2 h.1) h3).trans (h.2 b h1 h2 h3)⟩
theorem Kp.alloc(T:Nat)(R:Option Nat)(w:World)(o:Obj):Kp T R w (w.alloc o):=
 ⟨by simp,fun b _ h _=>((Below.refl w.heap.size w).alloc (Nat.le_refl _) o).block b h⟩
theorem Kp.below{T:Nat}{R:Option Nat}{w w':World}(h:Below w.heap.size w w'):Kp T R w w':=⟨h.size,fun b _ hb _=>h.block b hb⟩
theorem Kp.set{T:Nat}{R:Option Nat}(w:World){a:Addr}(ha:a.block<T)(v:Value):Kp T R w (w.setCell a v):=
 ⟨by simp,fun b h _ _=>heap_setCell_other w a b v (fun e=>by rw[e]at h;omega)⟩
theorem Kp.grown{T:Nat}{w w':World}{R:Option Nat}(h:w.grownBy w' R):Kp T R w w':=⟨h.size,fun b _ hb hR=>h.block b hb (fun e=>hR e.symm)⟩
theorem Kp.free{T:Nat}{R R':Option Nat}{w w':World}(h:Kp T R w w')(hR:∀b,T≤b→b<w.heap.size→R'≠some b→R≠some b):Kp T R' w w':=
 ⟨h.1,fun b h1 h2 h3=>h.2 b h1 h2 (hR b h1 h2 h3)⟩
theorem Kp.grow{T:Nat}{R:Option Nat}{w0 w w':World}(h:Kp T none w0 w)(hg:w.grownBy w' R)(hR:∀q,R=some q→w0.heap.size≤q):Kp T none w0 w':=
 ⟨Nat.le_trans h.1 hg.size,fun b h1 h2 h3=>(hg.block b (Nat.lt_of_lt_of_le h2 h.1) (fun e=>by have:=hR b e.symm;omega)).trans (h.2 b h1 h2 h3)⟩
def InG(w:World)(T:Nat)(R:Option Nat)(s:Value)(l:List Int):Prop:=
 ∃A c,s=.slice A l.length c∧Is w w.heap.size s l∧(0<l.length→∀a:Addr,A=some a→T≤a.block∧R≠some a.block)
theorem InG.keep{w w':World}{T:Nat}{R R':Option Nat}{s:Value}{l:List Int}(h:InG w T R s l)(hk:Kp T R w w')(hR:∀b,b<w.heap.size→R≠some b→R'≠some b):InG w' T R' s l:=by
 obtain⟨A,c,rfl,hi,ha⟩:=h
 obtain⟨A',b,o,c',e,hA,hle,hm,hc⟩:=hi
 simp only[Value.slice.injEq,true_and]at e
 obtain⟨rfl,rfl⟩:=e
 by_cases h0:0<l.length
 ·obtain rfl:=hA h0
  have hb:=(hc 0 h0).1
  obtain⟨h1,h2⟩:=ha h0 _ rfl
  refine⟨_,c,rfl,⟨_,b,o,c,rfl,fun _=>rfl,hle,hm,fun k hk'=>⟨Nat.lt_of_lt_of_le hb hk.1,?_⟩⟩,fun _ a e=>?_⟩
  ·unfold IntAt
   rw[World.cell?_of_block (hk.2 b h1 hb h2)]
   exact (hc k hk').2
  ·cases e;exact⟨h1,hR b hb h2⟩
 ·exact⟨A,c,rfl,⟨A,0,0,c,rfl,fun h=>absurd h h0,hle,hm,fun k hk'=>absurd hk' (by omega)⟩,fun h=>absurd h h0⟩
theorem InG.is{w:World}{T:Nat}{R:Option Nat}{s:Value}{l:List Int}(h:InG w T R s l):Is w w.heap.size s l:=by
 obtain⟨A,c,-,hi,-⟩:=h
 exact hi
theorem InG.nil(w:World)(T:Nat)(R:Option Nat):InG w T R (.slice none 0 0) []:=⟨none,0,rfl,Arr.nil _ _ _ _ _,fun h=>absurd h (by simp)⟩
def ndCs:List Nd→List Value→List Value
 |x::l,s::ss=>.int .u8 x.kind::s:: .int .i64 x.mem:: .int .i64 x.bit::ndCs l ss
 |_,_=>[]
theorem ndCs_snoc(x:Nd)(s:Value):∀(l:List Nd) (ss:List Value),ss.length=l.length→ndCs (l++[x]) (ss++[s])=ndCs l ss++[.int .u8 x.kind,s,.int .i64 x.mem,.int .i64 x.bit]
 |[],[],_=>rfl
 |y::l,t::ss,h=>by
  show _::_::_::_::ndCs (l++[x]) (ss++[s])=_
  rw[ndCs_snoc x s l ss (by simpa using h)];rfl
theorem ndCs_get:∀(l:List Nd) (ss:List Value),ss.length=l.length→∀k,k<l.length→
 (ndCs l ss)[k*4]? =some (.int .u8 (l.getD k default).kind)∧(ndCs l ss)[k*4+1]? =some (ss.getD k (.slice none 0 0))∧(ndCs l ss)[k*4+2]? =some (.int .i64 (l.getD k default).mem)∧(ndCs l ss)[k*4+3]? =some (.int .i64 (l.getD k default).bit)
 |y::l,t::ss,h,0,_=>⟨rfl,rfl,rfl,rfl⟩
 |y::l,t::ss,h,k+1,hk=>by
  have:=ndCs_get l ss (by simpa using h) k (by simpa using hk)
  rw[show (k+1)*4=k*4+4 by omega]
  exact this
theorem ndCs_set(x:Nd)(s:Value):∀(l:List Nd) (ss:List Value),ss.length=l.length→∀k,k<l.length→x.kind=(l.getD k default).kind→x.mem=(l.getD k default).mem→x.bit=(l.getD k default).bit→
 (ndCs l ss).set (k*4+1) s=ndCs (l.set k x) (ss.set k s)
 |y::l,t::ss,h,0,_,h1,h2,h3=>by
  simp only[List.getD_cons_zero]at h1 h2 h3
  show _::_::_::_::_=_::_::_::_::_
  rw[h1,h2,h3]
 |y::l,t::ss,h,k+1,hk,h1,h2,h3=>by
  have:=ndCs_set x s l ss (by simpa using h) k (by simpa using hk) (by simpa using h1) (by simpa using h2) (by simpa using h3)
  rw[show (k+1)*4+1=k*4+1+4 by omega]
  show _::_::_::_::(ndCs l ss).set (k*4+1) s=_::_::_::_::ndCs (l.set k x) (ss.set k s)
  rw[this]
structure NR(w:World)(T:Nat)(v:Value)(l:List Nd)(ss:List Value):Prop where
 len:ss.length=l.length
 row:w.ownsRow T 53 4 v l.length (ndCs l ss)
 ins:∀k,k<l.length→InG w T v.ownBlock (ss.getD k (.slice none 0 0)) (l.getD k default).ins
section
variable {w w' w1:World} {T:Nat} {v v':Value} {l:List Nd} {ss:List Value}
theorem own_kp{e:TypeId}{size n:Nat}{xs:List Value}(h:w.ownsRow T e size v n xs){T':Nat}{R:Option Nat}(hT:T'≤T)(hk:Kp T' R w w')(hR:v.ownBlock=none∨v.ownBlock≠R):w'.ownsRow T e size v n xs:=by
 refine⟨h.1,?_⟩
 rcases h.2 with h1| ⟨g,cap,cur,rfl,hb,hg,h3⟩
 ·exact .inl h1
 ·have hlt:g<w.heap.size:=(Array.getElem?_eq_some_iff.1 hg).1
  exact .inr ⟨g,cap,cur,rfl,hb,(hk.2 g (Nat.le_trans hT hb) hlt (fun e=>by rcases hR with h|h;cases h;exact h e.symm)).trans hg,h3⟩
theorem NR.nil(w:World)(T:Nat):NR w T (.slice none 0 0) [] []:=⟨rfl,World.ownsRow_nil _ _ _ _,fun k hk=>absurd hk (by simp)⟩
theorem NR.keep(h:NR w T v l ss)(hk:Kp T none w w'):NR w' T v l ss:=
 ⟨h.len,own_kp h.row (Nat.le_refl _) hk (by cases v.ownBlock<;>simp),fun k hk'=>(h.ins k hk').keep (hk.free fun _ _ _ _=>by simp) fun _ _ h=>h⟩
theorem getD_snoc'{α:Type}(d x:α)(l:List α)(k:Nat)(hk:k<l.length+1):(l++[x]).getD k d=if k=l.length then x else l.getD k d:=by
 by_cases h:k=l.length
 ·rw[if_pos h,h];simp[List.getD_eq_getElem?_getD]
 ·rw[if_neg h];simp[List.getD_eq_getElem?_getD,List.getElem?_append_left (show k<l.length by omega)]
theorem NR.push{x:Nd}{s:Value}(h:NR w T v l ss)(hs:InG w T v.ownBlock s x.ins)
 (hown:w1.ownsRow T 53 4 v' (l.length+1) (ndCs l ss++[.int .u8 x.kind,s,.int .i64 x.mem,.int .i64 x.bit])) (hgr:w.grownBy w1 v.ownBlock) (hat:v'.ownBlock=v.ownBlock∨v'.ownBlock=some w.heap.size):
 NR w1 T v' (l++[x]) (ss++[s]):=by
 have hR:∀b,b<w.heap.size→v.ownBlock≠some b→v'.ownBlock≠some b:=fun b hb hn=>by
  rcases hat with e|e
  ·rw[e];exact hn
  ·rw[e];simp;omega
 refine⟨by simp[h.len],by rw[List.length_append,ndCs_snoc x s l ss h.len];exact hown,fun k hk=>?_⟩
 have hk':k<l.length+1:=by simpa using hk
 rw[getD_snoc' _ _ _ _ hk',getD_snoc' _ _ _ _ (by rw[h.len];exact hk'),h.len]
 by_cases e:k=l.length
 ·rw[if_pos e,if_pos e];exact hs.keep (Kp.grown hgr) hR
 ·rw[if_neg e,if_neg e];exact (h.ins k (by omega)).keep (Kp.grown hgr) hR
theorem getD_set'{α:Type}(d x:α)(l:List α)(i k:Nat)(hi:i<l.length):(l.set i x).getD k d=if k=i then x else l.getD k d:=by
 rw[List.getD_eq_getElem?_getD,List.getD_eq_getElem?_getD,List.getElem?_set]
 by_cases h:i=k
 ·subst h;simp[hi]
 ·rw[if_neg h,if_neg (fun e=>h e.symm)]
theorem NR.set{g n c i:Nat}{x:Nd}{s:Value}(h:NR w T (.slice (some ⟨g,0,none⟩) n c) l ss)(hn:n=l.length)(hi:i<l.length)(hs:InG w T (some g) s x.ins)(h1:x.kind=(l.getD i default).kind)(h2:x.mem=(l.getD i default).mem)(h3:x.bit=(l.getD i default).bit):
 NR (w.setCell ⟨g,i*4+1,none⟩ s) T (.slice (some ⟨g,0,none⟩) n c) (l.set i x) (ss.set i s):=by
 subst hn
 have hst:=h.row.stored (i*4+1) s
 refine⟨by simp[h.len],by rw[List.length_set,←ndCs_set x s l ss h.len i hi h1 h2 h3];exact hst.1,fun k hk=>?_⟩
 rw[getD_set' _ _ _ _ _ hi,getD_set' _ _ _ _ _ (by rw[h.len];exact hi)]
 have hkp:Kp T (some g) w (w.setCell ⟨g,i*4+1,none⟩ s):=Kp.grown hst.2
 by_cases e:k=i
 ·rw[if_pos e,if_pos e];exact hs.keep hkp fun _ _ h=>h
 ·rw[if_neg e,if_neg e];exact (h.ins k (by simpa using hk)).keep hkp fun _ _ h=>h
theorem InG.lit{k:Nat}(hT:T≤w.heap.size)(hr:∀q,v.ownBlock=some q→q<w.heap.size)(l:List Int)(hk:k=l.length)(hm:l.length≤maxLen):InG (w.alloc (.cells (l.map (Value.int .i64)).toArray 3)) T v.ownBlock (.slice (some ⟨w.heap.size,0,none⟩) k k) l:=by
 subst hk
 exact⟨_,_,rfl,is_of _ (Fr.made w (l.map (Value.int .i64)) 3 rfl) hm (by simp),fun _ a e=>by cases e;exact⟨hT,fun e=>by have:=hr _ e;simp at this⟩⟩
theorem NR.reads(h:NR w T v l ss)(hk:∀k,k<l.length→0≤(l.getD k default).kind∧(l.getD k default).kind≤255):Ns w w.heap.size v l:=by
 rcases id h.row.2 with⟨rfl,hn⟩| ⟨g,cap,cur,rfl,hb,hg,hle,hm,-⟩
 ·have e:l=[]:=List.length_eq_zero_iff.1 hn
  subst e;exact Arr.nil _ _ _ _ _
 ·refine⟨_,g,0,cap,rfl,fun _=>rfl,hle,Nat.le_trans hle hm,fun k hk'=>⟨(Array.getElem?_eq_some_iff.1 hg).1,?_⟩⟩
  obtain⟨e0,e1,e2,e3⟩:=ndCs_get l ss h.len k hk'
  have hc:∀j u,(ndCs l ss)[j]? =some u→j<l.length*4→w.cell? ⟨g,0+j,none⟩=some u:=fun j u hu hj=>by
   rw[Nat.zero_add,h.row.cellAt j hj];exact hu
  refine⟨_,?_,?_,?_,?_,(h.ins k hk').is,(hk k hk').1,(hk k hk').2⟩
  ·exact hc _ _ e0 (by omega)
  ·exact hc _ _ e1 (by omega)
  ·exact hc _ _ e2 (by omega)
  ·exact hc _ _ e3 (by omega)
theorem NR.low{g n c:Nat}(h:NR w T (.slice (some ⟨g,0,none⟩) n c) l ss):T≤w.heap.size:=by
 have:=World.ownsRow.lt h.row g rfl
 omega
theorem NR.form(h:NR w T v l ss):∃A c,v=.slice A l.length c:=own_form h.row
end
end Go.Proofs.YtcbllelkgniogaaDoor
