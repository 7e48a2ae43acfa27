/- The texts Ofp Lsc Ror Ofr. -/
import Derived.Test.YtemjmfpcopfdbaaGreatDoorM07
import Derived.Test.YtemjmfpcopfdbaaGreatDoorM01
import Derived.Test.YtemjmfpcopfdbaaGreatDoorM11
import Derived.Test.YtemjmfpcopfdbaaGreatDoorM13
import Derived.Test.YtemjmfpcopfdbaaGreatDoorM06
namespace Go.Proofs.YtemjmfpcopfdbaaGreatDoor
open Go.RowKit
structure Gx where
 kind:Int
 i0:Int
 i1:Int
 i2:Int
instance gxInh:Inhabited Gx:=⟨⟨0,0,0,0⟩⟩
structure Cx where
 inN:Int
 dffs:Int
 d0:Int
 d1:Int
 bus:Bool
 mem:Bool
 p0:Int
 p1:Int
 p2:Int
 p3:Int
 gates:List Gx
 outs:List Int
def U8(x:Int):Prop:=0≤x∧x≤255
def Gok(g:Gx):Prop:=U8 g.kind∧U8 g.i0∧U8 g.i1∧U8 g.i2
structure Cok(x:Cx):Prop where
 inN:U8 x.inN
 dffs:U8 x.dffs
 d0:U8 x.d0
 d1:U8 x.d1
 p0:U8 x.p0
 p1:U8 x.p1
 p2:U8 x.p2
 p3:U8 x.p3
 gates:∀k,k<x.gates.length→Gok (x.gates.getD k default)
 outs:∀k,k<x.outs.length→U8 (x.outs.getD k 0)
def ix(a:Int)(n:Nat):Int:=a%(n:Int)
section
variable {bus:Bool} {k i0 i1 i2:Int} {nodes:List Nd} {n:Nat} {a b d:Int}
end
structure LC(c:Ck)(w:World)(q:Nat)(A0 A1 A2 A3:Option Addr)(n0 n1 n2 n3 c0 c1 c2 c3:Nat)(wr:World):Prop where
 bel:Below w.heap.size w wr
 low:w.heap.size≤q
 tabs:Tabs wr
 cir:Cir wr q (.agg #[.slice A0 n0 c0,.slice A1 n1 c1,.slice A2 n2 c2,.slice A3 n3 c3]) c
 box:Fr wr q 39 [.slice A0 n0 c0,.slice A1 n1 c1,.slice A2 n2 c2,.slice A3 n3 c3]
section
variable {c:Ck} {w w1 W:World} {q:Nat} {A0 A1 A2 A3:Option Addr} {n0 n1 n2 n3 c0 c1 c2 c3:Nat}
end
structure OO(w:World)(vs:List Value)(g T:Nat)(L:List Int)(wr:World)(sv:Value)(l:List Int):Prop where
 bel:Below w.heap.size w wr
 box:Fr wr w.heap.size 39 vs
 row:Row wr g L
 stk:Stk wr T sv l
 hg:g<T
 hw:w.heap.size<T
 hT:T≤wr.heap.size
structure OrdAt(L:List Int)(n:Nat)(R:List Int)(k y:Nat):Prop where
 at_:R.getD k 0=(y:Int)
 lt:y<n
 fresh:(y:Int) ∉ R.take k
 next:R.take (k+1)=R.take k++[(y:Int)]
 prev:∀k',k=k'+1→Lex L (R.getD k' 0) y
 deps:∀x:Nat,x<n→lat L x<lat L y→(x:Int)∈R.take (k+1)
def Kp(T:Nat)(R:Option Nat)(w w':World):Prop:=w.heap.size≤w'.heap.size∧∀b,T≤b→b<w.heap.size→R≠some b→w'.heap[b]? =w.heap[b]?
def InG(w:World)(T:Nat)(R:Option Nat)(s:Value)(l:List Int):Prop:=
 ∃A c,s=.slice A l.length c∧Is w w.heap.size s l∧(0<l.length→∀a:Addr,A=some a→T≤a.block∧R≠some a.block)
def ndCs:List Nd→List Value→List Value
 |x::l,s::ss=>.int .u8 x.kind::s:: .int .i64 x.mem:: .int .i64 x.bit::ndCs l ss
 |_,_=>[]
structure NR(w:World)(T:Nat)(v:Value)(l:List Nd)(ss:List Value):Prop where
 len:ss.length=l.length
 row:w.ownsRow T 65 4 v l.length (ndCs l ss)
 ins:∀k,k<l.length→InG w T v.ownBlock (ss.getD k (.slice none 0 0)) (l.getD k default).ins
section
variable {w w' w1:World} {T:Nat} {v v':Value} {l:List Nd} {ss:List Value}
end
end Go.Proofs.YtemjmfpcopfdbaaGreatDoor
