/- The texts Fq7. -/
import Derived.Test.YtcbllelkgniogaaDoorM15
import Derived.Test.YtcbllelkgniogaaDoorM30
import Derived.Test.YtcbllelkgniogaaDoorM18
import Derived.Test.YtcbllelkgniogaaDoorM17
import Derived.Test.YtcbllelkgniogaaDoorM09
import Derived.Deep.AppendLies
import Derived.Deep.Upon
import Derived.Test.YtcbllelkgniogaaDoorM29
import Derived.Sort.CutIn
import Derived.Test.YtcbllelkgniogaaDoorM22
import Derived.Test.YtcbllelkgniogaaDoorM21
namespace Go.Proofs.YtcbllelkgniogaaDoor
open Go.RowKit
section
variable {P:Program} {ops:Array Oper} {Q:Exit→Act→World→Prop} {i:Nat} {o:Oper} {d:Tmp} {Y:Value→World→Prop} {a:Act} {w:World}
end
def YC(vals:List Value)(zs:List Value)(i:Nat)(v:Value)(W:World):Prop:=(i=29→∃g,v=.slice (some ⟨g,0,none⟩) 5 5∧Fr W g 3 zs)∧(i≠29→v=vals.getD i undef)
theorem YC.next{vals zs:List Value}(i:Nat)(v:Value)(W W':World)(h:YC vals zs i v W)(hb:Below W.heap.size W W'):YC vals zs i v W':=⟨fun e=>by
 obtain⟨g,h1,h2⟩:=h.1 e
 exact⟨g,h1,h2.below hb⟩,h.2⟩
theorem YC.v{vals zs:List Value}{i:Nat}{v:Value}{W:World}(h0:i≠29)(h:v=vals.getD i undef):YC vals zs i v W:=⟨fun e=>absurd e h0,fun _=>h⟩
end Go.Proofs.YtcbllelkgniogaaDoor
