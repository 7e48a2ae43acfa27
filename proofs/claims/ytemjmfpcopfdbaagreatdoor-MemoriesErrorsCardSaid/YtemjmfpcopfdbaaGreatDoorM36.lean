/- The texts Bs9 R17. -/
import Derived.Test.YtemjmfpcopfdbaaGreatDoorM31
import Derived.Test.YtemjmfpcopfdbaaGreatDoorM26
import Derived.Deep.AppendLies
namespace Go.Proofs.YtemjmfpcopfdbaaGreatDoor
open Go.RowKit
def BStk(w:World)(base:Nat)(v:Value)(l:List Int):Prop:=w.ownsRow base 5 1 v l.length (l.map (Value.int .u8))
section
variable {w w':World} {base:Nat} {v:Value} {l:List Int}
end
section
variable {P:Program} {md:Region.Mode} {ops:Array Oper} {i:Nat} {a:Act} {w:World} {K:Act→World→Prop} {Q:Exit→Act→World→Prop}
end
def Gkc(a:Act)(v20 v21 v22 v23 v133 v139 v140 v141 v142 v143 v144 v145:Value):Act:=((((((((((((a.put (some 20) v20).put (some 21) v21).put (some 22) v22).put (some 23) v23).put (some 133) v133).put (some 139) v139).put (some 140) v140).put (some 141) v141).put (some 142) v142).put (some 143) v143).put (some 144) v144).put (some 145) v145)
section
variable (a:Act) (v20 v21 v22 v23 v133 v139 v140 v141 v142 v143 v144 v145 u:Value)
end
structure Ikc(inp:List Int)(ni ns m n3 n:Nat)(RS:World→Nat→Nat→Nat→Nat→Nat→Nat→Prop)(wb:World)(b5 b6 b7 b8 b9 b10 b11 b12 b13 b14 b15 b16 b17 b18:Bool)(v20 v21 v22 v23 v133 v139 v140 v141 v142 v143 v144 v145:Value)(w:World):Prop where
 bel:BelW wb w
 k5:b5=true→∃AI cI AS cS,v139=.agg #[.slice AI ni cI,.slice AS ns cS]∧VStk w wb.heap.size (.slice AI ni cI) inp
 k6:b6=true→∃AI cI,v140=.slice AI ni cI∧VStk w wb.heap.size (.slice AI ni cI) inp
 k7:b7=true→∃gB D1 D2 go gn g,v141=.tuple #[.agg #[.slice (some ⟨gB,0,none⟩) ns ns,.slice (some ⟨D1,0,none⟩) m m,.slice (some ⟨D2,0,none⟩) m m],.agg #[.slice (some ⟨go,0,none⟩) n3 n3,.slice (some ⟨gn,0,none⟩) ns ns],.slice (some ⟨g,0,none⟩) n n,.int .i64 0]∧RS w gB D1 D2 go gn g∧(b8=true→v133=.tuple #[.agg #[.slice (some ⟨gB,0,none⟩) ns ns,.slice (some ⟨D1,0,none⟩) m m,.slice (some ⟨D2,0,none⟩) m m],.agg #[.slice (some ⟨go,0,none⟩) n3 n3,.slice (some ⟨gn,0,none⟩) ns ns],.slice (some ⟨g,0,none⟩) n n,.int .i64 0])∧(b9=true→v142=.agg #[.slice (some ⟨gB,0,none⟩) ns ns,.slice (some ⟨D1,0,none⟩) m m,.slice (some ⟨D2,0,none⟩) m m])∧(b10=true→v143=.agg #[.slice (some ⟨go,0,none⟩) n3 n3,.slice (some ⟨gn,0,none⟩) ns ns])∧(b11=true→v144=.slice (some ⟨g,0,none⟩) n n)∧(b12=true→v145=.int .i64 0)∧(b15=true→∃q,v20=.pointer (some ⟨q,0,none⟩)∧wb.heap.size≤q∧Fr w q 45 [.slice (some ⟨gB,0,none⟩) ns ns,.slice (some ⟨D1,0,none⟩) m m,.slice (some ⟨D2,0,none⟩) m m])∧(b16=true→∃q,v21=.pointer (some ⟨q,0,none⟩)∧wb.heap.size≤q∧Fr w q 49 [.slice (some ⟨go,0,none⟩) n3 n3,.slice (some ⟨gn,0,none⟩) ns ns])∧(b17=true→v22=.slice (some ⟨g,0,none⟩) n n)∧(b18=true→v23=.int .i64 0)
 a13:b13=true→b15=false→∃q lx,v20=.pointer (some ⟨q,0,none⟩)∧wb.heap.size≤q∧lx.length=3∧Fr w q 45 lx
 a14:b14=true→b16=false→∃q lx,v21=.pointer (some ⟨q,0,none⟩)∧wb.heap.size≤q∧lx.length=2∧Fr w q 49 lx
 d6:b6=true→b5=true
 d7:b7=true→b6=true
 d8:b8=true→b7=true
 d9:b9=true→b8=true
 d10:b10=true→b8=true
 d11:b11=true→b8=true
 d12:b12=true→b8=true
 d15:b15=true→b9=true
 d15a:b15=true→b13=true
 d16:b16=true→b10=true
 d16a:b16=true→b14=true
 d17:b17=true→b11=true
 d18:b18=true→b12=true
section
variable {inp:List Int} {ni ns m n3 n:Nat} {RS:World→Nat→Nat→Nat→Nat→Nat→Nat→Prop} {wb:World} {b5 b6 b7 b8 b9 b10 b11 b12 b13 b14 b15 b16 b17 b18:Bool} {v20 v21 v22 v23 v133 v139 v140 v141 v142 v143 v144 v145:Value} {w w':World}
end
end Go.Proofs.YtemjmfpcopfdbaaGreatDoor
