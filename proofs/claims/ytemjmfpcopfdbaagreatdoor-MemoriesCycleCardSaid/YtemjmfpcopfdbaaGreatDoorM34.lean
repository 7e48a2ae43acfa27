/- The texts Ab9 Rup. -/
import Derived.Test.YtemjmfpcopfdbaaGreatDoorM19
import Derived.Test.YtemjmfpcopfdbaaGreatDoorM10
import Derived.Deep.AppendLies
namespace Go.Proofs.YtemjmfpcopfdbaaGreatDoor
open Go.RowKit
theorem Wrds.at9{w:World}{B:Nat}{A:Option Addr}{n c:Nat}{ws:List (List Int)}(h:Wrds w B (.slice A n c) ws){i:Nat}(hi:i<n):∃b o Aw cw,A=some ⟨b,o,none⟩∧b<B∧w.cell? ⟨b,o+i,none⟩=some (.slice Aw (ws.getD i []).length cw)∧Ks w B (.slice Aw (ws.getD i []).length cw) (ws.getD i []):=by
 obtain⟨A',b,o,c',e,hA,-,-,hc⟩:=h
 simp only[Value.slice.injEq]at e
 obtain⟨rfl,hn,rfl⟩:=e
 obtain⟨hb,Aw,cw,h1,h2⟩:=hc i (by omega)
 rw[Nat.mul_one]at h1
 exact⟨b,o,Aw,cw,hA (by omega),hb,h1,h2⟩
theorem Wwss.at9{w:World}{B:Nat}{A:Option Addr}{n c:Nat}{ws:List (List (List Int))}(h:Wwss w B (.slice A n c) ws){k:Nat}(hk:k<n):∃b o Aw cw,A=some ⟨b,o,none⟩∧b<B∧w.cell? ⟨b,o+k,none⟩=some (.slice Aw (ws.getD k []).length cw)∧Wrds w B (.slice Aw (ws.getD k []).length cw) (ws.getD k []):=by
 obtain⟨A',b,o,c',e,hA,-,-,hc⟩:=h
 simp only[Value.slice.injEq]at e
 obtain⟨rfl,hn,rfl⟩:=e
 obtain⟨hb,Aw,cw,h1,h2⟩:=hc k (by omega)
 rw[Nat.mul_one]at h1
 exact⟨b,o,Aw,cw,hA (by omega),hb,h1,h2⟩
theorem gateN_pins(bus:Bool)(g:Gx)(nodes:List Nd):(gateN bus g nodes).ins.length≤3:=by
 unfold gateN
 repeat' split
 all_goals simp
def P3(l:List Nd):Prop:=∀y∈l,y.ins.length≤3
theorem P3.app{a b:List Nd}(h:P3 a)(h':P3 b):P3 (a++b):=fun y hy=>by
 rcases List.mem_append.1 hy with e|e
 ·exact h y e
 ·exact h' y e
theorem P3.set{a:List Nd}(h:P3 a)(k:Nat){z:Nd}(hz:z.ins.length≤3):P3 (a.set k z):=fun y hy=>by
 rcases List.mem_or_eq_of_mem_set hy with e|e
 ·exact h y e
 ·rw[e];exact hz
theorem baseN_pins(x:Cx):P3 (baseN x):=by
 unfold baseN
 refine P3.app (P3.app ?_ ?_) ?_
 ·intro y hy
  obtain⟨-,rfl⟩:=List.mem_replicate.1 hy
  decide
 ·intro y hy
  obtain⟨-,rfl⟩:=List.mem_replicate.1 hy
  decide
 ·split
  ·intro y hy
   simp at hy
   rcases hy with rfl|rfl<;>decide
  ·intro y hy;cases hy
theorem gatesTo_pins(x:Cx):∀k,P3 (gatesTo x k)
 |0=>baseN_pins x
 |k+1=>P3.app (gatesTo_pins x k) fun y hy=>by
  rw[List.mem_singleton.1 hy]
  exact gateN_pins _ _ _
theorem dffTo_pins(x:Cx):∀k,P3 (dffTo x k)
 |0=>gatesTo_pins x _
 |k+1=>(dffTo_pins x k).set _ (by show 1≤3;decide)
theorem ofC_pins(x:Cx){k:Nat}(hk:k<(ofC x).nodes.length):((ofC x).nodes.getD k default).ins.length≤3:=by
 rw[List.getD_eq_getElem?_getD,List.getElem?_eq_getElem hk]
 exact dffTo_pins x _ _ (List.getElem_mem hk)
end Go.Proofs.YtemjmfpcopfdbaaGreatDoor
