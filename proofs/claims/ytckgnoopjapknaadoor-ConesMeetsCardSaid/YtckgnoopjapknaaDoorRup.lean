import Derived.Test.YtckgnoopjapknaaDoorM25
namespace Go.Proofs.YtckgnoopjapknaaDoor
theorem gateN_pins(bus:Bool)(g:Gx)(nodes:List Nd):(gateN bus g nodes).ins.length≤3:=by
 unfold gateN
 repeat' split
 all_goals simp
def P3(l:List Nd):Prop:=∀y∈l,y.ins.length≤3
theorem P3.app{a b:List Nd}(h:P3 a)(h':P3 b):P3 (a++b):=fun y hy=>by
 rcases List.mem_append.1 hy with e|e
 ·exact h y e
 ·exact h' y e
theorem P3.set{a:List Nd}(h:P3 a)(k:Nat){z:Nd}(hz:z.ins.length≤3):P3 (a.set k z):=fun y hy=>by
 rcases List.mem_or_eq_of_mem_set hy with e|e
 ·exact h y e
 ·rw[e];exact hz
theorem baseN_pins(x:Cx):P3 (baseN x):=by
 unfold baseN
 refine P3.app (P3.app ?_ ?_) ?_
 ·intro y hy
  obtain⟨-,rfl⟩:=List.mem_replicate.1 hy
  decide
 ·intro y hy
  obtain⟨-,rfl⟩:=List.mem_replicate.1 hy
  decide
 ·split
  ·intro y hy
   simp at hy
   rcases hy with rfl|rfl<;>decide
  ·intro y hy;cases hy
theorem gatesTo_pins(x:Cx):∀k,P3 (gatesTo x k)
 |0=>baseN_pins x
 |k+1=>P3.app (gatesTo_pins x k) fun y hy=>by
   rw[List.mem_singleton.1 hy]
   exact gateN_pins _ _ _
theorem dffTo_pins(x:Cx):∀k,P3 (dffTo x k)
 |0=>gatesTo_pins x _
 |k+1=>(dffTo_pins x k).set _ (by show 1≤3;decide)
theorem ofC_pins(x:Cx){k:Nat}(hk:k<(ofC x).nodes.length):((ofC x).nodes.getD k default).ins.length≤3:=by
 rw[List.getD_eq_getElem?_getD,List.getElem?_eq_getElem hk]
 exact dffTo_pins x _ _ (List.getElem_mem hk)
end Go.Proofs.YtckgnoopjapknaaDoor
