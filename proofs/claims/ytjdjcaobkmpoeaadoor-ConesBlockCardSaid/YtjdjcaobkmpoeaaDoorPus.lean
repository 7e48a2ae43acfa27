import Derived.Test.YtjdjcaobkmpoeaaDoorM36
namespace Go.Proofs.YtjdjcaobkmpoeaaDoor
open Go.ChangeShapes Go.WideShapes Go.ChangeAt Go.RowKit
section
variable {H:Type} {enc:TypeId×Value→H} {W:World} {base:Nat} {sp:Nat→Bool} {held:Bool}
set_option maxRecDepth 100000 in
theorem open_us{b0:Nat}{r:Reach}{v:Value}{d:DataW H}{p:List MemPlace}(hv:Value.okWide Tryd.prog W r b0 47 v)(h:DataW.Trod enc Tryd.prog W base sp held 47 v d p):
 ∃(A:Option Addr) (n c:Nat) (l:List Int),v=.slice A n c∧l.length=n∧Ks W W.heap.size (.slice A n c) l∧(∀y∈l,0≤y∧y<256):=by
 obtain⟨A,len,cap,rfl⟩:=okWide_slice Tryd.underlying47 hv
 obtain⟨fuel,hf⟩:=h
 obtain⟨s0,l0,e0,g0⟩:=us_of hf
 obtain rfl:s0=Value.slice A len cap:=by simpa [Value.cells]using e0.symm
 obtain⟨h1,h2⟩:=g0.two
 have hl:l0.length=len:=by
  obtain⟨A',b,o,c,e,-⟩:=id h1
  simp only[Value.slice.injEq]at e
  omega
 refine⟨A,len,cap,l0,rfl,hl,h1,fun y hy=>?_⟩
 obtain⟨i,hi,ei⟩:=List.mem_iff_getElem.1 hy
 have h3:=h2 i hi
 rw[List.getD_eq_getElem?_getD,List.getElem?_eq_getElem hi,Option.getD_some,ei]at h3
 unfold U8 at h3
 omega
end
end Go.Proofs.YtjdjcaobkmpoeaaDoor
