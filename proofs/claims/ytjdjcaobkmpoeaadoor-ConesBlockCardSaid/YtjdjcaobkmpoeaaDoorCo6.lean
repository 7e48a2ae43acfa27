/- . -/
import Derived.Test.YtjdjcaobkmpoeaaDoorM19
namespace Go.Proofs.YtjdjcaobkmpoeaaDoor
section
variable {n:Nat} {nx:Int→List Int} {P:Int→Prop} {pl a b:Int→Int} {f d x:Int}
theorem diff_path(hd:∀x,Nod n x→a x≠b x→x≠f→∃y,Nod n y∧x∈nx y∧pl y<pl x∧a y≠b y)(h0:∀x,Nod n x→0≤pl x)(hk:a d=b d):∀(k:Nat) (x:Int),Nod n x→pl x<(k:Int)→a x≠b x→Rv nx d f x
 |0,x,hx,h,_=>by have:=h0 x hx;omega
 |k+1,x,hx,h,hne=>by
  have hxd:x≠d:=fun e=>hne (by rw[e];exact hk)
  by_cases e:x=f
  ·subst e;exact .base hxd
  ·obtain⟨y,h1,h2,h3,h4⟩:=hd x hx hne e
   exact .step (diff_path hd h0 hk k y h1 (by omega) h4) h2 hxd
theorem blocked(hd:∀x,Nod n x→a x≠b x→x≠f→∃y,Nod n y∧x∈nx y∧pl y<pl x∧a y≠b y)(h0:∀x,Nod n x→0≤pl x)(hk:a d=b d)(hs:¬Sn nx P d f){p:Int}(hp:Nod n p)(hP:P p):a p=b p:=by
 apply Classical.byContradiction
 intro h
 exact hs (sn_iff.2 ⟨p,diff_path hd h0 hk ((pl p).toNat+1) p hp (by have:=h0 p hp;omega) h,hP⟩)
end
end Go.Proofs.YtjdjcaobkmpoeaaDoor
