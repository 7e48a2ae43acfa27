/- The texts Lcv Co9 Rgb Kis Kbk Kfn Ksm. -/
import Derived.Test.YtjdjcaobkmpoeaaDoorM20
import Derived.Test.YtjdjcaobkmpoeaaDoorM10
import Derived.Test.YtjdjcaobkmpoeaaDoorM22
import Derived.Test.YtjdjcaobkmpoeaaDoorM12
import Derived.Test.YtjdjcaobkmpoeaaDoorM25
import Derived.Test.YtjdjcaobkmpoeaaDoorM26
import Derived.Test.YtjdjcaobkmpoeaaDoorM28
import Derived.Test.YtjdjcaobkmpoeaaDoorM19
import Derived.Test.YtjdjcaobkmpoeaaDoorM01
import Derived.OrdersIn
import Derived.RangeFuncCalls
import Derived.Test.YtjdjcaobkmpoeaaDoorM18
import Derived.Deep.AppendLies
import Derived.Deep.Upon
import Derived.Test.YtjdjcaobkmpoeaaDoorM17
import Derived.Test.YtjdjcaobkmpoeaaDoorM15
import Derived.Test.YtjdjcaobkmpoeaaDoorM13
namespace Go.Proofs.YtjdjcaobkmpoeaaDoor
open Go.RowKit
theorem ofc_any(x:Cx)(hx:Cok x)(sG sA:Value)(w:World)(B:Nat)(hB:B≤w.heap.size)(hG:Gs w B sG x.gates)(hA:Ks w B sA x.outs):
 Calls Tryd.prog 19 #[.agg #[.int .u8 x.inN,.int .u8 x.dffs,.int .u8 x.d0,.int .u8 x.d1,.bool x.bus,.bool x.mem,.int .u8 x.p0,.int .u8 x.p1,.int .u8 x.p2,.int .u8 x.p3,sG,sA]] w
  fun e w'=>(∃v,e=.returned v∧Cir w' w'.heap.size v (ofC x))∧Below w.heap.size w w':=by
 cases h:x.mem
 ·rw[←h];exact ofc_false x h hx sG sA w B hB hG hA
 ·rw[←h];exact ofc_true x h hx sG sA w B hB hG hA
theorem hi_le(k:Int):hi k≤16:=by
 unfold hi
 split
 ·decide
 ·have h:∀i:Fin 16,spansL.getD (2*i.val+1) 0≤16:=by decide
  exact h ⟨k.toNat,by omega⟩
theorem chk_shape{c:Ck}(h:chkErr c=0):shapeErr c=0:=by
 unfold chkErr at h
 by_cases e:shapeErr c=0
 ·exact e
 ·rw[if_pos e]at h;exact absurd h e
structure Vld(c:Ck)(L:List Int)(n:Nat):Prop where
 ok:chkErr c=0
 lvl:Lvl c.nodes L
 len:n=c.nodes.length
 few:n<20
section
variable {c:Ck} {L:List Int} {n:Nat}
theorem Vld.wf(V:Vld c L n):Wf c.nodes:=wf_of_shape (chk_shape V.ok)
theorem Vld.bnd(V:Vld c L n):∀i:Nat,i<n→0≤lat L i∧lat L i<(n:Int):=fun i hi=>by
 rw[V.len]at hi
 have h1:=V.lvl.nonneg hi
 have h2:=V.lvl.bound V.wf hi
 rw[←V.len]at h2
 exact⟨h1,h2⟩
theorem Vld.pins(V:Vld c L n):∀k,k<c.nodes.length→(c.nodes.getD k default).ins.length≤16:=fun k hk=>by
 have h:=(nodeErr_zero ((shape_zero (chk_shape V.ok)).2.2.2.2.1 _ (getD_mem_nd hk))).2.2.1
 have:=hi_le (c.nodes.getD k default).kind
 omega
variable {w w1 W:World} {q:Nat} {A0 A1 A2 A3:Option Addr} {n1 n2 n3 c0 c1 c2 c3:Nat}
theorem ord_v(V:Vld c L n)(h:LC c w q A0 A1 A2 A3 n n1 n2 n3 c0 c1 c2 c3 w1)(hb:Below w1.heap.size w1 W):Calls Tryd.prog 20 #[.agg #[.slice A0 n c0,.slice A1 n1 c1,.slice A2 n2 c2,.slice A3 n3 c3]] W
 fun e w'=>(∃d,e=.returned (.tuple #[.slice (some ⟨d,0,none⟩) n n,.int .i64 0])∧w1.heap.size≤d∧Row w' d (ordTo L n n))∧Below w1.heap.size w1 w'∧LC c w q A0 A1 A2 A3 n n1 n2 n3 c0 c1 c2 c3 w':=by
 have hn:=h.next hb
 refine (order_any c _ W W.heap.size (Nat.le_refl _) hn.tabs hn.all (by rw[←V.len];exact V.few)).mono fun e w' ⟨h1,h2⟩=>?_
 rcases h2 with⟨-,-,L',R,d,h3,-,h4,h5,h6,h7⟩| ⟨h3,-⟩
 ·rw[h3.unique V.wf V.lvl,←V.len]at h4
  rw[←V.len]at h6
  rw[ord_eq h4 V.bnd]at h7
  exact⟨⟨d,h6,Nat.le_trans hb.size h5,h7⟩,joinB hb h1,hn.next h1⟩
 ·exact absurd V.ok h3
end
theorem vld_c(x:Cx)(hx:Cok x):∃L,Vld (ofC x) L (sizeN x):=by
 obtain⟨L,hL⟩:=ofC_lvl x hx
 exact⟨L,ofC_ok x hx,hL,(ofC_len x).symm,by have:=sizeN_le x;omega⟩
theorem ofc_c(x:Cx)(hx:Cok x){sG sA:Value}{w W:World}(hT:Tabs w)(hG:Gs w w.heap.size sG x.gates)(hA:Ks w w.heap.size sA x.outs)(hb:Below w.heap.size w W){n:Nat}(hn:n=sizeN x):
 Calls Tryd.prog 19 #[.agg #[.int .u8 x.inN,.int .u8 x.dffs,.int .u8 x.d0,.int .u8 x.d1,.bool x.bus,.bool x.mem,.int .u8 x.p0,.int .u8 x.p1,.int .u8 x.p2,.int .u8 x.p3,sG,sA]] W
  fun e w'=>∃A0 A1 A2 A3 n1 n2 n3 c0 c1 c2 c3,e=.returned (.agg #[.slice A0 n c0,.slice A1 n1 c1,.slice A2 n2 c2,.slice A3 n3 c3])∧Below w.heap.size w w'∧
   LC (ofC x) w w'.heap.size A0 A1 A2 A3 n n1 n2 n3 c0 c1 c2 c3 (w'.alloc (.cells #[.slice A0 n c0,.slice A1 n1 c1,.slice A2 n2 c2,.slice A3 n3 c3] 27)):=by
 refine (ofc_any x hx sG sA W w.heap.size hb.size (hG.below hb) (hA.below hb)).mono fun e w' ⟨⟨v,h1,h2⟩,h3⟩=>?_
 have hbl:=joinB hb h3
 have h4:=h2
 obtain⟨v0,v1,v2,v3,rfl,hns,hss,hms,hos⟩:=h4
 obtain⟨A0,b,o,c0,rfl,-⟩:=id hns
 obtain⟨A1,b1,o1,c1,rfl,-⟩:=id hss
 obtain⟨A2,b2,o2,c2,rfl,-⟩:=id hms
 obtain⟨A3,b3,o3,c3,rfl,-⟩:=id hos
 have hlen:(ofC x).nodes.length=n:=by rw[hn];exact ofC_len x
 rw[hlen]at h1 h2
 exact⟨A0,A1,A2,A3,_,_,_,c0,c1,c2,c3,h1,hbl,below_new hbl _,hbl.size,(hT.below hbl).below (below_new (Below.refl _ _) _),h2.below (below_new (Below.refl _ _) _),heap_alloc_new _ _⟩
def stF(nx:Int→List Int)(P:Int→Bool):Nat→Int→Int
 |0,x=>x
 |k+1,x=>if P x=true then x else match nx x with
  |[r]=>stF nx P k r
  |_=>x
theorem stF_stm{nx:Int→List Int}{P:Int→Bool}{n:Nat}{L:List Int}(hn:∀x,Nod n x→Inr n (nx x))(hl:∀x y,Nod n x→y∈nx x→lat L x<lat L y)(h1:∀y,Nod n y→lat L y<(n:Int)):∀(k:Nat) (x:Int),Nod n x→(n:Int)-lat L x≤(k:Int)→Stm nx (fun x=>P x=true) x (stF nx P k x)∧Nod n (stF nx P k x)
 |0,x,hx,h=>by have:=h1 x hx;omega
 |k+1,x,hx,h=>by
  unfold stF
  by_cases hp:P x=true
  ·rw[if_pos hp];exact⟨.self (.inl hp),hx⟩
  ·rw[if_neg hp]
   split
   ·rename_i r hr
    have hm:r∈nx x:=by rw[hr];simp
    have ih:=stF_stm (P:=P) hn hl h1 k r (hn x hx r hm) (by have:=hl x r hx hm;omega)
    exact⟨.go hp hr ih.1,ih.2⟩
   ·rename_i hno
    refine⟨.self (.inr fun e=>?_),hx⟩
    obtain⟨r,hr⟩:=List.length_eq_one_iff.1 e
    exact hno r hr
structure G5(c:Ck)(n:Nat)(L:List Int):Prop where
 ok:chkErr c=0
 lvl:Lvl c.nodes L
 len:c.nodes.length=n
 few:n≤20
theorem g5_of{c:Ck}(h:chkErr c=0)(hf:c.nodes.length≤20):∃L,G5 c c.nodes.length L:=by
 have h2:=h
 unfold chkErr at h2
 rw[if_neg (fun e=>e (chk_shape h))]at h2
 split at h2
 ·rename_i hL
  obtain⟨L,hL⟩:=hL
  exact⟨L,h,hL,rfl,hf⟩
 ·exact absurd h2 (by decide)
theorem nodP_in5(nodes:List Nd)(N:Nat)(h:∀k,k<nodes.length→(nodes.getD k default).ins.length≤N):∀i,i≤nodes.length→(nodP nodes i).length≤i*N
 |0,_=>by simp[nodP]
 |i+1,hi=>by
  have h1:=nodP_in5 nodes N h i (by omega)
  have h2:=h i (by omega)
  rw[nodP_succ]
  simp only[pinsAt,insP,List.length_append,List.length_map,List.length_range]
  rw[Nat.succ_mul];omega
section
variable {c:Ck} {n:Nat} {L:List Int}
theorem G5.wf(G:G5 c n L):Wf c.nodes:=wf_of_shape (chk_shape G.ok)
theorem G5.hl0(G:G5 c n L):∀j:Nat,j<n→0≤lat L j:=fun j hj=>G.lvl.nonneg (by rw[G.len];exact hj)
theorem G5.hl1(G:G5 c n L):∀j:Nat,j<n→lat L j<(n:Int):=fun j hj=>by
 have:=G.lvl.bound G.wf (i:=j) (by rw[G.len];exact hj)
 rwa [G.len]at this
theorem G5.bnd(G:G5 c n L):∀i:Nat,i<n→0≤lat L i∧lat L i<(n:Int):=fun i hi=>⟨G.hl0 i hi,G.hl1 i hi⟩
theorem G5.hl2(G:G5 c n L):∀x y:Nat,x<n→(y:Int)∈rdL c.nodes x→lat L x<lat L y:=fun x y _ hy=>by
 obtain⟨h1,h2,h3⟩:=mem_rdL.1 hy
 exact G.lvl.lt (i:=(y:Int)) h1 h2 h3
theorem G5.inr(G:G5 c n L):∀x:Int,Nod n x→Inr n (rdL c.nodes x.toNat):=fun x _=>by
 have:=rdL_inr c.nodes x.toNat
 rwa [G.len]at this
theorem G5.inr'(G:G5 c n L):∀j:Nat,Inr n (rdL c.nodes j):=fun j=>by
 have:=rdL_inr c.nodes j
 rwa [G.len]at this
theorem G5.up(G:G5 c n L):∀x y:Int,Nod n x→y∈rdL c.nodes x.toNat→lat L x<lat L y:=fun x y hx hy=>by
 have h1:=(G.inr x hx) y hy
 have h2:=hx.1
 have h3:=hx.2
 have:=G.hl2 x.toNat y.toNat (by omega) (by rw[show ((y.toNat:Nat):Int)=y by omega];exact hy)
 rwa [show ((y.toNat:Nat):Int)=y by omega,show ((x.toNat:Nat):Int)=x by omega]at this
theorem G5.top(G:G5 c n L):∀y:Int,Nod n y→lat L y<(n:Int):=fun y hy=>by
 have h2:=hy.1
 have h3:=hy.2
 have:=G.hl1 y.toNat (by omega)
 rwa [show ((y.toNat:Nat):Int)=y by omega]at this
theorem G5.bot(G:G5 c n L):∀y:Int,Nod n y→0≤lat L y:=fun y hy=>by
 have h2:=hy.1
 have h3:=hy.2
 have:=G.hl0 y.toNat (by omega)
 rwa [show ((y.toNat:Nat):Int)=y by omega]at this
theorem G5.pins(G:G5 c n L):∀k,k<n→(c.nodes.getD k default).ins.length≤16:=fun k hk=>by
 have h:=(nodeErr_zero ((shape_zero (chk_shape G.ok)).2.2.2.2.1 _ (getD_mem_nd (by rw[G.len];exact hk)))).2.2.1
 have:=hi_le (c.nodes.getD k default).kind
 omega
theorem G5.np(G:G5 c n L):(nodP c.nodes c.nodes.length).length≤100000000:=by
 have:=nodP_in5 c.nodes 16 (fun k hk=>G.pins k (by rw[←G.len];exact hk)) c.nodes.length (Nat.le_refl _)
 have:=G.len
 have:=G.few
 omega
theorem G5.depl(G:G5 c n L):∀i:Nat,i<n→(depsOf (c.nodes.getD i default)).length≤16:=fun i hi=>by
 unfold depsOf
 split
 ·exact G.pins i hi
 ·simp
theorem G5.deps(G:G5 c n L):∀i:Nat,i<n→(dep c.nodes (i:Int)).length≤16:=fun i hi=>by
 unfold dep
 rw[Int.toNat_natCast]
 exact G.depl i hi
theorem G5.depi(G:G5 c n L):∀j:Nat,Inr n (dep c.nodes (j:Int)):=fun j x hx=>by
 by_cases hj:j<c.nodes.length
 ·have:=G.wf.dep (i:=(j:Int)) (by rw[Int.toNat_natCast];exact hj) hx
  rwa [G.len]at this
 ·exfalso
  unfold dep at hx
  rw[Int.toNat_natCast,List.getD_eq_getElem?_getD,List.getElem?_eq_none (by omega)]at hx
  revert hx
  show x∈depsOf default→False
  rw[show depsOf default=[] from by decide]
  simp
end
def stemL(c:Ck):List Int:=(List.range c.nodes.length).map fun(i:Nat)=>stF (fun x=>rdL c.nodes x.toNat) (fun x=>bat (ptB c) x.toNat) c.nodes.length (i:Int)
theorem stemL_len(c:Ck):(stemL c).length=c.nodes.length:=by simp[stemL]
theorem stemL_at{c:Ck}{n:Nat}{L:List Int}(G:G5 c n L){i:Nat}(hi:i<n):Stm (fun x=>rdL c.nodes x.toNat) (fun x=>bat (ptB c) x.toNat=true) (i:Int) ((stemL c).getD i 0)∧Nod n ((stemL c).getD i 0):=by
 have e:(stemL c).getD i 0=stF (fun x=>rdL c.nodes x.toNat) (fun x=>bat (ptB c) x.toNat) n (i:Int):=by
  have hi':i<c.nodes.length:=by rw[G.len];exact hi
  have hn:=G.len
  unfold stemL
  rw[List.getD_eq_getElem?_getD,List.getElem?_map,List.getElem?_range hi',hn]
  rfl
 rw[e]
 exact stF_stm (P:=fun x=>bat (ptB c) x.toNat) G.inr G.up G.top n (i:Int) ⟨by omega,by omega⟩ (by have:=G.hl0 i hi;omega)
theorem stemL_eq{c:Ck}{n:Nat}{L St:List Int}(G:G5 c n L)(hl:St.length=n)(h:∀i:Nat,i<n→Stm (fun x=>rdL c.nodes x.toNat) (fun x=>bat (ptB c) x.toNat=true) (i:Int) (St.getD i 0)):St=stemL c:=by
 apply List.ext_getElem?
 intro i
 by_cases hi:i<n
 ·have h1:=(stemL_at G hi).1.uniq (h i hi)
  have h2:i<(stemL c).length:=by rw[stemL_len,G.len];exact hi
  rw[List.getD_eq_getElem?_getD,List.getD_eq_getElem?_getD,List.getElem?_eq_getElem h2,List.getElem?_eq_getElem (by omega)]at h1
  rw[List.getElem?_eq_getElem h2,List.getElem?_eq_getElem (by omega)]
  exact congrArg some h1.symm
 ·rw[List.getElem?_eq_none (by omega),List.getElem?_eq_none (by rw[stemL_len,G.len];omega)]
section
variable {P:Program} {ops:Array Oper} {Q:Exit→Act→World→Prop} {md:Region.Mode} {S:World→Prop} {t l n:Nat}
def noDefer(ops:Array Oper):Bool:=ops.all fun o=>match o.op with| .defer _=>false|_=>true
theorem noDefer_at{i:Nat}{o:Oper}(h:noDefer ops=true)(hi:ops[i]? =some o):∀c,o.op≠ .defer c:=fun c hc=>by
 unfold noDefer at h
 obtain⟨hlt,he⟩:=Array.getElem?_eq_some_iff.1 hi
 have:=Array.all_eq_true.1 h i hlt
 rw[he,hc]at this
 cases this
theorem opIn_of{o:Oper}{a:Act}{w:World}{K:Act→World→Prop}(hd:∀c,o.op≠ .defer c)(h:Oper.wp P o a w K Q):Oper.wpIn (Fence.wide.inRound l) n P o a w K Q:=by
 refine⟨fun _ _=>trivial,?_⟩
 rw[Oper.semAt_eq _ _ _ hd]
 unfold Oper.wp at h
 generalize (execOp a.eval o).run P w=r at*
 cases r with
 |ok x w'=>
  cases x<;>simp only[Oper.upon,Oper.uponIn]at h ⊢
  case value v=>exact h
  case skip=>exact h
  case defer d=>exact h
  case enter f args=>exact⟨fun e=>by simp[Fence.wide,Fence.inRound]at e,CallsIn.inRound l (callsIn_wide.2 h)⟩
  case row row args=>exact⟨fun e=>by simp[Fence.wide,Fence.inRound]at e,fun c cs _=>let ⟨v,w2,r,s⟩:=h c cs;⟨v,w2,r,stepsIn_wide.2 s⟩⟩
 |halt x w'=>cases x<;>simp only[Oper.upon,Oper.uponIn]at h ⊢;exact h
theorem wpOpIn_of(hd:noDefer ops=true)(hL:∀a w,¬Q .outgrown a w){i:Nat}{a:Act}{w:World}{K K':Act→World→Prop}(hK:∀a w,K a w→K' a w)(h:wpOp P ops Q i K a w):wpOpIn (Fence.wide.inRound l) n P ops Q i K' a w:=by
 unfold wpOp at h
 unfold wpOpIn
 cases hi:ops[i]? with
 |none=>simp only[hi]at h;exact hK _ _ h
 |some o=>
  simp only[hi]at h ⊢
  by_cases hw:Region.wanted o (yielded ops a.tmps)=true
  ·rw[if_pos hw]at h ⊢
   rcases h with h| ⟨-,a',w',h⟩
   ·exact Oper.wpIn_mono hK (opIn_of (noDefer_at hd hi) h)
   ·exact absurd h (hL a' w')
  ·rw[if_neg hw]at h ⊢
   exact⟨fun _ _=>trivial,hK _ _ h⟩
theorem anyIn_of(hd:noDefer ops=true)(hL:∀a w,¬Q .outgrown a w):∀(f:Nat) (listed:Array Bool) (a:Act) (w:World),wpAny P md ops Q f listed a w→wpAnyIn (Fence.wide.inRound l) n P md ops Q f listed a w
 |0,_,_,_,h=>h
 |f+1,_,_,_,h=>⟨h.1,fun i hi=>wpOpIn_of hd hL (fun a w h=>anyIn_of hd hL f _ a w h) (h.2 i hi)⟩
theorem AnyX.startIn{id:Nat}{a:Act}{w:World}(hm:P.follows .mixedOrders=true)(hd:noDefer ops=true)(hL:∀a w,¬Q .outgrown a w)(h:AnyX P .any ops Q S t ops.size (Array.replicate ops.size false) a w.drew):(Code.region id ops true).wpIn (Fence.wide.inRound l) n P Q a w:=
 wpIn_region_any hm (anyIn_of hd hL _ _ _ _ h.any)
end
section
variable {o:Oper} {a:Act} {w:World}
theorem wp_appI{K:Act→World→Prop}{Q:Exit→Act→World→Prop}(s x:Operand)
 (ho:o.op=.call { callee:=.builtin .append,args:=#[s,x],argTypes:=#[25,25] })
 (base:Nat) (v:Value) (l l':List Int) (A':Option Addr) (n m c':Nat) (hs:a.eval s=v) (hx:a.eval x=.slice A' m c') (h1:Stk w base v l) (hn:l.length=n) (h2:Is w w.heap.size (.slice A' m c') l') (hsz:n+m≤10000000000) (hbase:base≤w.heap.size)
 (h:∀A2 c2 w',Stk w' base (.slice A2 (n+m) c2) (l++l')→w.grownBy w' v.ownBlock→((Value.slice A2 (n+m) c2).ownBlock=v.ownBlock∨(Value.slice A2 (n+m) c2).ownBlock=some w.heap.size)→K (a.put o.dst (.slice A2 (n+m) c2)) w'):Oper.wp Tryd.prog o a w K Q:=by
 subst hn
 obtain⟨i1,hi1,hz0,hz1,hz2⟩:=info_parts info_int
 obtain⟨A9,b,oo,c9,e,hA,-,hmx,hc⟩:=h2.opens
 simp only[Value.slice.injEq]at e
 obtain⟨rfl,hml,rfl⟩:=e
 by_cases h0:m=0
 ·subst h0
  obtain rfl:l'=[]:=List.eq_nil_of_length_eq_zero hml.symm
  obtain⟨A2,c2,rfl,hle,-,-⟩:=h1.form
  have hsr:Src Tryd.prog i1.size 25 (.slice A' 0 c') 0 [] w:=by
   cases A' with
   |none=>exact Src.ofNil w Tryd.underlying25 c'
   |some a=>exact Src.ofSlice w Tryd.underlying25 a 0 c' [] (by simp) (fun j u h=>by simp at h) (fun u h=>by cases h)
  have hr:=run_append_nothing w _ _ o.type _ i1 Tryd.underlying25 hi1 A2 l.length c2 hle _ hsr
  unfold Oper.wp execOp
  simp only[ho,resolve,invoke,builtin,Sem.run_bind,Sem.run_pure,Result.andThen_ok,List.map_toArray,List.map_cons,List.map_nil,hs,hx,hr]
  have:=h A2 c2 w (by rw[List.append_nil];exact h1) ⟨rfl,rfl,rfl,Nat.le_refl _,fun _ _ _=>rfl⟩ (.inl rfl)
  rwa [Nat.add_zero]at this
 ·obtain rfl:=hA (by omega)
  refine wp_append_lies w s x 25 ho base 3 i1 (.int .i64 0) 1 8 Tryd.underlying25 hi1 hz0 hz1 hz2 rfl (by decide) v l.length (l.map (Value.int .i64)) hs h1 ⟨b,oo,none⟩ m c' (l'.map (Value.int .i64)) hx (by rw[List.length_map,Nat.mul_one];exact hml.symm) (fun j u hu=>?_) (ints_oneCell .i64 l') (by omega) (by unfold maxLen;omega) (by omega) hbase _ rfl fun g cap w' g1 g2 g3 _=>?_
  ·have hj:j<l'.length:=by
    have:=(List.getElem?_eq_some_iff.1 hu).1
    rwa [List.length_map]at this
   rw[List.getElem?_map,List.getElem?_eq_getElem hj]at hu
   have:=(hc j (by omega)).2
   rw[List.getD_eq_getElem?_getD,List.getElem?_eq_getElem hj]at this
   rw[←Option.some.inj hu]
   have e:(⟨b,oo,none⟩:Addr).add j=⟨b,oo+j,none⟩:=by unfold Addr.add;split<;>simp_all
   rw[e]
   simpa using this
  ·refine h _ cap w' ?_ g2 (g3.imp (fun e=>e.symm) (fun e=>by rw[e];rfl))
   unfold Stk
   rw[List.length_append,List.map_append,←hml]
   exact g1
theorem wpList_appI{ops:Array Oper}{rest:List Oper}{Q:Exit→Act→World→Prop}(hgd:o.guard=none)(s x:Operand)
 (ho:o.op=.call { callee:=.builtin .append,args:=#[s,x],argTypes:=#[25,25] })
 (base:Nat) (v:Value) (l l':List Int) (A':Option Addr) (n m c':Nat) (hs:a.eval s=v) (hx:a.eval x=.slice A' m c') (h1:Stk w base v l) (hn:l.length=n) (h2:Is w w.heap.size (.slice A' m c') l') (hsz:n+m≤10000000000) (hbase:base≤w.heap.size)
 (h:∀A2 c2 w',Stk w' base (.slice A2 (n+m) c2) (l++l')→w.grownBy w' v.ownBlock→((Value.slice A2 (n+m) c2).ownBlock=v.ownBlock∨(Value.slice A2 (n+m) c2).ownBlock=some w.heap.size)→wpList Tryd.prog ops Q rest (a.put o.dst (.slice A2 (n+m) c2)) w'):wpList Tryd.prog ops Q (o::rest) a w:=
 wpList_plain hgd fun _ hK=>wp_appI s x ho base v l l' A' n m c' hs hx h1 hn h2 hsz hbase fun A2 c2 w' e1 e2 e3=>hK _ _ (h A2 c2 w' e1 e2 e3)
theorem step_appI{ops:Array Oper}{K:Act→World→Prop}{Q:Exit→Act→World→Prop}{E:Prop}(hgd:o.guard=none)(s x:Operand)
 (ho:o.op=.call { callee:=.builtin .append,args:=#[s,x],argTypes:=#[25,25] })
 (base:Nat) (v:Value) (l l':List Int) (A':Option Addr) (n m c':Nat) (hs:a.eval s=v) (hx:a.eval x=.slice A' m c') (h1:Stk w base v l) (hn:l.length=n) (h2:Is w w.heap.size (.slice A' m c') l') (hsz:n+m≤10000000000) (hbase:base≤w.heap.size)
 (h:∀A2 c2 w',Stk w' base (.slice A2 (n+m) c2) (l++l')→w.grownBy w' v.ownBlock→((Value.slice A2 (n+m) c2).ownBlock=v.ownBlock∨(Value.slice A2 (n+m) c2).ownBlock=some w.heap.size)→K (a.put o.dst (.slice A2 (n+m) c2)) w'):if Region.wanted o (yielded ops a.tmps)=true then Oper.wp Tryd.prog o a w K Q else E:=by
 have hw:Region.wanted o (yielded ops a.tmps)=true:=by simp[Region.wanted,hgd]
 rw[if_pos hw]
 exact wp_appI s x ho base v l l' A' n m c' hs hx h1 hn h2 hsz hbase h
end
set_option maxHeartbeats 4000000 in
theorem set5_any(g n:Nat)(R:List Bool)(w:World)(hR:BRow w g R)(hl:R.length=n)(hn:n≤1000000):
 Calls Tryd.prog 17 #[.slice (some ⟨g,0,none⟩) n n] w fun e w'=>∃A c,e=.returned (.slice A (memB R n).length c)∧Is w' w'.heap.size (.slice A (memB R n).length c) (memB R n)∧BelW w w':=by
 obtain⟨i1,hi1,hz0,hz1,hz2⟩:=info_parts info_int
 have HI:=Lib.hid (And.intro hi1 (And.intro hz0 (And.intro hz1 hz2)))
 have HR:=Lib.hid hR
 clear hi1 hz0 hz1 hz2 hR
 go_enter Tryd.func17,Tryd.ntmps17
 go_wp2
 go_loopw [3,4] (fun sv i wr=>∃k:Nat,k≤n∧i=.int .i64 k∧Below w.heap.size w wr∧w.heap.size≤wr.heap.size∧Stk wr w.heap.size sv (memB R k)) (fun _ i _=>n-(intOf i).toNat)
 case atStart=>exact⟨0,Nat.zero_le _,rfl,Below.refl _ _,Nat.le_refl _,Stk.nil _ _⟩
 case round=>
  obtain⟨k,hk,rfl,hb,hg,hst⟩:=hrel
  obtain⟨A6,c6,rfl,hle6,hc6,hsh⟩:=hst.shape
  have hol:=memB_len R k
  by_cases hlt:k<n
  ·have hk2:(k:Int)<(n:Int):=by omega
   have hsu:=memB_succ R k
   obtain⟨t,HT⟩:=named (bat R k)
   have x0:wr.cell? ⟨g,k,none⟩=some (.bool t):=(HR.out.below hb).cell (by rw[HT.out,List.getElem?_eq_getElem (by omega)];unfold bat;rw[List.getD_eq_getElem?_getD,List.getElem?_eq_getElem (by omega)];rfl)
   rw[←HT.out]at hsu
   have HB:=Lib.hid hb
   have HST:=Lib.hid hst
   clear hst hb HT
   obtain⟨L,HL⟩:=named (memB R k)
   rw[←HL.out]at hsu HST hol hle6 hsh
   rw[←HL.out]
   cases t
   ·rw[if_neg (by decide),List.append_nil]at hsu
    have HSU:=Lib.hid hsu
    clear hsu hsh
    go_wp2
    go_roundw
    case rel=>exact⟨k+1,by omega,by go_num,HB.out,hg,by rw[HSU.out];exact HST.out⟩
    case measure=>simp[intOf];omega
   ·rw[if_pos rfl]at hsu
    have HSU:=Lib.hid hsu
    clear hsu hsh
    go_wp2_with (at_builtin;refine wpList_append_own_at _ rfl _ _ 25 rfl w.heap.size 3 i1 (.int .i64 0) 1 8 Tryd.underlying25 HI.out.1 HI.out.2.1 HI.out.2.2.1 HI.out.2.2.2 rfl (by decide) _ _ _ rfl (World.ownsRow.alloc HST.out _) ⟨wr.heap.size,0,none⟩ 1 1 [.int .i64 (k:Int)] rfl rfl (by have:=one_new wr (.int .i64 (k:Int)) 3;simpa using this) (ints_oneCell .i64 [(k:Int)]) (by unfold maxLen;omega) (by omega) (by simp;omega) ?_;intro v' w2 hown' hgrow hnil hloc;have HF:=Lib.hid (push_own hg HB.out HST.out hown' hgrow);have HZ:=Lib.hid hgrow.size;clear hown' hgrow hnil hloc)
    go_roundw
    case rel=>
     refine⟨k+1,by omega,by go_num,HF.out.1,by have:=HZ.out;simp at this;omega,?_⟩
     rw[HSU.out];exact HF.out.2
    case measure=>simp[intOf];omega
  ·obtain rfl:n=k:=by omega
   have hr:=hst.reads c6 hle6 (by unfold maxLen;omega)
   have HRD:=Lib.hid hr
   have HB:=Lib.hid hb
   obtain⟨L,HL⟩:=named (memB R n)
   rw[←HL.out]at HRD
   rw[←HL.out]
   clear hr hb hst hsh hle6
   go_wp2
   go_ret
   rw[←HL.out]
   exact⟨A6,c6,rfl,HRD.out,HB.out⟩
attribute [local go_sem] Oper.semAt_some
set_option maxRecDepth 100000 in
set_option maxHeartbeats 2000000 in
theorem back_in(F:Fence)(n:Nat)(h73:F.fn 59)(hro:F.round=none)(hn:1≤n)(l Bs B gx b off len cap:Nat)(A:Option Addr)(xs:List Int)(hlen:len≤1000000000)(hA:0<len→A=some ⟨b,off,none⟩)(hb:0<len→b<B∧b≠gx)(hbs:Bs<B∧Bs≠gx)(J:Nat→World→Prop)
 (hY:∀(k j:Nat) (W:World),len=k+1+j→J k W→YieldAt F (n-1) Tryd.prog l #[.int .i64 (j:Int),.int .i64 (xs.getD j 0)] W fun e W'=>e=.returned (.bool true)∧J (k+1) W'∧Kx B gx W W')
 (W:World) (hBs:W.cell? ⟨Bs,0,none⟩=some (.slice A len cap)) (hc:∀j,j<len→W.cell? ⟨b,off+j,none⟩=some (.int .i64 (xs.getD j 0))) (h0:J 0 W):
 CallsIn F n Tryd.prog 59 #[.func (.yield l) #[] #[],.pointer (some ⟨Bs,0,none⟩)] W fun e W'=>(∃v,e=.returned v)∧J len W':=by
 refine callsIn_of_wp Tryd.func59 rfl h73 ?_ hro
 simp only[Tryd.ntmps59,List.size_toArray,List.length_cons,List.length_nil,Nat.reduceAdd,Nat.reduceSub,Array.replicate_succ,Array.replicate_zero,List.push_toArray,List.append_toArray,List.nil_append,List.cons_append]
 gi_wp2
 gi_loopw [3] (fun i wr=>∃k:Nat,k≤len∧i=.int .i64 ((len:Int)-1-(k:Int))∧J k wr∧Kx B gx W wr) (fun i _=>(intOf i+1).toNat)
 case atStart=>exact⟨0,Nat.zero_le _,by go_num,h0,Kx.refl _ _ _⟩
 case round=>
  obtain⟨k,hk,rfl,hJs,hnx⟩:=hrel
  by_cases hlt:k<len
  ·obtain⟨j,hj⟩:∃j,len=k+1+j:=⟨len-k-1,by omega⟩
   have e1:(len:Int)-1-(k:Int)=(j:Int):=by omega
   have e2:(len:Int)-1-((k+1:Nat):Int)=(j:Int)-1:=by omega
   have hjl:j<len:=by omega
   have hj2:(j:Int)<(len:Int):=by omega
   have hj3:(0:Int)≤(j:Int):=by omega
   obtain rfl:=hA (by omega)
   have hx0:wr.cell? ⟨Bs,0,none⟩=some (.slice (some ⟨b,off,none⟩) len cap):=(hnx.cell (p:=⟨Bs,0,none⟩) hbs.1 hbs.2).trans hBs
   have hx1:wr.cell? ⟨b,off+j,none⟩=some (.int .i64 (xs.getD j 0)):=(hnx.cell (p:=⟨b,off+j,none⟩) (hb (by omega)).1 (hb (by omega)).2).trans (hc j hjl)
   have HY:=Lib.hid (hY k j wr hj hJs)
   have HE2:=Lib.hid e2
   obtain⟨x,HX⟩:=named (xs.getD j 0)
   rw[←HX.out]at hx1 HY
   obtain⟨fn,tmps,assign,body,hy,hR⟩:=HY.out
   rw[e1]
   clear hc hBs h0 hY HX HY e1 e2 hj
   gi_wp2
   refine hR.mono ?_
   rintro e W3 ⟨rfl,hJ3,hk3⟩
   gi_wp2
   go_roundw
   case rel=>exact⟨k+1,by omega,by rw[HE2.out],hJ3,hnx.trans hk3⟩
   case measure=>simp[intOf]
  ·obtain rfl:len=k:=by omega
   have e1:(len:Int)-1-(len:Int)= -1:=by omega
   rw[e1]
   gi_wp2
   go_end0
   exact⟨⟨_,rfl⟩,hJs⟩
def backL(xs:List Int):List (Nat×Int):=(List.range xs.length).reverse.map fun j=>(j,xs.getD j 0)
theorem backL_len(xs:List Int):(backL xs).length=xs.length:=by simp[backL]
theorem backL_at(xs:List Int){k j:Nat}(h:xs.length=k+1+j):(backL xs)[k]? =some (j,xs.getD j 0):=by
 unfold backL
 rw[List.getElem?_map,List.getElem?_reverse (by simp;omega),List.length_range,show xs.length-1-k=j by omega,List.getElem?_range (by omega)]
 rfl
theorem back_seq(F:Fence)(n:Nat)(h73:F.fn 59)(hro:F.round=none)(hn:1≤n)(Bs B gx:Nat)(A:Option Addr)(b off cap:Nat)(xs:List Int)(w:World)(hA:0<xs.length→A=some ⟨b,off,none⟩)(hb:0<xs.length→b<B∧b≠gx)(hc:∀j,j<xs.length→w.cell? ⟨b,off+j,none⟩=some (.int .i64 (xs.getD j 0)))(hx:xs.length≤1000000)(hB:B≤w.heap.size)(hbs:Bs<B∧Bs≠gx)(hBs:w.cell? ⟨Bs,0,none⟩=some (.slice A xs.length cap)):
 SeqAll F n Tryd.prog 59 #[.pointer (some ⟨Bs,0,none⟩)] (fun p:Nat×Int=>#[.int .i64 (p.1:Int),.int .i64 p.2]) B gx (backL xs) w:=by
 intro l J W hbe hY h0
 rw[backL_len]
 exact back_in F n h73 hro hn l Bs B gx b off xs.length cap A xs (by omega) hA hb hbs J
  (fun k j V hk hJ=>hY k (j,xs.getD j 0) V (backL_at xs hk) hJ) W ((hbe.cell (p:=⟨Bs,0,none⟩) (by have:=hbs.1;show Bs<_;omega)).trans hBs)
  (fun j hj=>(hbe.cell (p:=⟨b,off+j,none⟩) (by have:=(hb (by omega)).1;show b<_;omega)).trans (hc j hj)) h0
set_option maxHeartbeats 1000000 in
theorem backward_any(A:Option Addr)(n c:Nat)(w:World):
 Calls Tryd.prog 36 #[.slice A n c] w fun e w'=>e=.returned (.func (.func 59) #[] #[.pointer (some ⟨w.heap.size,0,none⟩)])∧w'.cell? ⟨w.heap.size,0,none⟩=some (.slice A n c)∧w.heap.size<w'.heap.size∧BelW w w':=by
 go_enter Tryd.func36,Tryd.ntmps36
 go_wp2
 go_ret
 have hf:Fr (w.alloc (.cells #[.slice A n c] 25)) w.heap.size 25 [.slice A n c]:=Fr.made _ _ _ rfl
 exact⟨rfl,hf.cell 0,by simp,below_new (Below.refl _ _) _⟩
theorem cir_len{c:Ck}{A0 A1 A2 A3:Option Addr}{n n1 n2 n3 c0 c1 c2 c3 B:Nat}{w:World}(h:Cir w B (.agg #[.slice A0 n c0,.slice A1 n1 c1,.slice A2 n2 c2,.slice A3 n3 c3]) c):c.nodes.length=n:=by
 obtain⟨v0,v1,v2,v3,e,h0,-⟩:=id h
 simp only[Value.agg.injEq,Array.mk.injEq,List.cons.injEq,and_true]at e
 obtain⟨rfl,-⟩:=e
 obtain⟨_,_,_,_,g0,-⟩:=h0
 simp only[Value.slice.injEq]at g0
 exact g0.2.1.symm
def ConePost(nx:Nat→List Int)(n:Nat)(l:List Int)(w:World)(e:Ending)(w':World):Prop:=
 ∃A R,Vis nx n (List.replicate n false) l R∧e=.returned (.tuple #[.slice A (memB R n).length (memB R n).length,.int .i64 0])∧Is w' w'.heap.size (.slice A (memB R n).length (memB R n).length) (memB R n)∧BelW w w'
set_option maxRecDepth 100000 in
set_option maxHeartbeats 4000000 in
theorem fanin_bad(c:Ck)(l:List Int)(s:Value)(A0 A1 A2 A3:Option Addr)(n n1 n2 n3 c0 c1 c2 c3:Nat)(w:World)(hT:Tabs w)(hc:Cir w w.heap.size (.agg #[.slice A0 n c0,.slice A1 n1 c1,.slice A2 n2 c2,.slice A3 n3 c3]) c)(hs:Is w w.heap.size s l)(hz:ckI c l≠0):
 Calls Tryd.prog 9 #[.agg #[.slice A0 n c0,.slice A1 n1 c1,.slice A2 n2 c2,.slice A3 n3 c3],s] w fun e w'=>e=.returned (.tuple #[.slice none 0 0,.int .i64 (ckI c l)])∧BelW w w':=by
 obtain⟨W1,HW1⟩:=named (w.alloc (.cells #[.slice A0 n c0,.slice A1 n1 c1,.slice A2 n2 c2,.slice A3 n3 c3] 27))
 have hb1:BelW w W1:=by rw[HW1.out];exact below_new (Below.refl _ _) _
 have hf:Fr W1 w.heap.size 27 [.slice A0 n c0,.slice A1 n1 c1,.slice A2 n2 c2,.slice A3 n3 c3]:=by rw[HW1.out];exact Fr.made _ _ _ rfl
 have HC1:Hid (Cir W1 W1.heap.size (.agg #[.slice A0 n c0,.slice A1 n1 c1,.slice A2 n2 c2,.slice A3 n3 c3]) c):=Lib.hid ((hc.below hb1).more (Below.size hb1))
 have HS1:Hid (Is W1 W1.heap.size s l):=Lib.hid ((hs.below hb1).more (Below.size hb1))
 have HCK:=Lib.hid (check5_any c l s A0 A1 A2 A3 n n1 n2 n3 c0 c1 c2 c3 W1 (hT.below hb1) HC1.out HS1.out)
 obtain⟨r,HR⟩:=named (ckI c l)
 rw[←HR.out]at HCK hz
 rw[←HR.out]
 obtain⟨x0,x1,x2,x3⟩:_∧_∧_∧_:=⟨hf.cell 0,hf.cell 1,hf.cell 2,hf.cell 3⟩
 have HB1:=Lib.hid hb1
 have q0:(r != 0)=true:=by simpa using hz
 have q1:(r==0)=false:=by simpa using hz
 clear hb1 hf hc hs hT HR HS1 HC1 hz
 go_enter Tryd.func9,Tryd.ntmps9
 go_upto_region 1 with (fail)
 rw[←HW1.out]
 go_upto_region 2 with (go_at_call 25;(with_reducible refine HCK.out.mono ?_);rintro e w2 ⟨rfl,hb⟩;have HB2:=Lib.hid hb;clear hb x0 x1 x2 x3)
 go_wp2
 refine bodyPost_ret (results_tmp2 rfl _ _ _) rfl ?_
 exact⟨rfl,joinB HB1.out HB2.out⟩
set_option maxRecDepth 100000 in
set_option maxHeartbeats 4000000 in
theorem fanin_ok(c:Ck)(l:List Int)(s:Value)(A0 A1 A2 A3:Option Addr)(n n1 n2 n3 c0 c1 c2 c3:Nat)(w:World)(hT:Tabs w)(hc:Cir w w.heap.size (.agg #[.slice A0 n c0,.slice A1 n1 c1,.slice A2 n2 c2,.slice A3 n3 c3]) c)(hs:Is w w.heap.size s l)(hz:ckI c l=0)(hl:Inr n l)(hin:∀j:Nat,Inr n ((fun j=>dep c.nodes (j:Int)) j))(hsz:n≤1000000):
 Calls Tryd.prog 9 #[.agg #[.slice A0 n c0,.slice A1 n1 c1,.slice A2 n2 c2,.slice A3 n3 c3],s] w (ConePost (fun j=>dep c.nodes (j:Int)) n l w):=by
 have hn:=cir_len hc
 obtain⟨W1,HW1⟩:=named (w.alloc (.cells #[.slice A0 n c0,.slice A1 n1 c1,.slice A2 n2 c2,.slice A3 n3 c3] 27))
 have hb1:BelW w W1:=by rw[HW1.out];exact below_new (Below.refl _ _) _
 have hf:Fr W1 w.heap.size 27 [.slice A0 n c0,.slice A1 n1 c1,.slice A2 n2 c2,.slice A3 n3 c3]:=by rw[HW1.out];exact Fr.made _ _ _ rfl
 have HC1:Hid (Cir W1 W1.heap.size (.agg #[.slice A0 n c0,.slice A1 n1 c1,.slice A2 n2 c2,.slice A3 n3 c3]) c):=Lib.hid ((hc.below hb1).more (Below.size hb1))
 have HS1:Hid (Is W1 W1.heap.size s l):=Lib.hid ((hs.below hb1).more (Below.size hb1))
 have HCK:=Lib.hid (check5_any c l s A0 A1 A2 A3 n n1 n2 n3 c0 c1 c2 c3 W1 (hT.below hb1) HC1.out HS1.out)
 rw[hz]at HCK
 have HDR:=Lib.hid (fun W (h:BelW W1 W)=>drivers_any c _ W ((HC1.out.below h).more (Below.size h)) (by rw[hn];exact hsz))
 rw[hn]at HDR
 have HRE:=Lib.hid (fun g W (h:BelW W1 W) (hx:NxR W W.heap.size g 0 n (fun j=>dep c.nodes (j:Int)))=>reach_any l s g 0 n n (fun j=>dep c.nodes (j:Int)) W ((HS1.out.below h).more (Below.size h)) hl hx hin hsz)
 have HMB:=Lib.hid (fun W g R (h:BRow W g R) (hR:R.length=n)=>members_any g n R W h hR hsz)
 have hf1:=hf
 have HF:=Lib.hid hf1
 obtain⟨x0,x1,x2,x3⟩:_∧_∧_∧_:=⟨hf.cell 0,hf.cell 1,hf.cell 2,hf.cell 3⟩
 have HB1:=Lib.hid hb1
 clear hb1 hf hf1 hc hs hT HS1 HC1 hl hin
 go_enter Tryd.func9,Tryd.ntmps9
 go_upto_region 1 with (fail)
 rw[←HW1.out]
 go_upto_region 2 with (go_at_call 25;(with_reducible refine HCK.out.mono ?_);rintro e w2 ⟨rfl,hb⟩;have HB2:=Lib.hid hb;have hf2:=HF.out.below hb;clear hb x0 x1 x2 x3)
 obtain⟨x0,x1,x2,x3⟩:_∧_∧_∧_:=⟨hf2.cell 0,hf2.cell 1,hf2.cell 2,hf2.cell 3⟩
 clear hf2
 go_wp2_with (first
  |(go_at_call 28;(with_reducible refine (HDR.out w2 HB2.out).mono ?_);rintro e w3 ⟨g,rfl,h1,h2⟩;have HX:=Lib.hid h1;have HB3:Hid (BelW W1 w3):=Lib.hid (joinB HB2.out h2);clear h1 h2 x0 x1 x2 x3)
  |(go_at_call 27;go_loud ((with_reducible refine (HRE.out g w3 HB3.out HX.out).mono ?_);rintro e w4 ⟨g2,R,rfl,h1,h2,h3⟩;have HBR:=Lib.hid h1;have HV:=Lib.hid h2;have HB4:=Lib.hid h3;clear h1 h2 h3))
  |(go_at_call 26;(with_reducible refine (HMB.out w4 g2 R HBR.out (by exact HV.out.len)).mono ?_);rintro e w5 ⟨A,rfl,h1,h2⟩;have H1:=Lib.hid h1;have HB5:=Lib.hid h2;clear h1 h2))
 refine bodyPost_ret (results_tmp2 rfl _ _ _) rfl ?_
 exact⟨A,R,HV.out,rfl,H1.out,joinB HB1.out (joinB HB3.out (joinB HB4.out HB5.out))⟩
set_option maxRecDepth 100000 in
set_option maxHeartbeats 4000000 in
theorem fanout_bad(c:Ck)(l:List Int)(s:Value)(A0 A1 A2 A3:Option Addr)(n n1 n2 n3 c0 c1 c2 c3:Nat)(w:World)(hT:Tabs w)(hc:Cir w w.heap.size (.agg #[.slice A0 n c0,.slice A1 n1 c1,.slice A2 n2 c2,.slice A3 n3 c3]) c)(hs:Is w w.heap.size s l)(hz:ckI c l≠0):
 Calls Tryd.prog 10 #[.agg #[.slice A0 n c0,.slice A1 n1 c1,.slice A2 n2 c2,.slice A3 n3 c3],s] w fun e w'=>e=.returned (.tuple #[.slice none 0 0,.int .i64 (ckI c l)])∧BelW w w':=by
 obtain⟨W1,HW1⟩:=named (w.alloc (.cells #[.slice A0 n c0,.slice A1 n1 c1,.slice A2 n2 c2,.slice A3 n3 c3] 27))
 have hb1:BelW w W1:=by rw[HW1.out];exact below_new (Below.refl _ _) _
 have hf:Fr W1 w.heap.size 27 [.slice A0 n c0,.slice A1 n1 c1,.slice A2 n2 c2,.slice A3 n3 c3]:=by rw[HW1.out];exact Fr.made _ _ _ rfl
 have HC1:Hid (Cir W1 W1.heap.size (.agg #[.slice A0 n c0,.slice A1 n1 c1,.slice A2 n2 c2,.slice A3 n3 c3]) c):=Lib.hid ((hc.below hb1).more (Below.size hb1))
 have HS1:Hid (Is W1 W1.heap.size s l):=Lib.hid ((hs.below hb1).more (Below.size hb1))
 have HCK:=Lib.hid (check5_any c l s A0 A1 A2 A3 n n1 n2 n3 c0 c1 c2 c3 W1 (hT.below hb1) HC1.out HS1.out)
 obtain⟨r,HR⟩:=named (ckI c l)
 rw[←HR.out]at HCK hz
 rw[←HR.out]
 obtain⟨x0,x1,x2,x3⟩:_∧_∧_∧_:=⟨hf.cell 0,hf.cell 1,hf.cell 2,hf.cell 3⟩
 have HB1:=Lib.hid hb1
 have q0:(r != 0)=true:=by simpa using hz
 have q1:(r==0)=false:=by simpa using hz
 clear hb1 hf hc hs hT HR HS1 HC1 hz
 go_enter Tryd.func10,Tryd.ntmps10
 go_upto_region 1 with (fail)
 rw[←HW1.out]
 go_upto_region 2 with (go_at_call 25;(with_reducible refine HCK.out.mono ?_);rintro e w2 ⟨rfl,hb⟩;have HB2:=Lib.hid hb;clear hb x0 x1 x2 x3)
 go_wp2
 refine bodyPost_ret (results_tmp2 rfl _ _ _) rfl ?_
 exact⟨rfl,joinB HB1.out HB2.out⟩
set_option maxRecDepth 100000 in
set_option maxHeartbeats 4000000 in
theorem fanout_ok(c:Ck)(l:List Int)(s:Value)(A0 A1 A2 A3:Option Addr)(n n1 n2 n3 c0 c1 c2 c3:Nat)(w:World)(hT:Tabs w)(hc:Cir w w.heap.size (.agg #[.slice A0 n c0,.slice A1 n1 c1,.slice A2 n2 c2,.slice A3 n3 c3]) c)(hs:Is w w.heap.size s l)(hz:ckI c l=0)(hl:Inr n l)(hin:∀j:Nat,Inr n ((rdL c.nodes) j))(hsz:n≤1000000)(hpz:(nodP c.nodes c.nodes.length).length≤100000000):
 Calls Tryd.prog 10 #[.agg #[.slice A0 n c0,.slice A1 n1 c1,.slice A2 n2 c2,.slice A3 n3 c3],s] w (ConePost (rdL c.nodes) n l w):=by
 have hn:=cir_len hc
 obtain⟨W1,HW1⟩:=named (w.alloc (.cells #[.slice A0 n c0,.slice A1 n1 c1,.slice A2 n2 c2,.slice A3 n3 c3] 27))
 have hb1:BelW w W1:=by rw[HW1.out];exact below_new (Below.refl _ _) _
 have hf:Fr W1 w.heap.size 27 [.slice A0 n c0,.slice A1 n1 c1,.slice A2 n2 c2,.slice A3 n3 c3]:=by rw[HW1.out];exact Fr.made _ _ _ rfl
 have HC1:Hid (Cir W1 W1.heap.size (.agg #[.slice A0 n c0,.slice A1 n1 c1,.slice A2 n2 c2,.slice A3 n3 c3]) c):=Lib.hid ((hc.below hb1).more (Below.size hb1))
 have HS1:Hid (Is W1 W1.heap.size s l):=Lib.hid ((hs.below hb1).more (Below.size hb1))
 have HCK:=Lib.hid (check5_any c l s A0 A1 A2 A3 n n1 n2 n3 c0 c1 c2 c3 W1 (hT.below hb1) HC1.out HS1.out)
 rw[hz]at HCK
 have HDR:=Lib.hid (fun W (h:BelW W1 W)=>readers_any c _ W ((HC1.out.below h).more (Below.size h)) (by rw[hn];exact hsz) hpz)
 rw[hn]at HDR
 have HRE:=Lib.hid (fun g W (h:BelW W1 W) (hx:NxR W W.heap.size g 0 n (rdL c.nodes))=>reach_any l s g 0 n n (rdL c.nodes) W ((HS1.out.below h).more (Below.size h)) hl hx hin hsz)
 have HMB:=Lib.hid (fun W g R (h:BRow W g R) (hR:R.length=n)=>members_any g n R W h hR hsz)
 have hf1:=hf
 have HF:=Lib.hid hf1
 obtain⟨x0,x1,x2,x3⟩:_∧_∧_∧_:=⟨hf.cell 0,hf.cell 1,hf.cell 2,hf.cell 3⟩
 have HB1:=Lib.hid hb1
 clear hb1 hf hf1 hc hs hT HS1 HC1 hl hin
 go_enter Tryd.func10,Tryd.ntmps10
 go_upto_region 1 with (fail)
 rw[←HW1.out]
 go_upto_region 2 with (go_at_call 25;(with_reducible refine HCK.out.mono ?_);rintro e w2 ⟨rfl,hb⟩;have HB2:=Lib.hid hb;have hf2:=HF.out.below hb;clear hb x0 x1 x2 x3)
 obtain⟨x0,x1,x2,x3⟩:_∧_∧_∧_:=⟨hf2.cell 0,hf2.cell 1,hf2.cell 2,hf2.cell 3⟩
 clear hf2
 go_wp2_with (first
  |(go_at_call 29;(with_reducible refine (HDR.out w2 HB2.out).mono ?_);rintro e w3 ⟨g,rfl,h1,h2⟩;have HX:=Lib.hid h1;have HB3:Hid (BelW W1 w3):=Lib.hid (joinB HB2.out h2);clear h1 h2 x0 x1 x2 x3)
  |(go_at_call 27;go_loud ((with_reducible refine (HRE.out g w3 HB3.out HX.out).mono ?_);rintro e w4 ⟨g2,R,rfl,h1,h2,h3⟩;have HBR:=Lib.hid h1;have HV:=Lib.hid h2;have HB4:=Lib.hid h3;clear h1 h2 h3))
  |(go_at_call 26;(with_reducible refine (HMB.out w4 g2 R HBR.out (by exact HV.out.len)).mono ?_);rintro e w5 ⟨A,rfl,h1,h2⟩;have H1:=Lib.hid h1;have HB5:=Lib.hid h2;clear h1 h2))
 refine bodyPost_ret (results_tmp2 rfl _ _ _) rfl ?_
 exact⟨A,R,HV.out,rfl,H1.out,joinB HB1.out (joinB HB3.out (joinB HB4.out HB5.out))⟩
def RegP(st:List Int)(n:Nat)(w:World)(e:Ending)(w':World):Prop:=∃A cc,e=.returned (.tuple #[.slice A n cc,.int .i64 0])∧Is w' w'.heap.size (.slice A n cc) st∧BelW w w'
theorem stem1_any(A:Option Addr)(n cc i q:Nat)(st:List Int)(W:World)(B:Nat)(hs:Is W B (.slice A n cc) st)(hi:i<n)(hn:n≤1000000)(hq:W.cell? ⟨q,0,none⟩=some (.slice A n cc)):
 Calls Tryd.prog 37 #[.int .i64 (i:Int),.pointer (some ⟨q,0,none⟩)] W fun e w'=>e=.returned (.bool (st.getD i 0==(i:Int)))∧w'=W:=by
 obtain⟨A',b,o,c',e,hA,-,-,hc⟩:=hs.opens
 simp only[Value.slice.injEq]at e
 obtain⟨rfl,hl,rfl⟩:=e
 obtain rfl:=hA (by omega)
 have hx:=(hc i (by omega)).2
 generalize st.getD i 0=x at hx ⊢
 have hi2:(i:Int)<(n:Int):=by omega
 obtain⟨t,HT⟩:∃t,(x==(i:Int))=t:=⟨_,rfl⟩
 clear hc hA hs
 go_enter Tryd.func37,Tryd.ntmps37
 rw[HT]
 cases t
 ·go_wp2
  go_ret
  exact⟨rfl,rfl⟩
 ·go_wp2
  go_ret
  exact⟨rfl,rfl⟩
set_option maxHeartbeats 4000000 in
theorem stems_ok(A0 A1 A2 A3:Option Addr)(n n1 n2 n3 c0 c1 c2 c3:Nat)(st:List Int)(w:World)(hn:n≤1000000)(hR:∀W,BelW w W→Calls Tryd.prog 13 #[.agg #[.slice A0 n c0,.slice A1 n1 c1,.slice A2 n2 c2,.slice A3 n3 c3]] W (RegP st n W)):
 Calls Tryd.prog 14 #[.agg #[.slice A0 n c0,.slice A1 n1 c1,.slice A2 n2 c2,.slice A3 n3 c3]] w fun e w'=>∃A,e=.returned (.tuple #[.slice A (nwL (fun i=>st.getD i 0==(i:Int)) n).length (nwL (fun i=>st.getD i 0==(i:Int)) n).length,.int .i64 0])∧Is w' w'.heap.size (.slice A (nwL (fun i=>st.getD i 0==(i:Int)) n).length (nwL (fun i=>st.getD i 0==(i:Int)) n).length) (nwL (fun i=>st.getD i 0==(i:Int)) n)∧BelW w w':=by
 obtain⟨W1,HW1⟩:=named (w.alloc (.cells #[.slice A0 n c0,.slice A1 n1 c1,.slice A2 n2 c2,.slice A3 n3 c3] 27))
 have hb1:BelW w W1:=by rw[HW1.out];exact below_new (Below.refl _ _) _
 have hfr:Fr W1 w.heap.size 27 [.slice A0 n c0,.slice A1 n1 c1,.slice A2 n2 c2,.slice A3 n3 c3]:=by rw[HW1.out];exact Fr.made _ _ _ rfl
 obtain⟨NL,HNL⟩:=named (nwL (fun i=>st.getD i 0==(i:Int)) n)
 rw[←HNL.out]
 have HRG:=Lib.hid (hR W1 hb1)
 unfold RegP at HRG
 obtain⟨x0,x1,x2,x3⟩:_∧_∧_∧_:=⟨hfr.cell 0,hfr.cell 1,hfr.cell 2,hfr.cell 3⟩
 have HB1:=Lib.hid hb1
 clear hb1 hfr hR
 go_enter Tryd.func14,Tryd.ntmps14
 go_upto_region 1 with (fail)
 rw[←HW1.out]
 go_upto_region 2 with (go_at_call 13;(with_reducible refine HRG.out.mono ?_);rintro e w2 ⟨A,cc,rfl,h1,h2⟩;have HI:=Lib.hid h1;have HB2:=Lib.hid h2;clear h1 h2 x0 x1 x2 x3)
 obtain⟨W3,HW3⟩:=named (w2.alloc (.cells #[.slice A n cc] 25))
 have hb3:BelW w2 W3:=by rw[HW3.out];exact below_new (Below.refl _ _) _
 have hf3:Fr W3 w2.heap.size 25 [.slice A n cc]:=by rw[HW3.out];exact Fr.made _ _ _ rfl
 obtain⟨q,HQ⟩:=named w2.heap.size
 rw[←HQ.out]at hf3
 have HQ2:=Lib.hid HQ.out
 have HIW:=Lib.hid ((HI.out.below hb3).more (Below.size hb3))
 have HNW:=Lib.hid (nw_stem n (fun i=>st.getD i 0==(i:Int)) q W3 hn fun W h i hi=>stem1_any A n cc i q st W W.heap.size ((HIW.out.below h).more (Below.size h)) hi hn ((hf3.below h).cell 0))
 have y0:=hf3.cell 0
 have HB3:=Lib.hid hb3
 clear hb3 hf3
 rw[←HW3.out,←HQ2.out]
 rw[←HNL.out]at HNW
 unfold OfPost at HNW
 go_wp2_with (go_at_call 33;(with_reducible refine HNW.out.mono ?_);rintro e w4 ⟨A4,rfl,h1,h2⟩;have H1:=Lib.hid h1;have HB4:=Lib.hid h2;clear h1 h2)
 refine bodyPost_ret (results_tmp2 rfl _ _ _) rfl ?_
 exact⟨A4,rfl,H1.out,joinB HB1.out (joinB HB2.out (joinB HB3.out HB4.out))⟩
end Go.Proofs.YtjdjcaobkmpoeaaDoor
