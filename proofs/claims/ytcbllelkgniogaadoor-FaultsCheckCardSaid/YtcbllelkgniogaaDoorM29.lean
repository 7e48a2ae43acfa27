/- The texts Lcv Co9 Odf Or2 Bpl Irl Fct. -/
import Derived.Test.YtcbllelkgniogaaDoorM22
import Derived.Test.YtcbllelkgniogaaDoorM15
import Derived.Test.YtcbllelkgniogaaDoorM17
import Derived.Test.YtcbllelkgniogaaDoorM25
import Derived.Test.YtcbllelkgniogaaDoorM26
import Derived.Test.YtcbllelkgniogaaDoorM28
import Derived.Test.YtcbllelkgniogaaDoorM21
import Derived.Test.YtcbllelkgniogaaDoorM18
import Derived.Test.YtcbllelkgniogaaDoorM13
import Derived.Test.YtcbllelkgniogaaDoorM20
import Derived.Test.YtcbllelkgniogaaDoorM01
namespace Go.Proofs.YtcbllelkgniogaaDoor
open Go.RowKit
theorem ofc_any(x:Cx)(hx:Cok x)(sG sA:Value)(w:World)(B:Nat)(hB:B≤w.heap.size)(hG:Gs w B sG x.gates)(hA:Ks w B sA x.outs):
 Calls Tryd.prog 14 #[.agg #[.int .u8 x.inN,.int .u8 x.dffs,.int .u8 x.d0,.int .u8 x.d1,.bool x.bus,.bool x.mem,.int .u8 x.p0,.int .u8 x.p1,.int .u8 x.p2,.int .u8 x.p3,sG,sA]] w
  fun e w'=>(∃v,e=.returned v∧Cir w' w'.heap.size v (ofC x))∧Below w.heap.size w w':=by
 cases h:x.mem
 ·rw[←h];exact ofc_false x h hx sG sA w B hB hG hA
 ·rw[←h];exact ofc_true x h hx sG sA w B hB hG hA
theorem hi_le(k:Int):hi k≤16:=by
 unfold hi
 split
 ·decide
 ·have h:∀i:Fin 16,spansL.getD (2*i.val+1) 0≤16:=by decide
  exact h ⟨k.toNat,by omega⟩
theorem chk_shape{c:Ck}(h:chkErr c=0):shapeErr c=0:=by
 unfold chkErr at h
 by_cases e:shapeErr c=0
 ·exact e
 ·rw[if_pos e]at h;exact absurd h e
structure Vld(c:Ck)(L:List Int)(n:Nat):Prop where
 ok:chkErr c=0
 lvl:Lvl c.nodes L
 len:n=c.nodes.length
 few:n<20
section
variable {c:Ck} {L:List Int} {n:Nat}
theorem Vld.wf(V:Vld c L n):Wf c.nodes:=wf_of_shape (chk_shape V.ok)
theorem Vld.bnd(V:Vld c L n):∀i:Nat,i<n→0≤lat L i∧lat L i<(n:Int):=fun i hi=>by
 rw[V.len]at hi
 have h1:=V.lvl.nonneg hi
 have h2:=V.lvl.bound V.wf hi
 rw[←V.len]at h2
 exact⟨h1,h2⟩
theorem Vld.pins(V:Vld c L n):∀k,k<c.nodes.length→(c.nodes.getD k default).ins.length≤16:=fun k hk=>by
 have h:=(nodeErr_zero ((shape_zero (chk_shape V.ok)).2.2.2.2.1 _ (getD_mem_nd hk))).2.2.1
 have:=hi_le (c.nodes.getD k default).kind
 omega
variable {w w1 W:World} {q:Nat} {A0 A1 A2 A3:Option Addr} {n1 n2 n3 c0 c1 c2 c3:Nat}
end
structure G5(c:Ck)(n:Nat)(L:List Int):Prop where
 ok:chkErr c=0
 lvl:Lvl c.nodes L
 len:c.nodes.length=n
 few:n≤20
theorem g5_of{c:Ck}(h:chkErr c=0)(hf:c.nodes.length≤20):∃L,G5 c c.nodes.length L:=by
 have h2:=h
 unfold chkErr at h2
 rw[if_neg (fun e=>e (chk_shape h))]at h2
 split at h2
 ·rename_i hL
  obtain⟨L,hL⟩:=hL
  exact⟨L,h,hL,rfl,hf⟩
 ·exact absurd h2 (by decide)
section
variable {c:Ck} {n:Nat} {L:List Int}
theorem G5.wf(G:G5 c n L):Wf c.nodes:=wf_of_shape (chk_shape G.ok)
theorem G5.hl0(G:G5 c n L):∀j:Nat,j<n→0≤lat L j:=fun j hj=>G.lvl.nonneg (by rw[G.len];exact hj)
theorem G5.hl1(G:G5 c n L):∀j:Nat,j<n→lat L j<(n:Int):=fun j hj=>by
 have:=G.lvl.bound G.wf (i:=j) (by rw[G.len];exact hj)
 rwa [G.len]at this
theorem G5.bnd(G:G5 c n L):∀i:Nat,i<n→0≤lat L i∧lat L i<(n:Int):=fun i hi=>⟨G.hl0 i hi,G.hl1 i hi⟩
theorem G5.hl2(G:G5 c n L):∀x y:Nat,x<n→(y:Int)∈rdL c.nodes x→lat L x<lat L y:=fun x y _ hy=>by
 obtain⟨h1,h2,h3⟩:=mem_rdL.1 hy
 exact G.lvl.lt (i:=(y:Int)) h1 h2 h3
theorem G5.inr(G:G5 c n L):∀x:Int,Nod n x→Inr n (rdL c.nodes x.toNat):=fun x _=>by
 have:=rdL_inr c.nodes x.toNat
 rwa [G.len]at this
theorem G5.up(G:G5 c n L):∀x y:Int,Nod n x→y∈rdL c.nodes x.toNat→lat L x<lat L y:=fun x y hx hy=>by
 have h1:=(G.inr x hx) y hy
 have h2:=hx.1
 have h3:=hx.2
 have:=G.hl2 x.toNat y.toNat (by omega) (by rw[show ((y.toNat:Nat):Int)=y by omega];exact hy)
 rwa [show ((y.toNat:Nat):Int)=y by omega,show ((x.toNat:Nat):Int)=x by omega]at this
theorem G5.top(G:G5 c n L):∀y:Int,Nod n y→lat L y<(n:Int):=fun y hy=>by
 have h2:=hy.1
 have h3:=hy.2
 have:=G.hl1 y.toNat (by omega)
 rwa [show ((y.toNat:Nat):Int)=y by omega]at this
theorem G5.pins(G:G5 c n L):∀k,k<n→(c.nodes.getD k default).ins.length≤16:=fun k hk=>by
 have h:=(nodeErr_zero ((shape_zero (chk_shape G.ok)).2.2.2.2.1 _ (getD_mem_nd (by rw[G.len];exact hk)))).2.2.1
 have:=hi_le (c.nodes.getD k default).kind
 omega
theorem G5.depl(G:G5 c n L):∀i:Nat,i<n→(depsOf (c.nodes.getD i default)).length≤16:=fun i hi=>by
 unfold depsOf
 split
 ·exact G.pins i hi
 ·simp
theorem G5.deps(G:G5 c n L):∀i:Nat,i<n→(dep c.nodes (i:Int)).length≤16:=fun i hi=>by
 unfold dep
 rw[Int.toNat_natCast]
 exact G.depl i hi
end
def rdQ(c:Ck)(k:Nat):List Nat:=if (c.nodes.getD k default).kind=14 then [] else (c.nodes.getD k default).ins.map Int.toNat
theorem getD_toNat(R:List Int)(k:Nat):(R.map Int.toNat).getD k 0=(R.getD k 0).toNat:=by
 simp only[List.getD_eq_getElem?_getD,List.getElem?_map]
 cases R[k]? <;>rfl
theorem hi_out(k:Int)(h1:¬15<k)(h2:k≠14)(h3:cmb k=false):hi k=0:=by
 have h:k≤0∨k=15:=by
  simp only[cmb,Bool.and_eq_false_iff,decide_eq_false_iff_not]at h3
  omega
 unfold hi
 rw[if_neg h1]
 rcases h with h|rfl
 ·rw[show k.toNat=0 by omega];decide
 ·decide
section
variable {c:Ck} {n:Nat} {L:List Int}
theorem rdQ_in(G:G5 c n L){k:Nat}(hk:k<n){x:Nat}(h:x∈rdQ c k):x<n∧(x:Int)∈dep c.nodes (k:Int):=by
 unfold rdQ at h
 split at h
 ·cases h
 ·rename_i h14
  obtain⟨y,hy,rfl⟩:=List.mem_map.1 h
  have hkl:k<c.nodes.length:=by rw[G.len];exact hk
  have hr:=G.wf k hkl y hy
  rw[G.len]at hr
  rw[Int.toNat_of_nonneg hr.1]
  refine⟨by omega,?_⟩
  unfold dep depsOf
  rw[Int.toNat_natCast]
  have hz:=nodeErr_zero ((shape_zero (chk_shape G.ok)).2.2.2.2.1 _ (getD_mem_nd hkl))
  cases hc:cmb (c.nodes.getD k default).kind with
  |true=>rw[if_pos rfl];exact hy
  |false=>
   exfalso
   have h0:=hi_out _ hz.1 h14 hc
   have h1:=hz.2.2.1
   have h2:(c.nodes.getD k default).ins.length=0:=by omega
   rw[List.length_eq_zero_iff.1 h2]at hy
   cases hy
theorem ordF_of(G:G5 c n L){R:List Int}(h:Ord5 L n R):OrdF (rdQ c) n (R.map Int.toNat):=by
 have hg:∀j,j<n→(R.map Int.toNat).getD j 0<n∧(((R.map Int.toNat).getD j 0:Nat):Int)=R.getD j 0:=fun j hj=>by
  obtain⟨x,hx,e⟩:=h.rg j hj
  rw[getD_toNat,e]
  exact⟨by simpa using hx,by simp⟩
 refine⟨by rw[List.length_map];exact h.len,fun j hj=>(hg j hj).1,fun j k hj hk e=>?_,fun i hi=>?_,fun i hi x hx=>(rdQ_in G hi hx).1,fun j k hj hk hm=>?_⟩
 ·have e2:R.getD j 0=R.getD k 0:=by rw[←(hg j hj).2,←(hg k hk).2,e]
  rcases Nat.lt_trichotomy j k with h1|h1|h1
  ·have:=h.dif j k h1 hk
   unfold Lex at this
   rw[e2]at this
   omega
  ·exact h1
  ·have:=h.dif k j h1 hj
   unfold Lex at this
   rw[e2]at this
   omega
 ·obtain⟨k,hk,e⟩:=h.all (i:Int) ⟨by omega,by omega⟩
  refine⟨k,hk,?_⟩
  have:=(hg k hk).2
  rw[e]at this
  omega
 ·have h1:=(rdQ_in G (hg j hj).1 hm).2
  rw[(hg j hj).2,(hg k hk).2]at h1
  have h2:=G.lvl.lt (by rw[←(hg j hj).2];omega) (by rw[←(hg j hj).2,G.len];have:=(hg j hj).1;omega) h1
  rcases Nat.lt_trichotomy k j with h3|h3|h3
  ·exact h3
  ·subst h3;omega
  ·have:=h.dif j k h3 hk
   unfold Lex at this
   omega
theorem rel_nodes(G:G5 c n L){w:World}{n1 n2 n3 c0 c1 c2 c3:Nat}{A0 A1 A2 A3:Option Addr}{B:Nat}(hB:B≤w.heap.size)(hc:Cir w B (.agg #[.slice A0 n c0,.slice A1 n1 c1,.slice A2 n2 c2,.slice A3 n3 c3]) c):
 ∃nb no,(0<n→A0=some ⟨nb,no,none⟩)∧∀k,k<n→∃A4 c4 md bt b4 o4,∀W,BelW w W→W.cell? ⟨nb,no+k*4,none⟩=some (.int .u8 (c.nodes.getD k default).kind)∧W.cell? ⟨nb,no+k*4+1,none⟩=some (.slice A4 ((c.nodes.getD k default).ins.map Int.toNat).length c4)∧W.cell? ⟨nb,no+k*4+2,none⟩=some (.int .i64 md)∧W.cell? ⟨nb,no+k*4+3,none⟩=some (.int .i64 bt)∧∀j,j<((c.nodes.getD k default).ins.map Int.toNat).length→A4=some ⟨b4,o4,none⟩∧W.cell? ⟨b4,o4+j,none⟩=some (.int .i64 ((((c.nodes.getD k default).ins.map Int.toNat).getD j 0:Nat):Int)):=by
 obtain⟨v0,v1,v2,v3,ev,hns,-,hms,-⟩:=hc
 simp only[Value.agg.injEq,Array.mk.injEq,List.cons.injEq,and_true]at ev
 obtain⟨rfl,-,rfl,-⟩:=ev
 obtain⟨A,b,o,cc,e,hA,-,-,hcell⟩:=hns
 simp only[Value.slice.injEq]at e
 obtain⟨rfl,hn,rfl⟩:=e
 refine⟨b,o,fun h=>hA (by omega),fun k hk=>?_⟩
 have hkl:k<c.nodes.length:=by omega
 obtain⟨hb,s,h0,h1,h2,h3,h4,-⟩:=hcell k hkl
 obtain⟨A5,b5,o5,c5,rfl,hA5,-,-,h5⟩:=h4.opens
 refine⟨A5,c5,_,_,b5,o5,fun W hW=>⟨(hW.cell (p:=⟨b,o+k*4,none⟩) (Nat.lt_of_lt_of_le hb hB)).trans h0,?_,(hW.cell (p:=⟨b,o+k*4+2,none⟩) (Nat.lt_of_lt_of_le hb hB)).trans h2,(hW.cell (p:=⟨b,o+k*4+3,none⟩) (Nat.lt_of_lt_of_le hb hB)).trans h3,fun j hj=>?_⟩⟩
 ·rw[List.length_map];exact (hW.cell (p:=⟨b,o+k*4+1,none⟩) (Nat.lt_of_lt_of_le hb hB)).trans h1
 ·rw[List.length_map]at hj
  obtain⟨hb5,hc5⟩:=h5 j hj
  refine⟨hA5 (by omega),(hW.cell (p:=⟨b5,o5+j,none⟩) (Nat.lt_of_lt_of_le hb5 hB)).trans (hc5.trans ?_)⟩
  have hm:(c.nodes.getD k default).ins.getD j 0∈(c.nodes.getD k default).ins:=getD_in hj
  have:=G.wf k hkl _ hm
  rw[getD_toNat,Int.toNat_of_nonneg this.1]
theorem rel_ins(G:G5 c n L):∀k,k<n→((c.nodes.getD k default).ins.map Int.toNat).length≤1000000∧∀j,j<((c.nodes.getD k default).ins.map Int.toNat).length→((c.nodes.getD k default).ins.map Int.toNat).getD j 0<n:=fun k hk=>by
 refine⟨by have:=G.pins k hk;rw[List.length_map];omega,fun j hj=>?_⟩
 rw[List.length_map]at hj
 have hm:(c.nodes.getD k default).ins.getD j 0∈(c.nodes.getD k default).ins:=getD_in hj
 have:=G.wf k (by rw[G.len];exact hk) _ hm
 rw[G.len]at this
 rw[getD_toNat]
 omega
end
theorem insert_nil(n d q:Nat)(w:World):
 Calls Tryd.prog 94 #[.slice (some ⟨d,0,none⟩) n n,.int .i64 20,.int .i64 20,.func (.func 60) #[] #[.pointer (some ⟨q,0,none⟩)]] w fun e w'=>e=.returned (.tuple #[])∧w'=w:=by
 go_enter Tryd.func94,Tryd.ntmps94
 go_wp2
 refine wp_loop_rounds 1 ?_
 simp only[Code.rounds]
 go_wp2
 go_end0
 exact⟨rfl,rfl⟩
set_option maxHeartbeats 1000000 in
theorem stable_20(L:List Int)(n d g q B:Nat)(w:World)(hd:B≤d)(hg:d≠g)(hq:d≠q)(hL:L.length=n)(hn:n≤20)(hw:SW w B d g q n L (rng 0 n) w):
 Calls Tryd.prog 76 #[.slice (some ⟨d,0,none⟩) n n,.int .i64 n,.func (.func 60) #[] #[.pointer (some ⟨q,0,none⟩)]] w (SortPost L w B d g q n):=by
 rcases Nat.lt_or_ge n 20 with h|h
 ·exact stable_any L n d g q B w hd hg hq hL h hw
 obtain rfl:n=20:=by omega
 have hi:=insert_any L 20 d g q B w hd hg hq hL (by omega) hw
 rw[show ((20:Nat):Int)=20 from rfl]at hi ⊢
 have HI:=Lib.hid hi
 clear hi
 clear hw hL
 go_enter Tryd.func76,Tryd.ntmps76
 go_wp2
 refine wp_loop_rounds 2 ?_
 simp only[Code.rounds]
 go_wp2_with (go_at_call 94;first
  |((with_reducible refine HI.out.mono ?_);rintro e w' ⟨rfl,R,h1,h2⟩;have HR:=Lib.hid h1;have HS:=Lib.hid h2;clear h1 h2)
  |((with_reducible refine (insert_nil _ _ _ _).mono ?_);rintro e w2 ⟨rfl,hw2⟩;have HW2:=Lib.hid hw2;clear hw2))
 refine wp_loop_rounds 1 ?_
 simp only[Code.rounds]
 go_wp2
 go_end0
 have:=HW2.out
 subst this
 exact⟨rfl,R,HR.out,HS.out⟩
set_option maxHeartbeats 400000 in
theorem sort_20(L:List Int)(n d g q B:Nat)(w:World)(hd:B≤d)(hg:d≠g)(hq:d≠q)(hL:L.length=n)(hn:n≤20)(hw:SW w B d g q n L (rng 0 n) w):
 Calls Tryd.prog 59 #[.slice (some ⟨d,0,none⟩) n n,.func (.func 60) #[] #[.pointer (some ⟨q,0,none⟩)]] w (SortPost L w B d g q n):=by
 have HI:=Lib.hid (stable_20 L n d g q B w hd hg hq hL hn hw)
 clear hw hL
 go_enter Tryd.func59,Tryd.ntmps59
 go_wp2_with (go_at_call 76;(with_reducible refine HI.out.mono ?_);rintro e w' ⟨rfl,R,h1,h2⟩;have HR:=Lib.hid h1;have HS:=Lib.hid h2;clear h1 h2)
 go_end0
 exact⟨rfl,R,HR.out,HS.out⟩
set_option maxRecDepth 100000 in
set_option maxHeartbeats 4000000 in
theorem order_20(c:Ck)(v:Value)(w:World)(B:Nat)(hB:B≤w.heap.size)(hT:Tabs w)(hc:Cir w B v c)(hn20:c.nodes.length≤20):
 Calls Tryd.prog 49 #[v] w (OrdPost c w):=by
 have hb0:=hc
 obtain⟨v0,v1,v2,v3,rfl,hns,hss,hms,hos⟩:=hc
 obtain⟨A0,b0,o0,c0,rfl,-⟩:=id hns
 obtain⟨A1,b1,o1,c1,rfl,-⟩:=id hss
 obtain⟨A2,b2,o2,c2,rfl,-⟩:=id hms
 obtain⟨A3,b3,o3,c3,rfl,-⟩:=id hos
 have hbW:Below w.heap.size w (w.alloc (.cells #[.slice A0 c.nodes.length c0,.slice A1 c.names.length c1,.slice A2 c.mems.length c2,.slice A3 c.outs.length c3] 39)):=(Below.refl _ _).alloc (Nat.le_refl _) _
 have hL:=levels_any c _ _ B (Nat.le_trans hB hbW.size) (hT.below hbW) (hb0.below (hbW.mono hB))
 clear hns hss hms hos hb0 hT
 by_cases hck:chkErr c=0
 ·have hL2:=hL.mono (R':=fun e w'=>∃L g,e=.returned (.tuple #[.slice (some ⟨g,0,none⟩) c.nodes.length c.nodes.length,.int .i64 0])∧Below (w.alloc (.cells #[.slice A0 c.nodes.length c0,.slice A1 c.names.length c1,.slice A2 c.mems.length c2,.slice A3 c.outs.length c3] 39)).heap.size (w.alloc (.cells #[.slice A0 c.nodes.length c0,.slice A1 c.names.length c1,.slice A2 c.mems.length c2,.slice A3 c.outs.length c3] 39)) w'∧w.heap.size≤g∧Row w' g L∧shapeErr c=0∧Lvl c.nodes L∧(∀i:Nat,i<c.nodes.length→lat L i<(c.nodes.length:Int))) fun e w' ⟨h1,h2⟩=>by
   rcases h2 with⟨-,h0,L,g,hl,hbd,hg,he,hr⟩| ⟨hne,-⟩
   ·exact⟨L,g,he,h1,Nat.le_trans hbW.size hg,hr,h0,hl,hbd⟩
   ·exact absurd hck hne
  have HCK:=Lib.hid hck
  clear hL hck
  generalize c.names.length=n1 at hL2 hbW ⊢
  generalize c.mems.length=n2 at hL2 hbW ⊢
  generalize c.outs.length=n3 at hL2 hbW ⊢
  obtain⟨n,HN⟩:=named c.nodes.length
  rw[←HN.out]at hL2 hbW hn20
  rw[←HN.out]
  have HL:=Lib.hid hL2
  have HBW:=Lib.hid hbW
  clear hL2 hbW
  obtain⟨i0,hi,hz0,hz1,hz2⟩:=info_parts info_int
  have HI:=Lib.hid (And.intro hi (And.intro hz0 (And.intro hz1 hz2)))
  clear hi hz0 hz1 hz2
  go_enter Tryd.func49,Tryd.ntmps49
  go_wp2_with (first
   |(go_at_call 48;(with_reducible refine HL.out.mono ?_);rintro e w1 ⟨L,g,rfl,hb,hwg,hr,hsh,hl,hbd⟩;have HB1:=Lib.hid hb;have HR:=Lib.hid hr;have HSH:=Lib.hid hsh;have HLV:=Lib.hid hl;have HBD:=Lib.hid hbd;clear hb hr hsh hl hbd)
   |(at_make;refine wpList_make_full _ rfl _ _ 37 rfl w.heap.size 3 i0 (.int .i64 0) 1 Tryd.underlying37 HI.out.1 HI.out.2.1 HI.out.2.2.1 .i64 .i64 _ _ n rfl rfl rfl rfl ?b2 ?b3 ?b4 ?_))
  case b2=>rw[HI.out.2.2.2];omega
  case b3=>unfold maxLen;omega
  case b4=>have:=(joinB HBW.out HB1.out).size;simp;omega
  intro w2 hown hgr
  rw[fillL_start (fun j=>.int .i64 (j:Int))]at hown
  obtain⟨w1v,HW1⟩:=named (w1.alloc (.cells #[.slice (some ⟨g,0,none⟩) n n] 37))
  have hz1:w1v.heap.size=w1.heap.size+1:=by rw[HW1.out];simp
  rw[←HW1.out]at hgr
  have hb1v:Below w.heap.size w w1v:=by rw[HW1.out];exact below_new (joinB HBW.out HB1.out) _
  have hrv:Row w1v g L:=by rw[HW1.out];exact HR.out.below ((Below.refl _ _).alloc (Nat.le_refl _) _)
  have hcv:w1v.cell? ⟨w1.heap.size,0,none⟩=some (.slice (some ⟨g,0,none⟩) n n):=by rw[HW1.out,World.cell?_alloc_at _ _ _ _ rfl];rfl
  have hb2:Below w.heap.size w w2:=hb1v.grown hgr hb1v.size (fun k h=>by cases h)
  have hr2:Row w2 g L:=hrv.kept hgr (by simp)
  have hc2:w2.cell? ⟨w1.heap.size,0,none⟩=some (.slice (some ⟨g,0,none⟩) n n):=hgr.cell hcv (by simp)
  have hgl:g<w1.heap.size:=HR.out.lt
  have hbz:w.heap.size≤w1.heap.size:=(joinB HBW.out HB1.out).size
  have hsz2:w1.heap.size+1<w2.heap.size:=(World.ownsRow.lt hown _ rfl).2
  have HO:=Lib.hid hown
  have HB2:=Lib.hid hb2
  have HR2:=Lib.hid hr2
  have HC2:=Lib.hid hc2
  obtain⟨d,HD⟩:=named (w1.heap.size+1)
  rw[←HD.out]
  rw[←HD.out]at HO
  obtain⟨q,HQ⟩:=named w1.heap.size
  rw[←HQ.out]at HC2
  rw[←HQ.out]
  have hdg:d≠g:=by rw[HD.out];omega
  have hdq:d≠q:=by rw[HD.out,HQ.out];omega
  have hdw:w.heap.size≤d:=by rw[HD.out];omega
  have hqc:w2.cell? ⟨q,0,none⟩=some (.slice (some ⟨g,0,none⟩) n n):=HC2.out
  have hdz:d<w2.heap.size:=by rw[HD.out];omega
  clear hown hgr hb2 hr2 hc2 hcv hrv hb1v hz1 hgl hbz hsz2 hwg
  go_wp2
  go_loopw [21] (fun i wr=>∃k:Nat,k≤n∧i=.int .i64 k∧Below w.heap.size w wr∧wr.heap.size=w2.heap.size∧Row wr g L∧wr.cell? ⟨q,0,none⟩=some (.slice (some ⟨g,0,none⟩) n n)∧
   wr.ownsRow w.heap.size 3 1 (.slice (some ⟨d,0,none⟩) n n) n (fillL (fun j=>.int .i64 (j:Int)) (.int .i64 0) n k)) (fun i _=>n-(intOf i).toNat)
  case atStart=>exact⟨0,Nat.zero_le _,rfl,HB2.out,rfl,HR2.out,HC2.out,HO.out⟩
  case round=>
   clear HO HB2 HR2 HC2 hqc
   obtain⟨k,hk,rfl,hb,hsz,hr,hqc,hown⟩:=hrel
   have HBL:=Lib.hid hb
   have HO:=Lib.hid hown
   have HR2:=Lib.hid hr
   have HSZ:=Lib.hid hsz
   clear hb hown hr hsz
   by_cases hlt:k<n
   ·have hfz:wr.frozen? ⟨d,k,none⟩=false:=HO.out.frozenAt k
    have hcl:wr.cell? ⟨d,k,none⟩=some (.int .i64 0):=by
     rw[HO.out.cellAt k (by omega),fillL_get _ _ _ _ _ hlt,if_neg (by omega)]
    have HS:=Lib.hid (HO.out.stored k (.int .i64 (k:Int))).1
    have HQC:=Lib.hid hqc
    clear hqc
    go_wp2
    go_roundw
    case rel=>
     refine⟨k+1,by omega,by go_num,HBL.out.setCell hdw _,by rw[World.size_setCell];exact HSZ.out,HR2.out.otherS hdg _,?_,?_⟩
     ·rw[World.cell?_setCell_other _ _ _ _ (by simp[hdq])];exact HQC.out
     ·rw[←fillL_set (fun j=>.int .i64 (j:Int)) (.int .i64 0) n k];exact HS.out
    case measure=>simp[intOf];omega
   ·obtain rfl:n=k:=by omega
    have hrow:Row wr d (rng 0 n):=by
     have:=HO.out
     rw[fillL_rng]at this
     unfold Row
     rw[rng_len,Nat.sub_zero]
     refine⟨this.1,?_⟩
     rcases this.2 with⟨e,-⟩| ⟨g',cap,cur,e,hb',hg',hle,hmx,hs',ht'⟩
     ·cases e
     ·simp only[Value.slice.injEq,Option.some.injEq,Addr.mk.injEq]at e
      obtain⟨⟨rfl,-⟩,-,rfl⟩:=e
      exact .inr ⟨d,n,cur,rfl,Nat.le_refl _,hg',hle,hmx,hs',ht'⟩
    have hsort:=sort_20 L n d g q w.heap.size wr hdw hdg hdq (by rw[HLV.out.1,HN.out]) hn20 ⟨Below.refl _ _,rfl,hrow,HR2.out,hqc⟩
    have HSRT:=Lib.hid hsort
    clear hsort hrow hqc
    go_wp2_with (go_at_call 59;(with_reducible refine HSRT.out.mono ?_);rintro e w4 ⟨rfl,R,h1,h2⟩;have HRR:=Lib.hid h1;have HSS:=Lib.hid h2;clear h1 h2)
    go_ret2
    unfold OrdPost
    rw[←HN.out]
    exact⟨HBL.out.trans HSS.out.bel,.inl ⟨HCK.out,HSH.out,L,R,d,HLV.out,HBD.out,HRR.out,hdw,rfl,HSS.out.row⟩⟩
 ·have hL2:=hL.mono (R':=fun e w'=>e=.returned (.tuple #[.slice none 0 0,.int .i64 (chkErr c)])∧Below (w.alloc (.cells #[.slice A0 c.nodes.length c0,.slice A1 c.names.length c1,.slice A2 c.mems.length c2,.slice A3 c.outs.length c3] 39)).heap.size (w.alloc (.cells #[.slice A0 c.nodes.length c0,.slice A1 c.names.length c1,.slice A2 c.mems.length c2,.slice A3 c.outs.length c3] 39)) w') fun e w' ⟨h1,h2⟩=>by
   rcases h2 with⟨h0,-⟩| ⟨-,he⟩
   ·exact absurd h0 hck
   ·exact⟨he,h1⟩
  obtain⟨z,HZ⟩:=named (chkErr c)
  rw[←HZ.out]at hL2 hck
  have hz:(z==0)=false:=by simpa using hck
  have HCK:=Lib.hid hck
  clear hL hck
  generalize c.names.length=n1 at hL2 hbW ⊢
  generalize c.mems.length=n2 at hL2 hbW ⊢
  generalize c.outs.length=n3 at hL2 hbW ⊢
  obtain⟨n,HN⟩:=named c.nodes.length
  rw[←HN.out]at hL2 hbW
  rw[←HN.out]
  have HL:=Lib.hid hL2
  have HBW:=Lib.hid hbW
  clear hL2 hbW
  go_enter Tryd.func49,Tryd.ntmps49
  go_wp2_with (go_at_call 48;(with_reducible refine HL.out.mono ?_);rintro e w1 ⟨rfl,hb⟩;have HB1:=Lib.hid hb;clear hb)
  go_ret2
  exact⟨below_new (joinB HBW.out HB1.out) _,.inr ⟨by rw[←HZ.out];exact HCK.out,by rw[←HZ.out];rfl⟩⟩
def depF(rd:Nat→List Nat):Nat→Nat→Nat→Bool
 |0,a,b=>a==b
 |f+1,a,b=>a==b||(rd a).any fun x=>depF rd f x b
theorem depF_sound{rd:Nat→List Nat}{b:Nat} :∀(f a:Nat),depF rd f a b=true→Rch rd a b
 |0,a,h=>by
  obtain rfl:a=b:=by simpa [depF]using h
  exact .refl _
 |f+1,a,h=>by
  rw[depF,Bool.or_eq_true]at h
  rcases h with h|h
  ·obtain rfl:a=b:=by simpa using h
   exact .refl _
  ·obtain⟨x,hx,h2⟩:=List.any_eq_true.1 h
   exact .step hx (depF_sound f x h2)
theorem depF_full{rd:Nat→List Nat}{b:Nat}{ρ:Nat→Nat}{n:Nat}(hlt:∀i,i<n→∀x∈rd i,x<n∧ρ x<ρ i){a:Nat}(h:Rch rd a b):a<n→∀f,ρ a≤f→depF rd f a b=true:=by
 induction h with
 |refl a=>intro _ f _;cases f<;>simp[depF]
 |step hx _ ih=>
  rename_i u x v _
  intro ha f hf
  have h1:=hlt _ ha _ hx
  obtain⟨g,rfl⟩:∃g,f=g+1:=⟨f-1,by omega⟩
  rw[depF,Bool.or_eq_true]
  exact .inr (List.any_eq_true.2 ⟨_,hx,ih h1.1 g (by omega)⟩)
theorem depF_iff{rd:Nat→List Nat}{n:Nat}{ord:List Nat}(h:OrdF rd n ord){a:Nat}(ha:a<n)(b f:Nat)(hf:n≤f):depF rd f a b=true↔Rch rd a b:=by
 refine⟨depF_sound f a,fun hr=>?_⟩
 refine depF_full (ρ:=fun i=>ord.idxOf i) (n:=n) ?_ hr ha f ?_
 ·intro i hi x hx
  refine⟨h.rdlt i hi x hx,?_⟩
  have key:∀i,i<n→∃j,j<n∧ord.getD j 0=i∧ord.idxOf i=j:=fun i hi=>by
   obtain⟨j,hj,e⟩:=h.onto i hi
   have hm:i∈ord:=mem_getD.2 ⟨j,by rw[h.len];exact hj,e⟩
   have hlt:=List.idxOf_lt_length_of_mem hm
   refine⟨ord.idxOf i,by rw[←h.len];exact hlt,?_,rfl⟩
   rw[List.getD_eq_getElem?_getD,List.getElem?_eq_getElem hlt]
   exact List.getElem_idxOf hlt
  obtain⟨j,hj,e1,e2⟩:=key i hi
  obtain⟨k,hk,e3,e4⟩:=key x (h.rdlt i hi x hx)
  show ord.idxOf x<ord.idxOf i
  rw[e2,e4]
  exact h.up j k hj hk (by rw[e1,e3];exact hx)
 ·show ord.idxOf a≤f
  have:ord.idxOf a≤ord.length:=List.idxOf_le_length
  rw[h.len]at this
  omega
def rowP(cd:Nat→Nat→Bool)(a b:Nat):List (Nat×Nat):=((List.range b).filter (cd a)).map fun b=>(a,b)
def preP(cd:Nat→Nat→Bool)(n a b:Nat):List (Nat×Nat):=((List.range a).flatMap fun a=>rowP cd a n)++rowP cd a b
theorem rowP_succ(cd:Nat→Nat→Bool)(a b:Nat):rowP cd a (b+1)=rowP cd a b++if cd a b=true then [(a,b)] else []:=by
 unfold rowP
 rw[List.range_succ,List.filter_append,List.map_append]
 congr 1
 by_cases h:cd a b=true
 ·rw[if_pos h];simp[h]
 ·rw[if_neg h];simp[h]
theorem preP_succ(cd:Nat→Nat→Bool)(n a b:Nat):preP cd n a (b+1)=preP cd n a b++if cd a b=true then [(a,b)] else []:=by
 unfold preP
 rw[rowP_succ,List.append_assoc]
theorem preP_next(cd:Nat→Nat→Bool)(n a:Nat):preP cd n (a+1) 0=preP cd n a n:=by
 unfold preP
 rw[List.range_succ,List.flatMap_append]
 simp[rowP]
theorem preP_none(cd:Nat→Nat→Bool)(n a:Nat)(h:∀b,b<n→cd a b=false):preP cd n a n=preP cd n a 0:=by
 unfold preP
 congr 1
 unfold rowP
 rw[List.filter_eq_nil_iff.2 (fun b hb=>by rw[h b (List.mem_range.1 hb)];simp)]
 simp
theorem preP_zero(cd:Nat→Nat→Bool)(n:Nat):preP cd n 0 0=[]:=by simp[preP,rowP]
theorem rowP_pre(cd:Nat→Nat→Bool)(a:Nat){b n:Nat}(h:b≤n):rowP cd a b<+:rowP cd a n:=by
 induction n with
 |zero=>obtain rfl:b=0:=by omega
        exact List.prefix_refl _
 |succ n ih=>
  by_cases e:b=n+1
  ·subst e;exact List.prefix_refl _
  ·rw[rowP_succ]
   exact (ih (by omega)).trans (List.prefix_append _ _)
theorem preP_mono(cd:Nat→Nat→Bool)(n:Nat){a m:Nat}(h:a<m){b:Nat}(hb:b≤n):preP cd n a b<+:preP cd n m 0:=by
 induction m with
 |zero=>omega
 |succ m ih=>
  rw[preP_next]
  by_cases e:a=m
  ·subst e
   exact (List.prefix_append_right_inj _).2 (rowP_pre cd a hb)
  ·exact (ih (by omega)).trans ((List.prefix_append_right_inj _).2 (rowP_pre cd m (Nat.zero_le _)))
theorem preP_at(cd:Nat→Nat→Bool){n a b:Nat}(ha:a<n)(hb:b<n)(h:cd a b=true):(preP cd n n 0)[(preP cd n a b).length]? =some (a,b):=by
 have h1:=preP_mono cd n ha (b:=b+1) (by omega)
 rw[preP_succ,if_pos h]at h1
 obtain⟨t,e⟩:=h1
 rw[←e,List.append_assoc,List.getElem?_append_right (Nat.le_refl _)]
 simp
def prsP(cd:Nat→Nat→Bool)(n:Nat):List (Nat×Nat):=preP cd n n 0
theorem flat_at{α β:Type}(f:α→List β)(l:List α){k:Nat}{x:α}(h:l[k]? =some x){j:Nat}(hj:j<(f x).length):(l.flatMap f)[((l.take k).flatMap f).length+j]? =(f x)[j]? :=by
 have hk:k<l.length:=(List.getElem?_eq_some_iff.1 h).1
 have e:l=l.take k++x::l.drop (k+1):=by
  have:=(List.getElem?_eq_some_iff.1 h).2
  rw[←this,←List.drop_eq_getElem_cons hk,List.take_append_drop]
 conv=>lhs;rw[e]
 rw[List.flatMap_append,List.flatMap_cons,List.take_append_of_le_length (by simp;omega),List.take_take,Nat.min_self,List.getElem?_append_right (by omega)]
 rw[show ((List.take k l).flatMap f).length+j-((List.take k l).flatMap f).length=j by omega,List.getElem?_append_left hj]
theorem flat_succ{α β:Type}(f:α→List β)(l:List α){k:Nat}{x:α}(h:l[k]? =some x):((l.take (k+1)).flatMap f).length=((l.take k).flatMap f).length+(f x).length:=by
 rw[List.take_add_one,h]
 simp[List.flatMap_append]
attribute [local go_sem] Oper.semAt_some
section
variable {c:Ck} {n:Nat} {L:List Int}
theorem order_f(G:G5 c n L)(v:Value)(w:World)(B:Nat)(hB:B≤w.heap.size)(hT:Tabs w)(hc:Cir w B v c):
 Calls Tryd.prog 49 #[v] w fun e w'=>∃ord d,e=.returned (.tuple #[.slice (some ⟨d,0,none⟩) n n,.int .i64 0])∧BelW w w'∧OrdF (rdQ c) n ord∧d<w'.heap.size∧∀W,BelW w' W→∀j,j<n→W.cell? ⟨d,0+j,none⟩=some (.int .i64 ((ord.getD j 0:Nat):Int)):=by
 have hn:=G.len
 refine (order_20 c v w B hB hT hc (by rw[hn];exact G.few)).mono ?_
 rintro e w' ⟨hb,⟨-,-,L',R,d,hL,hl1,hS,hd,rfl,hR⟩| ⟨h,-⟩⟩
 ·rw[hn]at hS hl1 ⊢
  have G':G5 c n L':=⟨G.ok,hL,hn,G.few⟩
  have hO:=ord5_of hS (fun i hi=>⟨G'.hl0 i hi,hl1 i hi⟩)
  have hOF:=ordF_of G' hO
  have hlen:=hO.len
  refine⟨R.map Int.toNat,d,rfl,hb,hOF,?_,fun W hW j hj=>?_⟩
  ·exact (World.ownsRow.lt hR d rfl).2
  ·have hj2:j<R.length:=by omega
   rw[Nat.zero_add,(hW.cell (p:=⟨d,j,none⟩) (World.ownsRow.lt hR d rfl).2).trans (hR.cell hj2),getD_toNat]
   obtain⟨x,-,e⟩:=hO.rg j hj
   show some (Value.int .i64 (R.getD ((j:Int)).toNat 0))=_
   rw[Int.toNat_natCast,e]
   simp
 ·exact absurd G.ok h
set_option maxHeartbeats 4000000 in
theorem isRelated_any(G:G5 c n L)(A0 A1 A2 A3:Option Addr)(n1 n2 n3 c0 c1 c2 c3:Nat)(w:World)(hT:Tabs w)(hc:Cir w w.heap.size (.agg #[.slice A0 n c0,.slice A1 n1 c1,.slice A2 n2 c2,.slice A3 n3 c3]) c)(a b:Nat)(ha:a<n)(hb:b<n):
 Calls Tryd.prog 37 #[.agg #[.slice A0 n c0,.slice A1 n1 c1,.slice A2 n2 c2,.slice A3 n3 c3],.int .i64 (a:Int),.int .i64 (b:Int)] w fun e w'=>e=.returned (.bool (depF (rdQ c) n b a||depF (rdQ c) n a b))∧BelW w w':=by
 obtain⟨nb,no,hA,-⟩:=rel_nodes G (Nat.le_refl _) hc
 obtain rfl:=hA (by omega)
 clear hA
 obtain⟨W1,HW1⟩:=named (w.alloc (.cells #[.slice (some ⟨nb,no,none⟩) n c0,.slice A1 n1 c1,.slice A2 n2 c2,.slice A3 n3 c3] 39))
 have hb1:BelW w W1:=by rw[HW1.out];exact below_new (Below.refl _ _) _
 have hfc:Fr W1 w.heap.size 39 [.slice (some ⟨nb,no,none⟩) n c0,.slice A1 n1 c1,.slice A2 n2 c2,.slice A3 n3 c3]:=by rw[HW1.out];exact Fr.made _ _ _ rfl
 have HCE:Hid (∀W,BelW W1 W→W.cell? ⟨w.heap.size,0,none⟩=some (.slice (some ⟨nb,no,none⟩) n c0)∧W.cell? ⟨w.heap.size,1,none⟩=some (.slice A1 n1 c1)∧W.cell? ⟨w.heap.size,2,none⟩=some (.slice A2 n2 c2)∧W.cell? ⟨w.heap.size,3,none⟩=some (.slice A3 n3 c3)):=Lib.hid fun W h=>⟨(hfc.below h).cell 0,(hfc.below h).cell 1,(hfc.below h).cell 2,(hfc.below h).cell 3⟩
 have HO:=Lib.hid (order_f G _ W1 w.heap.size (Below.size hb1) (hT.below hb1) (hc.below hb1))
 have HREL:Hid (∀(ord:List Nat) (d:Nat) (w2:World),BelW W1 w2→OrdF (rdQ c) n ord→d<w2.heap.size→(∀W,BelW w2 W→∀j,j<n→W.cell? ⟨d,0+j,none⟩=some (.int .i64 ((ord.getD j 0:Nat):Int)))→
  Calls Tryd.prog 50 #[.agg #[.slice (some ⟨nb,no,none⟩) n c0,.slice A1 n1 c1,.slice A2 n2 c2,.slice A3 n3 c3],.slice (some ⟨d,0,none⟩) n n,.int .i64 (a:Int),.int .i64 ((a:Int)+1)] w2 fun r w'=>∃g x,r=.returned (.slice (some ⟨g,0,none⟩) n n)∧w'.cell? ⟨g,b,none⟩=some (.int .u64 ((x:Nat):Int))∧(x≠0↔Rch (rdQ c) b a∨Rch (rdQ c) a b)∧BelW w2 w'):=Lib.hid fun ord d w2 h2 hO hd hcd=>by
  have hbw:BelW w w2:=joinB hb1 h2
  obtain⟨nb',no',hA',hin⟩:=rel_nodes G (Below.size hbw) (hc.below hbw)
  have e:=hA' (by omega)
  simp only[Option.some.injEq,Addr.mk.injEq,and_true]at e
  obtain⟨rfl,rfl⟩:=e
  have hrl:=relatives_any (fun k=>(c.nodes.getD k default).kind) (fun k=>(c.nodes.getD k default).ins.map Int.toNat) ord A1 A2 A3 n n1 n2 n3 c0 c1 c2 c3 nb no d 0 n a (a+1) w2 (by have:=G.few;omega) (by omega) (by omega) (by omega) hin (rel_ins G) hcd (fun j hj=>hO.lt j hj) hO.len hd
  rw[show ((a+1:Nat):Int)=(a:Int)+1 from by omega]at hrl
  refine hrl.mono ?_
  rintro r w' ⟨g,rfl,-,hf,hbb⟩
  have hl:=relW_len (rdQ c) ord n a (a+1)
  exact⟨g,_,rfl,(hf.cell b).trans (U64_at (by rw[show (fun k=>if (c.nodes.getD k default).kind=14 then [] else (c.nodes.getD k default).ins.map Int.toNat)=rdQ c from rfl,hl];exact hb)),relW_one hO ha b hb,hbb⟩
 have HDP:Hid (∀ord,OrdF (rdQ c) n ord→((depF (rdQ c) n b a||depF (rdQ c) n a b)=true↔Rch (rdQ c) b a∨Rch (rdQ c) a b)):=Lib.hid fun ord hO=>by
  rw[Bool.or_eq_true,depF_iff hO hb a n (Nat.le_refl _),depF_iff hO ha b n (Nat.le_refl _)]
 have HB1:=Lib.hid hb1
 have hb2:(b:Int)<(n:Int):=by omega
 have hadd:IntKind.i64.wrap ((a:Int)+1)=(a:Int)+1:=by
  have:=G.few
  rw[IntKind.wrap_i64];omega
 obtain⟨x0,x1,x2,x3⟩:=HCE.out W1 (Below.refl _ _)
 obtain⟨t,HT⟩:=named (depF (rdQ c) n b a||depF (rdQ c) n a b)
 rw[←HT.out]at HDP
 rw[←HT.out]
 clear hfc hb1 hc hT G ha hb HT
 go_enter Tryd.func37,Tryd.ntmps37
 go_upto_region 1 with (fail)
 rw[←HW1.out]
 go_upto_region 2 with (go_at_call 49;(with_reducible refine HO.out.mono ?_);rintro e w2 ⟨ord,d,rfl,h1,h2,h3,h4⟩;have HB2:=Lib.hid h1;have HOF:=Lib.hid h2;have HR2:=Lib.hid (HREL.out ord d w2 h1 h2 h3 h4);clear h1 h2 h3 h4 x0 x1 x2 x3)
 obtain⟨x0,x1,x2,x3⟩:=HCE.out w2 HB2.out
 go_wp2_with (go_at_call 50;(with_reducible refine HR2.out.mono ?_);rintro e w3 ⟨g,x,rfl,h1,h2,h3⟩;have HX:=Lib.hid h2;have HB3:Hid (BelW w w3):=Lib.hid (joinB HB1.out (joinB HB2.out h3));clear h2 h3 x0 x1 x2 x3)
 go_ret
 refine⟨?_,HB3.out⟩
 have h9:=(HDP.out _ HOF.out).trans HX.out.symm
 cases t
 ·have:x=0:=by
   rcases Nat.eq_zero_or_pos x with h|h
   ·exact h
   ·exact absurd (h9.2 (by omega)) (by simp)
  subst this
  rfl
 ·have:x≠0:=h9.1 rfl
  simp
  omega
end
def Fm(a9 a:Act)(D:List Tmp):Prop:=a.defers=a9.defers∧a.tmps.size=a9.tmps.size∧∀t,t ∉ D→a.tmps[t]? =a9.tmps[t]?
theorem Fm.refl(a:Act)(D:List Tmp):Fm a a D:=⟨rfl,rfl,fun _ _=>rfl⟩
theorem Fm.eval{a9 a:Act}{D:List Tmp}(h:Fm a9 a D){t:Tmp}(ht:t ∉ D):a.eval (.tmp t)=a9.eval (.tmp t):=by
 have:=h.2.2 t ht
 simp[Act.eval,this]
theorem Fm.put{a9 a:Act}{D:List Tmp}(h:Fm a9 a D){t:Tmp}(ht:t∈D)(v:Value):Fm a9 (a.put (some t) v) D:=by
 refine⟨h.1,by simpa [Act.put]using h.2.1,fun s hs=>?_⟩
 have hne:t≠s:=fun e=>hs (e▸ht)
 simp only[Act.put,Array.getElem?_setIfInBounds,hne,if_false]
 exact h.2.2 s hs
theorem eval_put_same{a:Act}{t:Tmp}{v:Value}(h:t<a.tmps.size):(a.put (some t) v).eval (.tmp t)=v:=by
 simp[Act.put,Act.eval,Array.getElem?_setIfInBounds,h]
theorem eval_put_other{a:Act}{s t:Tmp}{v:Value}(h:t≠s):(a.put (some t) v).eval (.tmp s)=a.eval (.tmp s):=by
 simp[Act.put,Act.eval,Array.getElem?_setIfInBounds,h]
def putsF:List Tmp→Nat→(Nat→Value)→Act→Act
 |[],_,_,a=>a
 |t::ts,k,v,a=>putsF ts (k+1) v (a.put (some t) (v k))
theorem Fm.puts{a:Act} :∀(D:List Tmp) (k:Nat) (v:Nat→Value) (a9:Act),Fm a9 a D→(∀i t,D[i]? =some t→t<a9.tmps.size∧a.tmps[t]? =some (v (k+i)))→a=putsF D k v a9
 |[],k,v,a9,h,_=>by
  obtain⟨h1,h2,h3⟩:=h
  obtain⟨ta,da⟩:=a
  obtain⟨tb,db⟩:=a9
  obtain rfl:da=db:=h1
  obtain rfl:ta=tb:=Array.ext_getElem? fun t=>h3 t (by simp)
  rfl
 |t::ts,k,v,a9,h,hv=>by
  refine Fm.puts ts (k+1) v _ ⟨h.1,by simpa [Act.put]using h.2.1,fun s hs=>?_⟩ fun i s hi=>?_
  ·obtain⟨h1,h2⟩:=hv 0 t rfl
   by_cases e:t=s
   ·subst e
    rw[h2]
    simp[Act.put,Array.getElem?_setIfInBounds,h1]
   ·simp only[Act.put,Array.getElem?_setIfInBounds,e,if_false]
    exact h.2.2 s (by simp;exact⟨fun g=>e g.symm,hs⟩)
  ·obtain⟨h1,h2⟩:=hv (i+1) s hi
   exact⟨by simpa [Act.put]using h1,by rw[h2,Nat.add_right_comm,Nat.add_assoc]⟩
section
variable {P:Program} {ops:Array Oper} {Q:Exit→Act→World→Prop} {md:Region.Mode} {t:Nat}
def lateOk(md:Region.Mode)(ops:Array Oper)(m:Nat):Bool:=(List.range ops.size).all fun i=>decide (i<m)||((ops[i]?).map fun o=>(List.range m).all fun j=>o.after.any fun e=>Region.binds md e&&(e.on==j||((ops[e.on]?).map fun o2=>o2.after.any fun e2=>e2.on==j&&Region.binds md e2).getD false)).getD true
def earlyC(md:Region.Mode)(ops:Array Oper):Bool:=(List.range ops.size).all fun i=>((ops[i]?).map fun o=>o.after.all fun e=> !(Region.binds md e)||decide (e.on<i)).getD true
theorem all_upC{l:Array Bool}(h:earlyC md ops=true)(hs:l.size=ops.size)(hr:Region.ready md ops l=[])(i:Nat)(hi:i<ops.size):l.getD i false=true:=by
 induction i using Nat.strongRecOn with
 |_ i ih=>
  by_cases hc:l.getD i false=true
  ·exact hc
  ·have hm:i∈Region.ready md ops l:=by
    refine mem_ready.2 ⟨?_,ops[i],Array.getElem?_eq_getElem hi,fun e he hb=>?_⟩
    ·have hi':i<l.size:=by omega
     simp[hi']at hc ⊢
     exact hc
    ·have h1:=List.all_eq_true.1 h i (List.mem_range.2 hi)
     rw[Array.getElem?_eq_getElem hi]at h1
     simp only[Option.map_some,Option.getD_some]at h1
     have h2:=Array.all_eq_true_iff_forall_mem.1 h1 e he
     rw[hb]at h2
     have h3:e.on<i:=by simpa using h2
     exact ih e.on h3 (by omega)
   rw[hr]at hm
   cases hm
structure JF(md:Region.Mode)(ops:Array Oper)(D:List Tmp)(Y:Nat→Value→World→Prop)(N:Nat)(wb:World)(a9:Act)(l:Array Bool)(a:Act)(w:World):Prop where
 size:l.size=N
 late:∀i,D.length≤i→l.getD i false=false
 fm:Fm a9 a D
 bel:Below wb.heap.size wb w
 facts:∀i t,D[i]? =some t→l.getD i false=true→Y i (a.eval (.tmp t)) w
 dep:∀k o,ops[k]? =some o→l.getD k false=true→∀e∈o.after,Region.binds md e=true→l.getD e.on false=true
theorem getD_setA{l:Array Bool}{i j:Nat}{b:Bool}(hi:i<l.size):(l.setIfInBounds i b).getD j false=if i=j then b else l.getD j false:=by
 rw[Array.getD_eq_getD_getElem?,Array.getD_eq_getD_getElem?,Array.getElem?_setIfInBounds]
 by_cases e:i=j
 ·subst e;simp[hi]
 ·simp[e]
theorem AnyX.facts(D:List Tmp)(Y:Nat→Value→World→Prop)(wb:World)(a9:Act)(hnd:D.Nodup)(hts:∀t∈D,t<a9.tmps.size)(hm:D.length≤ops.size)
 (hY:∀i v w w',Y i v w→Below w.heap.size w w'→Y i v w') (hlt:lateOk md ops D.length=true) (hea:earlyC md ops=true)
 (hstep:∀i t a w,D[i]? =some t→Fm a9 a D→Below wb.heap.size wb w→(∀o j s,ops[i]? =some o→D[j]? =some s→o.after.any (fun e=>e.on==j&&Region.binds md e)=true→Y j (a.eval (.tmp s)) w)→wpOp P ops Q i (fun a' w'=>∃v,a'=a.put (some t) v∧Below w.heap.size w w'∧Y i v w') a w)
 (hdone:∀(v:Nat→Value) w,Below wb.heap.size wb w→(∀i,i<D.length→Y i (v i) w)→AnyX P md ops Q (fun _=>True) t (ops.size-D.length) ((Array.replicate D.length true)++(Array.replicate (ops.size-D.length) false)) (putsF D 0 v a9) w):
 ∀(f:Nat) (l:Array Bool) (a:Act) (w:World),JF md ops D Y ops.size wb a9 l a w→l.toList.countP (fun b=> !b)=f→AnyX P md ops Q (fun _=>True) t f l a w:=by
 have key:∀(l:Array Bool) (a:Act) (w:World),JF md ops D Y ops.size wb a9 l a w→(∀i,i<D.length→l.getD i false=true)→l=(Array.replicate D.length true)++(Array.replicate (ops.size-D.length) false):=fun l a w h hall=>by
  apply Array.ext_getElem?
  intro i
  rw[Array.getElem?_append]
  by_cases hi:i<D.length
  ·have h1:=hall i hi
   have h2:i<l.size:=by rw[h.size];omega
   simp[hi,h2]at h1 ⊢
   exact h1
  ·have h1:=h.late i (by omega)
   by_cases h3:i<ops.size
   ·have h2:i<l.size:=by rw[h.size];exact h3
    have h4:i-D.length<ops.size-D.length:=by omega
    simp[hi,h2,h4]at h1 ⊢
    exact h1
   ·have h2:¬i<l.size:=by rw[h.size];exact h3
    have h4:¬i-D.length<ops.size-D.length:=by omega
    simp[hi,h2,h4]
 intro f
 induction f with
 |zero=>
  intro l a w h hc
  have hall:∀i,i<D.length→l.getD i false=true:=fun i hi=>by
   have h2:i<l.size:=by rw[h.size];omega
   apply Classical.byContradiction
   intro hf
   have hv:l.toList[i]'(by simpa using h2)=false:=by
    simp[h2]at hf
    simpa using hf
   have:0<l.toList.countP (fun b=> !b):=List.countP_pos_iff.2 ⟨_,List.getElem_mem (by simpa using h2),by simp[hv]⟩
   omega
  have hl:=key l a w h hall
  have hsz:ops.size-D.length=0:=by
   rw[hl]at hc
   simp at hc
   exact hc
  have hd:=hdone (fun i=>a.eval (.tmp (D.getD i 0))) w h.bel fun i hi=>by
   have:=h.facts i D[i] (List.getElem?_eq_getElem hi) (hall i hi)
   simpa [List.getD_eq_getElem?_getD,List.getElem?_eq_getElem hi]using this
  have hp:=Fm.puts D 0 (fun i=>a.eval (.tmp (D.getD i 0))) a9 h.fm fun i t hi=>by
   have hlt2:=hts t (List.mem_of_getElem? hi)
   refine⟨hlt2,?_⟩
   have h2:t<a.tmps.size:=by rw[h.fm.2.1];exact hlt2
   rw[Nat.zero_add]
   simp[List.getD_eq_getElem?_getD,hi,Act.eval,h2]
  rw[←hp,←hl,hsz]at hd
  exact hd
 |succ f ih=>
  intro l a w h hc
  by_cases hall:∀i,i<D.length→l.getD i false=true
  ·have hl:=key l a w h hall
   have hsz:ops.size-D.length=f+1:=by
    rw[hl]at hc
    simp[List.countP_replicate]at hc
    exact hc
   have hd:=hdone (fun i=>a.eval (.tmp (D.getD i 0))) w h.bel fun i hi=>by
    have:=h.facts i D[i] (List.getElem?_eq_getElem hi) (hall i hi)
    simpa [List.getD_eq_getElem?_getD,List.getElem?_eq_getElem hi]using this
   have hp:=Fm.puts D 0 (fun i=>a.eval (.tmp (D.getD i 0))) a9 h.fm fun i t hi=>by
    have hlt2:=hts t (List.mem_of_getElem? hi)
    refine⟨hlt2,?_⟩
    have h2:t<a.tmps.size:=by rw[h.fm.2.1];exact hlt2
    rw[Nat.zero_add]
    simp[List.getD_eq_getElem?_getD,hi,Act.eval,h2]
   rw[←hp,←hl,hsz]at hd
   exact hd
  ·have hready:∀i∈Region.ready md ops l,i<D.length:=fun i hi=>by
    apply Classical.byContradiction
    intro hge
    obtain⟨h0,o,ho,hdep⟩:=mem_ready.1 hi
    have hio:i<ops.size:=(Array.getElem?_eq_some_iff.1 ho).1
    have h1:=List.all_eq_true.1 hlt i (List.mem_range.2 hio)
    rw[ho]at h1
    simp only[Option.map_some,Option.getD_some,Bool.or_eq_true,decide_eq_true_eq]at h1
    rcases h1 with h1|h1
    ·exact hge h1
    ·refine hall fun j hj=>?_
     have h2:=List.all_eq_true.1 h1 j (List.mem_range.2 hj)
     rw[Array.any_eq_true']at h2
     obtain⟨e,he,hb⟩:=h2
     simp only[Bool.and_eq_true,Bool.or_eq_true,beq_iff_eq]at hb
     have h3:=hdep e he hb.1
     rcases hb.2 with h4|h4
     ·rwa [h4]at h3
     ·cases ho2:ops[e.on]? with
      |none=>rw[ho2]at h4;cases h4
      |some o2=>
       rw[ho2]at h4
       simp only[Option.map_some,Option.getD_some]at h4
       rw[Array.any_eq_true']at h4
       obtain⟨e2,he2,hb2⟩:=h4
       simp only[Bool.and_eq_true,beq_iff_eq]at hb2
       have:=h.dep e.on o2 ho2 h3 e2 he2 hb2.2
       rwa [hb2.1]at this
   refine⟨fun hr=>absurd hr ?_,fun i hi=>?_⟩
   ·intro hr
    exact hall fun i hi=>all_upC hea h.size hr i (by omega)
   ·have hid:=hready i hi
    obtain⟨h0,o,ho,hdep⟩:=mem_ready.1 hi
    have hil:i<l.size:=by rw[h.size];exact (Array.getElem?_eq_some_iff.1 ho).1
    have hDi:D[i]? =some D[i]:=List.getElem?_eq_getElem hid
    refine wpOp_mono (fun a' w' hh=>⟨fun _=>trivial,?_⟩) (hstep i D[i] a w hDi h.fm h.bel fun o' j s ho' hs hb=>?_)
    ·obtain⟨v,rfl,hbw,hv⟩:=hh
     have hlt2:=hts _ (List.mem_of_getElem? hDi)
     refine ih _ _ w' ⟨by simpa using h.size,fun k hk=>?_,h.fm.put (List.getElem_mem hid) v,h.bel.trans (hbw.mono (Below.size h.bel)),fun k s hk hup=>?_,?_⟩ ?_
     ·rw[getD_setA hil,if_neg (by omega)];exact h.late k hk
     ·rw[getD_setA hil]at hup
      by_cases e:i=k
      ·subst e
       obtain rfl:D[i]=s:=by rw[hDi]at hk;exact Option.some.inj hk
       rw[eval_put_same (by rw[h.fm.2.1];exact hlt2)]
       exact hv
      ·rw[if_neg e]at hup
       have hne:D[i]≠s:=fun e2=>by
        obtain⟨hk1,hk2⟩:=List.getElem?_eq_some_iff.1 hk
        exact e ((List.getElem_inj hnd).1 (e2.trans hk2.symm))
       rw[eval_put_other hne]
       exact hY _ _ _ _ (h.facts k s hk hup) hbw
     ·intro k ok hok hup e he hbe
      rw[getD_setA hil]at hup ⊢
      by_cases ek:i=k
      ·subst ek
       rw[ho]at hok
       obtain rfl:=Option.some.inj hok
       have:=hdep e he hbe
       split<;>first|rfl|exact this
      ·rw[if_neg ek]at hup
       have:=h.dep k ok hok hup e he hbe
       split<;>first|rfl|exact this
     ·have hv2:l.toList[i]'(by simpa using hil)=false:=by
       simpa [hil]using h0
      have hp:0<l.toList.countP (fun b=> !b):=List.countP_pos_iff.2 ⟨_,List.getElem_mem (by simpa using hil),by simp[hv2]⟩
      rw[Array.toList_setIfInBounds,List.countP_set (by simpa using hil),hv2]
      simp only[Bool.not_false,Bool.not_true,if_true,Bool.false_eq_true,if_false]
      omega
    ·rw[ho]at ho'
     obtain rfl:=Option.some.inj ho'
     refine h.facts j s hs ?_
     rw[Array.any_eq_true']at hb
     obtain⟨e,he,hb⟩:=hb
     simp only[Bool.and_eq_true,beq_iff_eq]at hb
     have:=hdep e he hb.2
     rwa [hb.1]at this
end
end Go.Proofs.YtcbllelkgniogaaDoor
