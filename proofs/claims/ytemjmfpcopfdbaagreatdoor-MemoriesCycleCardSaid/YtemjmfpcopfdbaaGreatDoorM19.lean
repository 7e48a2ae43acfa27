/- The texts Smu Owx Ft9 Mn9 Smk Mm9 Ss9 Wy9 Sf9 Ofp Lsc. -/
import Derived.Test.YtemjmfpcopfdbaaGreatDoorM09
import Derived.Deep.RegionHeld3
import Derived.Test.YtemjmfpcopfdbaaGreatDoorM18
import Derived.Test.YtemjmfpcopfdbaaGreatDoorM07
import Derived.Test.YtemjmfpcopfdbaaGreatDoorM11
import Derived.Test.YtemjmfpcopfdbaaGreatDoorM10
import Derived.Deep.AppendLies
import Derived.Test.YtemjmfpcopfdbaaGreatDoorM04
import Derived.Test.YtemjmfpcopfdbaaGreatDoorM01
namespace Go.Proofs.YtemjmfpcopfdbaaGreatDoor
open Go.RowKit
def PatPost(li ls:List Int)(w:World)(e:Ending)(w':World):Prop:=
 ∃A0 c0 A1 c1,e=.returned (.agg #[.slice A0 li.length c0,.slice A1 ls.length c1])∧VStk w' w.heap.size (.slice A0 li.length c0) li∧VStk w' w.heap.size (.slice A1 ls.length c1) ls∧(∀a b,(Value.slice A0 li.length c0).ownBlock=some a→(Value.slice A1 ls.length c1).ownBlock=some b→a≠b)∧Below w.heap.size w w'
theorem VStk.setS{w:World}{base:Nat}{v:Value}{l:List Int}(h:VStk w base v l){a:Addr}(ha:a.block<base)(x:Value):VStk (w.setCell a x) base v l:=
 h.kept (row:=some a.block) ⟨rfl,rfl,rfl,by simp[World.setCell],fun i _ hne=>Below.heap_setCell _ _ _ _ (fun e=>hne (by rw[e]))⟩ (fun q e=>by injection e with e;omega)
theorem VStk.low{w:World}{base base':Nat}{v:Value}{l:List Int}(h:VStk w base v l)(hb:base'≤base):VStk w base' v l:=by
 refine⟨h.1,?_⟩
 rcases h.2 with h2| ⟨g,cap,cur,e,hb',h3⟩
 ·exact .inl h2
 ·exact .inr ⟨g,cap,cur,e,Nat.le_trans hb hb',h3⟩
set_option maxRecDepth 100000 in
set_option maxHeartbeats 8000000 in
theorem pOf_any(c:Ck)(qi qs:List Int)(A0 A1 A2 A3 Ai As:Option Addr)(c0 c1 c2 c3 mi ms ci cs:Nat)(w:World)(B:Nat)(hB:B≤w.heap.size)
 (hc:Cir w B (.agg #[.slice A0 c.nodes.length c0,.slice A1 c.names.length c1,.slice A2 c.mems.length c2,.slice A3 c.outs.length c3]) c) (hi:Ks w B (.slice Ai mi ci) qi) (hs:Ks w B (.slice As ms cs) qs) (hsz:c.nodes.length≤1000000) (vi:∀x∈qi,0≤x∧x≤255) (vs:∀x∈qs,0≤x∧x≤255):
 Calls Tryz.prog 32 #[.agg #[.slice Ai mi ci,.slice As ms cs],.agg #[.slice A0 c.nodes.length c0,.slice A1 c.names.length c1,.slice A2 c.mems.length c2,.slice A3 c.outs.length c3]] w (PatPost (takL qi 4 (ofTo c.nodes [0] c.nodes.length).length) (takL qs 3 (ofTo c.nodes [14] c.nodes.length).length) w):=by
 obtain⟨W0,HW0⟩:=named ((w.alloc (.cells #[.slice Ai mi ci,.slice As ms cs] 31)).alloc (.cells #[.slice A0 c.nodes.length c0,.slice A1 c.names.length c1,.slice A2 c.mems.length c2,.slice A3 c.outs.length c3] 39))
 have hb0:Below w.heap.size w W0:=by rw[HW0.out];exact below_new (below_new (Below.refl _ _) _) _
 have hfp:Fr W0 w.heap.size 31 [.slice Ai mi ci,.slice As ms cs]:=by rw[HW0.out];exact Fr.alloc (Fr.made _ _ _ rfl) _
 have hfc:Fr W0 (w.heap.size+1) 39 (#[.slice A0 c.nodes.length c0,.slice A1 c.names.length c1,.slice A2 c.mems.length c2,.slice A3 c.outs.length c3]).toList:=by rw[HW0.out];exact Fr.made _ _ _ (by simp)
 have hz0:W0.heap.size=w.heap.size+1+1:=by rw[HW0.out];simp
 have hBW:∀ {W},BelW W0 W→B≤W.heap.size:=fun {W} h=>Nat.le_trans hB (joinB hb0 h).size
 have hcn:∀W k,BelW W0 W→Calls Tryz.prog 75 #[.agg #[.slice A0 c.nodes.length c0,.slice A1 c.names.length c1,.slice A2 c.mems.length c2,.slice A3 c.outs.length c3],.int .u8 k] W fun e w'=>e=.returned (.int .i64 ((ofTo c.nodes [k] c.nodes.length).length:Int))∧BelW W w':=
  fun W k h=>count_any c k _ W B (hBW h) (hc.below ((joinB hb0 h).mono hB)) hsz
 have hti:∀W,BelW W0 W→Calls Tryz.prog 74 #[.slice Ai mi ci,.int .i64 ((ofTo c.nodes [0] c.nodes.length).length:Int),.int .u8 4] W fun e w'=>∃A cc,e=.returned (.slice A (ofTo c.nodes [0] c.nodes.length).length cc)∧VStk w' W.heap.size (.slice A (ofTo c.nodes [0] c.nodes.length).length cc) (takL qi 4 (ofTo c.nodes [0] c.nodes.length).length)∧BelW W w':=
  fun W h=>(taken_any qi 4 (by decide) (by decide) _ (by have:=ofTo_len c.nodes [0] c.nodes.length;omega) Ai mi ci W B (hBW h) (Arr.keep stays_u8 hi (Nat.le_refl _) fun _ hp=>(joinB hb0 h).cell (Nat.lt_of_lt_of_le hp hB)) vi).mono fun e w' ⟨v,he,hv,hb⟩=>by
   obtain⟨A,cc,rfl,-⟩:=hv.form
   rw[takL_len]at he hv
   exact⟨A,cc,he,hv,hb⟩
 have hts:∀W,BelW W0 W→Calls Tryz.prog 74 #[.slice As ms cs,.int .i64 ((ofTo c.nodes [14] c.nodes.length).length:Int),.int .u8 3] W fun e w'=>∃A cc,e=.returned (.slice A (ofTo c.nodes [14] c.nodes.length).length cc)∧VStk w' W.heap.size (.slice A (ofTo c.nodes [14] c.nodes.length).length cc) (takL qs 3 (ofTo c.nodes [14] c.nodes.length).length)∧BelW W w':=
  fun W h=>(taken_any qs 3 (by decide) (by decide) _ (by have:=ofTo_len c.nodes [14] c.nodes.length;omega) As ms cs W B (hBW h) (Arr.keep stays_u8 hs (Nat.le_refl _) fun _ hp=>(joinB hb0 h).cell (Nat.lt_of_lt_of_le hp hB)) vs).mono fun e w' ⟨v,he,hv,hb⟩=>by
   obtain⟨A,cc,rfl,-⟩:=hv.form
   rw[takL_len]at he hv
   exact⟨A,cc,he,hv,hb⟩
 have HC0:=Lib.hid (fun W h=>hcn W 0 h)
 have HC1:=Lib.hid (fun W h=>hcn W 14 h)
 have HL0:Hid ((takL qi 4 (ofTo c.nodes [0] c.nodes.length).length).length=(ofTo c.nodes [0] c.nodes.length).length):=Lib.hid (takL_len _ _ _)
 have HL1:Hid ((takL qs 3 (ofTo c.nodes [14] c.nodes.length).length).length=(ofTo c.nodes [14] c.nodes.length).length):=Lib.hid (takL_len _ _ _)
 have hp:∀(e:Ending) (w':World) A0 c0 A1 c1,e=.returned (.agg #[.slice A0 (ofTo c.nodes [0] c.nodes.length).length c0,.slice A1 (ofTo c.nodes [14] c.nodes.length).length c1])→VStk w' w.heap.size (.slice A0 (ofTo c.nodes [0] c.nodes.length).length c0) (takL qi 4 (ofTo c.nodes [0] c.nodes.length).length)→VStk w' w.heap.size (.slice A1 (ofTo c.nodes [14] c.nodes.length).length c1) (takL qs 3 (ofTo c.nodes [14] c.nodes.length).length)→
  (∀a b,(Value.slice A0 (ofTo c.nodes [0] c.nodes.length).length c0).ownBlock=some a→(Value.slice A1 (ofTo c.nodes [14] c.nodes.length).length c1).ownBlock=some b→a≠b)→Below w.heap.size w w'→PatPost (takL qi 4 (ofTo c.nodes [0] c.nodes.length).length) (takL qs 3 (ofTo c.nodes [14] c.nodes.length).length) w e w':=fun e w' A0 c0 A1 c1 he h1 h2 h3 h4=>by
  unfold PatPost
  rw[HL0.out,HL1.out]
  exact⟨A0,c0,A1,c1,he,h1,h2,h3,h4⟩
 have HP:=Lib.hid hp
 obtain⟨post,HPO⟩:=named (PatPost (takL qi 4 (ofTo c.nodes [0] c.nodes.length).length) (takL qs 3 (ofTo c.nodes [14] c.nodes.length).length) w)
 rw[←HPO.out]at HP
 rw[←HPO.out]
 have HB0:=Lib.hid hb0
 clear hc hi hs vi vs hb0 hBW hcn hp HL0 HL1
 obtain⟨li,HLI⟩:=named (takL qi 4 (ofTo c.nodes [0] c.nodes.length).length)
 obtain⟨ls,HLS⟩:=named (takL qs 3 (ofTo c.nodes [14] c.nodes.length).length)
 rw[←HLI.out]at hti HP
 rw[←HLS.out]at hts HP
 clear HPO HLI HLS
 generalize (ofTo c.nodes [0] c.nodes.length).length=k0 at HC0 hti HP
 generalize (ofTo c.nodes [14] c.nodes.length).length=k1 at HC1 hts HP
 generalize c.nodes.length=n at HW0 hfc HC0 HC1 hsz ⊢
 generalize c.names.length=n1 at HW0 hfc HC0 HC1 ⊢
 generalize c.mems.length=n2 at HW0 hfc HC0 HC1 ⊢
 generalize c.outs.length=n3 at HW0 hfc HC0 HC1 ⊢
 have HTI:=Lib.hid hti
 have HTS:=Lib.hid hts
 have HCE:Hid (∀W,BelW W0 W→BelW W0 W∧W.cell? ⟨w.heap.size,0,none⟩=some (.slice Ai mi ci)∧W.cell? ⟨w.heap.size,1,none⟩=some (.slice As ms cs)∧W.cell? ⟨w.heap.size+1,0,none⟩=some (.slice A0 n c0)∧W.cell? ⟨w.heap.size+1,1,none⟩=some (.slice A1 n1 c1)∧W.cell? ⟨w.heap.size+1,2,none⟩=some (.slice A2 n2 c2)∧W.cell? ⟨w.heap.size+1,3,none⟩=some (.slice A3 n3 c3)):=
  Lib.hid fun W h=>⟨h,(hfp.below h).cell 0,(hfp.below h).cell 1,(hfc.below h).cell 0,(hfc.below h).cell 1,(hfc.below h).cell 2,(hfc.below h).cell 3⟩
 have hwz:=HB0.out.size
 clear hfp hfc hti hts
 go_enter Tryz.func32,Tryz.ntmps32
 go_upto_region 1 with (fail)
 rw[←HW0.out]
 obtain⟨V,HV⟩:=named (W0.alloc (.cells #[.slice none 0 0,.slice none 0 0] 73))
 have hs0:BelW W0 V:=by rw[HV.out];exact below_new (Below.refl _ _) _
 have hf0:Fr V W0.heap.size 73 [.slice none 0 0,.slice none 0 0]:=by rw[HV.out];exact Fr.made _ _ _ rfl
 have hvz:W0.heap.size<V.heap.size:=by rw[HV.out];simp
 have hwr:w.heap.size+1<W0.heap.size:=by omega
 have hrz:w.heap.size+1+1=W0.heap.size:=hz0.symm
 rw[hrz]
 obtain⟨r,HR⟩:=named W0.heap.size
 rw[←HR.out]at hf0 hvz hwr
 have hrl:W0.heap.size≤r:=by rw[HR.out];exact Nat.le_refl _
 try rw[←HV.out]
 try rw[←HR.out]
 have hf0d:Fr V.drew r 73 [.slice none 0 0,.slice none 0 0]:=hf0
 have hs0d:BelW W0 V.drew:=BelW.drew hs0
 clear hs0 hf0
 have hs0:BelW W0 V:=by rw[HV.out];exact below_new (Below.refl _ _) _
 go_region_held3 (fun w'=>BelW W0 w'∧w'.cell? ⟨w.heap.size,0,none⟩=some (.slice Ai mi ci)∧w'.cell? ⟨w.heap.size,1,none⟩=some (.slice As ms cs)∧w'.cell? ⟨w.heap.size+1,0,none⟩=some (.slice A0 n c0)∧w'.cell? ⟨w.heap.size+1,1,none⟩=some (.slice A1 n1 c1)∧w'.cell? ⟨w.heap.size+1,2,none⟩=some (.slice A2 n2 c2)∧w'.cell? ⟨w.heap.size+1,3,none⟩=some (.slice A3 n3 c3))
  ((refine HCE.out _ ?_;first|(with_reducible assumption)|(refine BelW.drew ?_;with_reducible assumption)|(refine BelW.set (BelW.set ?_ ?_ _) ?_ _<;>first|(with_reducible assumption)|((try dsimp only)<;>omega))))
  (first
    |(go_at_call 75;(with_reducible refine Calls.mono (HC0.out _ ?_) ?_); ·(first|(with_reducible assumption)|(refine BelW.drew ?_;with_reducible assumption))
      rintro e wa ⟨rfl,hba⟩
      have hswa:BelW W0 wa:=(by refine BelW.next ?_ hba;first|(with_reducible assumption)|(refine BelW.drew ?_;with_reducible assumption))
      have hfwa:Fr wa r 73 [.slice none 0 0,.slice none 0 0]:=Fr.below (by first|(with_reducible assumption)|exact hf0d) hba)
    |(go_at_call 75;(with_reducible refine Calls.mono (HC1.out _ ?_) ?_); ·(first|(with_reducible assumption)|(refine BelW.drew ?_;with_reducible assumption))
      rintro e wc ⟨rfl,hbc⟩
      have hswc:BelW W0 wc:=(by refine BelW.next ?_ hbc;first|(with_reducible assumption)|(refine BelW.drew ?_;with_reducible assumption))
      have hfwc:Fr wc r 73 [.slice none 0 0,.slice none 0 0]:=Fr.below (by first|(with_reducible assumption)|exact hf0d) hbc
      have hvc:=VStk.below hvb hbc)
    |(go_at_call 74;(with_reducible refine Calls.mono (HTI.out _ ?_) ?_); ·(first|(with_reducible assumption)|(refine BelW.drew ?_;with_reducible assumption))
      rintro e wb ⟨Ai',ci',rfl,hvb,hbb⟩
      have hswb:BelW W0 wb:=(by refine BelW.next ?_ hbb;first|(with_reducible assumption)|(refine BelW.drew ?_;with_reducible assumption))
      have hfwb:Fr wb r 73 [.slice none 0 0,.slice none 0 0]:=Fr.below (by first|(with_reducible assumption)|exact hf0d) hbb)
    |(go_at_call 74;(with_reducible refine Calls.mono (HTS.out _ ?_) ?_); ·(first|(with_reducible assumption)|(refine BelW.drew ?_;with_reducible assumption))
      rintro e wd ⟨As',cs',rfl,hvd,hbd⟩
      have hswd:BelW W0 wd:=(by refine BelW.next ?_ hbd;first|(with_reducible assumption)|(refine BelW.drew ?_;with_reducible assumption))
      have hfwd:Fr wd r 73 [.slice none 0 0,.slice none 0 0]:=Fr.below (by first|(with_reducible assumption)|exact hf0d) hbd
      have hve:=VStk.below hvc hbd
      have hr0:=Fr.cell hfwd 0
      have hr1:=Fr.cell hfwd 1
      have hg0:=Fr.frozen hfwd 0
      have hg1:=Fr.frozen hfwd 1))
 have hq:=(hfwd.set 0 (.slice Ai' k0 ci')).set 1 (.slice As' k1 cs')
 have z1':V.drew.heap.size≤wa.heap.size:=Below.size hba
 have z1:V.heap.size≤wa.heap.size:=z1'
 have z2:=Below.size hbb
 have z3:=Below.size hbc
 have hap:∀a b,(Value.slice Ai' k0 ci').ownBlock=some a→(Value.slice As' k1 cs').ownBlock=some b→a≠b:=fun a b h1 h2=>by
  have t1:=(World.ownsRow.lt hvb a h1).2
  have t2:=(World.ownsRow.lt hvd b h2).1
  omega
 have hbe:Below w.heap.size w ((wd.setCell ⟨r,0,none⟩ (.slice Ai' k0 ci')).setCell ⟨r,1,none⟩ (.slice As' k1 cs')):=((joinB HB0.out hswd).setCell (by show w.heap.size≤r;omega) _).setCell (by show w.heap.size≤r;omega) _
 have hv0:VStk ((wd.setCell ⟨r,0,none⟩ (.slice Ai' k0 ci')).setCell ⟨r,1,none⟩ (.slice As' k1 cs')) w.heap.size (.slice Ai' k0 ci') li:=((hve.setS (a:=⟨r,0,none⟩) (by show r<wa.heap.size;omega) _).setS (a:=⟨r,1,none⟩) (by show r<wa.heap.size;omega) _).low (by omega)
 have hv1:VStk ((wd.setCell ⟨r,0,none⟩ (.slice Ai' k0 ci')).setCell ⟨r,1,none⟩ (.slice As' k1 cs')) w.heap.size (.slice As' k1 cs') ls:=((hvd.setS (a:=⟨r,0,none⟩) (by show r<wc.heap.size;omega) _).setS (a:=⟨r,1,none⟩) (by show r<wc.heap.size;omega) _).low (by omega)
 go_wp2
 (try simp only[Exit.inBlock,Exit.then])
 refine bodyPost_ret (results_cell_row rfl _ _ _ _ _ _ _ rfl hq Tryz.underlying73 rfl (by kernel_rfl)) rfl ?_
 exact HP.out _ _ _ _ _ _ rfl hv0 hv1 hap hbe
def Apart(x v:Value):Prop:=v.ownBlock=none∨v.ownBlock≠x.ownBlock
theorem WS.keptO{w w':World}{B:Nat}{v:Value}{l:List (List Int)}(h:WS w B v l){b s n:Nat}{u:Value}{xs:List Value}(hu:w.ownsRow b 41 s u n xs)(ha:Apart u v)(hg:w.grownBy w' u.ownBlock):WS w' B v l:=by
 obtain⟨vs,h1,h2,h3⟩:=h
 exact⟨vs,h1,World.ownsRow.kept h2 hg ha,fun j hj=>by
  obtain⟨A,c,e,hp⟩:=h3 j hj
  exact⟨A,c,e,hp.keptT hu (by decide) hg⟩⟩
theorem WS.lt{w:World}{B:Nat}{v:Value}{l:List (List Int)}(h:WS w B v l){q:Nat}(hq:v.ownBlock=some q):B≤q∧q<w.heap.size:=by
 obtain⟨vs,h1,h2,-⟩:=h
 exact World.ownsRow.lt h2 q hq
theorem WS.low{w:World}{B B':Nat}{v:Value}{l:List (List Int)}(h:WS w B v l)(hb:B'≤B):WS w B' v l:=by
 obtain⟨vs,h1,h2,h3⟩:=h
 refine⟨vs,h1,⟨h2.1,?_⟩,fun j hj=>by
  obtain⟨A,c,e,hp⟩:=h3 j hj
  exact⟨A,c,e,hp.low hb⟩⟩
 rcases h2.2 with h4| ⟨g,cap,cur,e,hb',h4⟩
 ·exact .inl h4
 ·exact .inr ⟨g,cap,cur,e,Nat.le_trans hb hb',h4⟩
def WWX(x:Value)(w:World)(B:Nat)(v:Value)(l:List (List (List Int))):Prop:=
 ∃vs:List Value,vs.length=l.length∧w.ownsRow B 43 1 v l.length vs∧∀j,j<l.length→∃A c,vs[j]? =some (.slice A (l.getD j []).length c)∧WS w B (.slice A (l.getD j []).length c) (l.getD j [])∧Apart x (.slice A (l.getD j []).length c)
section
variable {x x':Value} {w w':World} {B:Nat} {v v':Value} {l:List (List (List Int))}
theorem WWX.nil(x:Value)(w:World)(B:Nat):WWX x w B (.slice none 0 0) []:=⟨[],rfl,World.ownsRow_nil _ _ _ _,fun j hj=>absurd hj (by simp)⟩
theorem WWX.wws(h:WWX x w B v l):WWS w B v l:=by
 obtain⟨vs,h1,h2,h3⟩:=h
 exact⟨vs,h1,h2,fun j hj=>by obtain⟨A,c,e,hp,-⟩:=h3 j hj;exact⟨A,c,e,hp⟩⟩
theorem WWX.below(h:WWX x w B v l)(hb:BelW w w'):WWX x w' B v l:=by
 obtain⟨vs,h1,h2,h3⟩:=h
 exact⟨vs,h1,own_bel h2 hb,fun j hj=>by obtain⟨A,c,e,hp,ha⟩:=h3 j hj;exact⟨A,c,e,hp.below hb,ha⟩⟩
theorem WWX.grow(h:WWX x w B v l){b s n:Nat}{xs:List Value}(hu:w.ownsRow b 41 s x n xs)(hg:w.grownBy w' x.ownBlock)(hl:x'.ownBlock=x.ownBlock∨x'.ownBlock=some w.heap.size):WWX x' w' B v l:=by
 obtain⟨vs,h1,h2,h3⟩:=h
 refine⟨vs,h1,World.ownsRow.kept h2 hg (own_ne9 (by decide) hu h2),fun j hj=>?_⟩
 obtain⟨A,c,e,hp,ha⟩:=h3 j hj
 refine⟨A,c,e,hp.keptO hu ha hg,?_⟩
 rcases hl with hl|hl
 ·unfold Apart;rw[hl];exact ha
 ·rcases ho:(Value.slice A (l.getD j []).length c).ownBlock with _|q
  ·exact .inl ho
  ·refine .inr fun e1=>?_
   have h4:=(hp.lt ho).2
   rw[ho,hl]at e1
   injection e1 with e1
   omega
theorem WWX.setF(h:WWX x w B v l){g:Nat}{t:TypeId}{cs:List Value}(hf:Fr w g t cs)(q1:t≠43)(q2:t≠41)(q3:t≠77)(j:Nat)(y:Value):WWX x (w.setCell ⟨g,j,none⟩ y) B v l:=by
 obtain⟨vs,h1,h2,h3⟩:=h
 exact⟨vs,h1,own_set h2 hf q1 j y,fun j hj=>by
  obtain⟨A,c,e,hp,ha⟩:=h3 j hj
  exact⟨A,c,e,hp.setF hf q2 q3 _ y,ha⟩⟩
theorem WWX.add{vs:List Value}{p:List (List Int)}{A:Option Addr}{c:Nat}(h1:vs.length=l.length)(h2:w.ownsRow B 43 1 v l.length vs)(h3:∀j,j<l.length→∃A c,vs[j]? =some (.slice A (l.getD j []).length c)∧WS w B (.slice A (l.getD j []).length c) (l.getD j [])∧Apart x (.slice A (l.getD j []).length c))
 (hg:w.grownBy w' v.ownBlock) (ho:w'.ownsRow B 43 1 v' (l.length+1) (vs++[.slice A p.length c])) (hp:WS w B (.slice A p.length c) p) (hpx:Apart x (.slice A p.length c)):WWX x w' B v' (l++[p]):=by
 have hlen:(l++[p]).length=l.length+1:=by simp
 refine⟨vs++[.slice A p.length c],by simp[h1],by rw[hlen];exact ho,fun j hj=>?_⟩
 by_cases hlt:j<l.length
 ·obtain⟨A',c',e,hp',ha⟩:=h3 j hlt
  have e2:(l++[p]).getD j []=l.getD j []:=by rw[List.getD_eq_getElem?_getD,List.getElem?_append_left hlt,←List.getD_eq_getElem?_getD]
  rw[e2]
  exact⟨A',c',by rw[List.getElem?_append_left (by omega)];exact e,hp'.keptT h2 (by decide) (by decide) hg,ha⟩
 ·obtain rfl:j=l.length:=by omega
  have e2:(l++[p]).getD l.length []=p:=by rw[List.getD_eq_getElem?_getD,List.getElem?_append_right (Nat.le_refl _),Nat.sub_self];rfl
  rw[e2]
  exact⟨A,c,by rw[List.getElem?_append_right (by omega),h1,Nat.sub_self];rfl,hp.keptT h2 (by decide) (by decide) hg,hpx⟩
end
structure FitS(c:Ck)(ns m:Nat)(s:Stt):Prop where
 dl:s.dff.length=ns
 dv:∀j,j<ns→s.dff.getD j 0≤2
 wl:s.words.length=m
 wk:∀k,k<m→(s.words.getD k []).length=blN c.mems k∧∀i,i<blN c.mems k→((s.words.getD k []).getD i []).length=(c.mems.getD k default).data.length∧∀j,j<(c.mems.getD k default).data.length→((s.words.getD k []).getD i []).getD j 0≤2
 rl:s.read.length=m
 rk:∀k,k<m→(s.read.getD k []).length=(c.mems.getD k default).data.length∧∀j,j<(c.mems.getD k default).data.length→(s.read.getD k []).getD j 0≤2
theorem getD_range_map{α:Type}(f:Nat→α)(n k:Nat)(d:α)(h:k<n):((List.range n).map f).getD k d=f k:=by
 rw[List.getD_eq_getElem?_getD,List.getElem?_map,List.getElem?_range h]
 rfl
theorem fits_rel{c:Ck}{ns m:Nat}{s:Stt}(F:FitS c ns m s)(p:Int→Int→Bool)(hp:∀a b,a≤2→p a b=true):relS p s (blS c ns m)=true:=by
 have h1:relL p s.dff (blS c ns m).dff=true:=allEq_of 0 p _ _ (by rw[F.dl];simp[blS]) fun j hj=>hp _ _ (F.dv j (by rw[←F.dl];exact hj))
 have h2:relV p s.words (blS c ns m).words=true:=allEq_of [] (relW p) _ _ (by rw[F.wl];simp[blS]) fun k hk=>by
  rw[F.wl]at hk
  have e:(blS c ns m).words.getD k []=(List.range (blN c.mems k)).map (blW c.mems k):=getD_range_map _ _ _ _ hk
  rw[e]
  refine allEq_of [] (relL p) _ _ (by rw[(F.wk k hk).1];simp) fun i hi=>?_
  rw[(F.wk k hk).1]at hi
  rw[getD_range_map _ _ _ _ hi]
  obtain⟨g1,g2⟩:=(F.wk k hk).2 i hi
  exact allEq_of 0 p _ _ (by rw[g1];simp[blW]) fun j hj=>hp _ _ (g2 j (by rw[←g1];exact hj))
 have h3:relW p s.read (blS c ns m).read=true:=allEq_of [] (relL p) _ _ (by rw[F.rl];simp[blS]) fun k hk=>by
  rw[F.rl]at hk
  have e:(blS c ns m).read.getD k []=blR c.mems k:=getD_range_map _ _ _ _ hk
  rw[e]
  obtain⟨g1,g2⟩:=F.rk k hk
  exact allEq_of 0 p _ _ (by rw[g1];simp[blR]) fun j hj=>hp _ _ (g2 j (by rw[←g1];exact hj))
 unfold relS
 rw[h1,h2,h3]
 rfl
theorem ck_fits{c:Ck}{ni ns m:Nat}{s:Stt}{inp:List Int}(F:FitS c ns m s)(hl:inp.length=ni)(hv:∀j,j<inp.length→inp.getD j 0≤3):ckC c ni ns m s inp=0:=by
 have h1:=fits_rel F yesI (fun _ _ _=>rfl)
 have h2:=fits_rel F lowI (fun a b h=>by unfold lowI;simpa using h)
 have h3:anyP higV inp=false:=anyP_no fun j hj=>by
  have:=hv j hj
  unfold higV
  rw[decide_eq_false_iff_not]
  omega
 unfold ckC
 rw[if_neg (by rw[hl];simp),h1,h2,h3]
 rfl
theorem FitS.nx{c:Ck}{n ns m:Nat}{s:Stt}(F:FitS c ns m s)(hm:c.mems.length=m)(hp:∀k,k<m→(∀x∈(c.mems.getD k default).addr,0≤x∧x<(n:Int))∧(∀x∈(c.mems.getD k default).data,0≤x∧x<(n:Int))∧0≤(c.mems.getD k default).write∧(c.mems.getD k default).write<(n:Int)∧(c.mems.getD k default).addr.length≤9∧(c.mems.getD k default).data.length≤1000):NxOk c.mems s.words n:=by
 refine⟨by rw[F.wl,hm],fun k hk=>?_,fun k hk=>?_⟩
 ·obtain⟨a,b,c1,d,e,f⟩:=hp k (by rw[←hm];exact hk)
  exact⟨a,b,c1,d,by omega,f⟩
 ·rw[hm]at hk
  obtain⟨g1,g2⟩:=F.wk k hk
  obtain⟨-,-,-,-,e,f⟩:=hp k hk
  have h2:2^(c.mems.getD k default).addr.length≤2^9:=Nat.pow_le_pow_right (by decide) e
  have h3:0<2^(c.mems.getD k default).addr.length:=Nat.pow_pos (by decide)
  have e1:blN c.mems k=2^(c.mems.getD k default).addr.length:=rfl
  have e2:(2:Nat)^9=512:=by decide
  exact⟨by omega,by omega,fun i hi=>by rw[g1]at hi;rw[(g2 i hi).1];exact f⟩
theorem agL_get{a b:List Int}{j:Nat}(hj:j<a.length):(agL a b).getD j 0=agB a b j:=by
 unfold agL
 rw[List.getD_eq_getElem?_getD,List.getElem?_map,List.getElem?_range hj]
 rfl
theorem lk_all(ws:List (List Int))(ad:List Int)(n j:Nat)(hj:j<n)(x:Int)(hx:x=0∨x=1):∀k,((lkS ws ad n k).1=true∧(lkS ws ad n k).2.getD j 0=x)↔((∃i,i<k∧mat ad i=true)∧∀i,i<k→mat ad i=true→(bitsL (ws.getD i []) n).getD j 0=x):=by
 intro k
 induction k with
 |zero=>
  constructor
  ·rintro⟨h,-⟩
   exact absurd h (by simp[lkS])
  ·rintro⟨⟨i,hi,-⟩,-⟩
   exact absurd hi (by omega)
 |succ k ih=>
  have hlen:=lkS_len ws ad n k
  have h1:(lkS ws ad n k).1=true↔∃i,i<k∧mat ad i=true:=by
   clear ih
   induction k with
   |zero=>
    constructor
    ·intro h;exact absurd h (by simp[lkS])
    ·rintro⟨i,hi,-⟩;exact absurd hi (by omega)
   |succ k ih=>
    rw[lkS_succ]
    unfold lkStep
    by_cases hm:mat ad k=true
    ·rw[if_pos hm]
     exact⟨fun _=>⟨k,by omega,hm⟩,fun _=>rfl⟩
    ·rw[if_neg hm,ih (lkS_len ..)]
     constructor
     ·rintro⟨i,hi,h⟩;exact⟨i,by omega,h⟩
     ·rintro⟨i,hi,h⟩
      by_cases e:i=k
      ·exact absurd (e▸h) hm
      ·exact⟨i,by omega,h⟩
  rw[lkS_succ]
  unfold lkStep
  by_cases hm:mat ad k=true
  ·rw[if_pos hm]
   by_cases hs:(lkS ws ad n k).1=true
   ·rw[if_pos hs]
    show (true=true∧(agL _ _).getD j 0=x)↔_
    rw[agL_get (by rw[hlen];exact hj)]
    unfold agB
    constructor
    ·rintro⟨-,h⟩
     by_cases e:(lkS ws ad n k).2.getD j 0=(bitsL (ws.getD k []) n).getD j 0
     ·rw[if_pos e]at h
      have:=ih.1 ⟨hs,h⟩
      refine⟨⟨k,by omega,hm⟩,fun i hi hmi=>?_⟩
      by_cases e2:i=k
      ·rw[e2,←e,h]
      ·exact this.2 i (by omega) hmi
     ·rw[if_neg e]at h
      rcases hx with rfl|rfl<;>exact absurd h (by decide)
    ·rintro⟨-,h⟩
     have h2:=h k (by omega) hm
     have h3:=(ih.2 ⟨h1.1 hs,fun i hi hmi=>h i (by omega) hmi⟩).2
     exact⟨rfl,by rw[if_pos (h3.trans h2.symm)];exact h3⟩
   ·rw[if_neg hs]
    show (true=true∧(bitsL _ _).getD j 0=x)↔_
    constructor
    ·rintro⟨-,h⟩
     refine⟨⟨k,by omega,hm⟩,fun i hi hmi=>?_⟩
     by_cases e2:i=k
     ·rw[e2];exact h
     ·exact absurd (h1.2 ⟨i,by omega,hmi⟩) hs
    ·rintro⟨-,h⟩
     exact⟨rfl,h k (by omega) hm⟩
  ·rw[if_neg hm,ih]
   constructor
   ·rintro⟨⟨i,hi,h⟩,h2⟩
    refine⟨⟨i,by omega,h⟩,fun i hi hmi=>?_⟩
    by_cases e2:i=k
    ·exact absurd (e2▸hmi) hm
    ·exact h2 i (by omega) hmi
   ·rintro⟨⟨i,hi,h⟩,h2⟩
    have hik:i≠k:=fun e=>hm (e▸h)
    exact⟨⟨i,by omega,h⟩,fun i hi hmi=>h2 i (by omega) hmi⟩
theorem mat_ex:∀ad:List Int,∃i,i<2^ad.length∧mat ad i=true
 |[]=>⟨0,by decide,by rw[mat_iff];exact⟨fun k hk=>absurd hk (by simp),rfl⟩⟩
 |a::t=>by
  obtain⟨i,hi,hm⟩:=mat_ex t
  rw[mat_iff]at hm
  have hlt:2*i+(if a=1 then 1 else 0)<2^(a::t).length:=by
   rw[List.length_cons,Nat.pow_succ]
   split<;>omega
  refine⟨2*i+(if a=1 then 1 else 0),hlt,?_⟩
  rw[mat_iff]
  refine⟨fun k hk=>?_,by rw[Nat.shiftRight_eq_div_pow];exact Nat.div_eq_of_lt hlt⟩
  cases k with
  |zero=>
   intro hkn
   show a=ibit _ 0
   have hkn:knw a=true:=hkn
   unfold ibit
   rw[Nat.testBit_zero]
   unfold knw at hkn
   by_cases h1:a=1
   ·subst h1;simp
   ·have h0:a=0:=by
     have:a=0∨a=1:=by simpa using hkn
     omega
    subst h0;simp
  |succ k=>
   have h2:=hm.1 k (by simpa using hk)
   intro hkn
   have h3:t.getD k 0=ibit i k:=h2 hkn
   show t.getD k 0=ibit _ (k+1)
   rw[h3]
   unfold ibit
   rw[Nat.testBit_succ]
   have:(2*i+(if a=1 then 1 else 0))/2=i:=by split<;>omega
   rw[this]
theorem takV_in{l:List Int}{most:Int}(h0:∀x∈l,0≤x∧x≤255)(hm:3≤most)(hm2:most≤4)(i:Nat):0≤takV l most i∧takV l most i≤3:=by
 unfold takV
 split
 ·omega
 ·rename_i hl
  have hmem:=h0 (l.getD (i%l.length) 0) (by rw[List.getD_eq_getElem?_getD,List.getElem?_eq_getElem (Nat.mod_lt _ (by omega))];exact List.getElem_mem _)
  rw[Int.tmod_eq_emod_of_nonneg hmem.1]
  have h1:=Int.emod_nonneg (l.getD (i%l.length) 0) (show most≠0 by omega)
  have h2:=Int.emod_lt_of_pos (l.getD (i%l.length) 0) (show 0<most by omega)
  omega
theorem takL_in{l:List Int}{most:Int}(h0:∀x∈l,0≤x∧x≤255)(hm:3≤most)(hm2:most≤4)(n:Nat):∀x∈takL l most n,0≤x∧x≤3:=fun x hx=>by
 obtain⟨i,-,rfl⟩:=List.mem_map.1 hx
 exact takV_in h0 hm hm2 i
theorem getD_inL{l:List Int}{i:Nat}(h:i<l.length):l.getD i 0∈l:=by
 rw[List.getD_eq_getElem?_getD,List.getElem?_eq_getElem h];exact List.getElem_mem h
structure MV(V3:World)(q4 ni ns cI cS:Nat)(AI AS:Option Addr)(lI lS:List Int)(wr:World):Prop where
 bel:BelW V3 wr
 box:Fr wr q4 73 [.slice AI ni cI,.slice AS ns cS]
 rI:VStk wr V3.heap.size (.slice AI ni cI) lI
 rS:VStk wr V3.heap.size (.slice AS ns cS) lS
 apart:∀a b,(Value.slice AI ni cI).ownBlock=some a→(Value.slice AS ns cS).ownBlock=some b→a≠b
 offI:∀a,(Value.slice AI ni cI).ownBlock=some a→a≠q4
 offS:∀a,(Value.slice AS ns cS).ownBlock=some a→a≠q4
 lenI:lI.length=ni
 lenS:lS.length=ns
section
variable {V3 wr w':World} {q4 ni ns cI cS:Nat} {AI AS:Option Addr} {lI lS:List Int}
theorem VStk.set{w:World}{base g n c:Nat}{l:List Int}(h:VStk w base (.slice (some ⟨g,0,none⟩) n c) l)(hl:l.length=n)(j:Nat)(x:Int):VStk (w.setCell ⟨g,j,none⟩ (.int .u8 x)) base (.slice (some ⟨g,0,none⟩) n c) (l.set j x):=by
 subst hl
 have:=(World.ownsRow.stored h j (.int .u8 x)).1
 unfold VStk
 rw[List.length_set,List.map_set]
 exact this
end
open Lg
def LeW(a b:List (List Int)):Prop:=∀k,LeL (a.getD k []) (b.getD k [])
def posS(ms:List Mm)(ns:Nat):Nat→Nat
 |0=>ns
 |k+1=>posS ms ns k+blN ms k*(ms.getD k default).data.length+(ms.getD k default).data.length
def sofS(c:Ck)(ns m:Nat)(l:List Int):Stt:=
 ⟨takL9 l 0 ns,(List.range m).map fun k=>(List.range (blN c.mems k)).map fun i=>takL9 l (posS c.mems ns k+i*(c.mems.getD k default).data.length) (c.mems.getD k default).data.length,
  (List.range m).map fun k=>takL9 l (posS c.mems ns k+blN c.mems k*(c.mems.getD k default).data.length) (c.mems.getD k default).data.length⟩
theorem takV9_le(l:List Int)(a i:Nat):takV9 l a i≤2:=by
 unfold takV9
 split
 ·decide
 ·have h:=Int.tmod_lt_of_pos (l.getD ((a+i)%l.length) 0) (by decide:(0:Int)<3)
  omega
theorem takL9_le(l:List Int)(a n j:Nat)(hj:j<n):(takL9 l a n).getD j 0≤2:=by
 unfold takL9
 rw[getD_range_map _ _ _ _ hj]
 exact takV9_le _ _ _
theorem sofS_fits(c:Ck)(ns m:Nat)(l:List Int):FitS c ns m (sofS c ns m l):=by
 refine⟨takL9_len _ _ _,fun j hj=>takL9_le _ _ _ _ hj,by simp[sofS],fun k hk=>?_,by simp[sofS],fun k hk=>?_⟩
 ·have e:(sofS c ns m l).words.getD k []=(List.range (blN c.mems k)).map fun i=>takL9 l (posS c.mems ns k+i*(c.mems.getD k default).data.length) (c.mems.getD k default).data.length:=getD_range_map _ _ _ _ hk
  rw[e]
  refine⟨by simp,fun i hi=>?_⟩
  rw[getD_range_map _ _ _ _ hi]
  exact⟨takL9_len _ _ _,fun j hj=>takL9_le _ _ _ _ hj⟩
 ·have e:(sofS c ns m l).read.getD k []=takL9 l (posS c.mems ns k+blN c.mems k*(c.mems.getD k default).data.length) (c.mems.getD k default).data.length:=getD_range_map _ _ _ _ hk
  rw[e]
  exact⟨takL9_len _ _ _,fun j hj=>takL9_le _ _ _ _ hj⟩
structure LeS(s t:Stt):Prop where
 d:Lg.LeL s.dff t.dff
 wl:s.words.length=t.words.length
 wk:∀k,(s.words.getD k []).length=(t.words.getD k []).length∧∀i,Lg.LeL ((s.words.getD k []).getD i []) ((t.words.getD k []).getD i [])
 rl:s.read.length=t.read.length
 r:LeW s.read t.read
theorem WS.setS{w:World}{B:Nat}{v:Value}{l:List (List Int)}(h:WS w B v l){a:Addr}(ha:a.block<B)(x:Value):WS (w.setCell a x) B v l:=by
 obtain⟨vs,h1,h2,h3⟩:=h
 refine⟨vs,h1,World.ownsRow.kept h2 (row:=some a.block) ⟨rfl,rfl,rfl,by simp[World.setCell],fun i _ hne=>Below.heap_setCell _ _ _ _ (fun e=>hne (by rw[e]))⟩ ?_,fun j hj=>by
  obtain⟨A,c,e,hp⟩:=h3 j hj
  exact⟨A,c,e,hp.setS ha x⟩⟩
 rcases ho:v.ownBlock with _|q
 ·exact .inl rfl
 ·have:=(World.ownsRow.lt h2 q ho).1
  exact .inr fun e=>by injection e with e;omega
theorem WWS.setS{w:World}{B:Nat}{v:Value}{l:List (List (List Int))}(h:WWS w B v l){a:Addr}(ha:a.block<B)(x:Value):WWS (w.setCell a x) B v l:=by
 obtain⟨vs,h1,h2,h3⟩:=h
 refine⟨vs,h1,World.ownsRow.kept h2 (row:=some a.block) ⟨rfl,rfl,rfl,by simp[World.setCell],fun i _ hne=>Below.heap_setCell _ _ _ _ (fun e=>hne (by rw[e]))⟩ ?_,fun j hj=>by
  obtain⟨A,c,e,hp⟩:=h3 j hj
  exact⟨A,c,e,hp.setS ha x⟩⟩
 rcases ho:v.ownBlock with _|q
 ·exact .inl rfl
 ·have:=(World.ownsRow.lt h2 q ho).1
  exact .inr fun e=>by injection e with e;omega
theorem WWS.low{w:World}{B B':Nat}{v:Value}{l:List (List (List Int))}(h:WWS w B v l)(hb:B'≤B):WWS w B' v l:=by
 obtain⟨vs,h1,h2,h3⟩:=h
 refine⟨vs,h1,⟨h2.1,?_⟩,fun j hj=>by
  obtain⟨A,c,e,hp⟩:=h3 j hj
  exact⟨A,c,e,hp.low hb⟩⟩
 rcases h2.2 with h4| ⟨g,cap,cur,e,hb',h4⟩
 ·exact .inl h4
 ·exact .inr ⟨g,cap,cur,e,Nat.le_trans hb hb',h4⟩
structure OwnS(w:World)(B:Nat)(A0 A1 A2:Option Addr)(n0 n1 n2 c0 c1 c2:Nat)(s:Stt):Prop where
 o0:VStk w B (.slice A0 n0 c0) s.dff
 o1:WWS w B (.slice A1 n1 c1) s.words
 o2:WS w B (.slice A2 n2 c2) s.read
section
variable {w w':World} {B B':Nat} {A0 A1 A2:Option Addr} {n0 n1 n2 c0 c1 c2:Nat} {s:Stt}
theorem OwnS.below(h:OwnS w B A0 A1 A2 n0 n1 n2 c0 c1 c2 s)(hb:BelW w w'):OwnS w' B A0 A1 A2 n0 n1 n2 c0 c1 c2 s:=⟨h.o0.below hb,h.o1.below hb,h.o2.below hb⟩
theorem OwnS.low(h:OwnS w B A0 A1 A2 n0 n1 n2 c0 c1 c2 s)(hb:B'≤B):OwnS w B' A0 A1 A2 n0 n1 n2 c0 c1 c2 s:=⟨h.o0.low hb,h.o1.low hb,h.o2.low hb⟩
theorem OwnS.setS(h:OwnS w B A0 A1 A2 n0 n1 n2 c0 c1 c2 s){a:Addr}(ha:a.block<B)(x:Value):OwnS (w.setCell a x) B A0 A1 A2 n0 n1 n2 c0 c1 c2 s:=⟨h.o0.setS ha x,h.o1.setS ha x,h.o2.setS ha x⟩
theorem OwnS.str(h:OwnS w B A0 A1 A2 n0 n1 n2 c0 c1 c2 s):StR w w.heap.size A0 A1 A2 n0 n1 n2 c0 c1 c2 s:=⟨h.o0.ks,h.o1.wwss,h.o2.wds⟩
end
theorem bel_push{V wo w1:World}{o:Obj}{r:Option Nat}(hb:BelW V wo)(hg:(wo.alloc o).grownBy w1 r)(hq:∀q,r=some q→V.heap.size≤q):BelW V w1:=
 (Below.alloc hb (Below.size hb) o).grown hg (by have:=Below.size hb;simp;omega) hq
theorem WS.push{V wo w1:World}{o:Obj}{v v':Value}{l:List (List Int)}{vs:List Value}{p:List Int}{A:Option Addr}{c:Nat}(hb:BelW V wo)
 (q1:vs.length=l.length) (q2:wo.ownsRow V.heap.size 41 1 v l.length vs) (q3:∀j,j<l.length→∃A c,vs[j]? =some (.slice A (l.getD j []).length c)∧VStk wo V.heap.size (.slice A (l.getD j []).length c) (l.getD j []))
 (hg:(wo.alloc o).grownBy w1 v.ownBlock) (ho:w1.ownsRow V.heap.size 41 1 v' (l.length+1) (vs++[.slice A p.length c])) (hp:VStk wo V.heap.size (.slice A p.length c) p):BelW V w1∧WS w1 V.heap.size v' (l++[p]):=by
 have hn:BelW wo (wo.alloc o):=below_new (Below.refl _ _) _
 refine⟨bel_push hb hg fun q h=>(World.ownsRow.lt q2 q h).1,?_⟩
 exact WS.add q1 (World.ownsRow.alloc q2 o) (fun j hj=>by obtain⟨A,c,e,h⟩:=q3 j hj;exact⟨A,c,e,h.below hn⟩) hg ho (hp.below hn)
theorem WWX.push{V wo w1:World}{o:Obj}{x v v':Value}{l:List (List (List Int))}{vs:List Value}{p:List (List Int)}{A:Option Addr}{c:Nat}(hb:BelW V wo)
 (q1:vs.length=l.length) (q2:wo.ownsRow V.heap.size 43 1 v l.length vs) (q3:∀j,j<l.length→∃A c,vs[j]? =some (.slice A (l.getD j []).length c)∧WS wo V.heap.size (.slice A (l.getD j []).length c) (l.getD j [])∧Apart x (.slice A (l.getD j []).length c))
 (hg:(wo.alloc o).grownBy w1 v.ownBlock) (ho:w1.ownsRow V.heap.size 43 1 v' (l.length+1) (vs++[.slice A p.length c])) (hp:WS wo V.heap.size (.slice A p.length c) p) (hpx:Apart x (.slice A p.length c)):BelW V w1∧WWX x w1 V.heap.size v' (l++[p]):=by
 have hn:BelW wo (wo.alloc o):=below_new (Below.refl _ _) _
 refine⟨bel_push hb hg fun q h=>(World.ownsRow.lt q2 q h).1,?_⟩
 exact WWX.add q1 (World.ownsRow.alloc q2 o) (fun j hj=>by obtain⟨A,c,e,h,h'⟩:=q3 j hj;exact⟨A,c,e,h.below hn,h'⟩) hg ho (hp.below hn) hpx
theorem Fr.grownT{wo w1:World}{o:Obj}{g b s n:Nat}{t e:TypeId}{cs xs:List Value}{v:Value}(hf:Fr wo g t cs)(hr:wo.ownsRow b e s v n xs)(he:t≠e)(hg:(wo.alloc o).grownBy w1 v.ownBlock):Fr w1 g t cs:=by
 have h1:Fr (wo.alloc o) g t cs:=hf.alloc o
 unfold Fr at h1 ⊢
 rw[←h1]
 refine hg.block g (Fr.lt (t:=t) (cs:=cs) h1) fun e1=>?_
 have h2:=World.ownsRow.alloc hr o
 rcases h2.2 with⟨rfl,-⟩| ⟨g',c',cur',rfl,-,hg',-⟩
 ·simp[Value.ownBlock]at e1
 ·simp only[Value.ownBlock,Option.some.injEq]at e1
  rw[←e1,h1]at hg'
  have h3:=Option.some.inj hg'
  injection h3 with _ h4 _
  exact he h4
theorem own_sl{w:World}{b n s:Nat}{e:TypeId}{v:Value}{xs:List Value}(h:w.ownsRow b e s v n xs):∃A c,v=.slice A n c:=by
 rcases h.2 with⟨rfl,h0⟩| ⟨g',c',cur',rfl,-⟩
 ·exact⟨none,0,by rw[h0]⟩
 ·exact⟨_,_,rfl⟩
def sfw(c:Ck)(ns:Nat)(l:List Int)(k i:Nat):List (List Int):=(List.range i).map fun i=>takL9 l (posS c.mems ns k+i*(c.mems.getD k default).data.length) (c.mems.getD k default).data.length
def sfW(c:Ck)(ns:Nat)(l:List Int)(k:Nat):List (List (List Int)):=(List.range k).map fun k=>sfw c ns l k (blN c.mems k)
def sfR(c:Ck)(ns:Nat)(l:List Int)(k:Nat):List (List Int):=(List.range k).map fun k=>takL9 l (posS c.mems ns k+blN c.mems k*(c.mems.getD k default).data.length) (c.mems.getD k default).data.length
theorem sfw_len(c:Ck)(ns:Nat)(l:List Int)(k i:Nat):(sfw c ns l k i).length=i:=by simp[sfw]
theorem sfW_len(c:Ck)(ns:Nat)(l:List Int)(k:Nat):(sfW c ns l k).length=k:=by simp[sfW]
theorem sfR_len(c:Ck)(ns:Nat)(l:List Int)(k:Nat):(sfR c ns l k).length=k:=by simp[sfR]
theorem sfw_succ(c:Ck)(ns:Nat)(l:List Int)(k i:Nat):sfw c ns l k (i+1)=sfw c ns l k i++[takL9 l (posS c.mems ns k+i*(c.mems.getD k default).data.length) (c.mems.getD k default).data.length]:=by simp[sfw,List.range_succ]
theorem sfW_succ(c:Ck)(ns:Nat)(l:List Int)(k:Nat):sfW c ns l (k+1)=sfW c ns l k++[sfw c ns l k (blN c.mems k)]:=by simp[sfW,List.range_succ]
theorem sfR_succ(c:Ck)(ns:Nat)(l:List Int)(k:Nat):sfR c ns l (k+1)=sfR c ns l k++[takL9 l (posS c.mems ns k+blN c.mems k*(c.mems.getD k default).data.length) (c.mems.getD k default).data.length]:=by simp[sfR,List.range_succ]
set_option maxRecDepth 100000 in
set_option maxHeartbeats 8000000 in
theorem sof9_any(c:Ck)(l:List Int)(A A0 A1 A2 A3:Option Addr)(n n1 m n3 c0 c1 c2 c3 ml cl ns:Nat)(w:World)(hC:Cir w w.heap.size (.agg #[.slice A0 n c0,.slice A1 n1 c1,.slice A2 m c2,.slice A3 n3 c3]) c) (hL:Ks w w.heap.size (.slice A ml cl) l) (h0:∀x∈l,0≤x∧x≤255) (hsz:c.nodes.length≤1000000) (hns:(ofTo c.nodes [14] c.nodes.length).length=ns) (hns1:ns≤1000000) (hm1:m≤1000)
 (hp:∀k,k<m→(c.mems.getD k default).addr.length≤8∧(c.mems.getD k default).data.length≤1000) (hpos:∀k,k<m→posS c.mems ns (k+1)≤10000000):
 Calls Tryz.prog 23 #[.agg #[.slice A ml cl],.agg #[.slice A0 n c0,.slice A1 n1 c1,.slice A2 m c2,.slice A3 n3 c3]] w fun e w'=>∃A7 c7 Aa1 ca1 Aa2 ca2,e=.returned (.agg #[.slice A7 ns c7,.slice Aa1 m ca1,.slice Aa2 m ca2])∧OwnS w' w.heap.size A7 Aa1 Aa2 ns m m c7 ca1 ca2 (sofS c ns m l)∧BelW w w':=by
 have hM:Ms w w.heap.size (.slice A2 m c2) c.mems:=by
  obtain⟨y0,y1,y2,y3,e,-,-,hM,-⟩:=id hC
  simp only[Value.agg.injEq,Array.mk.injEq,List.cons.injEq,and_true]at e
  obtain⟨-,-,rfl,-⟩:=e
  exact hM
 obtain⟨A',b0,o0,c',e,hA,-,-,hc⟩:=id hM
 simp only[Value.slice.injEq]at e
 obtain⟨rfl,hml,rfl⟩:=e
 rw[←hml]at hA hc
 obtain⟨W0,HW0⟩:=named (((w.alloc (.cells #[.slice A ml cl] 29)).alloc (.cells #[.slice A0 n c0,.slice A1 n1 c1,.slice A2 m c2,.slice A3 n3 c3] 39)).alloc (.cells #[.slice none 0 0,.slice none 0 0,.slice none 0 0] 45))
 have hb0:BelW w W0:=by rw[HW0.out];exact below_new (below_new (below_new (Below.refl _ _) _) _) _
 have hfv:Fr W0 w.heap.size 29 [.slice A ml cl]:=by rw[HW0.out];exact Fr.alloc (Fr.alloc (Fr.made _ [.slice A ml cl] _ rfl) _) _
 have hfc:Fr W0 (w.heap.size+1) 39 [.slice A0 n c0,.slice A1 n1 c1,.slice A2 m c2,.slice A3 n3 c3]:=by rw[HW0.out];exact Fr.alloc (Fr.made _ [.slice A0 n c0,.slice A1 n1 c1,.slice A2 m c2,.slice A3 n3 c3] _ (by simp)) _
 have hft:Fr W0 (w.heap.size+1+1) 45 [.slice none 0 0,.slice none 0 0,.slice none 0 0]:=by rw[HW0.out];exact Fr.made _ [.slice none 0 0,.slice none 0 0,.slice none 0 0] _ (by simp)
 have hus:W0.heap.size=w.heap.size+1+1+1:=by rw[HW0.out];simp
 obtain⟨W1,HW1⟩:=named (W0.alloc (.cells #[.slice none 0 0,.slice none 0 0,.slice none 0 0] 45))
 have hb01:BelW W0 W1:=by rw[HW1.out];exact below_new (Below.refl _ _) _
 have hfu:Fr W1 W0.heap.size 45 [.slice none 0 0,.slice none 0 0,.slice none 0 0]:=by rw[HW1.out];exact Fr.made _ [.slice none 0 0,.slice none 0 0,.slice none 0 0] _ rfl
 rw[hus]at hfu
 obtain⟨s,HS⟩:=named w.heap.size
 have HSW:Hid (w.heap.size≤s):=Lib.hid (by rw[HS.out];exact Nat.le_refl _)
 obtain⟨u,HU⟩:=named (s+1+1+1)
 rw[←HS.out]at hfv hfc hft hfu hus
 rw[←HU.out]at hfu hus
 have HUS:=Lib.hid hus
 have HCE:Hid (∀W,BelW W0 W→W.cell? ⟨s,0,none⟩=some (.slice A ml cl)∧W.cell? ⟨s+1,0,none⟩=some (.slice A0 n c0)∧W.cell? ⟨s+1,1,none⟩=some (.slice A1 n1 c1)∧W.cell? ⟨s+1,2,none⟩=some (.slice A2 m c2)∧W.cell? ⟨s+1,3,none⟩=some (.slice A3 n3 c3)):=Lib.hid fun W h=>⟨(hfv.below h).cell 0,(hfc.below h).cell 0,(hfc.below h).cell 1,(hfc.below h).cell 2,(hfc.below h).cell 3⟩
 have HFT:=Lib.hid hft
 have HFV:Hid (∀W,BelW W0 W→Fr W s 29 [.slice A ml cl]):=Lib.hid fun W h=>hfv.below h
 have HFU:=Lib.hid hfu
 have HB0:Hid (∀W,BelW W0 W→BelW w W):=Lib.hid fun W h=>joinB hb0 h
 have HOF:Hid (∀W,BelW W0 W→Calls Tryz.prog 43 #[.agg #[.slice A0 n c0,.slice A1 n1 c1,.slice A2 m c2,.slice A3 n3 c3],.int .u8 14] W fun e w'=>∃A c,e=.returned (.slice A ns c)∧BelW W w'):=Lib.hid fun W h=>
  (refOf_any c 14 _ W W.heap.size (Nat.le_refl _) ((hC.below (joinB hb0 h)).more (Below.size (joinB hb0 h))) hsz).mono fun e w' ⟨⟨s',he,hi⟩,hb⟩=>by
    obtain⟨A9,_,_,c9,rfl,-⟩:=id hi
    exact⟨A9,c9,by rw[he,hns],hb⟩
 have HTK:Hid (∀W (B at0 k:Nat),BelW W0 W→B≤W.heap.size→at0≤10000000→k≤1000000→Calls Tryz.prog 64 #[.slice A ml cl,.int .i64 (at0:Int),.int .i64 (k:Int)] W fun e w'=>∃A c,e=.returned (.slice A k c)∧VStk w' B (.slice A k c) (takL9 l at0 k)∧BelW W w'):=Lib.hid fun W B at0 k h hBW ha hk=>by
  have hbw:=joinB hb0 h
  refine (taken9_any l at0 ha k hk A ml cl W W.heap.size (Nat.le_refl _) (Arr.keep stays_u8 hL (Below.size hbw) fun _ hp=>Below.cell hbw hp) h0).mono fun e w' ⟨v,he,hv,hb⟩=>?_
  obtain⟨A9,c9,rfl,-⟩:=hv.form
  rw[takL9_len]at he
  have hv:=hv.low hBW
  rw[takL9_len]at hv
  exact⟨A9,c9,he,hv,hb⟩
 have HMM:Hid (∀k,k<m→∃(Aa Ad2:Option Addr) (ca cd2:Nat),A2=some ⟨b0,o0,none⟩∧∀W,BelW W0 W→W.cell? ⟨b0,o0+k*3,none⟩=some (.slice Aa (c.mems.getD k default).addr.length ca)∧W.cell? ⟨b0,o0+k*3+1,none⟩=some (.slice Ad2 (c.mems.getD k default).data.length cd2)):=Lib.hid fun k hk=>by
  obtain⟨hlb,x,y,e0,e1,e2,h4,h5⟩:=hc k hk
  obtain⟨Aa,ba,oa,ca,rfl,-⟩:=id h4
  obtain⟨Ad2,bd,od,cd2,rfl,-⟩:=id h5
  refine⟨Aa,Ad2,ca,cd2,hA (by omega),fun W h=>?_⟩
  have h:=joinB hb0 h
  have hk:∀j,W.cell? ⟨b0,j,none⟩=w.cell? ⟨b0,j,none⟩:=fun j=>Below.cell h (p:=⟨b0,j,none⟩) hlb
  exact⟨by rw[hk];exact e0,by rw[hk];exact e1⟩
 have HTK0:Hid (∀W,BelW W0 W→Calls Tryz.prog 64 #[.slice A ml cl,.int .i64 0,.int .i64 (ns:Int)] W fun e w'=>∃A c,e=.returned (.slice A ns c)∧VStk w' W0.heap.size (.slice A ns c) (takL9 l 0 ns)∧BelW W w'):=Lib.hid fun W h=>HTK.out W W0.heap.size 0 ns h (Below.size h) (by omega) hns1
 have HPK:=Lib.hid hp
 have HPO:=Lib.hid hpos
 have HB01:=Lib.hid hb01
 obtain⟨i2,hj1,hj2,hj3,hj4⟩:=info_parts info_vals
 have HJ:=Lib.hid (And.intro hj1 (And.intro hj2 (And.intro hj3 hj4)))
 clear hj1 hj2 hj3 hj4
 obtain⟨i3,hj1,hj2,hj3,hj4⟩:=info_parts info_wds
 have HI3:=Lib.hid (And.intro hj1 (And.intro hj2 (And.intro hj3 hj4)))
 clear hj1 hj2 hj3 hj4
 obtain⟨x0,y0,y1,y2,y3⟩:=HCE.out W1 hb01
 have z0:=hfu.cell 0
 have z1:=hfu.cell 1
 have z2:=hfu.cell 2
 have g0:=hfu.frozen 0
 clear hM hC hL h0 hsz hns hp hpos hml hc hA hb0 hfv hfc hft hus hb01 hfu
 go_enter Tryz.func23,Tryz.ntmps23
 go_upto_region 2 with (fail)
 rw[←HW0.out,←HW1.out,←HS.out,←HU.out]
 go_upto_region 4 with (first
  |(go_at_call 43;(with_reducible refine (HOF.out _ HB01.out).mono ?_);rintro e w2 ⟨A9,c9,rfl,hb2⟩;have HB2:Hid (BelW W1 w2):=Lib.hid hb2;clear x0 y0 y1 y2 y3 z0 z1 z2 g0;obtain⟨x0,y0,y1,y2,y3⟩:=HCE.out w2 (joinB HB01.out hb2);have z0:=(HFU.out.below hb2).cell 0;have g0:=(HFU.out.below hb2).frozen 0;have hb02:BelW W0 w2:=joinB HB01.out hb2;clear hb2)
  |(go_at_call 64;(with_reducible refine (HTK0.out _ hb02).mono ?_);rintro e w3 ⟨A7,c7,rfl,hv3,hb3⟩;have HB3:Hid (BelW W1 w3):=Lib.hid (joinB HB2.out hb3);have HV3:=Lib.hid hv3;clear x0 y0 y1 y2 y3 z0 g0;have z0:=(HFU.out.below HB3.out).cell 0;have g0:=(HFU.out.below HB3.out).frozen 0;clear hb3 hv3))
 obtain⟨W4,HW4⟩:=named (w3.setCell ⟨u,0,none⟩ (.slice A7 ns c7))
 rw[←HW4.out]
 have hfu3:=HFU.out.below HB3.out
 have hb4:BelW W0 W4:=by rw[HW4.out];exact (joinB HB01.out HB3.out).setCell (p:=⟨u,0,none⟩) (by show W0.heap.size≤u;rw[HUS.out,HU.out];exact Nat.le_refl _) _
 have hfu4:Fr W4 u 45 [.slice A7 ns c7,.slice none 0 0,.slice none 0 0]:=by rw[HW4.out];exact hfu3.set 0 _
 have hv4:VStk W4 W0.heap.size (.slice A7 ns c7) (takL9 l 0 ns):=by rw[HW4.out];exact HV3.out.setF hfu3 (by decide) 0 _
 have HI4:=Lib.hid (And.intro hb4 (And.intro hfu4 hv4))
 clear hb4 hfu4 hv4 hfu3 z0 g0 hb02
 go_wp2
 go_loopw [6,7] (fun at0 ci wr=>∃(k:Nat) (Aa1:Option Addr) (ca1:Nat) (Aa2:Option Addr) (ca2:Nat),k≤m∧at0=.int .i64 (posS c.mems ns k:Nat)∧ci=.int .i64 k∧BelW W0 wr∧Fr wr u 45 [.slice A7 ns c7,.slice Aa1 k ca1,.slice Aa2 k ca2]∧VStk wr W0.heap.size (.slice A7 ns c7) (takL9 l 0 ns)∧WWX (.slice Aa2 k ca2) wr W0.heap.size (.slice Aa1 k ca1) (sfW c ns l k)∧WS wr W0.heap.size (.slice Aa2 k ca2) (sfR c ns l k)) (fun _ ci _=>m-(intOf ci).toNat)
 case atStart=>exact⟨0,none,0,none,0,Nat.zero_le _,rfl,rfl,HI4.out.1,HI4.out.2.1,HI4.out.2.2,WWX.nil _ _ _,WS.nil _ _⟩
 case round=>
  obtain⟨k,Aa1,ca1,Aa2,ca2,hkm,rfl,rfl,hb,hfu,hv,hww,hws⟩:=hrel
  obtain⟨V0,rfl⟩:∃V0:World,V0=wr:=⟨_,rfl⟩
  by_cases hk:k<m
  ·have hk2:(k:Int)<(m:Int):=by omega
   obtain⟨Aa,Ad2,ca,cd2,rfl,hmm⟩:=HMM.out k hk
   obtain⟨p5,p6⟩:=HPK.out k hk
   obtain⟨b,rfl⟩:∃z,z=b0:=⟨_,rfl⟩
   obtain⟨o,rfl⟩:∃z,z=o0:=⟨_,rfl⟩
   obtain⟨e0,e1⟩:=hmm V0 hb
   have hpk:=HPO.out k hk
   have hps:posS c.mems ns (k+1)=posS c.mems ns k+blN c.mems k*(c.mems.getD k default).data.length+(c.mems.getD k default).data.length:=rfl
   have HSU:Hid (∀i,sfw c ns l k (i+1)=sfw c ns l k i++[takL9 l (posS c.mems ns k+i*(c.mems.getD k default).data.length) (c.mems.getD k default).data.length]):=Lib.hid fun i=>sfw_succ c ns l k i
   have HWSU:=Lib.hid (sfW_succ c ns l k)
   have HRSU:=Lib.hid (sfR_succ c ns l k)
   have hnw:blN c.mems k=2^(c.mems.getD k default).addr.length:=rfl
   have HMMK:=Lib.hid hmm
   obtain⟨p,HP⟩:=named (posS c.mems ns k)
   obtain⟨nw,HNW⟩:=named (blN c.mems k)
   obtain⟨la,HLA⟩:=named (c.mems.getD k default).addr.length
   obtain⟨dl,HDL⟩:=named (c.mems.getD k default).data.length
   rw[←HP.out]at HSU HRSU hps
   rw[←HNW.out]at hnw hps HWSU HRSU
   rw[←HLA.out]at hnw p5 e0
   rw[←HDL.out]at p6 e1 HSU HRSU hps
   rw[←HP.out]
   have HPS:=Lib.hid hps
   have hnwb:nw≤256:=by rw[hnw];exact Nat.le_trans (Nat.pow_le_pow_right (by decide) p5) (by decide)
   rw[hps]at hpk
   obtain⟨x0,y0,y1,y2,y3⟩:=HCE.out V0 hb
   have HIN:=Lib.hid (And.intro hb (And.intro hfu (And.intro hv (And.intro hww hws))))
   clear hmm hps hb hfu hv hww hws
   have hw64:wrap64 (2^la)=(nw:Int):=by
    have h1:(2^la:Int)=(nw:Int):=by rw[hnw];simp
    rw[h1];unfold wrap64;omega
   clear hnw
   go_wp2
   go_loopw [6,9,10] (fun at0 sv ci wr=>∃(i:Nat) (Aw:Option Addr) (cw:Nat),i≤nw∧at0=.int .i64 (p+i*dl:Nat)∧sv=.slice Aw i cw∧ci=.int .i64 i∧BelW V0 wr∧WS wr V0.heap.size (.slice Aw i cw) (sfw c ns l k i)) (fun _ _ ci _=>nw-(intOf ci).toNat)
   case atStart=>exact⟨0,none,0,Nat.zero_le _,by rw[Nat.zero_mul,Nat.add_zero],rfl,rfl,Below.refl _ _,WS.nil _ _⟩
   case round=>
    clear x0 y0 y1 y2 y3 e0 e1
    obtain⟨i,Aw,cw,hin,rfl,rfl,rfl,hbv,hwi⟩:=hrel
    have hb:=joinB HIN.out.1 hbv
    obtain⟨x0,y0,y1,y2,y3⟩:=HCE.out wr hb
    obtain⟨e0,e1⟩:=HMMK.out wr hb
    rw[←HLA.out]at e0
    rw[←HDL.out]at e1
    have HBV:=Lib.hid hbv
    have HWI:=Lib.hid hwi
    have HBB:=Lib.hid hb
    by_cases hi:i<nw
    ·have hi2:(i:Int)<(nw:Int):=by omega
     have hidl:i*dl+dl≤nw*dl:=by rw[←Nat.succ_mul];exact Nat.mul_le_mul_right _ hi
     have hsu:=HSU.out i
     obtain⟨pi,HPI⟩:=named (p+i*dl)
     rw[←HPI.out]
     rw[←HPI.out]at hsu
     have hpi:pi+dl≤10000000:=by rw[HPI.out];omega
     have HTK1:=Lib.hid (HTK.out wr V0.heap.size pi dl hb (Below.size hbv) (by omega) (by omega))
     have HSUI:=Lib.hid hsu
     have HPN:Hid (((p+(i+1)*dl:Nat):Int)=(pi:Int)+(dl:Int)):=Lib.hid (by rw[HPI.out,Nat.succ_mul];omega)
     clear hsu hb hbv hwi hidl
     go_upto_region 13 with (first
      |(go_at_call 64;(with_reducible refine HTK1.out.mono ?_);rintro e w5 ⟨A5,c5,rfl,hv5,hb5⟩;have HV5:=Lib.hid hv5;have HB5:Hid (BelW V0 w5):=Lib.hid (joinB HBV.out hb5);obtain⟨vs,q1,q2,q3⟩:=HWI.out.below hb5;rw[sfw_len]at q2;have Q1:=Lib.hid q1;have Q2:=Lib.hid q2;have Q3:=Lib.hid q3;have HSZ5:=Lib.hid (Below.size HB5.out);clear hv5 hb5 q1 q2 q3)
      |(at_builtin;refine wpList_append_own_at _ rfl _ _ 43 rfl V0.heap.size 41 i2 (.slice none 0 0) 1 24 Tryz.underlying43 HJ.out.1 HJ.out.2.1 HJ.out.2.2.1 HJ.out.2.2.2 rfl (by decide) _ _ _ rfl (World.ownsRow.alloc Q2.out _) ⟨w5.heap.size,0,none⟩ 1 1 [.slice A5 dl c5] rfl rfl (by have:=one_new w5 (.slice A5 dl c5) 41;simpa using this) (by intro u hu;obtain rfl:=List.mem_singleton.1 hu;rfl) (by unfold maxLen;omega) (by omega) (by have:=HSZ5.out;simp;omega) ?_;intro v6 w6 hown6 hgrow6 hnil6 hloc6;obtain⟨A6,c6,rfl⟩:=own_sl hown6;have HO6:=Lib.hid (And.intro hown6 hgrow6);clear hown6 hgrow6 hnil6 hloc6))
     have hp6:BelW V0 w6∧WS w6 V0.heap.size (.slice A6 (i+1) c6) (sfw c ns l k (i+1)):=by
      have hg6:(w5.alloc (.cells #[.slice A5 dl c5] 41)).grownBy w6 (Value.slice Aw i cw).ownBlock:=HO6.out.2
      rw[HSUI.out]
      refine WS.push (A:=A5) (c:=c5) HB5.out Q1.out (by rw[sfw_len];exact Q2.out) Q3.out hg6 ?_ ?_
      ·rw[sfw_len,takL9_len];exact HO6.out.1
      ·rw[takL9_len];exact HV5.out
     have HP6:=Lib.hid hp6
     clear hp6
     go_wp2
     go_roundw
     case rel=>exact⟨i+1,A6,c6,by omega,by rw[HPN.out],rfl,by go_num,HP6.out.1,HP6.out.2⟩
     case measure=>simp[intOf];omega
    ·obtain rfl:nw=i:=by omega
     obtain⟨pe,HPE⟩:=named (p+nw*dl)
     rw[←HPE.out]
     rw[←HPE.out]at hpk
     have HRSU2:Hid (sfR c ns l (k+1)=sfR c ns l k++[takL9 l pe dl]):=Lib.hid (by rw[HRSU.out,HPE.out])
     have HPS2:Hid (posS c.mems ns (k+1)=pe+dl):=Lib.hid (by rw[HPS.out,HPE.out])
     have HSWI:=Lib.hid (hwi.low (Below.size HIN.out.1))
     have hfu:=HIN.out.2.1.below hbv
     have HFUW:=Lib.hid hfu
     have HVW:=Lib.hid (HIN.out.2.2.1.below hbv)
     have HWWW:=Lib.hid (HIN.out.2.2.2.1.below hbv)
     have HRDW:=Lib.hid (HIN.out.2.2.2.2.below hbv)
     have HAP:Hid (Apart (.slice Aa2 k ca2) (.slice Aw nw cw)):=Lib.hid (by
      rcases ho:(Value.slice Aw nw cw).ownBlock with _|q
      ·exact .inl ho
      ·refine .inr fun e=>?_
       rw[ho]at e
       have h1:=(hwi.lt ho).1
       have h2:=(HIN.out.2.2.2.2.lt e.symm).2
       omega)
     obtain⟨vs,q1,q2,q3⟩:=HWWW.out
     rw[sfW_len]at q2
     have Q1:=Lib.hid q1;have Q2:=Lib.hid q2;have Q3:=Lib.hid q3
     have HSZW:=Lib.hid (Below.size hb)
     have z1:=hfu.cell 1
     have f1:=hfu.frozen 1
     clear hbv hwi hb hfu q1 q2 q3
     go_upto_region 15 with (at_builtin;refine wpList_append_own_at _ rfl _ _ 42 rfl W0.heap.size 43 i3 (.slice none 0 0) 1 24 Tryz.underlying42 HI3.out.1 HI3.out.2.1 HI3.out.2.2.1 HI3.out.2.2.2 rfl (by decide) _ _ _ rfl (World.ownsRow.alloc Q2.out _) ⟨wr.heap.size,0,none⟩ 1 1 [.slice Aw nw cw] rfl rfl (by have:=one_new wr (.slice Aw nw cw) 43;simpa using this) (by intro u hu;obtain rfl:=List.mem_singleton.1 hu;rfl) (by unfold maxLen;omega) (by omega) (by have:=HSZW.out;simp;omega) ?_;intro v7 w7 hown7 hgrow7 hnil7 hloc7;obtain⟨A8,c8,rfl⟩:=own_sl hown7;have HO7:=Lib.hid (And.intro hown7 hgrow7);have hfu7:=HFUW.out.grownT Q2.out (by decide) hgrow7;have HFU7:=Lib.hid hfu7;have z1:=hfu7.cell 1;have f1:=hfu7.frozen 1;clear hown7 hgrow7 hnil7 hloc7 hfu7)
     have hp7:BelW W0 w7∧WWX (.slice Aa2 k ca2) w7 W0.heap.size (.slice A8 (k+1) c8) (sfW c ns l (k+1)):=by
      have hg7:(wr.alloc (.cells #[.slice Aw nw cw] 43)).grownBy w7 (Value.slice Aa1 k ca1).ownBlock:=HO7.out.2
      rw[HWSU.out]
      refine WWX.push (A:=Aw) (c:=cw) HBB.out Q1.out (by rw[sfW_len];exact Q2.out) Q3.out hg7 ?_ ?_ ?_
      ·rw[sfW_len,sfw_len];exact HO7.out.1
      ·rw[sfw_len];exact HSWI.out
      ·rw[sfw_len];exact HAP.out
     have hn7:BelW wr (wr.alloc (.cells #[.slice Aw nw cw] 43)):=below_new (Below.refl _ _) _
     have hg7:(wr.alloc (.cells #[.slice Aw nw cw] 43)).grownBy w7 (Value.slice Aa1 k ca1).ownBlock:=HO7.out.2
     have hv7:=(HVW.out.below hn7).keptT (World.ownsRow.alloc Q2.out _) (by decide) hg7
     have hr7:=(HRDW.out.below hn7).keptT (World.ownsRow.alloc Q2.out _) (by decide) (by decide) hg7
     obtain⟨W8,HW8⟩:=named (w7.setCell ⟨u,1,none⟩ (.slice A8 (k+1) c8))
     rw[←HW8.out]
     have hfu8:Fr W8 u 45 [.slice A7 ns c7,.slice A8 (k+1) c8,.slice Aa2 k ca2]:=by rw[HW8.out];exact HFU7.out.set 1 _
     have hb8:BelW W0 W8:=by rw[HW8.out];exact hp7.1.setCell (p:=⟨u,1,none⟩) (by show W0.heap.size≤u;rw[HUS.out];exact Nat.le_refl _) _
     have hv8:VStk W8 W0.heap.size (.slice A7 ns c7) (takL9 l 0 ns):=by rw[HW8.out];exact hv7.setF HFU7.out (by decide) 1 _
     have hww8:WWX (.slice Aa2 k ca2) W8 W0.heap.size (.slice A8 (k+1) c8) (sfW c ns l (k+1)):=by rw[HW8.out];exact hp7.2.setF HFU7.out (by decide) (by decide) (by decide) 1 _
     have hr8:WS W8 W0.heap.size (.slice Aa2 k ca2) (sfR c ns l k):=by rw[HW8.out];exact hr7.setF HFU7.out (by decide) (by decide) 1 _
     have HI8:=Lib.hid (And.intro hb8 (And.intro hfu8 (And.intro hv8 (And.intro hww8 hr8))))
     have HS15:Hid (∀W,BelW W8 W→W.cell? ⟨s,0,none⟩=some (.slice A ml cl)∧W.cell? ⟨u,2,none⟩=some (.slice Aa2 k ca2)):=Lib.hid fun W h=>⟨(HCE.out W (joinB HI8.out.1 h)).1,(HI8.out.2.1.below h).cell 2⟩
     have HD8:Hid (BelW W8 W8.drew):=Lib.hid (BelW.drew (Below.refl _ _))
     have HT15:=Lib.hid (HTK.out W8.drew W0.heap.size pe dl (joinB hb8 HD8.out) (Below.size (joinB hb8 HD8.out)) (by omega) (by omega))
     have HS0:=Lib.hid (HS15.out _ HD8.out)
     clear hp7 hn7 hg7 hv7 hr7 hfu8 hb8 hv8 hww8 hr8 x0 y0 y1 y2 y3 e0 e1 z1 f1
     refine AnyX.start (S:=(fun w'=>w'.cell? ⟨s,0,none⟩=some (.slice A ml cl)∧w'.cell? ⟨u,2,none⟩=some (.slice Aa2 k ca2))) (t:=10) (by kernel_rfl) ?_
     refine AnyX.take (i:=0) (oi:=⟨some 63,_,_,_,_,_⟩) (v:=.pointer (some ⟨u,2,none⟩)) rfl rfl (by kernel_rfl) (by kernel_rfl) (by kernel_rfl) (by kernel_rfl) (fun _ _ _ h=>h) (Or.inl ⟨by rfl,?_⟩) HS0.out ?_
     ·intro w' hSw
      obtain⟨k0',k1'⟩:=hSw
      first|(go_simp;done)|(go_simp;with_reducible rfl)|(go_simp;intro hh;exfalso;omega)
     simp only[Act.put,List.setIfInBounds_toArray,List.set_cons_zero,List.set_cons_succ]
     refine AnyX.take (i:=1) (oi:=⟨some 64,_,_,_,_,_⟩) (v:=.slice Aa2 k ca2) rfl rfl (by kernel_rfl) (by kernel_rfl) (by kernel_rfl) (by kernel_rfl) (fun _ _ _ h=>h) (Or.inl ⟨by rfl,?_⟩) HS0.out ?_
     ·intro w' hSw
      obtain⟨k0',k1'⟩:=hSw
      first|(go_simp;done)|(go_simp;with_reducible rfl)|(go_simp;intro hh;exfalso;omega)
     simp only[Act.put,List.setIfInBounds_toArray,List.set_cons_zero,List.set_cons_succ]
     refine AnyX.take (i:=2) (oi:=⟨some 65,_,_,_,_,_⟩) (v:=.pointer (some ⟨s,0,none⟩)) rfl rfl (by kernel_rfl) (by kernel_rfl) (by kernel_rfl) (by kernel_rfl) (fun _ _ _ h=>h) (Or.inl ⟨by rfl,?_⟩) HS0.out ?_
     ·intro w' hSw
      obtain⟨k0',k1'⟩:=hSw
      first|(go_simp;done)|(go_simp;with_reducible rfl)|(go_simp;intro hh;exfalso;omega)
     simp only[Act.put,List.setIfInBounds_toArray,List.set_cons_zero,List.set_cons_succ]
     refine AnyX.take (i:=3) (oi:=⟨some 66,_,_,_,_,_⟩) (v:=.slice A ml cl) rfl rfl (by kernel_rfl) (by kernel_rfl) (by kernel_rfl) (by kernel_rfl) (fun _ _ _ h=>h) (Or.inl ⟨by rfl,?_⟩) HS0.out ?_
     ·intro w' hSw
      obtain⟨k0',k1'⟩:=hSw
      first|(go_simp;done)|(go_simp;with_reducible rfl)|(go_simp;intro hh;exfalso;omega)
     simp only[Act.put,List.setIfInBounds_toArray,List.set_cons_zero,List.set_cons_succ]
     refine AnyX.take (i:=4) (oi:=⟨some 67,_,_,_,_,_⟩) (v:=.int .i64 (pe:Int)) rfl rfl (by kernel_rfl) (by kernel_rfl) (by kernel_rfl) (by kernel_rfl) (fun _ _ _ h=>h) (Or.inl ⟨by rfl,?_⟩) HS0.out ?_
     ·intro w' hSw
      obtain⟨k0',k1'⟩:=hSw
      first|(go_simp;done)|(go_simp;with_reducible rfl)|(go_simp;intro hh;exfalso;omega)
     simp only[Act.put,List.setIfInBounds_toArray,List.set_cons_zero,List.set_cons_succ]
     refine AnyX.take (i:=5) (oi:=⟨some 68,_,_,_,_,_⟩) (v:=.int .i64 (dl:Int)) rfl rfl (by kernel_rfl) (by kernel_rfl) (by kernel_rfl) (by kernel_rfl) (fun _ _ _ h=>h) (Or.inl ⟨by rfl,?_⟩) HS0.out ?_
     ·intro w' hSw
      obtain⟨k0',k1'⟩:=hSw
      first|(go_simp;done)|(go_simp;with_reducible rfl)|(go_simp;intro hh;exfalso;omega)
     simp only[Act.put,List.setIfInBounds_toArray,List.set_cons_zero,List.set_cons_succ]
     refine AnyX.one (i:=6) (o:=⟨some 69,_,_,_,_,_⟩) (by kernel_rfl) rfl (fun K' hK=>?_)
     have HK:=Lib.hid hK
     clear hK
     go_simp
     go_at_call 64
     (with_reducible refine HT15.out.mono ?_)
     rintro e w9 ⟨A5,c5,rfl,hv9,hb9⟩
     have hb89:BelW W8 w9:=joinB HD8.out hb9
     have HV9:=Lib.hid hv9
     have HB9:=Lib.hid hb89
     have hs9:=HS15.out _ hb89
     have hrd9:=HI8.out.2.2.2.2.below hb89
     obtain⟨vs9,r1,r2,r3⟩:=hrd9
     rw[sfR_len]at r2
     have R1:=Lib.hid r1
     have R2:=Lib.hid r2
     have R3:=Lib.hid r3
     have HSZ9:=Lib.hid (Below.size (joinB HI8.out.1 hb89))
     clear hv9 hb9 hb89 r1 r2 r3
     refine HK.out _ _ (fun _=>hs9) ?_
     clear HK
     (try simp only[Act.put,List.setIfInBounds_toArray,List.set_cons_zero,List.set_cons_succ])
     refine AnyX.one (i:=7) (o:=⟨some 70,_,_,_,_,_⟩) (by kernel_rfl) rfl (fun K' hK=>?_)
     have HK:=Lib.hid hK
     clear hK
     go_simp
     refine HK.out _ _ (fun _=>HS15.out _ (BelW.alloc HB9.out _)) ?_
     clear HK
     (try simp only[Act.put,List.setIfInBounds_toArray,List.set_cons_zero,List.set_cons_succ])
     refine AnyX.one (i:=8) (o:=⟨some 71,_,_,_,_,_⟩) (by kernel_rfl) rfl (fun K' hK=>?_)
     have HK:=Lib.hid hK
     clear hK
     refine step_append_lies _ (by rfl) (.tmp 64) (.tmp 70) 43 (by rfl) W0.heap.size 41 i2 (.slice none 0 0) 1 24 Tryz.underlying43 HJ.out.1 HJ.out.2.1 HJ.out.2.2.1 HJ.out.2.2.2 rfl (by decide) (.slice Aa2 k ca2) k vs9 (by simp[Act.eval,Act.put]) (World.ownsRow.alloc R2.out _) ⟨w9.heap.size,0,none⟩ 1 1 [.slice A5 dl c5] (by simp[Act.eval,Act.put]) rfl (one_new w9 _ _) (by intro u hu;obtain rfl:=List.mem_singleton.1 hu;rfl) (by decide) (by unfold maxLen;omega) (by omega) (by have:=HSZ9.out;simp;omega) _ rfl ?_
     intro g9 c9' w10 hown10 hgrow10 hat10 hlt10
     have hfu10:=(HI8.out.2.1.below HB9.out).grownT R2.out (by decide) hgrow10
     have hs10:w10.cell? ⟨s,0,none⟩=some (.slice A ml cl)∧w10.cell? ⟨u,2,none⟩=some (.slice Aa2 k ca2):=⟨((HFV.out w9 (joinB HI8.out.1 HB9.out)).grownT R2.out (by decide) hgrow10).cell 0,hfu10.cell 2⟩
     have HO10:=Lib.hid (And.intro hown10 (And.intro hgrow10 hat10))
     have HFU10:=Lib.hid hfu10
     have f2:=hfu10.frozen 2
     clear hown10 hgrow10 hat10 hlt10 hfu10
     refine HK.out _ _ (fun _=>hs10) ?_
     clear HK
     (try simp only[Act.put,List.setIfInBounds_toArray,List.set_cons_zero,List.set_cons_succ])
     refine AnyX.one (i:=9) (o:=⟨some 72,_,_,_,_,_⟩) (by kernel_rfl) rfl (fun K' hK=>?_)
     have HK:=Lib.hid hK
     clear hK
     go_simp
     refine HK.out _ _ (fun _=>hs10) ?_
     clear HK
     (try simp only[Act.put,List.setIfInBounds_toArray,List.set_cons_zero,List.set_cons_succ])
     refine AnyX.one (i:=10) (o:=⟨none,_,_,_,_,_⟩) (by kernel_rfl) rfl (fun K' hK=>?_)
     have HK:=Lib.hid hK
     clear hK
     obtain⟨k0',k1'⟩:=hs10
     go_simp
     refine HK.out _ _ (fun h=>absurd rfl h) ?_
     clear HK
     (try simp only[Act.put,List.setIfInBounds_toArray,List.set_cons_zero,List.set_cons_succ])
     refine AnyX.done (by kernel_rfl) ?_ _
     have hp10:BelW W0 w10∧WS w10 W0.heap.size (.slice (some ⟨g9,0,none⟩) (k+1) c9') (sfR c ns l (k+1)):=by
      have hg10:(w9.alloc (.cells #[.slice A5 dl c5] 41)).grownBy w10 (Value.slice Aa2 k ca2).ownBlock:=HO10.out.2.1
      rw[HRSU2.out]
      refine WS.push (A:=A5) (c:=c5) (joinB HI8.out.1 HB9.out) R1.out (by rw[sfR_len];exact R2.out) R3.out hg10 ?_ ?_
      ·rw[sfR_len,takL9_len];exact HO10.out.1
      ·rw[takL9_len];exact HV9.out
     have hg10:(w9.alloc (.cells #[.slice A5 dl c5] 41)).grownBy w10 (Value.slice Aa2 k ca2).ownBlock:=HO10.out.2.1
     have hn9:BelW w9 (w9.alloc (.cells #[.slice A5 dl c5] 41)):=below_new (Below.refl _ _) _
     have hv10:=((HI8.out.2.2.1.below HB9.out).below hn9).keptT (World.ownsRow.alloc R2.out _) (by decide) hg10
     have hww10:WWX (.slice (some ⟨g9,0,none⟩) (k+1) c9') w10 W0.heap.size (.slice A8 (k+1) c8) (sfW c ns l (k+1)):=by
      refine ((HI8.out.2.2.2.1.below HB9.out).below hn9).grow (World.ownsRow.alloc R2.out _) hg10 ?_
      rcases HO10.out.2.2 with h|h
      ·exact .inl h.symm
      ·exact .inr (by rw[h];rfl)
     obtain⟨W11,HW11⟩:=named (w10.setCell ⟨u,2,none⟩ (.slice (some ⟨g9,0,none⟩) (k+1) c9'))
     rw[←HW11.out]
     have HF11:Hid (BelW W0 W11∧Fr W11 u 45 [.slice A7 ns c7,.slice A8 (k+1) c8,.slice (some ⟨g9,0,none⟩) (k+1) c9']∧VStk W11 W0.heap.size (.slice A7 ns c7) (takL9 l 0 ns)∧WWX (.slice (some ⟨g9,0,none⟩) (k+1) c9') W11 W0.heap.size (.slice A8 (k+1) c8) (sfW c ns l (k+1))∧WS W11 W0.heap.size (.slice (some ⟨g9,0,none⟩) (k+1) c9') (sfR c ns l (k+1))):=Lib.hid (by
      rw[HW11.out]
      exact⟨hp10.1.setCell (p:=⟨u,2,none⟩) (by show W0.heap.size≤u;rw[HUS.out];exact Nat.le_refl _) _,HFU10.out.set 2 _,hv10.setF HFU10.out (by decide) 2 _,hww10.setF HFU10.out (by decide) (by decide) (by decide) 2 _,hp10.2.setF HFU10.out (by decide) (by decide) 2 _⟩)
     clear hp10 hg10 hn9 hv10 hww10 f2 hs9
     go_wp2
     go_roundw
     case rel=>exact⟨k+1,A8,c8,some ⟨g9,0,none⟩,c9',by omega,by rw[HPS2.out];go_num,by go_num,HF11.out.1,HF11.out.2.1,HF11.out.2.2.1,HF11.out.2.2.2.1,HF11.out.2.2.2.2⟩
     case measure=>simp[intOf];omega
  ·obtain rfl:m=k:=by omega
   obtain⟨x0,y0,y1,y2,y3⟩:=HCE.out V0 hb
   have z0:=hfu.cell 0
   have z1:=hfu.cell 1
   have z2:=hfu.cell 2
   have hfr:=HFT.out.below hb
   have t0:=hfr.cell 0
   have t1:=hfr.cell 1
   have t2:=hfr.cell 2
   have f0:=hfr.frozen 0
   have f1:=hfr.frozen 1
   have f2:=hfr.frozen 2
   have hlt:s+1+1<W0.heap.size:=by rw[HUS.out,HU.out];omega
   have hle:w.heap.size≤s+1+1:=by have:=HSW.out;omega
   have hown:OwnS V0 W0.heap.size A7 Aa1 Aa2 ns m m c7 ca1 ca2 (sofS c ns m l):=⟨hv,hww.wws,hws⟩
   have HOW:=Lib.hid (((hown.setS (a:=⟨s+1+1,0,none⟩) hlt (.slice A7 ns c7)).setS (a:=⟨s+1+1,1,none⟩) hlt (.slice Aa1 m ca1)).setS (a:=⟨s+1+1,2,none⟩) hlt (.slice Aa2 m ca2))
   have HBE:=Lib.hid ((((HB0.out V0 hb).setCell (p:=⟨s+1+1,0,none⟩) hle (.slice A7 ns c7)).setCell (p:=⟨s+1+1,1,none⟩) hle (.slice Aa1 m ca1)).setCell (p:=⟨s+1+1,2,none⟩) hle (.slice Aa2 m ca2))
   have HQ:=Lib.hid (((hfr.set 0 (.slice A7 ns c7)).set 1 (.slice Aa1 m ca1)).set 2 (.slice Aa2 m ca2))
   have HLO:Hid (w.heap.size≤W0.heap.size):=Lib.hid (by omega)
   clear hb hfu hv hww hws hfr hlt hle hown
   go_wp2
   refine bodyPost_ret (results_cell_row rfl _ _ _ _ _ _ _ rfl HQ.out Tryz.underlying45 rfl (by kernel_rfl)) rfl ?_
   exact⟨A7,c7,Aa1,ca1,Aa2,ca2,rfl,HOW.out.low HLO.out,HBE.out⟩
structure Gx where
 kind:Int
 i0:Int
 i1:Int
 i2:Int
instance gxInh:Inhabited Gx:=⟨⟨0,0,0,0⟩⟩
structure Cx where
 inN:Int
 dffs:Int
 d0:Int
 d1:Int
 bus:Bool
 mem:Bool
 p0:Int
 p1:Int
 p2:Int
 p3:Int
 gates:List Gx
 outs:List Int
def U8(x:Int):Prop:=0≤x∧x≤255
def Gok(g:Gx):Prop:=U8 g.kind∧U8 g.i0∧U8 g.i1∧U8 g.i2
structure Cok(x:Cx):Prop where
 inN:U8 x.inN
 dffs:U8 x.dffs
 d0:U8 x.d0
 d1:U8 x.d1
 p0:U8 x.p0
 p1:U8 x.p1
 p2:U8 x.p2
 p3:U8 x.p3
 gates:∀k,k<x.gates.length→Gok (x.gates.getD k default)
 outs:∀k,k<x.outs.length→U8 (x.outs.getD k 0)
def ix(a:Int)(n:Nat):Int:=a%(n:Int)
def kindG(bus:Bool)(k:Int):Int:=if bus=true then k%13 else k%9
def trisOf(nodes:List Nd):List Int:=ofTo nodes [12] nodes.length
def gateN(bus:Bool)(g:Gx)(nodes:List Nd):Nd:=
 if kindG bus g.kind<6 then ⟨5+kindG bus g.kind,[ix g.i0 nodes.length,ix g.i1 nodes.length]++(if 128≤g.kind then [ix g.i2 nodes.length] else []),0,0⟩
 else if kindG bus g.kind=6 then ⟨4,[ix g.i0 nodes.length],0,0⟩
 else if kindG bus g.kind=7 then ⟨11,[ix g.i0 nodes.length,ix g.i1 nodes.length,ix g.i2 nodes.length],0,0⟩
 else if kindG bus g.kind=9∨kindG bus g.kind=10 then ⟨12,[ix g.i0 nodes.length,ix g.i1 nodes.length],0,0⟩
 else if 10<kindG bus g.kind∧0<(trisOf nodes).length then
  ⟨13,[(trisOf nodes).getD (ix g.i0 (trisOf nodes).length).toNat 0]++(if 1<(trisOf nodes).length then [(trisOf nodes).getD (ix (ix g.i0 (trisOf nodes).length+1) (trisOf nodes).length).toNat 0] else []),0,0⟩
 else if 240<g.kind then ⟨1+g.i0%2,[],0,0⟩
 else ⟨3,[ix g.i0 nodes.length],0,0⟩
theorem kindG_ge(bus:Bool)(k:Int):0≤kindG bus k∧kindG bus k<13:=by
 unfold kindG;split<;>omega
theorem ix_lt(a:Int){n:Nat}(h:0<n):∃k:Nat,ix a n=(k:Int)∧k<n:=by
 have h1:=Int.emod_nonneg a (show (n:Int)≠0 by omega)
 have h2:=Int.emod_lt_of_pos a (show (0:Int)<(n:Int) by omega)
 exact⟨(ix a n).toNat,by unfold ix at*;omega,by unfold ix;omega⟩
section
variable {bus:Bool} {k i0 i1 i2:Int} {nodes:List Nd} {n:Nat} {a b d:Int}
theorem gateN_lt(hn:n=nodes.length)(h:kindG bus k<6)(h2:¬128≤k)(ha:i0%(n:Int)=a)(hb:i1%(n:Int)=b):gateN bus ⟨k,i0,i1,i2⟩ nodes=⟨5+kindG bus k,[a,b],0,0⟩:=by
 subst hn;unfold gateN ix;rw[if_pos h,if_neg h2,ha,hb];rfl
theorem gateN_lt3(hn:n=nodes.length)(h:kindG bus k<6)(h2:128≤k)(ha:i0%(n:Int)=a)(hb:i1%(n:Int)=b)(hd:i2%(n:Int)=d):gateN bus ⟨k,i0,i1,i2⟩ nodes=⟨5+kindG bus k,[a,b,d],0,0⟩:=by
 subst hn;unfold gateN ix;rw[if_pos h,if_pos h2,ha,hb,hd];rfl
theorem gateN_not(hn:n=nodes.length)(h6:¬kindG bus k<6)(h7:kindG bus k=6)(ha:i0%(n:Int)=a):gateN bus ⟨k,i0,i1,i2⟩ nodes=⟨4,[a],0,0⟩:=by
 subst hn;unfold gateN ix;rw[if_neg h6,if_pos h7,ha]
theorem gateN_mux(hn:n=nodes.length)(h6:¬kindG bus k<6)(h7:¬kindG bus k=6)(h8:kindG bus k=7)(ha:i0%(n:Int)=a)(hb:i1%(n:Int)=b)(hd:i2%(n:Int)=d):gateN bus ⟨k,i0,i1,i2⟩ nodes=⟨11,[a,b,d],0,0⟩:=by
 subst hn;unfold gateN ix;rw[if_neg h6,if_neg h7,if_pos h8,ha,hb,hd]
theorem gateN_tri(hn:n=nodes.length)(h9:kindG bus k=9∨kindG bus k=10)(ha:i0%(n:Int)=a)(hb:i1%(n:Int)=b):gateN bus ⟨k,i0,i1,i2⟩ nodes=⟨12,[a,b],0,0⟩:=by
 subst hn;unfold gateN ix;rw[if_neg (show ¬kindG bus k<6 by omega),if_neg (show ¬kindG bus k=6 by omega),if_neg (show ¬kindG bus k=7 by omega),if_pos h9,ha,hb]
theorem gateN_bus1(h10:10<kindG bus k){m:Nat}(hm:m=(trisOf nodes).length)(h0:0<m)(h1:¬1<m){j:Nat}(hj:i0%(m:Int)=(j:Int)){x:Int}(hx:x=(trisOf nodes).getD j 0):gateN bus ⟨k,i0,i1,i2⟩ nodes=⟨13,[x],0,0⟩:=by
 subst hm;unfold gateN ix;rw[if_neg (show ¬kindG bus k<6 by omega),if_neg (show ¬kindG bus k=6 by omega),if_neg (show ¬kindG bus k=7 by omega),if_neg (show ¬(kindG bus k=9∨kindG bus k=10) by omega),if_pos ⟨h10,h0⟩,if_neg h1,hj,hx];rfl
theorem gateN_bus2(h10:10<kindG bus k){m:Nat}(hm:m=(trisOf nodes).length)(h1:1<m){j j':Nat}(hj:i0%(m:Int)=(j:Int))(hj':((j:Int)+1)%(m:Int)=(j':Int)){x y:Int}(hx:x=(trisOf nodes).getD j 0)(hy:y=(trisOf nodes).getD j' 0):gateN bus ⟨k,i0,i1,i2⟩ nodes=⟨13,[x,y],0,0⟩:=by
 subst hm;unfold gateN ix;rw[if_neg (show ¬kindG bus k<6 by omega),if_neg (show ¬kindG bus k=6 by omega),if_neg (show ¬kindG bus k=7 by omega),if_neg (show ¬(kindG bus k=9∨kindG bus k=10) by omega),if_pos ⟨h10,by omega⟩,if_pos h1,hj,hj',hx,hy];rfl
theorem gateN_const(h6:¬kindG bus k<6)(h7:¬kindG bus k=6)(h8:¬kindG bus k=7)(h9:¬kindG bus k=9)(h9':¬kindG bus k=10)(h10:¬(10<kindG bus k∧0<(trisOf nodes).length))(h:240<k):gateN bus ⟨k,i0,i1,i2⟩ nodes=⟨1+i0%2,[],0,0⟩:=by
 unfold gateN;rw[if_neg h6,if_neg h7,if_neg h8,if_neg (show ¬(kindG bus k=9∨kindG bus k=10) by omega),if_neg h10,if_pos h]
theorem gateN_buf(hn:n=nodes.length)(h6:¬kindG bus k<6)(h7:¬kindG bus k=6)(h8:¬kindG bus k=7)(h9:¬kindG bus k=9)(h9':¬kindG bus k=10)(h10:¬(10<kindG bus k∧0<(trisOf nodes).length))(h:¬240<k)(ha:i0%(n:Int)=a):gateN bus ⟨k,i0,i1,i2⟩ nodes=⟨3,[a],0,0⟩:=by
 subst hn;unfold gateN ix;rw[if_neg h6,if_neg h7,if_neg h8,if_neg (show ¬(kindG bus k=9∨kindG bus k=10) by omega),if_neg h10,if_neg h,ha]
end
def inputN:Nd:=⟨0,[],0,0⟩
def dffN(x:Int):Nd:=⟨14,[x],0,0⟩
def firstN(x:Cx):Nat:=(x.inN%4).toNat+1
def dffsN(x:Cx):Nat:=(x.dffs%3).toNat
def baseN(x:Cx):List Nd:=List.replicate (firstN x) inputN++List.replicate (dffsN x) (dffN 0)++(if x.mem=true then [⟨15,[],0,0⟩,⟨15,[],0,1⟩] else [])
def gatesTo(x:Cx):Nat→List Nd
 |0=>baseN x
 |k+1=>gatesTo x k++[gateN x.bus (x.gates.getD k default) (gatesTo x k)]
def gatesN(x:Cx):Nat:=min x.gates.length 8
def dataN(x:Cx)(i:Nat):Int:=if i=0 then x.d0 else x.d1
def dffTo(x:Cx):Nat→List Nd
 |0=>gatesTo x (gatesN x)
 |k+1=>(dffTo x k).set (firstN x+k) (dffN (ix (dataN x k) (gatesTo x (gatesN x)).length))
def nodesN(x:Cx):List Nd:=dffTo x (dffsN x)
def sizeN(x:Cx):Nat:=(gatesTo x (gatesN x)).length
def memsN(x:Cx):List Mm:=if x.mem=true then [⟨[ix x.p0 (sizeN x)],[ix x.p1 (sizeN x),ix x.p2 (sizeN x)],ix x.p3 (sizeN x)⟩] else []
def digB(x:Nat):UInt8:=UInt8.ofNat (48+x)
def nameB(i:Nat):ByteArray:=⟨#[110,digB (i/10),digB (i%10)]⟩
def outsN(x:Cx):Nat:=min x.outs.length 3
def outsTo(x:Cx)(k:Nat):List Int:=(List.range k).map fun i=>ix (x.outs.getD i 0) (sizeN x)
def ofC(x:Cx):Ck:=⟨nodesN x,(List.range (sizeN x)).map nameB,memsN x,outsTo x (outsN x)++[(sizeN x:Int)-1]⟩
theorem gatesTo_len(x:Cx):∀k,(gatesTo x k).length=(baseN x).length+k
 |0=>rfl
 |k+1=>by rw[gatesTo,List.length_append,gatesTo_len x k];simp;omega
theorem baseN_len(x:Cx):(baseN x).length=firstN x+dffsN x+(if x.mem=true then 2 else 0):=by
 unfold baseN
 rw[List.length_append,List.length_append,List.length_replicate,List.length_replicate]
 split<;>simp
theorem dffTo_len(x:Cx):∀k,(dffTo x k).length=sizeN x
 |0=>rfl
 |k+1=>by rw[dffTo,List.length_set,dffTo_len x k]
theorem firstN_le(x:Cx):1≤firstN x∧firstN x≤4:=by unfold firstN;omega
theorem dffsN_le(x:Cx):dffsN x≤2:=by unfold dffsN;omega
theorem gatesN_le(x:Cx):gatesN x≤8:=by unfold gatesN;omega
theorem sizeN_le(x:Cx):1≤sizeN x∧sizeN x≤16∧firstN x+dffsN x≤sizeN x:=by
 have h1:=firstN_le x
 have h2:=dffsN_le x
 have h3:=gatesN_le x
 unfold sizeN
 rw[gatesTo_len,baseN_len]
 split<;>omega
theorem ofC_len(x:Cx):(ofC x).nodes.length=sizeN x:=dffTo_len x _
structure LC(c:Ck)(w:World)(q:Nat)(A0 A1 A2 A3:Option Addr)(n0 n1 n2 n3 c0 c1 c2 c3:Nat)(wr:World):Prop where
 bel:Below w.heap.size w wr
 low:w.heap.size≤q
 tabs:Tabs wr
 cir:Cir wr q (.agg #[.slice A0 n0 c0,.slice A1 n1 c1,.slice A2 n2 c2,.slice A3 n3 c3]) c
 box:Fr wr q 39 [.slice A0 n0 c0,.slice A1 n1 c1,.slice A2 n2 c2,.slice A3 n3 c3]
section
variable {c:Ck} {w w1 W:World} {q:Nat} {A0 A1 A2 A3:Option Addr} {n0 n1 n2 n3 c0 c1 c2 c3:Nat}
end
end Go.Proofs.YtemjmfpcopfdbaaGreatDoor
