/- The texts Fq2. -/
import Derived.Test.YtcbllelkgniogaaDoorM10
namespace Go.Proofs.YtcbllelkgniogaaDoor
open Go.RowKit
attribute [local go_sem] Oper.semAt_some
theorem own_cells{w:World}{base n sz:Nat}{t:TypeId}{v:Value}{xs:List Value}(h:w.ownsRow base t sz v n xs){q:Nat}(hq:v.ownBlock=some q):∃cs,w.heap[q]? =some (.cells cs t (0,0))∧base≤q:=by
 rcases h.2 with⟨e,-⟩| ⟨g,cap,cur,rfl,hb,hg,-⟩
 ·subst e;cases hq
 ·cases hq;exact⟨_,hg,hb⟩
theorem own_turn{w w':World}{base n sz:Nat}{t:TypeId}{v:Value}{xs:List Value}{row:Option Nat}(h:w.ownsRow base t sz v n xs)(hg:w.grownBy w' row)(hr:∀r,row=some r→∃o:Obj,w.heap[r]? =some o∧o.isCells=false):w'.ownsRow base t sz v n xs:=by
 refine World.ownsRow.kept h hg ?_
 cases ho:v.ownBlock with
 |none=>exact .inl rfl
 |some q=>
  refine .inr fun e=>?_
  obtain⟨cs,h1,-⟩:=own_cells h ho
  obtain⟨o,h2,h3⟩:=hr q e.symm
  rw[h1]at h2
  cases h2
  cases h3
theorem fr_turn{w w':World}{g:Nat}{t:TypeId}{xs:List Value}{row:Option Nat}(h:Fr w g t xs)(hg:w.grownBy w' row)(hr:∀r,row=some r→∃o:Obj,w.heap[r]? =some o∧o.isCells=false):Fr w' g t xs:=by
 refine h.kept hg fun e=>?_
 obtain⟨o,h2,h3⟩:=hr g e.symm
 unfold Fr at h
 rw[h]at h2
 cases h2
 cases h3
theorem push_keeps{V w3:World}{o:Obj}{row:Option Nat}{bs:Nat}(u:Value)(hg:(V.alloc o).grownBy w3 row):V.heap.size≤(w3.setCell ⟨bs,0,none⟩ u).heap.size∧∀b,b<V.heap.size→row≠some b→b≠bs→(w3.setCell ⟨bs,0,none⟩ u).heap[b]? =V.heap[b]? :=by
 have hal:Below V.heap.size V (V.alloc o):=below_new (Below.refl _ _) _
 refine⟨?_,fun b hb h1 h2=>?_⟩
 ·have h1:=Below.size hal
  have h2:=hg.size
  have h3:=(grownBy_setCell' w3 bs u).size
  omega
 ·rw[heap_set_ne5 _ _ _ h2,hg.block b (Nat.lt_of_lt_of_le hb (Below.size hal)) (fun e=>h1 e.symm)]
  exact hal.block b hb
def CL(w:World)(bs base:Nat)(zs:List (Int×Int))(k:Nat)(V:World):Prop:=∃v,Fr V bs 45 [v]∧V.ownsRow base 30 2 v (zs.take k).length (lnC (zs.take k))∧BelW w V
theorem CL.own{w:World}{bs base B:Nat}{zs:List (Int×Int)}(hB:w.heap.size≤B):OwnFrom B (CL w bs base zs):=fun k W W' row ⟨v,h1,h2,h3⟩ hg hr=>
 ⟨v,fr_turn h1 hg fun r e=>(hr r e).2,own_turn h2 hg fun r e=>(hr r e).2,h3.grown hg (Below.size h3) fun q e=>Nat.le_trans hB (hr q e).1⟩
set_option maxRecDepth 100000 in
set_option maxHeartbeats 4000000 in
theorem append_lines(gf B:Nat)(lb:Array Value)(zs:List (Int×Int))(w:World)(hB:B≤w.heap.size)(hz:zs.length≤1000000)(hseq:∀W,BelW w W→SeqT B (Kr B [30,45]) Fence.wide 8 7 Tryd.prog gf lb encL zs W)(hen:∀args V,(callFunc gf args).run Tryd.prog V=.ok (.enter gf args) V):
 Calls Tryd.prog 41 #[.slice none 0 0,.func (.func gf) #[] lb] w fun e w'=>∃v base,e=.returned v∧w.heap.size≤base∧w'.ownsRow base 30 2 v zs.length (lnC zs)∧BelW w w':=by
 have HSQ:=Lib.hid hseq
 have HEN:=Lib.hid hen
 obtain⟨i1,hi1,hz0,hz1,hz2⟩:=info_parts info_line
 have HI1:=Lib.hid (And.intro hi1 (And.intro hz0 (And.intro hz1 hz2)))
 clear hi1 hz0 hz1 hz2 hseq hen
 obtain⟨W1,HW1⟩:=named (w.alloc (.cells #[.slice none 0 0] 45))
 have hb1:BelW w W1:=by rw[HW1.out];exact below_new (Below.refl _ _) _
 have hf1:Fr W1 w.heap.size 45 [.slice none 0 0]:=by rw[HW1.out];exact Fr.made _ _ _ rfl
 have hz1:W1.heap.size=w.heap.size+1:=by rw[HW1.out];simp
 have HB1:=Lib.hid hb1
 have HF1:=Lib.hid hf1
 have HZ1:=Lib.hid hz1
 clear hb1 hf1 hz1
 refine (callsIn_wide (n:=9)).1 ?_
 refine callsIn_of_wp_marks Tryd.func41 rfl trivial ?_ rfl
 simp only[Tryd.ntmps41,List.size_toArray,List.length_cons,List.length_nil,Nat.reduceAdd,Nat.reduceSub,Array.replicate_succ,Array.replicate_zero,List.push_toArray,List.append_toArray,List.nil_append,List.cons_append]
 refine wpIn_wide.2 ?_
 go_upto_region 1 with (fail)
 rw[←HW1.out]
 go_wp2_with (fail)
 refine (wpIn_wide (n:=9)).1 ?_
 refine range_t (F:=Fence.wide) (n:=9) (m:=7) (B0:=B) (K:=Kr B [30,45]) (zs:=zs) (Kr.rel B _) (by rw[HZ1.out];omega) rfl (by decide) rfl trivial HEN.out (HSQ.out W1 HB1.out) (fun _=>rfl)
  (CL w w.heap.size W1.heap.size zs) (CL.own (by rw[HZ1.out];omega)) ⟨_,HF1.out,World.ownsRow_nil _ _ _ _,HB1.out⟩
  (fun x a' V=>∃p tm,W1.heap.size≤p∧Fr V p 30 [.int .i64 x.1,.int .i64 x.2]∧a'= { tmps:=#[.slice none 0 0,.func (.func gf) #[] lb,.pointer (some ⟨w.heap.size,0,none⟩),undef,.slice none 0 0,.pointer (some ⟨p,0,none⟩),.func (.func gf) #[] lb,tm,undef,undef,undef,undef,undef],defers:=[] }) ?hAx ?hassign ?hbody ?hdone
 case hAx=>exact fun x a' _ W W' row ⟨p,tm,h1,h2,h3⟩ hg hr=>⟨p,tm,h1,fr_turn h2 hg fun r e=>(hr r e).2,h3⟩
 case hassign=>
  intro l k x V K' hx hI hK
  have HK:=Lib.hid hK
  have hz:W1.heap.size≤V.heap.size:=by
   obtain⟨v,h1,h2,h3⟩:=hI
   have:=h1.lt
   rw[HZ1.out];omega
  have HZV:=Lib.hid hz
  clear hK hI hz
  obtain⟨xa,xb⟩:=x
  simp[encL]
  gi_wp2
  refine HK.out _ _ ?_ ⟨V.heap.size,.agg #[.int .i64 xa,.int .i64 xb],HZV.out,?_,rfl⟩
  ·exact below_new (Below.refl _ _) _
  ·exact Fr.made _ _ _ rfl
 case hbody=>
  rintro l k x a' V hl hx ⟨v,hfs,hrow,hbel⟩ ⟨p,tm,hp,hfp,rfl⟩
  have hkl:k<zs.length:=(List.getElem?_eq_some_iff.1 hx).1
  obtain⟨Av,cv,rfl⟩:=own_form hrow
  have hlen:(zs.take k).length=k:=by rw[List.length_take];omega
  have HTK:Hid ((zs.take (k+1)).length=k+1∧lnC (zs.take (k+1))=lnC (zs.take k)++[.int .i64 x.1,.int .i64 x.2]):=Lib.hid ⟨by rw[List.length_take];omega,by rw[List.take_add_one,hx];simp[lnC]⟩
  rw[hlen]at hfs hrow
  obtain⟨xs,HXS⟩:=named (lnC (zs.take k))
  rw[←HXS.out]at hrow HTK
  obtain⟨xa,HXA⟩:=named x.1
  obtain⟨xb,HXB⟩:=named x.2
  rw[←HXA.out,←HXB.out]at hfp HTK
  have HFS:=Lib.hid hfs
  have HRW:=Lib.hid hrow
  have HBE:=Lib.hid hbel
  have y0:=hfs.cell 0
  have y1:=hfp.cell 0
  have y2:=hfp.cell 1
  simp only[List.getElem?_cons_zero,List.getElem?_cons_succ]at y0 y1 y2
  have HVS:Hid (W1.heap.size≤V.heap.size):=Lib.hid (by have:=hfs.lt;rw[HZ1.out];omega)
  have HNE:Hid ((Value.slice Av k cv).ownBlock≠some w.heap.size):=Lib.hid fun e=>by
   obtain⟨cs,-,h2⟩:=own_cells HRW.out e
   rw[HZ1.out]at h2;omega
  have hk6:k≤1000000:=by omega
  clear hx hfs hrow hbel hfp hlen HXA HXB HXS
  gi_wp2_with (gi_at_builtin;refine wpListIn_append_own _ rfl _ _ 45 rfl W1.heap.size 30 i1 (.agg #[.int .i64 0,.int .i64 0]) 2 16 Tryd.underlying45 HI1.out.1 HI1.out.2.1 HI1.out.2.2.1 HI1.out.2.2.2 rfl (by decide) _ _ _ rfl (World.ownsRow.alloc HRW.out _) ⟨V.heap.size,0,none⟩ 1 1 [.int .i64 xa,.int .i64 xb] rfl rfl (two_new _ _ _ _) (ints_oneCell .i64 [xa,xb]) (by unfold maxLen;omega) (by omega) (by have:=HVS.out;simp;omega) ?_;intro v' w3 hown' hgrow hnil;obtain⟨Av2,cv2,rfl⟩:=own_form hown';have HOW:=Lib.hid hown';have HGR:=Lib.hid hgrow;have e4:=(Fr.kept (Fr.alloc HFS.out _) hgrow (fun e=>HNE.out e.symm)).cell 0;have e3:=(Fr.kept (Fr.alloc HFS.out _) hgrow (fun e=>HNE.out e.symm)).frozen 0;simp only[List.getElem?_cons_zero]at e4;clear hown' hgrow hnil)
  obtain⟨hsz,hkp⟩:=push_keeps (bs:=w.heap.size) (.slice Av2 (k+1) cv2) HGR.out
  have hown:∀q,(Value.slice Av k cv).ownBlock=some q→∃cs,V.heap[q]? =some (.cells cs 30 (0,0))∧W1.heap.size≤q:=fun q hq=>own_cells HRW.out hq
  have hfs:=HFS.out
  unfold Fr at hfs
  refine⟨⟨hsz,fun b o hb hbo hoc=>(hkp b (lt_of_some hbo) (fun e=>?_) (fun e=>?_)).trans hbo⟩,⟨hsz,fun b hb hv=>hkp b hv (fun e=>?_) (fun e=>?_),fun b cs t hbo ht=>(hkp b (lt_of_some hbo) (fun e=>?_) (fun e=>?_)).trans hbo⟩,?_⟩
  ·obtain⟨cs,h1,-⟩:=hown b e
   rw[hbo]at h1;cases h1;cases hoc
  ·subst e
   rw[hbo]at hfs;cases hfs;cases hoc
  ·obtain⟨cs,-,h2⟩:=hown b e
   rw[HZ1.out]at h2;omega
  ·omega
  ·obtain⟨cs,h1,-⟩:=hown b e
   rw[hbo]at h1;cases h1;simp at ht
  ·subst e
   rw[hbo]at hfs;cases hfs;simp at ht
  ·have hal:Below V.heap.size V (V.alloc (.cells #[.int .i64 xa,.int .i64 xb] 30)):=below_new (Below.refl _ _) _
   have hfr3:=Fr.kept (Fr.alloc HFS.out (.cells #[.int .i64 xa,.int .i64 xb] 30)) HGR.out (fun e=>HNE.out e.symm)
   refine⟨.slice Av2 (k+1) cv2,?_,?_,?_⟩
   ·have h1:=hfr3.set 0 (.slice Av2 (k+1) cv2)
    simpa using h1
   ·rw[HTK.out.1,HTK.out.2]
    refine World.ownsRow.kept HOW.out (grownBy_setCell' w3 w.heap.size _) (.inr fun e=>?_)
    obtain⟨cs,-,h2⟩:=own_cells HOW.out e
    rw[HZ1.out]at h2;omega
   ·have hb2:=joinB HBE.out hal
    have hb3:BelW w w3:=hb2.grown HGR.out (Below.size hb2) fun q e=>by
     obtain⟨cs,-,h2⟩:=hown q e
     rw[HZ1.out]at h2;omega
    exact hb3.setCell (p:=⟨w.heap.size,0,none⟩) (Nat.le_refl _) _
 case hdone=>
  rintro D V hD ⟨v,hfs,hrow,hbel⟩ hK
  rw[List.take_length]at hrow
  have y0:=hfs.cell 0
  simp only[List.getElem?_cons_zero]at y0
  obtain⟨Av,cv,rfl⟩:=own_form hrow
  have HFS:=Lib.hid hfs
  have HRW:=Lib.hid hrow
  have HBE:=Lib.hid hbel
  have HD:=Lib.hid hD
  have HK2:=Lib.hid hK
  clear hfs hrow hbel hK
  go_wp2
  have hg:=grownBy_putObj' V D (.deferred none)
  refine⟨by simp,.inl ⟨_,_,rfl,run_takeDeferred HK2.out,?_⟩⟩
  exact⟨_,results_tmp rfl _ _ _,_,W1.heap.size,rfl,by rw[HZ1.out];omega,own_turn HRW.out hg (fun r e=>by cases e;exact⟨_,HK2.out,rfl⟩),HBE.out.grown hg (Below.size HBE.out) fun q e=>by cases e;have:=HD.out;rw[HZ1.out]at this;omega⟩
set_option maxHeartbeats 1000000 in
theorem collect_lines(gf B:Nat)(lb:Array Value)(zs:List (Int×Int))(w:World)(hB:B≤w.heap.size)(hz:zs.length≤1000000)(hseq:∀W,BelW w W→SeqT B (Kr B [30,45]) Fence.wide 8 7 Tryd.prog gf lb encL zs W)(hen:∀args V,(callFunc gf args).run Tryd.prog V=.ok (.enter gf args) V):
 Calls Tryd.prog 23 #[.func (.func gf) #[] lb] w fun e w'=>∃v base,e=.returned v∧w.heap.size≤base∧w'.ownsRow base 30 2 v zs.length (lnC zs)∧BelW w w':=by
 have HC:=Lib.hid (append_lines gf B lb zs w hB hz hseq hen)
 clear hseq hen
 go_enter Tryd.func23,Tryd.ntmps23
 go_wp2_with (go_at_call 41;(with_reducible refine HC.out.mono ?_);rintro e w1 ⟨v,base,rfl,h1,h2,h3⟩;have H1:=Lib.hid (And.intro h1 (And.intro h2 h3));clear h1 h2 h3)
 go_ret
 exact⟨_,base,rfl,H1.out.1,H1.out.2.1,H1.out.2.2⟩
end Go.Proofs.YtcbllelkgniogaaDoor
