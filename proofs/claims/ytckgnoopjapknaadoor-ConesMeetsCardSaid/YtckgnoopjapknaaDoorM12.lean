/- The texts Lvl. -/
import Derived.Test.YtckgnoopjapknaaDoorM11
namespace Go.Proofs.YtckgnoopjapknaaDoor
open Go.RowKit
open Classical in
noncomputable def chkErr (c:Ck):Int:=if shapeErr c≠0 then shapeErr c else if (∃L,Lvl c.nodes L) then 0 else 6
theorem firstE_zero{α:Type}{f:α→Int} :∀ {l:List α},firstE f l=0→∀x∈l,f x=0
 |[],_,_,hx=>by cases hx
 |y::l,h,x,hx=>by
  unfold firstE at h
  by_cases hy:f y=0
  ·rw[if_pos hy]at h
   rcases List.mem_cons.1 hx with rfl|hx
   ·exact hy
   ·exact firstE_zero h x hx
  ·rw[if_neg hy]at h
   exact absurd h hy
theorem nodeErr_zero{c:Ck}{x:Nd}(h:nodeErr c x=0):¬15<x.kind∧lo x.kind≤x.ins.length∧(x.ins.length:Int)≤hi x.kind∧areIdx c.nodes.length x.ins=true∧¬(x.kind=13∧anyP (notTri c) x.ins=true)∧placeOk c x=true:=by
 unfold nodeErr at h
 split at h
 ·cases h
 split at h
 ·cases h
 split at h
 ·cases h
 split at h
 ·cases h
 split at h
 ·cases h
 split at h
 ·cases h
 ·refine⟨by assumption,by omega,by omega,by simpa using ‹¬areIdx c.nodes.length x.ins=false›,by assumption,by simpa using ‹¬placeOk c x=false›⟩
theorem shape_zero{c:Ck}(h:shapeErr c=0):c.nodes.length≤16384∧c.mems.length≤16∧c.outs.length≤16384∧c.names.length=c.nodes.length∧(∀x∈c.nodes,nodeErr c x=0)∧namesOk c.names=true∧(∀x∈c.mems,memErr c x=0)∧areIdx c.nodes.length c.outs=true:=by
 unfold shapeErr at h
 split at h
 ·cases h
 split at h
 ·cases h
 split at h
 ·exact absurd h (by assumption)
 split at h
 ·cases h
 split at h
 ·exact absurd h (by assumption)
 split at h
 ·cases h
 ·rename_i h1 h2 h3 h4 h5 h6
  exact⟨by omega,by omega,by omega,by omega,firstE_zero (by omega),by simpa using h4,firstE_zero (by omega),by simpa using h6⟩
theorem getD_mem_nd{l:List Nd}{i:Nat}(h:i<l.length):l.getD i default∈l:=by
 rw[List.getD_eq_getElem?_getD,List.getElem?_eq_getElem h];exact List.getElem_mem h
theorem wf_of_shape{c:Ck}(h:shapeErr c=0):Wf c.nodes:=by
 intro i hi x hx
 have h1:=(shape_zero h).2.2.2.2.1 _ (getD_mem_nd hi)
 exact areIdx_iff.1 (nodeErr_zero h1).2.2.2.1 x hx
def LevPost(c:Ck)(w:World)(e:Ending)(w':World):Prop:=
 Below w.heap.size w w'∧((chkErr c=0∧shapeErr c=0∧∃L g,Lvl c.nodes L∧(∀i:Nat,i<c.nodes.length→lat L i<(c.nodes.length:Int))∧w.heap.size≤g∧e=.returned (.tuple #[.slice (some ⟨g,0,none⟩) c.nodes.length c.nodes.length,.int .i64 0])∧Row w' g L)
  ∨(chkErr c≠0∧e=.returned (.tuple #[.slice none 0 0,.int .i64 (chkErr c)])))
set_option maxHeartbeats 2000000 in
theorem levels_any(c:Ck)(v:Value)(w:World)(B:Nat)(hB:B≤w.heap.size)(hT:Tabs w)(hc:Cir w B v c):
 Calls Tryd.prog 27 #[v] w (LevPost c w):=by
 obtain⟨v0,v1,v2,v3,rfl,hns,hss,hms,hos⟩:=hc
 obtain⟨A0,b0,o0,c0,rfl,-⟩:=id hns
 obtain⟨A1,b1,o1,c1,rfl,-⟩:=id hss
 obtain⟨A2,b2,o2,c2,rfl,-⟩:=id hms
 obtain⟨A3,b3,o3,c3,rfl,-⟩:=id hos
 obtain⟨W,HW⟩:=named (w.alloc (.cells #[.slice A0 c.nodes.length c0,.slice A1 c.names.length c1,.slice A2 c.mems.length c2,.slice A3 c.outs.length c3] 27))
 have hbW:Below w.heap.size w W:=by rw[HW.out];exact (Below.refl _ _).alloc (Nat.le_refl _) _
 have hBW:B≤W.heap.size:=Nat.le_trans hB hbW.size
 have hP:=parts_any c A0 A1 A2 A3 c0 c1 c2 c3 W B hBW (hT.below hbW) (hns.below (hbW.mono hB)) (hss.below (hbW.mono hB)) (hms.below (hbW.mono hB)) (hos.below (hbW.mono hB))
 have hL:shapeErr c=0→∀w1,Below W.heap.size W w1→Calls Tryd.prog 55 #[.slice A0 c.nodes.length c0] w1 (LvPost c.nodes w1):=fun hs w1 h1=>
  levelsOf_any c.nodes A0 c0 w1 B (Nat.le_trans hBW h1.size) ((hns.below (hbW.mono hB)).below (h1.mono hBW)) (wf_of_shape hs) (shape_zero hs).1
 have hsz:W.heap.size=w.heap.size+1:=by rw[HW.out];simp
 clear hns hss hms hos hT hBW
 obtain⟨n1,HN1⟩:=named c.names.length
 obtain⟨n2,HN2⟩:=named c.mems.length
 obtain⟨n3,HN3⟩:=named c.outs.length
 rw[←HN1.out,←HN2.out,←HN3.out]at hP HW
 rw[←HN1.out,←HN2.out,←HN3.out]
 obtain⟨n0,HN0⟩:=named c.nodes.length
 rw[←HN0.out]at hP HW hL
 rw[←HN0.out]
 obtain⟨W',HW'⟩:=named W
 obtain rfl:=HW.out
 clear HW HW' W'
 have HBW:=Lib.hid hbW
 have HP:=Lib.hid hP
 have HL:=Lib.hid hL
 have HSZ:=Lib.hid hsz
 clear hbW hP hL hsz
 by_cases hs:shapeErr c=0
 ·have hP:=HP.out
  rw[hs]at hP
  have HP:=Lib.hid hP
  have HL:=Lib.hid (HL.out hs)
  have HS:=Lib.hid hs
  clear hP hs
  by_cases hex:∃L,Lvl c.nodes L
  ·have hck:chkErr c=0:=by rw[chkErr,if_neg (fun h=>h HS.out),if_pos hex]
   have hl2:∀w1,Below _ _ w1→Calls Tryd.prog 55 #[.slice A0 n0 c0] w1 fun e w'=>e=.returned (.tuple #[.slice (some ⟨w1.heap.size,0,none⟩) n0 n0,.bool true])∧Below w1.heap.size w1 w'∧∃L,Lvl c.nodes L∧(∀i:Nat,i<n0→lat L i<(n0:Int))∧Row w' w1.heap.size L:=fun w1 h1=>(HL.out w1 h1).mono fun e w' ⟨hb,h⟩=>by
    rcases h with⟨L,hl,hbd,he,hr⟩| ⟨hno,-⟩
    ·rw[←HN0.out]at he hbd
     exact⟨he,hb,L,hl,hbd,hr⟩
    ·exact absurd hex hno
   have HL2:=Lib.hid hl2
   have HCK:=Lib.hid hck
   clear hck hex hl2 HL
   go_enter Tryd.func27,Tryd.ntmps27
   go_wp2_with (first
    |(go_at_call 54;(with_reducible refine HP.out.mono ?_);rintro e w1 ⟨rfl,hb⟩;have HB1:=Lib.hid hb;obtain⟨hc,hf⟩:=bcell hb;clear hb)
    |(go_at_call 55;(with_reducible refine (HL2.out _ HB1.out).mono ?_);rintro e w2 ⟨rfl,hb,hx⟩;have HB2:=Lib.hid hb;have HX:=Lib.hid hx;clear hb hx))
   go_ret2
   obtain⟨L,h1,h2,h3⟩:=HX.out
   have hb1:=joinB HBW.out HB1.out
   rw[HN0.out]at h2
   exact⟨joinB hb1 HB2.out,.inl ⟨HCK.out,HS.out,L,_,h1,h2,hb1.size,by rw[←HN0.out];rfl,h3⟩⟩
  ·have hck:chkErr c=6:=by rw[chkErr,if_neg (fun h=>h HS.out),if_neg hex]
   have hl2:∀w1,Below _ _ w1→Calls Tryd.prog 55 #[.slice A0 n0 c0] w1 fun e w'=>e=.returned (.tuple #[.slice none 0 0,.bool false])∧Below w1.heap.size w1 w':=fun w1 h1=>(HL.out w1 h1).mono fun e w' ⟨hb,h⟩=>by
    rcases h with⟨L,hl,-⟩| ⟨-,he⟩
    ·exact absurd ⟨L,hl⟩ hex
    ·exact⟨he,hb⟩
   have HL2:=Lib.hid hl2
   have HCK:=Lib.hid hck
   clear hck hex hl2 HL
   go_enter Tryd.func27,Tryd.ntmps27
   go_wp2_with (first
    |(go_at_call 54;(with_reducible refine HP.out.mono ?_);rintro e w1 ⟨rfl,hb⟩;have HB1:=Lib.hid hb;obtain⟨hc,hf⟩:=bcell hb;clear hb)
    |(go_at_call 55;(with_reducible refine (HL2.out _ HB1.out).mono ?_);rintro e w2 ⟨rfl,hb⟩;have HB2:=Lib.hid hb;clear hb))
   go_ret2
   exact⟨joinB (joinB HBW.out HB1.out) HB2.out,.inr ⟨by rw[HCK.out];decide,by rw[HCK.out];rfl⟩⟩
 ·have hck:chkErr c=shapeErr c:=by rw[chkErr,if_pos hs]
  have HP0:=HP.out
  clear HP HL
  obtain⟨z,HZ⟩:=named (shapeErr c)
  rw[←HZ.out]at HP0 hs hck
  have hz:(z==0)=false:=by simpa using hs
  have HP:=Lib.hid HP0
  have HCK:=Lib.hid hck
  have HS:=Lib.hid hs
  clear HP0 hck hs
  go_enter Tryd.func27,Tryd.ntmps27
  go_wp2_with (go_at_call 54;(with_reducible refine HP.out.mono ?_);rintro e w1 ⟨rfl,hb⟩;have HB1:=Lib.hid hb;obtain⟨hc,hf⟩:=bcell hb;clear hb)
  go_ret2
  exact⟨joinB HBW.out HB1.out,.inr ⟨by rw[HCK.out];exact HS.out,by rw[HCK.out];rfl⟩⟩
set_option maxHeartbeats 1000000 in
theorem check_any(c:Ck)(v:Value)(w:World)(B:Nat)(hB:B≤w.heap.size)(hT:Tabs w)(hc:Cir w B v c):
 Calls Tryd.prog 64 #[v] w fun e w'=>e=.returned (.int .i64 (chkErr c))∧Below w.heap.size w w':=by
 have hb0:=hc
 obtain⟨v0,v1,v2,v3,rfl,hns,hss,hms,hos⟩:=hc
 obtain⟨A0,b0,o0,c0,rfl,-⟩:=id hns
 obtain⟨A1,b1,o1,c1,rfl,-⟩:=id hss
 obtain⟨A2,b2,o2,c2,rfl,-⟩:=id hms
 obtain⟨A3,b3,o3,c3,rfl,-⟩:=id hos
 have hbW:Below w.heap.size w (w.alloc (.cells #[.slice A0 c.nodes.length c0,.slice A1 c.names.length c1,.slice A2 c.mems.length c2,.slice A3 c.outs.length c3] 27)):=(Below.refl _ _).alloc (Nat.le_refl _) _
 have hL:=levels_any c _ _ B (Nat.le_trans hB hbW.size) (hT.below hbW) (hb0.below (hbW.mono hB))
 have hL2:=hL.mono (R':=fun e w'=>Below (w.alloc (.cells #[.slice A0 c.nodes.length c0,.slice A1 c.names.length c1,.slice A2 c.mems.length c2,.slice A3 c.outs.length c3] 27)).heap.size (w.alloc (.cells #[.slice A0 c.nodes.length c0,.slice A1 c.names.length c1,.slice A2 c.mems.length c2,.slice A3 c.outs.length c3] 27)) w'∧∃A n cp,e=.returned (.tuple #[.slice A n cp,.int .i64 (chkErr c)])) fun e w' ⟨h1,h2⟩=>by
  refine⟨h1,?_⟩
  rcases h2 with⟨h0,-,L,g,-,-,-,he,-⟩| ⟨-,he⟩
  ·rw[h0];exact⟨_,_,_,he⟩
  ·exact⟨_,_,_,he⟩
 clear hL hns hss hms hos hb0 hT
 generalize chkErr c=z at hL2 ⊢
 generalize c.nodes.length=n0 at hL2 hbW ⊢
 generalize c.names.length=n1 at hL2 hbW ⊢
 generalize c.mems.length=n2 at hL2 hbW ⊢
 generalize c.outs.length=n3 at hL2 hbW ⊢
 have HL:=Lib.hid hL2
 have HBW:=Lib.hid hbW
 clear hL2 hbW
 go_enter Tryd.func64,Tryd.ntmps64
 go_wp2_with (go_at_call 27;(with_reducible refine HL.out.mono ?_);rintro e w1 ⟨hb,A,n,cp,rfl⟩;have HB1:=Lib.hid hb;clear hb)
 go_ret
 exact⟨rfl,joinB HBW.out HB1.out⟩
end Go.Proofs.YtckgnoopjapknaaDoor
