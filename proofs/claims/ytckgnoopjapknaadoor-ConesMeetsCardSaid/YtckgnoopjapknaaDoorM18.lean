/- The texts Kob Fop. -/
import Derived.Test.YtckgnoopjapknaaDoorM15
import Derived.Test.YtckgnoopjapknaaDoorM17
import Derived.Test.YtckgnoopjapknaaDoorM02
namespace Go.Proofs.YtckgnoopjapknaaDoor
open Go.RowKit
theorem grown_of{w w':World}(h:BelW w w')(r:Option Nat):w.grownBy w' r:=⟨h.os,h.tape,h.output,h.size,fun i hi _=>h.block i hi⟩
theorem own_frB{w:World}{base:Nat}{e:TypeId}{size g n:Nat}{xs:List Value}(h:w.ownsRow base e size (.slice (some ⟨g,0,none⟩) n n) n xs):Fr w g e xs:=by
 obtain⟨h1,h2⟩:=h
 rcases h2 with⟨e',-⟩| ⟨g',cap,cur,e',hb,hg,hle,hm,hs,ht⟩
 ·cases e'
 ·simp only[Value.slice.injEq,Option.some.injEq,Addr.mk.injEq,and_true,true_and]at e'
  obtain⟨rfl,rfl⟩:=e'
  have hc:cur=xs.toArray:=by
   apply Array.ext'
   rw[←ht,List.take_of_length_le (by rw[Array.length_toList];omega)]
  rw[hc]at hg
  exact hg
theorem BRow.not_int{w:World}{g j:Nat}{l:List Bool}{x:Int}(h:BRow w g l):w.cell? ⟨g,j,none⟩≠some (.int .i64 x):=fun e=>by
 have h1:=(own_frB h).cell j
 rw[e,List.getElem?_map]at h1
 cases h2:l[j]? with
 |none=>rw[h2]at h1;cases h1
 |some y=>rw[h2]at h1;simp at h1
theorem Is.apart{w w':World}{g:Nat}{R:List Bool}{v:Value}{l:List Int}(h:Is w w.heap.size v l)(hR:BRow w g R)(hg:w.grownBy w' (some g)):Is w' w'.heap.size v l:=by
 obtain⟨A,b,o,c,e,hA,h1,h2,hc⟩:=h
 refine⟨A,b,o,c,e,hA,h1,h2,fun k hk=>?_⟩
 obtain⟨hb,hx⟩:=hc k hk
 have hx':w.cell? ⟨b,o+k*1,none⟩=some (.int .i64 (l.getD k 0)):=hx
 have hne:b≠g:=fun e=>by subst e;exact hR.not_int hx'
 exact⟨Nat.lt_of_lt_of_le hb hg.size,hg.cell hx' fun e=>hne (by simpa using e)⟩
set_option maxRecDepth 100000 in
set_option maxHeartbeats 4000000 in
theorem mark_any(A0 A1 A2 A3:Option Addr)(n n1 n2 n3 c0 c1 c2 c3:Nat)(g q1 q3:Nat)(R:List Bool)(l:List Int)(s:Value)(w:World)(hn:n≤maxLen)(hR:BRow w g R)(hl:R.length=n)(hs:Is w w.heap.size s l)(h1:q1≠g)(h3:q3≠g)
 (y0:w.cell? ⟨q1,0,none⟩=some (.slice A0 n c0)∧w.cell? ⟨q1,1,none⟩=some (.slice A1 n1 c1)∧w.cell? ⟨q1,2,none⟩=some (.slice A2 n2 c2)∧w.cell? ⟨q1,3,none⟩=some (.slice A3 n3 c3)) (y3:w.cell? ⟨q3,0,none⟩=some (.slice (some ⟨g,0,none⟩) n n)):
 Calls Tryd.prog 71 #[s,.pointer (some ⟨q1,0,none⟩),.pointer (some ⟨q3,0,none⟩)] w fun e w'=>e=.returned (.tuple #[])∧BRow w' g (mkL n R l)∧w.grownBy w' (some g):=by
 obtain⟨A,b,o,c,rfl,hA,-,hm,hc⟩:=hs.opens
 unfold maxLen at hm
 obtain⟨k0,hk0⟩:∃k,k=l.length:=⟨_,rfl⟩
 rw[←hk0]at hA hm hc
 rw[←hk0]
 have hbg:∀k,k<k0→b≠g:=fun k hk e=>hR.not_int (by have:=(hc k hk).2;rw[e]at this;exact this)
 have HC:=Lib.hid hc
 have HAA:=Lib.hid hA
 have HBG:=Lib.hid hbg
 have HK0:=Lib.hid hk0
 have HIN:=Lib.hid (fun x W=>isnode_any A0 A1 A2 A3 n n1 n2 n3 c0 c1 c2 c3 x W hn)
 have HR:=Lib.hid hR
 have HL:=Lib.hid hl
 have HY0:=Lib.hid y0
 have HY3:=Lib.hid y3
 have HTK:Hid (∀k,k<k0→mkL n R (l.take (k+1))=mk1 n (mkL n R (l.take k)) (l.getD k 0)):=Lib.hid fun k hk=>by
  rw[List.take_succ_eq_append_getElem (by omega),mkL_snoc,List.getD_eq_getElem?_getD,List.getElem?_eq_getElem (by omega)];rfl
 have HEND:Hid (l.take k0=l):=Lib.hid (by rw[hk0];exact List.take_length)
 clear hc hA hbg hk0 hR hl y0 y3 hs
 go_enter Tryd.func71,Tryd.ntmps71
 go_wp2
 go_loopw [8] (fun i wr=>∃k:Nat,k≤k0∧i=.int .i64 k∧Hid (BRow wr g (mkL n R (l.take k)))∧Hid (w.grownBy wr (some g))) (fun i _=>k0-(intOf i).toNat)
 case atStart=>exact⟨0,Nat.zero_le _,rfl,Lib.hid HR.out,Lib.hid (grown_of (Below.refl _ _) _)⟩
 case round=>
  obtain⟨k,hk,rfl,HB,HG⟩:=hrel
  by_cases hlt:k<k0
  ·have hk2:(k:Int)<(k0:Int):=by omega
   obtain rfl:=HAA.out (by omega)
   have e0:=HG.out.cell (HC.out k hlt).2 (by simpa using HBG.out k hlt)
   have z0:=HG.out.cell HY0.out.1 (by simpa using h1)
   have z1:=HG.out.cell HY0.out.2.1 (by simpa using h1)
   have z2:=HG.out.cell HY0.out.2.2.1 (by simpa using h1)
   have z3:=HG.out.cell HY0.out.2.2.2 (by simpa using h1)
   have HTK2:=Lib.hid (HTK.out k hlt)
   obtain⟨x,HX⟩:=named (l.getD k 0)
   rw[←HX.out]at e0 HTK2
   obtain⟨R1,HR1⟩:=named (mkL n R (l.take k))
   rw[←HR1.out]at HB HTK2
   have hl1:R1.length=n:=by rw[HR1.out,mkL_len,HL.out]
   have HN1:=Lib.hid (HIN.out x wr)
   have HN2:=Lib.hid hl1
   clear hl1
   cases hv:isIdx n x
   ·rw[hv]at HN1
    have HNX:Hid (mkL n R (l.take (k+1))=R1):=Lib.hid (by rw[HTK2.out];unfold mk1;rw[if_neg fun h=>by rw[isIdx_iff.2 h]at hv;cases hv])
    clear hv
    go_wp2_with (go_at_call 43;(with_reducible refine HN1.out.mono ?_);rintro e w2 ⟨rfl,hb⟩;have HB2:=Lib.hid hb;clear hb z0 z1 z2 z3 e0)
    go_roundw
    case rel=>exact⟨k+1,by omega,by go_num,Lib.hid (by rw[HNX.out];exact HB.out.below HB2.out),Lib.hid (HG.out.trans (grown_of HB2.out _))⟩
    case measure=>simp[intOf];omega
   ·rw[hv]at HN1
    obtain⟨h0,hx2⟩:=isIdx_iff.1 hv
    obtain⟨xi,rfl⟩:=Int.eq_ofNat_of_zero_le h0
    have HNX:Hid (mkL n R (l.take (k+1))=R1.set xi true):=Lib.hid (by rw[HTK2.out];unfold mk1;rw[if_pos ⟨h0,hx2⟩,Int.toNat_natCast])
    have HW2:Hid (∀w2,BelW wr w2→w2.cell? ⟨q3,0,none⟩=some (.slice (some ⟨g,0,none⟩) n n)∧w2.frozen? ⟨g,xi,none⟩=false∧(∃u,w2.cell? ⟨g,xi,none⟩=some u)∧BRow w2 g R1):=Lib.hid fun w2 hb=>by
     have hB:=HB.out.below hb
     exact⟨(HG.out.trans (grown_of hb _)).cell HY3.out (by simpa using h3),hB.frozen xi,⟨_,hB.cell (List.getElem?_eq_getElem (by rw[HN2.out];omega))⟩,hB⟩
    clear hv h0
    go_wp2_with (go_at_call 43;(with_reducible refine HN1.out.mono ?_);rintro e w2 ⟨rfl,hb⟩;obtain⟨t0,t1,⟨u,t2⟩,t3⟩:=HW2.out w2 hb;have HB2:=Lib.hid hb;have HB3:=Lib.hid t3;clear hb z0 z1 z2 z3 e0 t3)
    go_roundw
    case rel=>exact⟨k+1,by omega,by go_num,Lib.hid (by rw[HNX.out];exact HB3.out.set xi true),Lib.hid ((HG.out.trans (grown_of HB2.out _)).trans (grown_set _ _ _ _))⟩
    case measure=>simp[intOf];omega
  ·obtain rfl:k0=k:=by omega
   have HB4:Hid (BRow wr g (mkL n R l)):=Lib.hid (by have:=HB.out;rw[HEND.out]at this;exact this)
   go_wp2
   go_end0
   exact⟨rfl,HB4.out,HG.out⟩
section
variable {P:Program} {md:Region.Mode} {ops:Array Oper} {i:Nat} {a:Act} {w:World} {Q:Exit→Act→World→Prop} {o:Oper} {d:Tmp} {Y:Value→World→Prop}
theorem fop_call1{f:FuncId}{x0:Tmp}{ts:Array TypeId}{u0:Value}(ho:ops[i]? =some o)(hgd:o.guard=none)(hd:o.dst=some d)(hop:o.op=.call { callee:=.value (.func f),args:=#[.tmp x0],argTypes:=ts })(hen:∀args V,(callFunc f args).run P V=.ok (.enter f args) V)
 (hu0:a.eval (.tmp x0)=u0) (hc:Calls P f #[u0] w fun e w'=>∃v,e=.returned v∧Below w.heap.size w w'∧Y v w'):wpOp P ops Q i (fun a' w'=>∃v,a'=a.put (some d) v∧Below w.heap.size w w'∧Y v w') a w:=by
 refine wpOp_step ho fun K' hK=>?_
 have hw:Region.wanted o (yielded ops a.tmps)=true:=by simp[Region.wanted,hgd]
 rw[if_pos hw]
 unfold Oper.wp execOp
 have hx0:a.tmps[x0]?.getD undef=u0:=by rw[←hu0];simp[Act.eval]
 simp only[hop]
 simp[go_sem,resolve,invoke,hen,hd,hx0]
 with_reducible refine Calls.mono hc ?_
 rintro e w' ⟨v,rfl,hb,hy⟩
 exact hK _ _ ⟨v,rfl,hb,hy⟩
theorem fop_call2{f:FuncId}{x0 x1:Tmp}{ts:Array TypeId}{u0 u1:Value}(ho:ops[i]? =some o)(hgd:o.guard=none)(hd:o.dst=some d)(hop:o.op=.call { callee:=.value (.func f),args:=#[.tmp x0,.tmp x1],argTypes:=ts })(hen:∀args V,(callFunc f args).run P V=.ok (.enter f args) V)
 (hu0:a.eval (.tmp x0)=u0) (hu1:a.eval (.tmp x1)=u1) (hc:Calls P f #[u0,u1] w fun e w'=>∃v,e=.returned v∧Below w.heap.size w w'∧Y v w'):wpOp P ops Q i (fun a' w'=>∃v,a'=a.put (some d) v∧Below w.heap.size w w'∧Y v w') a w:=by
 refine wpOp_step ho fun K' hK=>?_
 have hw:Region.wanted o (yielded ops a.tmps)=true:=by simp[Region.wanted,hgd]
 rw[if_pos hw]
 unfold Oper.wp execOp
 have hx0:a.tmps[x0]?.getD undef=u0:=by rw[←hu0];simp[Act.eval]
 have hx1:a.tmps[x1]?.getD undef=u1:=by rw[←hu1];simp[Act.eval]
 simp only[hop]
 simp[go_sem,resolve,invoke,hen,hd,hx0,hx1]
 with_reducible refine Calls.mono hc ?_
 rintro e w' ⟨v,rfl,hb,hy⟩
 exact hK _ _ ⟨v,rfl,hb,hy⟩
theorem fop_call3{f:FuncId}{x0 x1 x2:Tmp}{ts:Array TypeId}{u0 u1 u2:Value}(ho:ops[i]? =some o)(hgd:o.guard=none)(hd:o.dst=some d)(hop:o.op=.call { callee:=.value (.func f),args:=#[.tmp x0,.tmp x1,.tmp x2],argTypes:=ts })(hen:∀args V,(callFunc f args).run P V=.ok (.enter f args) V)
 (hu0:a.eval (.tmp x0)=u0) (hu1:a.eval (.tmp x1)=u1) (hu2:a.eval (.tmp x2)=u2) (hc:Calls P f #[u0,u1,u2] w fun e w'=>∃v,e=.returned v∧Below w.heap.size w w'∧Y v w'):wpOp P ops Q i (fun a' w'=>∃v,a'=a.put (some d) v∧Below w.heap.size w w'∧Y v w') a w:=by
 refine wpOp_step ho fun K' hK=>?_
 have hw:Region.wanted o (yielded ops a.tmps)=true:=by simp[Region.wanted,hgd]
 rw[if_pos hw]
 unfold Oper.wp execOp
 have hx0:a.tmps[x0]?.getD undef=u0:=by rw[←hu0];simp[Act.eval]
 have hx1:a.tmps[x1]?.getD undef=u1:=by rw[←hu1];simp[Act.eval]
 have hx2:a.tmps[x2]?.getD undef=u2:=by rw[←hu2];simp[Act.eval]
 simp only[hop]
 simp[go_sem,resolve,invoke,hen,hd,hx0,hx1,hx2]
 with_reducible refine Calls.mono hc ?_
 rintro e w' ⟨v,rfl,hb,hy⟩
 exact hK _ _ ⟨v,rfl,hb,hy⟩
theorem fop_move{x:Tmp}{u:Value}(ho:ops[i]? =some o)(hgd:o.guard=none)(hd:o.dst=some d)(hop:o.op=.move (.tmp x))(hu:a.eval (.tmp x)=u)(hy:Y u w):wpOp P ops Q i (fun a' w'=>∃v,a'=a.put (some d) v∧Below w.heap.size w w'∧Y v w') a w:=by
 refine wpOp_step ho fun K' hK=>?_
 have hw:Region.wanted o (yielded ops a.tmps)=true:=by simp[Region.wanted,hgd]
 rw[if_pos hw]
 have hk:=hK (a.put (some d) u) w ⟨u,rfl,Below.refl _ _,hy⟩
 unfold Oper.wp execOp
 have hx:a.tmps[x]?.getD undef=u:=by rw[←hu];simp[Act.eval]
 simp only[hop]
 simp[go_sem,hd,hx]
 exact hk
theorem fop_loadC{x:Tmp}{q:Nat}{v0 v1 v2 v3:Value}(hP:P= Tryd.prog)(ho:ops[i]? =some o)(hgd:o.guard=none)(hd:o.dst=some d)(hop:o.op=.load 27 (.tmp x))(hu:a.eval (.tmp x)=.pointer (some ⟨q,0,none⟩))(h0:w.cell? ⟨q,0,none⟩=some v0)(h1:w.cell? ⟨q,1,none⟩=some v1)(h2:w.cell? ⟨q,2,none⟩=some v2)(h3:w.cell? ⟨q,3,none⟩=some v3)
 (hy:Y (.agg #[v0,v1,v2,v3]) w):wpOp P ops Q i (fun a' w'=>∃v,a'=a.put (some d) v∧Below w.heap.size w w'∧Y v w') a w:=by
 refine wpOp_step ho fun K' hK=>?_
 have hw:Region.wanted o (yielded ops a.tmps)=true:=by simp[Region.wanted,hgd]
 rw[if_pos hw]
 subst hP
 have hk:=hK (a.put (some d) (.agg #[v0,v1,v2,v3])) w ⟨_,rfl,Below.refl _ _,hy⟩
 unfold Oper.wp execOp
 have hx:a.tmps[x]?.getD undef=.pointer (some ⟨q,0,none⟩):=by rw[←hu];simp[Act.eval]
 simp only[hop]
 simp[go_sem,hd,hx,h0,h1,h2,h3]
 exact hk
theorem fop_index{x y:Tmp}{b ob k:Nat}{m c:Nat}(hP:P= Tryd.prog)(ho:ops[i]? =some o)(hgd:o.guard=none)(hd:o.dst=some d)(hop:o.op=.indexAddr 25 (.tmp x) (.tmp y))(hu:a.eval (.tmp x)=.slice (some ⟨b,ob,none⟩) m c)(hv:a.eval (.tmp y)=.int .i64 (k:Int))(hk:k<m)(hy:Y (.pointer (some ⟨b,ob+k,none⟩)) w):wpOp P ops Q i (fun a' w'=>∃v,a'=a.put (some d) v∧Below w.heap.size w w'∧Y v w') a w:=by
 refine wpOp_step ho fun K' hK=>?_
 have hw:Region.wanted o (yielded ops a.tmps)=true:=by simp[Region.wanted,hgd]
 rw[if_pos hw]
 subst hP
 have hk2:=hK (a.put (some d) (.pointer (some ⟨b,ob+k,none⟩))) w ⟨_,rfl,Below.refl _ _,hy⟩
 unfold Oper.wp execOp
 have hx:a.tmps[x]?.getD undef=.slice (some ⟨b,ob,none⟩) m c:=by rw[←hu];simp[Act.eval]
 have hx2:a.tmps[y]?.getD undef=.int .i64 (k:Int):=by rw[←hv];simp[Act.eval]
 have hk3:(k:Int)<(m:Int):=by omega
 simp only[hop]
 simp[go_sem,hd,hx,hx2,hk3,hk]
 exact hk2
theorem fop_loadI{x:Tmp}{b ob:Nat}{z:Int}(hP:P= Tryd.prog)(ho:ops[i]? =some o)(hgd:o.guard=none)(hd:o.dst=some d)(hop:o.op=.load 3 (.tmp x))(hu:a.eval (.tmp x)=.pointer (some ⟨b,ob,none⟩))(h0:w.cell? ⟨b,ob,none⟩=some (.int .i64 z))(hy:Y (.int .i64 z) w):wpOp P ops Q i (fun a' w'=>∃v,a'=a.put (some d) v∧Below w.heap.size w w'∧Y v w') a w:=by
 refine wpOp_step ho fun K' hK=>?_
 have hw:Region.wanted o (yielded ops a.tmps)=true:=by simp[Region.wanted,hgd]
 rw[if_pos hw]
 subst hP
 have hk2:=hK (a.put (some d) (.int .i64 z)) w ⟨_,rfl,Below.refl _ _,hy⟩
 unfold Oper.wp execOp
 have hx:a.tmps[x]?.getD undef=.pointer (some ⟨b,ob,none⟩):=by rw[←hu];simp[Act.eval]
 simp only[hop]
 simp[go_sem,hd,hx,h0]
 exact hk2
theorem fop_neqI{x y:Tmp}{z1 z2:Int}(hP:P= Tryd.prog)(ho:ops[i]? =some o)(hgd:o.guard=none)(hd:o.dst=some d)(hop:o.op=.binOp .neq 3 (.tmp x) (.tmp y) 3)(hu:a.eval (.tmp x)=.int .i64 z1)(hv:a.eval (.tmp y)=.int .i64 z2)(hy:Y (.bool (z1 != z2)) w):wpOp P ops Q i (fun a' w'=>∃v,a'=a.put (some d) v∧Below w.heap.size w w'∧Y v w') a w:=by
 refine wpOp_step ho fun K' hK=>?_
 have hw:Region.wanted o (yielded ops a.tmps)=true:=by simp[Region.wanted,hgd]
 rw[if_pos hw]
 subst hP
 have hk2:=hK (a.put (some d) (.bool (z1 != z2))) w ⟨_,rfl,Below.refl _ _,hy⟩
 unfold Oper.wp execOp
 have hx:a.tmps[x]?.getD undef=.int .i64 z1:=by rw[←hu];simp[Act.eval]
 have hx2:a.tmps[y]?.getD undef=.int .i64 z2:=by rw[←hv];simp[Act.eval]
 simp only[hop]
 simp[go_sem,hd,hx,hx2]
 exact hk2
theorem fop_allocB(hP:P= Tryd.prog)(ho:ops[i]? =some o)(hgd:o.guard=none)(hd:o.dst=some d)(hop:o.op=.alloc 41)(hy:∀w',Fr w' w.heap.size 41 [.slice none 0 0]→Y (.pointer (some ⟨w.heap.size,0,none⟩)) w'):wpOp P ops Q i (fun a' w'=>∃v,a'=a.put (some d) v∧Below w.heap.size w w'∧Y v w') a w:=by
 refine wpOp_step ho fun K' hK=>?_
 have hw:Region.wanted o (yielded ops a.tmps)=true:=by simp[Region.wanted,hgd]
 rw[if_pos hw]
 subst hP
 have hk:=hK (a.put (some d) (.pointer (some ⟨w.heap.size,0,none⟩))) (w.alloc (.cells #[.slice none 0 0] 41)) ⟨_,rfl,below_new (Below.refl _ _) _,hy _ (Fr.made _ _ _ rfl)⟩
 unfold Oper.wp execOp
 simp only[hop]
 simp[go_sem,hd]
 exact hk
theorem fop_allocR(hP:P= Tryd.prog)(ho:ops[i]? =some o)(hgd:o.guard=none)(hd:o.dst=some d)(hop:o.op=.alloc 66)(hy:∀w',Fr w' w.heap.size 66 [.slice none 0 0]→Y (.pointer (some ⟨w.heap.size,0,none⟩)) w'):wpOp P ops Q i (fun a' w'=>∃v,a'=a.put (some d) v∧Below w.heap.size w w'∧Y v w') a w:=by
 refine wpOp_step ho fun K' hK=>?_
 have hw:Region.wanted o (yielded ops a.tmps)=true:=by simp[Region.wanted,hgd]
 rw[if_pos hw]
 subst hP
 have hk:=hK (a.put (some d) (.pointer (some ⟨w.heap.size,0,none⟩))) (w.alloc (.cells #[.slice none 0 0] 66)) ⟨_,rfl,below_new (Below.refl _ _) _,hy _ (Fr.made _ _ _ rfl)⟩
 unfold Oper.wp execOp
 simp only[hop]
 simp[go_sem,hd]
 exact hk
theorem fop_build1{x:Tmp}{z:Int}(hP:P= Tryd.prog)(ho:ops[i]? =some o)(hgd:o.guard=none)(hd:o.dst=some d)(hop:o.op=.buildSlice 25 1 #[(0,.tmp x)])(hu:a.eval (.tmp x)=.int .i64 z)(hy:∀w',Fr w' w.heap.size 3 [.int .i64 z]→Y (.slice (some ⟨w.heap.size,0,none⟩) 1 1) w'):wpOp P ops Q i (fun a' w'=>∃v,a'=a.put (some d) v∧Below w.heap.size w w'∧Y v w') a w:=by
 refine wpOp_step ho fun K' hK=>?_
 have hw:Region.wanted o (yielded ops a.tmps)=true:=by simp[Region.wanted,hgd]
 rw[if_pos hw]
 subst hP
 have hk:=hK (a.put (some d) (.slice (some ⟨w.heap.size,0,none⟩) 1 1)) (w.alloc (.cells #[.int .i64 z] 3)) ⟨_,rfl,below_new (Below.refl _ _) _,hy _ (Fr.made _ _ _ rfl)⟩
 unfold Oper.wp execOp
 have hx:a.tmps[x]?.getD undef=.int .i64 z:=by rw[←hu];simp[Act.eval]
 simp only[hop]
 simp[go_sem,hd,hx]
 exact hk
end
theorem NxR.next{V W:World}{bn on n:Nat}{nx:Nat→List Int}(h:NxR V V.heap.size bn on n nx)(hb:BelW V W):NxR W W.heap.size bn on n nx:=by
 obtain⟨h1,h2⟩:=h
 have hz:=Below.size hb
 refine⟨by omega,fun i hi=>?_⟩
 obtain⟨A,c,h3,h4⟩:=h2 i hi
 exact⟨A,c,(Below.cell hb (p:=⟨bn,on+i,none⟩) h1).trans h3,(h4.below hb).more hz⟩
end Go.Proofs.YtckgnoopjapknaaDoor
