/- The texts Lcv Sna Snb Cs St9 Bz9 Cm9 Ts9 LgRefp Rfp LgText LgMonow LgRef1. -/
import Derived.Test.YtemjmfpcopfdbaaGreatDoorM19
import Derived.Test.YtemjmfpcopfdbaaGreatDoorM20
import Derived.Test.YtemjmfpcopfdbaaGreatDoorM05
import Derived.Test.YtemjmfpcopfdbaaGreatDoorM22
import Derived.Test.YtemjmfpcopfdbaaGreatDoorM23
import Derived.Test.YtemjmfpcopfdbaaGreatDoorM25
import Derived.Test.YtemjmfpcopfdbaaGreatDoorM18
import Derived.Deep.RegionHeld3
import Derived.Test.YtemjmfpcopfdbaaGreatDoorM01
import Derived.Test.YtemjmfpcopfdbaaGreatDoorM12
import Derived.Test.YtemjmfpcopfdbaaGreatDoorM06
import Derived.Laws.BytesArg
import Derived.OwnWalk
import Derived.Test.YtemjmfpcopfdbaaGreatDoorM07
namespace Go.Proofs.YtemjmfpcopfdbaaGreatDoor
open Go.RowKit
theorem ofc_any(x:Cx)(hx:Cok x)(sG sA:Value)(w:World)(B:Nat)(hB:B≤w.heap.size)(hG:Gs w B sG x.gates)(hA:Ks w B sA x.outs):
 Calls Tryz.prog 7 #[.agg #[.int .u8 x.inN,.int .u8 x.dffs,.int .u8 x.d0,.int .u8 x.d1,.bool x.bus,.bool x.mem,.int .u8 x.p0,.int .u8 x.p1,.int .u8 x.p2,.int .u8 x.p3,sG,sA]] w
  fun e w'=>(∃v,e=.returned v∧Cir w' w'.heap.size v (ofC x))∧Below w.heap.size w w':=by
 cases h:x.mem
 ·rw[←h];exact ofc_false x h hx sG sA w B hB hG hA
 ·rw[←h];exact ofc_true x h hx sG sA w B hB hG hA
theorem hi_le(k:Int):hi k≤16:=by
 unfold hi
 split
 ·decide
 ·have h:∀i:Fin 16,spansL.getD (2*i.val+1) 0≤16:=by decide
  exact h ⟨k.toNat,by omega⟩
theorem chk_shape{c:Ck}(h:chkErr c=0):shapeErr c=0:=by
 unfold chkErr at h
 by_cases e:shapeErr c=0
 ·exact e
 ·rw[if_pos e]at h;exact absurd h e
structure Vld(c:Ck)(L:List Int)(n:Nat):Prop where
 ok:chkErr c=0
 lvl:Lvl c.nodes L
 len:n=c.nodes.length
 few:n<20
section
variable {c:Ck} {L:List Int} {n:Nat}
theorem Vld.wf(V:Vld c L n):Wf c.nodes:=wf_of_shape (chk_shape V.ok)
theorem Vld.bnd(V:Vld c L n):∀i:Nat,i<n→0≤lat L i∧lat L i<(n:Int):=fun i hi=>by
 rw[V.len]at hi
 have h1:=V.lvl.nonneg hi
 have h2:=V.lvl.bound V.wf hi
 rw[←V.len]at h2
 exact⟨h1,h2⟩
theorem Vld.pins(V:Vld c L n):∀k,k<c.nodes.length→(c.nodes.getD k default).ins.length≤16:=fun k hk=>by
 have h:=(nodeErr_zero ((shape_zero (chk_shape V.ok)).2.2.2.2.1 _ (getD_mem_nd hk))).2.2.1
 have:=hi_le (c.nodes.getD k default).kind
 omega
variable {w w1 W:World} {q:Nat} {A0 A1 A2 A3:Option Addr} {n1 n2 n3 c0 c1 c2 c3:Nat}
end
theorem vld_c(x:Cx)(hx:Cok x):∃L,Vld (ofC x) L (sizeN x):=by
 obtain⟨L,hL⟩:=ofC_lvl x hx
 exact⟨L,ofC_ok x hx,hL,(ofC_len x).symm,by have:=sizeN_le x;omega⟩
def BRow(w:World)(g:Nat)(l:List Bool):Prop:=w.ownsRow g 4 1 (.slice (some ⟨g,0,none⟩) l.length l.length) l.length (l.map Value.bool)
section
variable {w w':World} {g:Nat} {l:List Bool}
end
theorem pOf_at(c:Ck)(a b:List Int)(A0 A1 A2 A3 Aa Ab:Option Addr)(n n1 n2 n3 ni ns c0 c1 c2 c3 ma mb ca cb:Nat)(w:World)(B:Nat)(hB:B≤w.heap.size)(hn:c.nodes.length=n)(hn1:c.names.length=n1)(hn2:c.mems.length=n2)(hn3:c.outs.length=n3)(hni:(ofTo c.nodes [0] n).length=ni)(hns:(ofTo c.nodes [14] n).length=ns)
 (hc:Cir w B (.agg #[.slice A0 n c0,.slice A1 n1 c1,.slice A2 n2 c2,.slice A3 n3 c3]) c) (hi:Ks w B (.slice Aa ma ca) a) (hs:Ks w B (.slice Ab mb cb) b) (hsz:n≤1000000) (va:∀y∈a,0≤y∧y≤255) (vb:∀y∈b,0≤y∧y≤255):
 Calls Tryz.prog 32 #[.agg #[.slice Aa ma ca,.slice Ab mb cb],.agg #[.slice A0 n c0,.slice A1 n1 c1,.slice A2 n2 c2,.slice A3 n3 c3]] w fun e w'=>∃AI cI AS cS,e=.returned (.agg #[.slice AI ni cI,.slice AS ns cS])∧VStk w' w.heap.size (.slice AI ni cI) (takL a 4 ni)∧VStk w' w.heap.size (.slice AS ns cS) (takL b 3 ns)∧(∀a b,(Value.slice AI ni cI).ownBlock=some a→(Value.slice AS ns cS).ownBlock=some b→a≠b)∧BelW w w':=by
 subst hn hn1 hn2 hn3 hni hns
 have hp:=pOf_any c a b A0 A1 A2 A3 Aa Ab c0 c1 c2 c3 ma mb ca cb w B hB hc hi hs hsz va vb
 refine hp.mono fun e w' ⟨AI,cI,AS,cS,he,r1,r2,r3,r4⟩=>?_
 rw[takL_len]at he r1 r3
 rw[takL_len]at he r2 r3
 exact⟨AI,cI,AS,cS,he,r1,r2,r3,r4⟩
theorem VStk.cellK{w:World}{base g n c:Nat}{l:List Int}(h:VStk w base (.slice (some ⟨g,0,none⟩) n c) l)(hl:l.length=n){k:Nat}(hk:k<n):w.cell? ⟨g,k,none⟩=some (.int .u8 (l.getD k 0)):=by
 subst hl;exact h.cell hk
theorem VStk.frozenK{w:World}{base g n c:Nat}{l:List Int}(h:VStk w base (.slice (some ⟨g,0,none⟩) n c) l)(hl:l.length=n)(k:Nat):w.frozen? ⟨g,k,none⟩=false:=by
 subst hl;exact World.ownsRow.frozenAt h k
theorem ofC_outs4(x:Cx):(ofC x).outs.length≤4:=by
 simp only[ofC,List.length_append,outsTo,List.length_map,List.length_range,List.length_cons,List.length_nil,outsN]
 omega
def sameTo(l l':List Int)(k:Nat):Prop:=∀j,j<k→l.getD j 0=l'.getD j 0
theorem sameTo_all{l l':List Int}(hl:l.length=l'.length)(h:sameTo l l' l.length):l=l':=by
 apply List.ext_getElem hl
 intro i h1 h2
 have:=h i h1
 simpa [List.getD_eq_getElem?_getD,List.getElem?_eq_getElem h1,List.getElem?_eq_getElem h2]using this
theorem same6_any(l l':List Int)(n m:Nat)(A A':Option Addr)(c c':Nat)(w:World)(B B':Nat)(hs:Ks w B (.slice A n c) l)(hs':Ks w B' (.slice A' m c') l'):
 Calls Tryz.prog 12 #[.slice A n c,.slice A' m c'] w fun e w'=>e=.returned (.int .i64 (if l=l' then 0 else 1))∧BelW w w':=by
 obtain⟨A1,b,o,c1,e,hA,-,hm,hc⟩:=hs.opens
 simp only[Value.slice.injEq]at e
 obtain⟨rfl,hml,rfl⟩:=e
 obtain⟨A2,b',o',c2,e,hA',-,hm',hc'⟩:=hs'.opens
 simp only[Value.slice.injEq]at e
 obtain⟨rfl,hml',rfl⟩:=e
 have hne:¬n=m→¬l=l':=fun h h'=>h (by rw[hml,hml',h'])
 have hall:n=m→sameTo l l' n→l=l':=fun h h'=>sameTo_all (by rw[←hml,←hml',h]) (by rw[←hml];exact h')
 rw[←hml]at hA hc hm
 rw[←hml']at hA' hc' hm'
 unfold maxLen at hm hm'
 have HA:=Lib.hid hA
 have HC:=Lib.hid hc
 have HA':=Lib.hid hA'
 have HC':=Lib.hid hc'
 have HNE:=Lib.hid hne
 have HALL:=Lib.hid hall
 have HM:=Lib.hid (And.intro hm hm')
 clear hA hc hA' hc' hs hs' hml hml' hne hall hm hm'
 obtain⟨r,HRR⟩:=named (if l=l' then (0:Int) else 1)
 rw[←HRR.out]
 go_enter Tryz.func12,Tryz.ntmps12
 by_cases hnm:n=m
 ·subst hnm
  have hm:=HM.out.1
  go_wp2
  go_loopw [5] (fun i wr=>BelW w wr∧∃k:Nat,k≤n∧i=.int .i64 k∧sameTo l l' k) (fun i _=>n-(intOf i).toNat)
  case atStart=>exact⟨Below.refl _ _,0,Nat.zero_le _,rfl,fun j h=>absurd h (Nat.not_lt_zero j)⟩
  case round=>
   obtain⟨hb,k,hk,rfl,hst⟩:=hrel
   have HBR:=Lib.hid hb
   have HST:=Lib.hid hst
   by_cases hlt:k<n
   ·obtain rfl:=HA.out (by omega)
    obtain rfl:=HA'.out (by omega)
    obtain⟨h1,h2⟩:=HC.out k hlt
    obtain⟨h3,h4⟩:=HC'.out k hlt
    have x1:=(Below.cell hb (p:=⟨b,o+k,none⟩) (cell_lt h2)).trans h2
    have x2:=(Below.cell hb (p:=⟨b',o'+k,none⟩) (cell_lt h4)).trans h4
    obtain⟨y,HY⟩:=named (l.getD k 0)
    obtain⟨y',HY'⟩:=named (l'.getD k 0)
    rw[←HY.out]at x1
    rw[←HY'.out]at x2
    clear h2 h4 hb hst
    by_cases hyy:y=y'
    ·have HNX:Hid (sameTo l l' (k+1)):=Lib.hid fun j hj=>by
      by_cases e:j=k
      ·subst e;rw[←HY.out,←HY'.out,hyy]
      ·exact HST.out j (by omega)
     have t1:(y != y')=false:=by simp[hyy]
     go_wp2
     go_quiet (fail)
     go_wp2
     go_roundw
     case rel=>exact⟨below_drewN HBR.out _,k+1,by omega,by go_num,HNX.out⟩
     case measure=>simp[intOf];omega
    ·have HNO:Hid (r=1):=Lib.hid (by rw[HRR.out];exact if_neg fun e=>hyy (by rw[HY.out,HY'.out,e]))
     have t1:(y != y')=true:=by simpa using hyy
     go_wp2
     go_quiet (fail)
     go_wp2
     go_ret
     exact⟨by rw[HNO.out];rfl,below_drewN HBR.out _⟩
   ·obtain rfl:n=k:=by omega
    have HYS:Hid (r=0):=Lib.hid (by rw[HRR.out];exact if_pos (HALL.out (by trivial) HST.out))
    clear hb hst
    go_wp2
    go_ret
    exact⟨by rw[HYS.out];rfl,HBR.out⟩
 ·have HNO:Hid (r=1):=Lib.hid (by rw[HRR.out];exact if_neg (HNE.out hnm))
  have hm:=HM.out.1
  have hm':=HM.out.2
  go_wp2
  go_ret
  exact⟨by rw[HNO.out];rfl,Below.refl _ _⟩
structure Cst(c:Ck)(L:List Int)(n n1 n3 ni ns:Nat):Prop where
 vld:Vld c L n
 h1:c.names.length=n1
 h2:c.mems.length=0
 h3:c.outs.length=n3
 hi:(ofTo c.nodes [0] n).length=ni
 hs:(ofTo c.nodes [14] n).length=ns
 outs:c.outs.length≤17592186044416
section
variable {c:Ck} {L:List Int} {n n1 n3 ni ns:Nat}
end
structure Cs(c:Ck)(n n1 n3:Nat)(A0 A1 A2 A3:Option Addr)(c0 c1 c2 c3 q:Nat)(W:World):Prop where
 tabs:Lg.Tabs W
 cir:Cir W W.heap.size (.agg #[.slice A0 n c0,.slice A1 n1 c1,.slice A2 0 c2,.slice A3 n3 c3]) c
 box:Fr W q 39 [.slice A0 n c0,.slice A1 n1 c1,.slice A2 0 c2,.slice A3 n3 c3]
section
variable {c:Ck} {L:List Int} {n n1 n3 ni ns:Nat} {A0 A1 A2 A3:Option Addr} {c0 c1 c2 c3 q:Nat} {W W':World}
end
theorem takL_in4{l:List Int}(h0:∀x∈l,0≤x∧x≤255)(n:Nat):∀x∈takL l 4 n,0≤x∧x≤3:=takL_in h0 (by decide) (by decide) n
noncomputable def nxtS (c:Ck) (ns m:Nat) (s:Stt) (nets:List Int):Stt:=
 ⟨bitsL (nextV c nets) ns,(List.range m).map fun k=>(List.range (s.words.getD k []).length).map (nxW c.mems s.words nets k),(List.range m).map (nxR c.mems s.words nets)⟩
section
variable (A0 A1 A2 A3:Option Addr) (n0 n1 n2 n3 c0 c1 c2 c3:Nat) (w:World)
end
structure Cmt(c:Ck)(L:List Int)(n n1 m n3 ni ns:Nat):Prop where
 vld:Vld c L n
 h1:c.names.length=n1
 h2:c.mems.length=m
 h3:c.outs.length=n3
 hi:(ofTo c.nodes [0] n).length=ni
 hs:(ofTo c.nodes [14] n).length=ns
 m1:m≤1
 port:∀k,k<m→(c.mems.getD k default).addr.length=1∧(c.mems.getD k default).data.length=2
 outs:c.outs.length≤17592186044416
theorem getD_mem_mm{l:List Mm}{i:Nat}(h:i<l.length):l.getD i default∈l:=by
 rw[List.getD_eq_getElem?_getD,List.getElem?_eq_getElem h];exact List.getElem_mem h
theorem memErr_zero{c:Ck}{x:Mm}(h:memErr c x=0):(0≤x.write∧x.write<(c.nodes.length:Int))∧(∀y∈x.addr,0≤y∧y<(c.nodes.length:Int))∧(∀y∈x.data,0≤y∧y<(c.nodes.length:Int)):=by
 unfold memErr at h
 split at h
 ·cases h
 split at h
 ·cases h
 ·rename_i h1 h2
  refine⟨isIdx_iff.1 ?_,areIdx_iff.1 ?_,areIdx_iff.1 ?_⟩
  ·refine (Bool.not_eq_false _).mp fun e=>h2 (.inl e)
  ·refine (Bool.not_eq_false _).mp fun e=>h2 (.inr (.inl e))
  ·refine (Bool.not_eq_false _).mp fun e=>h2 (.inr (.inr e))
section
variable {c:Ck} {L:List Int} {n n1 m n3 ni ns:Nat}
theorem Cmt.len(S:Cmt c L n n1 m n3 ni ns):c.nodes.length=n:=S.vld.len.symm
theorem Cmt.few(S:Cmt c L n n1 m n3 ni ns):n<20:=S.vld.few
theorem Cmt.niB(S:Cmt c L n n1 m n3 ni ns):ni≤n:=by rw[←S.hi];exact ofTo_len _ _ _
theorem Cmt.nsB(S:Cmt c L n n1 m n3 ni ns):ns≤n:=by rw[←S.hs];exact ofTo_len _ _ _
theorem Cmt.hi'(S:Cmt c L n n1 m n3 ni ns):(ofTo c.nodes [0] c.nodes.length).length=ni:=by rw[S.len];exact S.hi
theorem Cmt.hs'(S:Cmt c L n n1 m n3 ni ns):(ofTo c.nodes [14] c.nodes.length).length=ns:=by rw[S.len];exact S.hs
theorem Cmt.pos(S:Cmt c L n n1 m n3 ni ns):∀k,k<m→posS c.mems ns (k+1)≤10000000:=fun k hk=>by
 have h1:=S.m1
 have h2:=S.nsB
 have h3:=S.few
 obtain rfl:k=0:=by omega
 obtain⟨p,q⟩:=S.port 0 hk
 show ns+2^(c.mems.getD 0 default).addr.length*(c.mems.getD 0 default).data.length+(c.mems.getD 0 default).data.length≤_
 rw[p,q]
 omega
theorem Cmt.idx(S:Cmt c L n n1 m n3 ni ns):∀k,k<m→(∀x∈(c.mems.getD k default).addr,0≤x∧x<(n:Int))∧(∀x∈(c.mems.getD k default).data,0≤x∧x<(n:Int))∧0≤(c.mems.getD k default).write∧(c.mems.getD k default).write<(n:Int):=fun k hk=>by
 have h:=memErr_zero ((shape_zero (chk_shape S.vld.ok)).2.2.2.2.2.2.1 _ (getD_mem_mm (by rw[S.h2];exact hk)))
 rw[S.len]at h
 exact⟨h.2.1,h.2.2,h.1.1,h.1.2⟩
theorem Cmt.memOk(S:Cmt c L n n1 m n3 ni ns){s:Stt}(F:FitS c ns m s):MemOk c.nodes s.read:=fun i hi hk=>by
 have h:=(nodeErr_zero ((shape_zero (chk_shape S.vld.ok)).2.2.2.2.1 _ (getD_mem_nd hi))).2.2.2.2.2
 unfold placeOk at h
 rw[if_pos hk,Bool.and_eq_true,isIdx_iff,isIdx_iff]at h
 obtain⟨⟨a,b⟩,d,e⟩:=h
 rw[S.h2]at b
 have hm:(c.nodes.getD i default).mem.toNat<m:=by omega
 refine⟨a,by rw[F.rl];exact b,d,?_⟩
 rw[(F.rk _ hm).1]
 exact e
theorem Cmt.cy(S:Cmt c L n n1 m n3 ni ns){s:Stt}{inp:List Int}(F:FitS c ns m s)(hl:inp.length=ni)(hv:∀y∈inp,0≤y∧y≤3):CyOk c s inp n ni ns m where
 hn:=S.len
 hm:=S.h2
 hni:=S.hi'
 hns:=S.hs'
 ck:=ck_fits F hl fun j hj=>(hv _ (getD_inL hj)).2
 li:=hl
 ld:=F.dl
 wf:=S.vld.wf
 pins:=S.vld.pins
 mem:=S.memOk F
 nx:=F.nx S.h2 fun k hk=>by
  obtain⟨a,b,d,e⟩:=S.idx k hk
  obtain⟨p,q⟩:=S.port k hk
  exact⟨a,b,d,e,by omega,by omega⟩
 nsz:=by have:=S.few;omega
 msz:=by have:=S.m1;omega
 port:=fun k hk=>by obtain⟨p,q⟩:=S.port k hk;omega
 outs:=S.outs
end
noncomputable def cyN (c:Ck) (L:List Int) (n:Nat) (s:Stt) (inp:List Int):List Int:=stmK c.nodes s.read (cyB c n s inp) (ordTo L n n) n
theorem cyN_len(c:Ck)(L:List Int)(n:Nat)(s:Stt)(inp:List Int):(cyN c L n s inp).length=n:=by
 unfold cyN cyB
 rw[stmK_len,asg_len,asg_len,List.length_replicate]
structure Cm(c:Ck)(n n1 m n3:Nat)(A0 A1 A2 A3:Option Addr)(c0 c1 c2 c3 q:Nat)(W:World):Prop where
 tabs:Lg.Tabs W
 cir:Cir W W.heap.size (.agg #[.slice A0 n c0,.slice A1 n1 c1,.slice A2 m c2,.slice A3 n3 c3]) c
 box:Fr W q 39 [.slice A0 n c0,.slice A1 n1 c1,.slice A2 m c2,.slice A3 n3 c3]
section
variable {c:Ck} {L:List Int} {n n1 m n3 ni ns:Nat} {A0 A1 A2 A3:Option Addr} {c0 c1 c2 c3 q:Nat} {W W':World}
theorem Cm.next(H:Cm c n n1 m n3 A0 A1 A2 A3 c0 c1 c2 c3 q W)(hb:BelW W W'):Cm c n n1 m n3 A0 A1 A2 A3 c0 c1 c2 c3 q W':=
 ⟨H.tabs.below hb,(H.cir.below hb).more (Below.size hb),H.box.below hb⟩
theorem Cm.cells(H:Cm c n n1 m n3 A0 A1 A2 A3 c0 c1 c2 c3 q W):W.cell? ⟨q,0,none⟩=some (.slice A0 n c0)∧W.cell? ⟨q,1,none⟩=some (.slice A1 n1 c1)∧W.cell? ⟨q,2,none⟩=some (.slice A2 m c2)∧W.cell? ⟨q,3,none⟩=some (.slice A3 n3 c3):=
 ⟨H.box.cell 0,H.box.cell 1,H.box.cell 2,H.box.cell 3⟩
theorem Cm.pOf(H:Cm c n n1 m n3 A0 A1 A2 A3 c0 c1 c2 c3 q W)(S:Cmt c L n n1 m n3 ni ns){a b:List Int}{Aa Ab:Option Addr}{ma mb ca cb:Nat}(h1:Ks W W.heap.size (.slice Aa ma ca) a)(h2:Ks W W.heap.size (.slice Ab mb cb) b)(h3:∀y∈a,0≤y∧y≤255)(h4:∀y∈b,0≤y∧y≤255):
 Calls Tryz.prog 32 #[.agg #[.slice Aa ma ca,.slice Ab mb cb],.agg #[.slice A0 n c0,.slice A1 n1 c1,.slice A2 m c2,.slice A3 n3 c3]] W fun e w'=>∃AI cI AS cS,e=.returned (.agg #[.slice AI ni cI,.slice AS ns cS])∧VStk w' W.heap.size (.slice AI ni cI) (takL a 4 ni)∧VStk w' W.heap.size (.slice AS ns cS) (takL b 3 ns)∧(∀a b,(Value.slice AI ni cI).ownBlock=some a→(Value.slice AS ns cS).ownBlock=some b→a≠b)∧BelW W w':=
 pOf_at c a b A0 A1 A2 A3 Aa Ab n n1 m n3 ni ns c0 c1 c2 c3 ma mb ca cb W W.heap.size (Nat.le_refl _) S.len S.h1 S.h2 S.h3 S.hi S.hs H.cir h1 h2 (by have:=S.few;omega) h3 h4
theorem Cm.order(H:Cm c n n1 m n3 A0 A1 A2 A3 c0 c1 c2 c3 q W)(S:Cmt c L n n1 m n3 ni ns):
 Calls Tryz.prog 33 #[.agg #[.slice A0 n c0,.slice A1 n1 c1,.slice A2 m c2,.slice A3 n3 c3]] W fun e w'=>∃R d,(R=ordTo L n n∧R.length=n∧∀x∈R,0≤x∧x<(n:Int))∧e=.returned (.tuple #[.slice (some ⟨d,0,none⟩) n n,.int .i64 0])∧W.heap.size≤d∧Row w' d R∧BelW W w':=
 (order_any c _ W W.heap.size (Nat.le_refl _) (tabs_lg H.tabs) H.cir (by rw[S.len];exact S.few)).mono fun e w' ⟨h1,h2⟩=>by
   rcases h2 with⟨-,-,L',R,d,hl,-,hs,hd,he,hr⟩| ⟨hne,-⟩
   ·rw[hl.unique S.vld.wf S.vld.lvl]at hs
    rw[S.len]at hs he
    have e1:=ord_eq hs S.vld.bnd
    refine⟨R,d,⟨e1,?_,fun x hx=>?_⟩,he,hd,hr,h1⟩
    ·rw[e1];exact ordTo_full S.vld.bnd
    ·rw[e1]at hx
     obtain⟨i,rfl,hi,-⟩:=ordTo_mem.1 hx
     omega
   ·exact absurd S.vld.ok hne
theorem osts_reads{w:World}{gB D1 D2 LL:Nat}{ns m:Nat}{lo:List Int}{nw:Nat→Nat}{fw:Nat→Nat→List Int}{fr:Nat→List Int}(hB:VRow w gB lo)(hl:lo.length=ns)(h:OSt w D1 D2 LL m nw fw fr m m)(hm:m≤maxLen)(hn:∀j,j<m→nw j≤maxLen):
 StR w w.heap.size (some ⟨gB,0,none⟩) (some ⟨D1,0,none⟩) (some ⟨D2,0,none⟩) ns m m ns m m ⟨lo,(List.range m).map fun j=>(List.range (nw j)).map (fw j),(List.range m).map fr⟩:=by
 obtain⟨r1,r2⟩:=h.reads hm hn
 have r0:=hB.ks
 rw[hl]at r0
 exact⟨r0,r1,r2⟩
theorem Cm.cycle(H:Cm c n n1 m n3 A0 A1 A2 A3 c0 c1 c2 c3 q W)(S:Cmt c L n n1 m n3 ni ns){s:Stt}{inp:List Int}{As0 As1 As2 Ai:Option Addr}{d0 d1 d2 ci:Nat}(hS:StR W W.heap.size As0 As1 As2 ns m m d0 d1 d2 s)(hI:Ks W W.heap.size (.slice Ai ni ci) inp)(F:FitS c ns m s)(hl:inp.length=ni)(hv:∀y∈inp,0≤y∧y≤3):
 Calls Tryz.prog 9 #[.agg #[.slice A0 n c0,.slice A1 n1 c1,.slice A2 m c2,.slice A3 n3 c3],.agg #[.slice As0 ns d0,.slice As1 m d1,.slice As2 m d2],.slice Ai ni ci] W fun e w'=>∃gB D1 D2 go gn g,e=.returned (.tuple #[.agg #[.slice (some ⟨gB,0,none⟩) ns ns,.slice (some ⟨D1,0,none⟩) m m,.slice (some ⟨D2,0,none⟩) m m],.agg #[.slice (some ⟨go,0,none⟩) n3 n3,.slice (some ⟨gn,0,none⟩) ns ns],.slice (some ⟨g,0,none⟩) n n,.int .i64 0])
  ∧VRow w' g (cyN c L n s inp)∧VRow w' go (outV c (cyN c L n s inp))∧VRow w' gn (nextV c (cyN c L n s inp))∧StR w' w'.heap.size (some ⟨gB,0,none⟩) (some ⟨D1,0,none⟩) (some ⟨D2,0,none⟩) ns m m ns m m (nxtS c ns m s (cyN c L n s inp))∧BelW W w':=by
 have hk:=S.cy F hl hv
 have hlo:∀l,(outV c l).length=n3:=fun l=>by rw[←S.h3];exact List.length_map _
 refine (mcycle_ok c s inp (fun R=>R=ordTo L n n) A0 A1 A2 A3 As0 As1 As2 Ai n n1 m n3 c0 c1 c2 c3 m d0 d1 d2 ci ns ni W H.tabs H.cir hS hI hk fun W' hb=>(H.next hb).order S).mono fun e w' ⟨R,gB,D1,D2,go,gn,g,hR,he,r1,r2,r3,r4,⟨LL,r5⟩,r6⟩=>?_
 subst hR
 rw[hlo]at he
 refine⟨gB,D1,D2,go,gn,g,he,r1,r2,r3,?_,r6⟩
 refine osts_reads r4 (bitsL_len _ _) r5 (by have:=S.m1;unfold maxLen;omega) fun j hj=>?_
 have:=(hk.nx.words j (by rw[S.h2];exact hj)).2.1
 unfold maxLen
 omega
end
theorem ofc_m(x:Cx)(hx:Cok x)(sG sA:Value)(w W:World)(hb:BelW w W)(hG:Gs w w.heap.size sG x.gates)(hA:Ks w w.heap.size sA x.outs){c:Ck}(hc:c=ofC x){n:Nat}(hn:n=c.nodes.length){m:Nat}(hm:m=c.mems.length):
 Calls Tryz.prog 7 #[.agg #[.int .u8 x.inN,.int .u8 x.dffs,.int .u8 x.d0,.int .u8 x.d1,.bool x.bus,.bool x.mem,.int .u8 x.p0,.int .u8 x.p1,.int .u8 x.p2,.int .u8 x.p3,sG,sA]] W fun e w'=>(∃A0 A1 A2 A3 n1 n3 c0 c1 c2 c3,e=.returned (.agg #[.slice A0 n c0,.slice A1 n1 c1,.slice A2 m c2,.slice A3 n3 c3])∧Cir w' w'.heap.size (.agg #[.slice A0 n c0,.slice A1 n1 c1,.slice A2 m c2,.slice A3 n3 c3]) c∧n1=c.names.length∧n3=c.outs.length)∧BelW W w':=by
 refine (ofc_any x hx sG sA W w.heap.size (Below.size hb) (hG.below hb) (Arr.keep stays_u8 hA (Nat.le_refl _) fun _ hp=>Below.cell hb hp)).mono fun e w' ⟨⟨v,he,hc1⟩,hb1⟩=>?_
 rw[←hc]at hc1
 have hc2:=hc1
 obtain⟨v0,v1,v2,v3,rfl,g0,g1,g2,g3⟩:=hc2
 obtain⟨A0,_,_,c0,rfl,-⟩:=id g0
 obtain⟨A1,_,_,c1,rfl,-⟩:=id g1
 obtain⟨A2,_,_,c2,rfl,-⟩:=id g2
 obtain⟨A3,_,_,c3,rfl,-⟩:=id g3
 rw[←hm,←hn]at hc1 he
 exact⟨⟨A0,A1,A2,A3,_,_,c0,c1,c2,c3,he,hc1,rfl,rfl⟩,hb1⟩
theorem cmt_of(x:Cx)(hx:Cok x){c:Ck}(hc:c=ofC x){n n1 m n3 ni ns:Nat}(hn:n=c.nodes.length)(h1:n1=c.names.length)(hm:m=c.mems.length)(h3:n3=c.outs.length)(hi:ni=(ofTo c.nodes [0] n).length)(hs:ns=(ofTo c.nodes [14] n).length):∃L,Cmt c L n n1 m n3 ni ns:=by
 obtain⟨L,V⟩:=vld_c x hx
 rw[←hc]at V
 have hlen:=V.len
 rw[hlen,←hn]at V
 have hml:c.mems=memsN x:=by rw[hc];rfl
 refine⟨L,V,h1.symm,hm.symm,h3.symm,hi.symm,hs.symm,?_,fun k hk=>?_,?_⟩
 ·rw[hm,hml];unfold memsN;split<;>simp
 ·rw[hm,hml]at hk
  rw[hml]
  unfold memsN at hk ⊢
  split at hk
  ·rename_i h
   rw[if_pos h]
   obtain rfl:k=0:=by simpa using hk
   exact⟨rfl,rfl⟩
  ·exact absurd hk (by simp)
 ·have:=ofC_outs4 x
  rw[←hc]at this
  omega
theorem results_row_tmp1{P:Program}{fn:Func}{p t1:Tmp}{ty:TypeId}(h:fn.results= #[.cell p ty,.tmp t1]) (tmps:Array Value) (w:World) (g:Nat) (t:TypeId) (cs:Array Value) (fr:Nat×Nat) (d:TypeDesc)
 (hp:tmps.getD p undef=.pointer (some ⟨g,0,none⟩)) (hg:w.heap[g]? =some (.cells cs t fr)) (hu:P.underlying ty=some d) (hd:(match d with| .struct _| .array _ _=>true|_=>false)=true) (hi:(P.info? ty).map (·.size)=some cs.size):
 (results fn tmps).run P w=.ok (.tuple #[.agg cs,tmps.getD t1 undef]) w:=by
 have q:tmps[p]?.getD undef=.pointer (some ⟨g,0,none⟩):=by simpa using hp
 simp[results,h,q,asAddr,run_loadVar_row w g t ty cs fr d hg hu hd hi,Sem.run_bind,Result.andThen]
set_option maxRecDepth 100000 in
set_option maxHeartbeats 8000000 in
theorem step9_any{c:Ck}{L:List Int}{n n1 m n3 ni ns:Nat}{A0 A1 A2 A3:Option Addr}{c0 c1 c2 c3 q:Nat}{w:World}(H:Cm c n n1 m n3 A0 A1 A2 A3 c0 c1 c2 c3 q w)(S:Cmt c L n n1 m n3 ni ns){l a b:List Int}{A Aa Ab:Option Addr}{ml ma mb cl ca cb:Nat}(hl:Ks w w.heap.size (.slice A ml cl) l)(ha:Ks w w.heap.size (.slice Aa ma ca) a)(hb:Ks w w.heap.size (.slice Ab mb cb) b)(vl:∀x∈l,0≤x∧x≤255)(va:∀x∈a,0≤x∧x≤255)(vb:∀x∈b,0≤x∧x≤255):
 Calls Tryz.prog 8 #[.agg #[.slice A ml cl,.slice Aa ma ca,.slice Ab mb cb],.agg #[.slice A0 n c0,.slice A1 n1 c1,.slice A2 m c2,.slice A3 n3 c3]] w fun e w'=>∃A7 c7 Aa1 ca1 Aa2 ca2 AI cI,e=.returned (.tuple #[.agg #[.slice A7 ns c7,.slice Aa1 m ca1,.slice Aa2 m ca2],.slice AI ni cI])∧OwnS w' w.heap.size A7 Aa1 Aa2 ns m m c7 ca1 ca2 (sofS c ns m l)∧VStk w' w.heap.size (.slice AI ni cI) (takL a 4 ni)∧BelW w w':=by
 obtain⟨W0,HW0⟩:=named (((w.alloc (.cells #[.slice A ml cl,.slice Aa ma ca,.slice Ab mb cb] 33)).alloc (.cells #[.slice A0 n c0,.slice A1 n1 c1,.slice A2 m c2,.slice A3 n3 c3] 39)).alloc (.cells #[.slice none 0 0,.slice none 0 0,.slice none 0 0] 45))
 have hb0:BelW w W0:=by rw[HW0.out];exact below_new (below_new (below_new (Below.refl _ _) _) _) _
 have hfy:Fr W0 w.heap.size 33 [.slice A ml cl,.slice Aa ma ca,.slice Ab mb cb]:=by rw[HW0.out];exact Fr.alloc (Fr.alloc (Fr.made _ [.slice A ml cl,.slice Aa ma ca,.slice Ab mb cb] _ rfl) _) _
 have hfc:Fr W0 (w.heap.size+1) 39 [.slice A0 n c0,.slice A1 n1 c1,.slice A2 m c2,.slice A3 n3 c3]:=by rw[HW0.out];exact Fr.alloc (Fr.made _ [.slice A0 n c0,.slice A1 n1 c1,.slice A2 m c2,.slice A3 n3 c3] _ (by simp)) _
 have hft:Fr W0 (w.heap.size+1+1) 45 [.slice none 0 0,.slice none 0 0,.slice none 0 0]:=by rw[HW0.out];exact Fr.made _ [.slice none 0 0,.slice none 0 0,.slice none 0 0] _ (by simp)
 obtain⟨s,HS⟩:=named w.heap.size
 have HFT0:Hid (s=w.heap.size):=HS
 rw[←HS.out]at hfy hfc hft
 have HCE:Hid (∀W,BelW W0 W→W.cell? ⟨s,0,none⟩=some (.slice A ml cl)∧W.cell? ⟨s,1,none⟩=some (.slice Aa ma ca)∧W.cell? ⟨s,2,none⟩=some (.slice Ab mb cb)∧W.cell? ⟨s+1,0,none⟩=some (.slice A0 n c0)∧W.cell? ⟨s+1,1,none⟩=some (.slice A1 n1 c1)∧W.cell? ⟨s+1,2,none⟩=some (.slice A2 m c2)∧W.cell? ⟨s+1,3,none⟩=some (.slice A3 n3 c3)):=Lib.hid fun W h=>⟨(hfy.below h).cell 0,(hfy.below h).cell 1,(hfy.below h).cell 2,(hfc.below h).cell 0,(hfc.below h).cell 1,(hfc.below h).cell 2,(hfc.below h).cell 3⟩
 have HKP:Hid (∀ {v:Value} {x:List Int} {W:World},BelW W0 W→Ks w w.heap.size v x→Ks W W.heap.size v x):=Lib.hid fun h hk=>Arr.keep stays_u8 hk (joinB hb0 h).size fun _ hp=>(joinB hb0 h).cell hp
 have HSO:Hid (∀W,BelW W0 W→Calls Tryz.prog 23 #[.agg #[.slice A ml cl],.agg #[.slice A0 n c0,.slice A1 n1 c1,.slice A2 m c2,.slice A3 n3 c3]] W fun e w'=>∃A7 c7 Aa1 ca1 Aa2 ca2,e=.returned (.agg #[.slice A7 ns c7,.slice Aa1 m ca1,.slice Aa2 m ca2])∧OwnS w' W0.heap.size A7 Aa1 Aa2 ns m m c7 ca1 ca2 (sofS c ns m l)∧BelW W w'):=Lib.hid fun W h=>by
  have hbw:=joinB hb0 h
  exact (sof9_any c l A A0 A1 A2 A3 n n1 m n3 c0 c1 c2 c3 ml cl ns W (H.next hbw).cir (HKP.out h hl) vl (by rw[S.len];have:=S.few;omega) S.hs' (by have:=S.nsB;have:=S.few;omega) (by have:=S.m1;omega) (fun k hk=>by obtain⟨p,q⟩:=S.port k hk;omega) S.pos).mono fun e w' ⟨A7,c7,Aa1,ca1,Aa2,ca2,he,ho,hb⟩=>⟨A7,c7,Aa1,ca1,Aa2,ca2,he,ho.low (Below.size h),hb⟩
 have HPO:Hid (∀W,BelW W0 W→Calls Tryz.prog 32 #[.agg #[.slice Aa ma ca,.slice Ab mb cb],.agg #[.slice A0 n c0,.slice A1 n1 c1,.slice A2 m c2,.slice A3 n3 c3]] W fun e w'=>∃AI cI AS cS,e=.returned (.agg #[.slice AI ni cI,.slice AS ns cS])∧VStk w' W0.heap.size (.slice AI ni cI) (takL a 4 ni)∧BelW W w'):=Lib.hid fun W h=>by
  have hbw:=joinB hb0 h
  exact ((H.next hbw).pOf S (HKP.out h ha) (HKP.out h hb) va vb).mono fun e w' ⟨AI,cI,AS,cS,he,r1,_,_,hb⟩=>⟨AI,cI,AS,cS,he,r1.low (Below.size h),hb⟩
 have HB0:=Lib.hid hb0
 have HSZ:Hid (W0.heap.size=w.heap.size+1+1+1):=Lib.hid (by rw[HW0.out];simp)
 have HRB:Hid (∀W,BelW W0 W→W.cell? ⟨s+1+1,0,none⟩=some (.slice none 0 0)∧W.cell? ⟨s+1+1,1,none⟩=some (.slice none 0 0)∧W.cell? ⟨s+1+1,2,none⟩=some (.slice none 0 0)∧W.frozen? ⟨s+1+1,0,none⟩=false∧W.frozen? ⟨s+1+1,1,none⟩=false∧W.frozen? ⟨s+1+1,2,none⟩=false):=Lib.hid fun W h=>⟨(hft.below h).cell 0,(hft.below h).cell 1,(hft.below h).cell 2,(hft.below h).frozen 0,(hft.below h).frozen 1,(hft.below h).frozen 2⟩
 have HS3:Hid (∀(W:World) (u0 u1 u2:Value),BelW W0 W→(((W.setCell ⟨s+1+1,0,none⟩ u0).setCell ⟨s+1+1,1,none⟩ u1).setCell ⟨s+1+1,2,none⟩ u2).cell? ⟨s,0,none⟩=some (.slice A ml cl)∧(((W.setCell ⟨s+1+1,0,none⟩ u0).setCell ⟨s+1+1,1,none⟩ u1).setCell ⟨s+1+1,2,none⟩ u2).cell? ⟨s,1,none⟩=some (.slice Aa ma ca)∧(((W.setCell ⟨s+1+1,0,none⟩ u0).setCell ⟨s+1+1,1,none⟩ u1).setCell ⟨s+1+1,2,none⟩ u2).cell? ⟨s,2,none⟩=some (.slice Ab mb cb)∧(((W.setCell ⟨s+1+1,0,none⟩ u0).setCell ⟨s+1+1,1,none⟩ u1).setCell ⟨s+1+1,2,none⟩ u2).cell? ⟨s+1,0,none⟩=some (.slice A0 n c0)∧(((W.setCell ⟨s+1+1,0,none⟩ u0).setCell ⟨s+1+1,1,none⟩ u1).setCell ⟨s+1+1,2,none⟩ u2).cell? ⟨s+1,1,none⟩=some (.slice A1 n1 c1)∧(((W.setCell ⟨s+1+1,0,none⟩ u0).setCell ⟨s+1+1,1,none⟩ u1).setCell ⟨s+1+1,2,none⟩ u2).cell? ⟨s+1,2,none⟩=some (.slice A2 m c2)∧(((W.setCell ⟨s+1+1,0,none⟩ u0).setCell ⟨s+1+1,1,none⟩ u1).setCell ⟨s+1+1,2,none⟩ u2).cell? ⟨s+1,3,none⟩=some (.slice A3 n3 c3)):=Lib.hid fun W u0 u1 u2 h=>by
  have g1:=(((hfy.below h).other (a:=⟨s+1+1,0,none⟩) (by show s+1+1≠s;omega) u0).other (a:=⟨s+1+1,1,none⟩) (by show s+1+1≠s;omega) u1).other (a:=⟨s+1+1,2,none⟩) (by show s+1+1≠s;omega) u2
  have g2:=(((hfc.below h).other (a:=⟨s+1+1,0,none⟩) (by show s+1+1≠s+1;omega) u0).other (a:=⟨s+1+1,1,none⟩) (by show s+1+1≠s+1;omega) u1).other (a:=⟨s+1+1,2,none⟩) (by show s+1+1≠s+1;omega) u2
  exact⟨g1.cell 0,g1.cell 1,g1.cell 2,g2.cell 0,g2.cell 1,g2.cell 2,g2.cell 3⟩
 have HFT:=Lib.hid hft
 obtain⟨x0,x1,x2,y0,y1,y2,y3⟩:=HCE.out W0 (Below.refl _ _)
 clear H S hl ha hb vl va vb hb0 hfy hfc hft
 go_enter Tryz.func8,Tryz.ntmps8
 go_upto_region 1 with (fail)
 rw[←HW0.out,←HS.out]
 have h0:BelW W0 W0:=Below.refl _ _
 have hfd:∀(B B':Option Addr) (b1 b2 b3 b4:Nat) (W:World),(Instr.field 73 (.agg #[.slice B b1 b2,.slice B' b3 b4]) 0).run Tryz.prog W=.ok (.slice B b1 b2) W:=fun _ _ _ _ _ _ _=>by kernel_rfl
 go_region_held3 (fun w'=>w'.cell? ⟨s,0,none⟩=some (.slice A ml cl)∧w'.cell? ⟨s,1,none⟩=some (.slice Aa ma ca)∧w'.cell? ⟨s,2,none⟩=some (.slice Ab mb cb)∧w'.cell? ⟨s+1,0,none⟩=some (.slice A0 n c0)∧w'.cell? ⟨s+1,1,none⟩=some (.slice A1 n1 c1)∧w'.cell? ⟨s+1,2,none⟩=some (.slice A2 m c2)∧w'.cell? ⟨s+1,3,none⟩=some (.slice A3 n3 c3))
  ((first|(with_reducible exact h14)|(refine HCE.out _ ?_;(with_reducible repeat (first|assumption|refine BelW.drew ?_)))|(refine HCE.out _ ?_;trivial)))
  (first
    |(go_at_call 23;(refine Calls.mono (HSO.out _ (BelW.drew h0)) ?_)
      rintro e w1 ⟨A7,c7,Aa1,ca1,Aa2,ca2,rfl,ho,hb1⟩
      have h1:BelW W0 w1:=BelW.trans (BelW.drew h0) hb1)
    |(go_at_call 32;(refine Calls.mono (HPO.out _ h1) ?_)
      rintro e w2 ⟨AI,cI,AS,cS,rfl,hv,hb2⟩
      have ho2:=ho.below hb2
      have h2:BelW W0 w2:=BelW.trans h1 hb2
      have h14:=HS3.out w2 (.slice A7 ns c7) (.slice Aa1 m ca1) (.slice Aa2 m ca2) h2
      obtain⟨t0,t1,t2,t3,t4,t5⟩:=HRB.out w2 h2))
 have hlt:s+1+1<W0.heap.size:=by rw[HSZ.out,HFT0.out];omega
 have hle:w.heap.size≤s+1+1:=by rw[HFT0.out];omega
 have HOW:=Lib.hid (((ho2.setS (a:=⟨s+1+1,0,none⟩) hlt (.slice A7 ns c7)).setS (a:=⟨s+1+1,1,none⟩) hlt (.slice Aa1 m ca1)).setS (a:=⟨s+1+1,2,none⟩) hlt (.slice Aa2 m ca2))
 have HVI:=Lib.hid (((hv.setS (a:=⟨s+1+1,0,none⟩) hlt (.slice A7 ns c7)).setS (a:=⟨s+1+1,1,none⟩) hlt (.slice Aa1 m ca1)).setS (a:=⟨s+1+1,2,none⟩) hlt (.slice Aa2 m ca2))
 have HBE:=Lib.hid ((((joinB HB0.out h2).setCell (p:=⟨s+1+1,0,none⟩) hle (.slice A7 ns c7)).setCell (p:=⟨s+1+1,1,none⟩) hle (.slice Aa1 m ca1)).setCell (p:=⟨s+1+1,2,none⟩) hle (.slice Aa2 m ca2))
 have HQ:=Lib.hid ((((HFT.out.below h2).set 0 (.slice A7 ns c7)).set 1 (.slice Aa1 m ca1)).set 2 (.slice Aa2 m ca2))
 have HLO:Hid (w.heap.size≤W0.heap.size):=Lib.hid (by omega)
 clear h0 h1 h2 ho ho2 hv hb1 hb2 hlt hle h14 t0 t1 t2 t3 t4 t5 hfd
 go_wp2
 refine bodyPost_ret (results_row_tmp1 rfl _ _ _ _ _ _ _ rfl HQ.out Tryz.underlying45 rfl (by kernel_rfl)) rfl ?_
 exact⟨A7,c7,Aa1,ca1,Aa2,ca2,AI,cI,rfl,HOW.out.low HLO.out,HVI.out.low HLO.out,HBE.out⟩
end Go.Proofs.YtemjmfpcopfdbaaGreatDoor
namespace Go.Proofs.YtemjmfpcopfdbaaGreatDoor.Lg
def cnt(x:Int):List Int→Nat
 |[]=>0
 |v::l=>(if v=x then 1 else 0)+cnt x l
def bitI(b:Bool):Int:=if b=true then 1 else 0
def chc(v:Int)(bus:Bool):List Int:=
 if v=0 then [0] else if v=1 then [1] else if bus=true∧v=3 then [2] else if bus=true then [0,1,2] else [0,1]
def fnK(q:Int)(ones zeros:Nat)(l:List Int):Int:=
 if q=1 then 0 else if q=2 then 1
 else if q=3 then bitI (l.getD 0 0==1) else if q=4 then bitI (!(l.getD 0 0==1))
 else if q=5 then bitI (zeros==0) else if q=6 then bitI (!(zeros==0))
 else if q=7 then bitI (decide (0<ones)) else if q=8 then bitI (!decide (0<ones))
 else if q=9 then bitI (ones%2==1) else if q=10 then bitI (!(ones%2==1))
 else if q=11 then (if l.getD 0 0=0 then l.getD 1 0 else l.getD 2 0)
 else if q=12 then (if l.getD 0 0=0 then 2 else l.getD 1 0)
 else if q=13 then (if ones+zeros=0 then 2 else if 0<ones∧0<zeros then 3 else bitI (decide (0<ones)))
 else bitI (decide (0<ones))
def fn(q:Int)(l:List Int):Int:=fnK q (cnt 1 l) (cnt 0 l) l
theorem cnt_le(x:Int)(l:List Int):cnt x l≤l.length:=by
 induction l with
 |nil=>exact Nat.le_refl _
 |cons v l ih=>unfold cnt;rw[List.length_cons];split<;>omega
theorem cnt_snoc(x:Int)(l:List Int)(v:Int):cnt x (l++[v])=cnt x l+if v=x then 1 else 0:=by
 induction l with
 |nil=>simp[cnt]
 |cons a l ih=>rw[List.cons_append,cnt,cnt,ih];omega
theorem cnt_take(x:Int)(l:List Int)(k:Nat)(h:k<l.length):cnt x (l.take (k+1))=cnt x (l.take k)+if l.getD k 0=x then 1 else 0:=by
 rw[take_succ_getD l k h,cnt_snoc]
end Go.Proofs.YtemjmfpcopfdbaaGreatDoor.Lg
namespace Go.Proofs.YtemjmfpcopfdbaaGreatDoor
open Go.RowKit
def adS(ad:List Int):Nat→List Int
 |0=>[0]
 |k+1=>(adS ad k).flatMap fun o=>(Lg.chc (ad.getD k 0) false).map fun m=>o+m*2^k
def bw(w:List Int)(b:Nat):List Int:=if w.length≤b then [0,1] else Lg.chc (w.getD b 0) false
def rdb(w:List Int)(b:Nat):Int:=if w.length≤b then 2 else rd (w.getD b 0)
def valL(l:List Int):Int:=if (l.all fun x=>x==l.getD 0 0)=true then (if l=[] then 2 else l.getD 0 0) else 2
def refS(word:List Int)(at_:Int)(ad data:List Int)(en:Int)(b:Nat):List Int:=
 (adS ad ad.length).flatMap fun a=>(Lg.chc en false).flatMap fun e=>if e=1∧a=at_ then bw data b else bw word b
theorem chc_u{v:Int}(h0:v≠0)(h1:v≠1):Lg.chc v false=[0,1]:=by unfold Lg.chc;rw[if_neg h0,if_neg h1];rfl
theorem chc_01(v:Int):Lg.chc v false=[0]∨Lg.chc v false=[1]∨Lg.chc v false=[0,1]:=by
 by_cases h0:v=0
 ·exact .inl (by simp[Lg.chc,h0])
 ·by_cases h1:v=1
  ·exact .inr (.inl (by simp[Lg.chc,h1]))
  ·exact .inr (.inr (chc_u h0 h1))
theorem bw_spec(w:List Int)(b:Nat):(rdb w b=2∧bw w b=[0,1])∨(rdb w b=0∧bw w b=[0])∨(rdb w b=1∧bw w b=[1]):=by
 unfold rdb bw
 by_cases h:w.length≤b
 ·rw[if_pos h,if_pos h];exact .inl ⟨rfl,rfl⟩
 ·rw[if_neg h,if_neg h]
  rcases knw_cases (w.getD b 0) with⟨h,-,hr,-⟩| ⟨h,-,hr,-⟩| ⟨h0,h1,-,hr⟩
  ·rw[hr,h];exact .inr (.inl ⟨rfl,rfl⟩)
  ·rw[hr,h];exact .inr (.inr ⟨rfl,rfl⟩)
  ·exact .inl ⟨hr,chc_u h0 h1⟩
theorem valL_all{l:List Int}{c:Int}(h0:l≠[])(h:∀x∈l,x=c):valL l=c:=by
 obtain⟨a,t,rfl⟩:=List.exists_cons_of_ne_nil h0
 obtain rfl:=h a List.mem_cons_self
 unfold valL
 rw[if_pos (List.all_eq_true.2 fun x hx=>by simpa using h x hx),if_neg (by simp)]
 rfl
theorem valL_mix{l:List Int}{x y:Int}(hx:x∈l)(hy:y∈l)(h:x≠y):valL l=2:=by
 unfold valL
 rw[if_neg]
 intro ha
 have h1:=List.all_eq_true.1 ha x hx
 have h2:=List.all_eq_true.1 ha y hy
 simp only[beq_iff_eq]at h1 h2
 exact h (h1.trans h2.symm)
theorem valL_set{l w:List Int}{b:Nat}(h:∀x,x∈l↔x∈bw w b):valL l=rdb w b:=by
 rcases bw_spec w b with⟨h1,h2⟩| ⟨h1,h2⟩| ⟨h1,h2⟩
 ·rw[h1]
  exact valL_mix ((h 0).2 (by rw[h2];simp)) ((h 1).2 (by rw[h2];simp)) (by decide)
 ·rw[h1]
  refine valL_all (fun e=>?_) fun x hx=>?_
  ·have:=(h 0).2 (by rw[h2];simp)
   rw[e]at this;cases this
  ·have:=(h x).1 hx
   rw[h2]at this;simpa using this
 ·rw[h1]
  refine valL_all (fun e=>?_) fun x hx=>?_
  ·have:=(h 1).2 (by rw[h2];simp)
   rw[e]at this;cases this
  ·have:=(h x).1 hx
   rw[h2]at this;simpa using this
theorem valL_two{l w d:List Int}{b:Nat}(h:∀x,x∈l↔x∈bw w b∨x∈bw d b):valL l=if rdb w b=rdb d b then rdb w b else 2:=by
 have key:∀x y,x≠y→(x∈bw w b∨x∈bw d b)→(y∈bw w b∨y∈bw d b)→valL l=2:=fun x y hn hx hy=>valL_mix ((h x).2 hx) ((h y).2 hy) hn
 have all:∀c,(∀x,x∈bw w b∨x∈bw d b→x=c)→c∈bw w b→valL l=c:=fun c hc h0=>valL_all (fun e=>by
  have:=(h c).2 (.inl h0)
  rw[e]at this;cases this) fun x hx=>hc x ((h x).1 hx)
 rcases bw_spec w b with⟨h1,h2⟩| ⟨h1,h2⟩| ⟨h1,h2⟩ <;>rcases bw_spec d b with⟨h3,h4⟩| ⟨h3,h4⟩| ⟨h3,h4⟩ <;>rw[h1,h3]
 ·exact key 0 1 (by decide) (by rw[h2];simp) (by rw[h2];simp)
 ·exact key 0 1 (by decide) (by rw[h2];simp) (by rw[h2];simp)
 ·exact key 0 1 (by decide) (by rw[h2];simp) (by rw[h2];simp)
 ·exact key 0 1 (by decide) (by rw[h4];simp) (by rw[h4];simp)
 ·exact all 0 (by rw[h2,h4];simp) (by rw[h2];simp)
 ·exact key 0 1 (by decide) (by rw[h2];simp) (by rw[h4];simp)
 ·exact key 0 1 (by decide) (by rw[h4];simp) (by rw[h4];simp)
 ·exact key 0 1 (by decide) (by rw[h4];simp) (by rw[h2];simp)
 ·exact all 1 (by rw[h2,h4];simp) (by rw[h2];simp)
theorem okA_cases(ad:List Int)(k:Nat)(m:Int)(hm:m∈Lg.chc (ad.getD k 0) false)(n:Nat)(hn:n.testBit k=decide (m=1)):okA ad n k:=by
 unfold okA ibit
 intro hk
 rcases knw_cases (ad.getD k 0) with⟨h,-,-,-⟩| ⟨h,-,-,-⟩| ⟨-,-,h,-⟩
 ·rw[h]at hm ⊢
  have:m=0:=by simpa [Lg.chc]using hm
  rw[hn,this];rfl
 ·rw[h]at hm ⊢
  have:m=1:=by simpa [Lg.chc]using hm
  rw[hn,this];rfl
 ·rw[h]at hk;cases hk
theorem adS_mem(ad:List Int)(k:Nat)(x:Int):x∈adS ad k↔∃n:Nat,x=n∧n<2^k∧∀j,j<k→okA ad n j:=by
 induction k generalizing x with
 |zero=>
  unfold adS
  refine⟨fun h=>⟨0,by simpa using h,by decide,fun j h=>absurd h (Nat.not_lt_zero j)⟩,fun⟨n,h,h1,_⟩=>?_⟩
  have:n=0:=by simp at h1;exact h1
  rw[h,this];simp
 |succ k ih=>
  unfold adS
  simp only[List.mem_flatMap,List.mem_map]
  constructor
  ·rintro⟨o,ho,m,hm,rfl⟩
   obtain⟨n,rfl,hn,hok⟩:=(ih o).1 ho
   obtain⟨t,ht,ht2⟩:∃t:Nat,m=t∧t<2:=by
    rcases chc_01 (ad.getD k 0) with h|h|h<;>rw[h]at hm<;>simp at hm
    ·exact⟨0,hm,by decide⟩
    ·exact⟨1,hm,by decide⟩
    ·rcases hm with h|h
     ·exact⟨0,h,by decide⟩
     ·exact⟨1,h,by decide⟩
   have hb:∀j,(2^k*t+n).testBit j=if j<k then n.testBit j else t.testBit (j-k):=fun j=>Nat.testBit_two_pow_mul_add t hn j
   refine⟨2^k*t+n,by rw[ht,Int.natCast_add,Int.natCast_mul,Int.natCast_pow,Int.add_comm,Int.mul_comm];rfl,?_,fun j hj=>?_⟩
   ·have:t≤1:=by omega
    have h2:=Nat.mul_le_mul_left (2^k) this
    rw[Nat.pow_succ];omega
   ·by_cases hjk:j<k
    ·have h:=hok j hjk
     unfold okA ibit at h ⊢
     rw[hb j,if_pos hjk];exact h
    ·obtain rfl:j=k:=by omega
     refine okA_cases ad j m hm _ ?_
     rw[hb j,if_neg hjk,Nat.sub_self,ht]
     have:t=0∨t=1:=by omega
     rcases this with rfl|rfl<;>rfl
  ·rintro⟨n,rfl,hn,hok⟩
   have hn2:n%2^k<2^k:=Nat.mod_lt _ (Nat.two_pow_pos k)
   have hd:n/2^k<2:=Nat.div_lt_of_lt_mul (by rw[Nat.pow_succ]at hn;exact hn)
   have he:2^k*(n/2^k)+n%2^k=n:=Nat.div_add_mod n (2^k)
   refine⟨((n%2^k:Nat):Int),(ih _).2 ⟨_,rfl,hn2,fun j hj=>?_⟩,((n/2^k:Nat):Int),?_,?_⟩
   ·have h:=hok j (by omega)
    unfold okA ibit at h ⊢
    rw[Nat.testBit_mod_two_pow,decide_eq_true hj,Bool.true_and];exact h
   ·have h:=hok k (Nat.lt_succ_self k)
    unfold okA ibit at h
    rw[Nat.testBit_eq_decide_div_mod_eq,Nat.mod_eq_of_lt hd]at h
    have h01:n/2^k=0∨n/2^k=1:=by
     generalize n/2^k=q at hd
     omega
    rcases knw_cases (ad.getD k 0) with⟨h1,h2,-,-⟩| ⟨h1,h2,-,-⟩| ⟨g0,g1,h2,-⟩
    ·have:=h h2
     rw[h1]at this ⊢
     rcases h01 with e|e<;>rw[e]at this ⊢
     ·simp[Lg.chc]
     ·simp at this
    ·have:=h h2
     rw[h1]at this ⊢
     rcases h01 with e|e<;>rw[e]at this ⊢
     ·simp at this
     ·simp[Lg.chc]
    ·rw[chc_u g0 g1]
     rcases h01 with e|e<;>rw[e]<;>simp
   ·conv=>rhs;rw[←he]
    rw[Int.natCast_add,Int.natCast_mul,Int.natCast_pow,Int.add_comm,Int.mul_comm]
    rfl
theorem adS_mat(ad:List Int)(j:Nat):((j:Int)∈adS ad ad.length)↔mat ad j=true:=by
 rw[adS_mem,mat_iff]
 constructor
 ·rintro⟨n,h,hn,hok⟩
  obtain rfl:j=n:=by omega
  exact⟨hok,by rw[Nat.shiftRight_eq_div_pow];exact Nat.div_eq_of_lt hn⟩
 ·rintro⟨hok,h⟩
  refine⟨j,rfl,?_,hok⟩
  rw[Nat.shiftRight_eq_div_pow]at h
  rcases Nat.lt_or_ge j (2^ad.length) with h1|h1
  ·exact h1
  ·have:=Nat.div_pos h1 (Nat.two_pow_pos _)
   omega
theorem adS_pos(ad:List Int)(k:Nat):∃x,x∈adS ad k:=by
 induction k with
 |zero=>exact⟨0,by unfold adS;simp⟩
 |succ k ih=>
  obtain⟨o,ho⟩:=ih
  obtain⟨m,hm⟩:∃m,m∈Lg.chc (ad.getD k 0) false:=by
   rcases chc_01 (ad.getD k 0) with h|h|h<;>rw[h]
   ·exact⟨0,by simp⟩
   ·exact⟨1,by simp⟩
   ·exact⟨0,by simp⟩
  exact⟨_,by unfold adS;exact List.mem_flatMap.2 ⟨o,ho,List.mem_map.2 ⟨m,hm,rfl⟩⟩⟩
theorem adS_other(ad:List Int)(j:Nat)(h:mat ad j=true)(hu:anyP unk ad=true):∃n:Nat,n≠j∧(n:Int)∈adS ad ad.length:=by
 obtain⟨v,hv,hk⟩:=List.any_eq_true.1 hu
 obtain⟨k,hk2,rfl⟩:=List.mem_iff_getElem.1 hv
 obtain⟨hok,hz⟩:=(mat_iff ad j).1 h
 have hj:j<2^ad.length:=by
  obtain⟨n,e,h1,-⟩:=(adS_mem ad ad.length j).1 ((adS_mat ad j).2 h)
  omega
 refine⟨j^^^2^k,fun e=>?_,(adS_mem ad ad.length _).2 ⟨_,rfl,Nat.xor_lt_two_pow hj (Nat.pow_lt_pow_right (by decide) hk2),fun i hi=>?_⟩⟩
 ·have:=congrArg (fun n=>Nat.testBit n k) e
  simp[Nat.testBit_xor,Nat.testBit_two_pow]at this
 ·by_cases hik:k=i
  ·subst hik
   intro hkn
   unfold unk at hk
   rw[List.getD_eq_getElem?_getD,List.getElem?_eq_getElem hk2]at hkn
   simp at hkn hk
   rw[hkn]at hk;cases hk
  ·have:=hok i hi
   unfold okA ibit at this ⊢
   rw[Nat.testBit_xor,Nat.testBit_two_pow,decide_eq_false hik,Bool.xor_false]
   exact this
theorem adS_one(ad:List Int)(j:Nat)(h:mat ad j=true)(hu:anyP unk ad=false)(x:Int)(hx:x∈adS ad ad.length):x=j:=by
 obtain⟨n,rfl,hn,hok⟩:=(adS_mem ad ad.length x).1 hx
 obtain⟨m,e,hm,hok2⟩:=(adS_mem ad ad.length j).1 ((adS_mat ad j).2 h)
 obtain rfl:j=m:=by omega
 congr 1
 apply Nat.eq_of_testBit_eq
 intro i
 by_cases hi:i<ad.length
 ·have hk:knw (ad.getD i 0)=true:=by
   have:=List.any_eq_false.1 hu ad[i] (List.getElem_mem hi)
   rw[List.getD_eq_getElem?_getD,List.getElem?_eq_getElem hi]
   simpa [unk]using this
  have h1:=hok i hi hk
  have h2:=hok2 i hi hk
  unfold ibit at h1 h2
  rw[h1]at h2
  cases e1:n.testBit i<;>cases e2:j.testBit i<;>rw[e1,e2]at h2<;>simp at h2<;>rfl
 ·rw[Nat.testBit_lt_two_pow (Nat.lt_of_lt_of_le hn (Nat.pow_le_pow_right (by decide) (by omega))),Nat.testBit_lt_two_pow (Nat.lt_of_lt_of_le hm (Nat.pow_le_pow_right (by decide) (by omega)))]
theorem bitsL_at(w:List Int)(n b:Nat)(h:b<n):(bitsL w n).getD b 0=rdb w b:=by
 unfold bitsL rdb cpyL
 rw[List.getD_eq_getElem?_getD,List.getElem?_map,List.getElem?_append]
 by_cases hb:w.length≤b
 ·rw[if_neg (by rw[List.length_take];omega),List.getElem?_replicate,if_pos (by rw[List.length_take];omega),if_pos hb]
  rfl
 ·rw[if_pos (by rw[List.length_take];omega),List.getElem?_take_of_lt h,if_neg hb,List.getD_eq_getElem?_getD,List.getElem?_eq_getElem (by omega)]
  rfl
theorem agL_at(a b:List Int)(i:Nat)(h:i<a.length):(agL a b).getD i 0=agB a b i:=by
 unfold agL
 rw[List.getD_eq_getElem?_getD,List.getElem?_map,List.getElem?_range h];rfl
theorem store_ref(ws:List (List Int))(ad dt:List Int)(en:Int)(j b:Nat)(hb:b<(ws.getD j []).length):(stW ws ad dt en j).getD b 0=valL (refS (ws.getD j []) j ad dt en b):=by
 obtain⟨w,hw⟩:∃w,w=ws.getD j []:=⟨_,rfl⟩
 have hmem:∀x,x∈refS w j ad dt en b↔∃a,a∈adS ad ad.length∧∃e,e∈Lg.chc en false∧x∈if e=1∧a=(j:Int) then bw dt b else bw w b:=fun x=>by
  unfold refS;simp only[List.mem_flatMap]
 unfold stW
 rw[←hw]at hb ⊢
 have hne:∃e,e∈Lg.chc en false:=by
  rcases chc_01 en with h|h|h<;>rw[h]
  ·exact⟨0,by simp⟩
  ·exact⟨1,by simp⟩
  ·exact⟨0,by simp⟩
 obtain⟨e0,he0⟩:=hne
 by_cases hA:en=0∨mat ad j=false
 ·rw[if_pos hA,bitsL_at _ _ _ hb]
  refine (valL_set fun x=>?_).symm
  rw[hmem]
  constructor
  ·rintro⟨a,ha,e,he,hx⟩
   rw[if_neg]at hx
   ·exact hx
   ·rintro⟨rfl,rfl⟩
    rcases hA with h|h
    ·rw[h]at he;simp[Lg.chc]at he
    ·rw[(adS_mat ad j).1 ha]at h;cases h
  ·intro hx
   obtain⟨a,ha⟩:=adS_pos ad ad.length
   refine⟨a,ha,e0,he0,?_⟩
   rw[if_neg]
   ·exact hx
   ·rintro⟨rfl,rfl⟩
    rcases hA with h|h
    ·rw[h]at he0;simp[Lg.chc]at he0
    ·rw[(adS_mat ad j).1 ha]at h;cases h
 ·have h0:en≠0:=fun h=>hA (.inl h)
  have hm:mat ad j=true:=by
   cases h:mat ad j
   ·exact absurd (.inr h) hA
   ·rfl
  have h1:(1:Int)∈Lg.chc en false:=by
   unfold Lg.chc;rw[if_neg h0]
   split
   ·simp
   ·simp
  rw[if_neg hA]
  by_cases hc:certB en ad=true
  ·rw[if_pos hc,bitsL_at _ _ _ hb]
   unfold certB at hc
   simp only[Bool.and_eq_true,decide_eq_true_eq,Bool.not_eq_true']at hc
   refine (valL_set fun x=>?_).symm
   rw[hmem]
   constructor
   ·rintro⟨a,ha,e,he,hx⟩
    have ea:=adS_one ad j hm hc.2 a ha
    have ee:e=1:=by rw[hc.1]at he;simpa [Lg.chc]using he
    rw[if_pos ⟨ee,ea⟩]at hx
    exact hx
   ·intro hx
    exact⟨j,(adS_mat ad j).2 hm,1,h1,by rw[if_pos ⟨rfl,rfl⟩];exact hx⟩
  ·rw[if_neg hc,agL_at _ _ _ (by rw[bitsL_len];exact hb)]
   unfold agB
   rw[bitsL_at _ _ _ hb,bitsL_at _ _ _ hb]
   refine (valL_two fun x=>?_).symm
   rw[hmem]
   constructor
   ·rintro⟨a,ha,e,he,hx⟩
    split at hx
    ·exact .inr hx
    ·exact .inl hx
   ·rintro (hx|hx)
    ·by_cases he1:en=1
     ·have hu:anyP unk ad=true:=by
       cases h:anyP unk ad
       ·exact absurd (by unfold certB;rw[h,he1];rfl) hc
       ·rfl
      obtain⟨n,hn,hn2⟩:=adS_other ad j hm hu
      exact⟨n,hn2,e0,he0,by rw[if_neg (fun h=>hn (by omega))];exact hx⟩
     ·exact⟨j,(adS_mat ad j).2 hm,0,by rw[chc_u h0 he1];simp,by rw[if_neg (by simp)];exact hx⟩
    ·exact⟨j,(adS_mat ad j).2 hm,1,h1,by rw[if_pos ⟨rfl,rfl⟩];exact hx⟩
end Go.Proofs.YtemjmfpcopfdbaaGreatDoor
namespace Go.Proofs.YtemjmfpcopfdbaaGreatDoor.Lg
open Go.RowKit
def vof(c:Int):Int:=if c=49 then 1 else if c=88 then 2 else if c=90 then 3 else 0
def isv(c:Int):Bool:=decide (c=48∨c=49∨c=88∨c=90)
def chr(s:ByteArray)(k:Nat):Int:=((s.data.toList.getD k 0).toNat:Int)
def fillL(f:Nat→Value)(z:Value)(n k:Nat):List Value:=(List.range n).map fun j=>if j<k then f j else z
def ParsePost(s:ByteArray)(w:World)(e:Ending)(w':World):Prop:=
 Below w.heap.size w w'∧
 (((∀k,k<s.size→isv (chr s k)=true)∧e=.returned (.tuple #[.slice (some ⟨w.heap.size,0,none⟩) s.size s.size,.int .i64 0])∧
   w'.ownsRow w.heap.size 77 1 (.slice (some ⟨w.heap.size,0,none⟩) s.size s.size) s.size (fillL (fun j=>.int .u8 (vof (chr s j))) (.int .u8 0) s.size s.size))∨
  ((∃k,k<s.size∧isv (chr s k)=false)∧e=.returned (.tuple #[.slice none 0 0,.int .i64 4])))
def tch(v:Int):Int:=charsL.getD (cln v).toNat 0
theorem one_new(w:World)(u:Value)(t:TypeId):∀(j:Nat) (v:Value),[u][j]? =some v→(w.alloc (.cells #[u] t)).cell? ((⟨w.heap.size,0,none⟩:Addr).add j)=some v:=by
 intro j v h
 match j,h with
 |0,h=>
  obtain rfl:u=v:=by simpa using h
  rw[show (⟨w.heap.size,0,none⟩:Addr).add 0=⟨w.heap.size,0,none⟩ from rfl,World.cell?_alloc_at _ _ _ _ rfl]
  rfl
theorem own_from{w:World}{base:Nat}{e:TypeId}{size n:Nat}{v:Value}{xs:List Value}(h:w.ownsRow base e size v n xs){q:Nat}(hq:v.ownBlock=some q):base≤q:=by
 rcases h.2 with⟨rfl,-⟩| ⟨g,cap,cur,rfl,hb,-⟩
 ·cases hq
 ·obtain rfl:g=q:=by simpa [Value.ownBlock]using hq
  exact hb
def Vi(w:World)(B:Nat)(v:Value)(l:List Int):Prop:=
 ∃b o c,(v=.slice (some ⟨b,o,none⟩) l.length c∨(l=[]∧∃A,v=.slice A 0 c))∧l.length≤maxLen∧∀k,k<l.length→b<B∧w.cell? ⟨b,o+k,none⟩=some (.int .i64 (l.getD k 0))
section
variable {w w':World} {B B':Nat} {v:Value} {l:List Int}
theorem Vi.nil(w:World)(B:Nat)(A:Option Addr)(c:Nat):Vi w B (.slice A 0 c) []:=⟨0,0,c,.inr ⟨rfl,A,rfl⟩,by simp,fun k hk=>absurd hk (by simp)⟩
end
theorem Vi.of_own{w:World}{base:Nat}{v:Value}{n:Nat}{l:List Int}(h:w.ownsRow base 3 1 v n (l.map (Value.int .i64))):Vi w w.heap.size v l∧l.length=n:=by
 have hl:l.length=n:=by simpa using h.1
 refine⟨?_,hl⟩
 subst hl
 rcases h.2 with⟨rfl,hn⟩| ⟨g,cap,cur,rfl,-,hg,hle,hm,hsz,htake⟩
 ·obtain rfl:l=[]:=List.eq_nil_of_length_eq_zero hn
  exact Vi.nil _ _ _ _
 ·have hlt:g<w.heap.size:=by
   rcases Nat.lt_or_ge g w.heap.size with h|h
   ·exact h
   ·rw[Array.getElem?_eq_none h]at hg;cases hg
  refine⟨g,0,cap,.inl rfl,by omega,fun k hk=>⟨hlt,?_⟩⟩
  rw[Nat.zero_add,h.cellAt k (by omega),List.getElem?_map,List.getElem?_eq_getElem hk,List.getD_eq_getElem?_getD,List.getElem?_eq_getElem hk]
  rfl
set_option maxHeartbeats 400000 in
theorem bit_any(b:Bool)(w:World):Calls Tryz.prog 165 #[.bool b] w fun e w'=>e=.returned (.int .i64 (bitI b))∧w=w':=by
 cases b
 all_goals
  go_enter Tryz.func165,Tryz.ntmps165
  go_wp2
  go_ret
  exact⟨rfl,rfl⟩
set_option maxHeartbeats 1000000 in
theorem count_any(x:Int)(l:List Int)(s:Value)(w:World)(B:Nat)(hs:Vi w B s l):
 Calls Tryz.prog 164 #[s,.int .i64 x] w fun e w'=>e=.returned (.int .i64 (cnt x l))∧w=w':=by
 obtain⟨b,o,c,hv,hm,hc⟩:=hs
 unfold maxLen at hm
 have key:∀A,(0<l.length→A=some ⟨b,o,none⟩)→Calls Tryz.prog 164 #[.slice A l.length c,.int .i64 x] w fun e w'=>e=.returned (.int .i64 (cnt x l))∧w=w':=by
  intro A hA
  have HC:=Lib.hid hc
  have HA:=Lib.hid hA
  obtain⟨n,hn⟩:∃n,n=l.length:=⟨_,rfl⟩
  obtain⟨y,HY⟩:=named (cnt x l)
  rw[←HY.out]
  rw[←hn]at hm
  rw[←hn]
  have HN:=Lib.hid hn
  clear hc hA hv hn
  go_enter Tryz.func164,Tryz.ntmps164
  go_wp2
  go_loop [5,6] (fun r i=>∃k:Nat,k≤n∧i=.int .i64 k∧r=.int .i64 (cnt x (l.take k))) (fun _ i=>n-(intOf i).toNat)
  case atStart=>exact⟨0,Nat.zero_le _,rfl,rfl⟩
  case round=>
   obtain⟨k,hk,rfl,rfl⟩:=hrel
   by_cases hlt:k<n
   ·obtain rfl:=HA.out (by rw[←HN.out];omega)
    have hk':k<l.length:=by rw[←HN.out];omega
    have hcell:=(HC.out k hk').2
    have HP:=Lib.hid (cnt_take x l k hk')
    have hle:=cnt_le x (l.take k)
    have hll:(l.take k).length≤k:=by rw[List.length_take];omega
    clear hk'
    obtain⟨v,HV⟩:=named (l.getD k 0)
    rw[←HV.out]at hcell
    obtain⟨z,HZ⟩:=named (cnt x (l.take k))
    rw[←HZ.out]at hle
    rw[←HZ.out]
    by_cases hvx:v=x
    ·subst hvx
     go_wp2
     go_round
     case rel=>exact⟨k+1,by omega,by go_num,by rw[HP.out,←HV.out,if_pos rfl,←HZ.out];go_num⟩
     case measure=>simp[intOf];omega
    ·have hvb:(v==x)=false:=by simpa using hvx
     go_wp2
     go_round
     case rel=>exact⟨k+1,by omega,by go_num,by rw[HP.out,←HV.out,if_neg hvx,←HZ.out];rfl⟩
     case measure=>simp[intOf];omega
   ·obtain rfl:n=k:=by omega
    go_wp2
    go_ret
    exact⟨ret_int (by rw[HY.out,List.take_of_length_le (by rw[←HN.out];exact Nat.le_refl _)]),rfl⟩
 rcases hv with rfl| ⟨rfl,A,rfl⟩
 ·exact key _ fun _=>rfl
 ·exact key _ fun h=>absurd h (by simp)
end Go.Proofs.YtemjmfpcopfdbaaGreatDoor.Lg
