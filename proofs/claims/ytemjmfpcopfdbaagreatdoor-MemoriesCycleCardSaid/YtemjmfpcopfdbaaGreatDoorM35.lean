/- The texts Rn9 Rx9 Cht L9p Tx9. -/
import Derived.Test.YtemjmfpcopfdbaaGreatDoorM33
import Derived.Test.YtemjmfpcopfdbaaGreatDoorM34
import Derived.StillTailTactics
import Derived.Test.YtemjmfpcopfdbaaGreatDoorM28
import Derived.Test.YtemjmfpcopfdbaaGreatDoorM06
import Derived.Laws.BytesArg
import Derived.OwnWalk
import Derived.Test.YtemjmfpcopfdbaaGreatDoorM26
namespace Go.Proofs.YtemjmfpcopfdbaaGreatDoor
open Go.RowKit
def gvN(nodes:List Nd)(rds:List (List Int))(inp dff:List Int)(i:Nat):Int:=
 if (nodes.getD i default).kind=0 then inp.getD (ofTo nodes [0] i).length 0
 else if (nodes.getD i default).kind=14 then dff.getD (ofTo nodes [14] i).length 0
 else if (nodes.getD i default).kind=15 then memV nodes rds (i:Nat) else 0
def gvL(nodes:List Nd)(rds:List (List Int))(inp dff:List Int)(n k:Nat):List Int:=(List.range n).map fun i=>if i<k then gvN nodes rds inp dff i else 0
section
variable {nodes:List Nd} {rds:List (List Int)} {inp dff:List Int} {n k:Nat}
theorem gvL_len:(gvL nodes rds inp dff n k).length=n:=by simp[gvL]
theorem gvL_zero:gvL nodes rds inp dff n 0=List.replicate n 0:=by
 unfold gvL
 refine List.ext_getElem (by simp) fun i h1 h2=>?_
 simp
theorem gvL_succ(hk:k<n):gvL nodes rds inp dff n (k+1)=(gvL nodes rds inp dff n k).set k (gvN nodes rds inp dff k):=by
 unfold gvL
 refine List.ext_getElem (by simp) fun i h1 h2=>?_
 rw[List.getElem_set]
 simp only[List.getElem_map,List.getElem_range]
 by_cases e:k=i
 ·subst e;rw[if_pos (by omega),if_pos rfl]
 ·rw[if_neg e]
  by_cases h:i<k
  ·rw[if_pos (by omega),if_pos h]
  ·rw[if_neg (by omega),if_neg h]
theorem gvL_same(h0:gvN nodes rds inp dff k=0):gvL nodes rds inp dff n (k+1)=gvL nodes rds inp dff n k:=by
 unfold gvL
 refine List.map_congr_left fun i _=>?_
 by_cases e:i=k
 ·subst e;rw[if_pos (by omega),if_neg (by omega),h0]
 ·by_cases h:i<k
  ·rw[if_pos (by omega),if_pos h]
  ·rw[if_neg (by omega),if_neg h]
theorem gvL_lat{i:Nat}(hi:i<n):lat (gvL nodes rds inp dff n n) i=gvN nodes rds inp dff i:=by
 unfold lat gvL
 rw[Int.toNat_natCast,getD_range_map _ _ _ _ hi,if_pos hi]
end
theorem getD_le{l:List Int}{i:Nat}{a b:Int}(h:∀y∈l,a≤y∧y≤b)(ha:a≤0)(hb:0≤b):a≤l.getD i 0∧l.getD i 0≤b:=by
 rw[List.getD_eq_getElem?_getD]
 by_cases hi:i<l.length
 ·rw[List.getElem?_eq_getElem hi];exact h _ (List.getElem_mem hi)
 ·rw[List.getElem?_eq_none (by omega)];exact⟨ha,hb⟩
theorem gvL_in{nodes:List Nd}{rds:List (List Int)}{inp dff:List Int}{n k:Nat}(h1:∀y∈inp,0≤y∧y≤3)(h2:∀y∈dff,0≤y∧y≤3)(h3:∀i j,0≤(rds.getD i []).getD j 0∧(rds.getD i []).getD j 0≤3):∀y∈gvL nodes rds inp dff n k,0≤y∧y≤3:=fun y hy=>by
 unfold gvL at hy
 obtain⟨i,-,rfl⟩:=List.mem_map.1 hy
 have q1:=getD_le (i:=(ofTo nodes [0] i).length) h1 (by decide) (by decide)
 have q2:=getD_le (i:=(ofTo nodes [14] i).length) h2 (by decide) (by decide)
 have q3:=h3 (nodes.getD ((i:Nat):Int).toNat default).mem.toNat (nodes.getD ((i:Nat):Int).toNat default).bit.toNat
 unfold gvN memV
 split
 ·split
  ·exact q1
  ·split
   ·exact q2
   ·split
    ·exact q3
    ·decide
 ·decide
theorem gvL_net{c:Ck}{L:List Int}{n n1 m n3 ni ns:Nat}(S:Cmt c L n n1 m n3 ni ns){s:Stt}{inp out:List Int}(hl:inp.length=ni)(hd:s.dff.length=ns)(hk:∀i:Nat,i<n→0≤(c.nodes.getD i default).kind)(h:Net c.nodes (gvL c.nodes s.read inp s.dff n n) out):out=cyN c L n s inp:=by
 refine h.same S.vld.wf S.vld.lvl (cyN_net S.vld s inp) fun i hi hc=>?_
 have hin:i<n:=by rw[←S.len];exact hi
 rw[gvL_lat hin,lat_baseM hi]
 unfold gvN
 by_cases e15:(c.nodes.getD i default).kind=15
 ·rw[if_pos e15,if_neg (by rw[e15];decide),if_neg (by rw[e15];decide),if_pos e15]
 ·rw[if_neg e15,if_neg e15]
  have hB:cyB c n s inp=baseV n (ofTo c.nodes [0] n) (ofTo c.nodes [14] n) inp s.dff:=by
   unfold cyB baseV
   rw[S.len]
  rw[hB]
  by_cases e0:(c.nodes.getD i default).kind=0
  ·rw[if_pos e0,base_in (by rw[S.hi,hl]) hin e0]
  ·rw[if_neg e0]
   by_cases e14:(c.nodes.getD i default).kind=14
   ·rw[if_pos e14,base_st (by rw[S.hs,hd]) hin e14]
   ·exfalso
    have h1:=nodeErr_zero ((shape_zero (chk_shape S.vld.ok)).2.2.2.2.1 _ (getD_mem_nd hi))
    have h2:=h1.1
    have h3:=hk i hin
    have h4:cmb (c.nodes.getD i default).kind=true:=by
     unfold cmb
     rw[Bool.and_eq_true,decide_eq_true_iff,decide_eq_true_iff]
     omega
    rw[h4]at hc
    cases hc
section
variable {c:Ck} {L:List Int} {n n1 m n3 ni ns:Nat} {A0 A1 A2 A3:Option Addr} {c0 c1 c2 c3 q:Nat} {W:World}
theorem Cm.node(H:Cm c n n1 m n3 A0 A1 A2 A3 c0 c1 c2 c3 q W)(hn:c.nodes.length=n){k:Nat}(hk:k<n):∃b o A mm cc,A0=some ⟨b,o,none⟩∧b<W.heap.size∧mm=(c.nodes.getD k default).ins.length∧
 W.cell? ⟨b,o+k*4,none⟩=some (.int .u8 (c.nodes.getD k default).kind)∧W.cell? ⟨b,o+k*4+1,none⟩=some (.slice A mm cc)∧W.cell? ⟨b,o+k*4+2,none⟩=some (.int .i64 (c.nodes.getD k default).mem)∧W.cell? ⟨b,o+k*4+3,none⟩=some (.int .i64 (c.nodes.getD k default).bit)∧Is W W.heap.size (.slice A mm cc) (c.nodes.getD k default).ins∧0≤(c.nodes.getD k default).kind∧(c.nodes.getD k default).kind≤255:=by
 obtain⟨v0,v1,v2,v3,e,hN,-,-,-⟩:=H.cir
 have e0:v0=.slice A0 n c0:=by have:=congrArg (fun v=>match v with|Value.agg a=>a[0]? |_=>none) e;simpa using this.symm
 subst e0
 obtain⟨A,b,o,cc,e1,hA,-,-,hc⟩:=hN
 simp only[Value.slice.injEq]at e1
 obtain⟨rfl,-,rfl⟩:=e1
 obtain⟨hb,s,f0,f1,f2,f3,hs,k0,k1⟩:=hc k (by rw[hn];exact hk)
 have hs':=hs
 obtain⟨A4,b4,o4,c4,rfl,-⟩:=hs'
 exact⟨b,o,A4,_,c4,hA (by omega),hb,rfl,f0,f1,f2,f3,hs,k0,k1⟩
end
set_option maxRecDepth 100000 in
set_option maxHeartbeats 8000000 in
theorem rnets_any{c:Ck}{L:List Int}{n n1 m n3 ni ns:Nat}{A0 A1 A2 A3:Option Addr}{c0 c1 c2 c3 q:Nat}(w:World)(H:Cm c n n1 m n3 A0 A1 A2 A3 c0 c1 c2 c3 q w)(S:Cmt c L n n1 m n3 ni ns){s:Stt}{inp:List Int}{As Ar Ai:Option Addr}{ds dr ci:Nat}(F:FitS c ns m s)(hd:Ks w w.heap.size (.slice As ns ds) s.dff)(hr:Wrds w w.heap.size (.slice Ar m dr) s.read)(hi:Ks w w.heap.size (.slice Ai ni ci) inp)(hl:inp.length=ni)
 (vi:∀y∈inp,0≤y∧y≤3) (vd:∀y∈s.dff,0≤y∧y≤3) (vr:∀i j,0≤(s.read.getD i []).getD j 0∧(s.read.getD i []).getD j 0≤3) (hpos:0<n) (hp7:∀k,k<c.nodes.length→(c.nodes.getD k default).ins.length≤7):
 Calls Tryz.prog 10 #[.agg #[.slice A0 n c0,.slice A1 n1 c1,.slice A2 m c2,.slice A3 n3 c3],.slice As ns ds,.slice Ar m dr,.slice Ai ni ci] w fun e w'=>∃g d,e=.returned (.slice (some ⟨g,0,none⟩) n d)∧VStk w' w.heap.size (.slice (some ⟨g,0,none⟩) n d) (cyN c L n s inp)∧BelW w w':=by
 obtain⟨W1,HW1⟩:=named (w.alloc (.cells #[.slice A0 n c0,.slice A1 n1 c1,.slice A2 m c2,.slice A3 n3 c3] 39))
 have hb1:BelW w W1:=by rw[HW1.out];exact below_new (Below.refl _ _) _
 have hfc:Fr W1 w.heap.size 39 [.slice A0 n c0,.slice A1 n1 c1,.slice A2 m c2,.slice A3 n3 c3]:=by rw[HW1.out];exact Fr.made _ [.slice A0 n c0,.slice A1 n1 c1,.slice A2 m c2,.slice A3 n3 c3] _ rfl
 have hz:w.heap.size<W1.heap.size:=by rw[HW1.out];simp
 have hH1:=H.next hb1
 have HNET:Hid (∀out,Net c.nodes (gvL c.nodes s.read inp s.dff n n) out→out=cyN c L n s inp):=Lib.hid fun out h=>gvL_net S hl F.dl (fun i hi=>by obtain⟨_,_,_,_,_,_,_,_,_,_,_,_,_,h9,_⟩:=H.node S.len hi;exact h9) h
 have HST:Hid (∀W g,BelW W1 W→VRow W g (gvL c.nodes s.read inp s.dff n n)→Calls Tryz.prog 41 #[.agg #[.slice A0 n c0,.slice A1 n1 c1,.slice A2 m c2,.slice A3 n3 c3],.slice (some ⟨g,0,none⟩) n n] W fun e w'=>(∃g d out,e=.returned (.slice (some ⟨g,0,none⟩) n d)∧Net c.nodes (gvL c.nodes s.read inp s.dff n n) out∧VStk w' W.heap.size (.slice (some ⟨g,0,none⟩) n d) out)∧BelW W w'):=Lib.hid fun W g h hv=>by
  have h1:=settle_any c L (gvL c.nodes s.read inp s.dff n n) A0 A1 A2 A3 (some ⟨g,0,none⟩) c0 c1 c2 c3 n n W W.heap.size (Nat.le_refl _) (by rw[S.len,S.h1,S.h2,S.h3];exact (hH1.next h).cir) S.vld.wf S.vld.lvl (by rw[S.len];have:=S.few;omega) hp7 (by have:=hv.ks;rw[gvL_len]at this;exact this) (by rw[gvL_len,S.len]) (gvL_in vi vd vr) (by rw[S.len];exact hpos)
  rw[S.len,S.h1,S.h2,S.h3]at h1
  exact h1
 have HK:=Lib.hid (fun W (h:BelW W1 W) (k:Nat) (hk:k<n)=>(hH1.next h).node S.len hk)
 obtain⟨A,bi,oi,cc,e,hAi,-,-,hci⟩:=hi.opens
 simp only[Value.slice.injEq]at e
 obtain⟨rfl,-,rfl⟩:=e
 obtain⟨A,bs,os,cc,e,hAs,-,-,hcs⟩:=hd.opens
 simp only[Value.slice.injEq]at e
 obtain⟨rfl,-,rfl⟩:=e
 rw[hl]at hAi hci
 rw[F.dl]at hAs hcs
 have HAI:=Lib.hid hAi
 have HAS:=Lib.hid hAs
 have HCI:Hid (∀W,BelW W1 W→∀k,k<ni→W.cell? ⟨bi,oi+k,none⟩=some (.int .u8 (inp.getD k 0))):=Lib.hid fun W h k hk=>((joinB hb1 h).cell (p:=⟨bi,oi+k,none⟩) (hci k hk).1).trans (hci k hk).2
 have HCS:Hid (∀W,BelW W1 W→∀k,k<ns→W.cell? ⟨bs,os+k,none⟩=some (.int .u8 (s.dff.getD k 0))):=Lib.hid fun W h k hk=>((joinB hb1 h).cell (p:=⟨bs,os+k,none⟩) (hcs k hk).1).trans (hcs k hk).2
 have HRD:Hid (∀x:Nat,x<n→(c.nodes.getD x default).kind=15→∃km kb nk br orr Ak ck bk ok,(c.nodes.getD x default).mem=((km:Nat):Int)∧km<m∧(c.nodes.getD x default).bit=((kb:Nat):Int)∧kb<nk∧memV c.nodes s.read (x:Nat)=(s.read.getD km []).getD kb 0∧Ar=some ⟨br,orr,none⟩∧Ak=some ⟨bk,ok,none⟩∧∀W,BelW W1 W→W.cell? ⟨br,orr+km,none⟩=some (.slice Ak nk ck)∧W.cell? ⟨bk,ok+kb,none⟩=some (.int .u8 ((s.read.getD km []).getD kb 0))):=Lib.hid fun x hx hk=>by
  obtain⟨m0,m1,b1,b2⟩:=S.memOk F x (by rw[S.len];exact hx) hk
  obtain⟨km,hkm⟩:=Int.eq_ofNat_of_zero_le m0
  obtain⟨kb,hkb⟩:=Int.eq_ofNat_of_zero_le b1
  rw[F.rl]at m1
  rw[hkm,Int.toNat_natCast,hkb]at b2
  obtain⟨br,orr,Ak,ck,hA,hlb,h1,h2⟩:=hr.at9 (i:=km) (by omega)
  obtain⟨A9,bk,ok,c9,e,hA9,-,-,hj⟩:=h2.opens
  simp only[Value.slice.injEq,true_and]at e
  obtain⟨rfl,rfl⟩:=e
  have hkb2:kb<(s.read.getD km []).length:=by omega
  exact⟨km,kb,(s.read.getD km []).length,br,orr,Ak,ck,bk,ok,hkm,by omega,hkb,hkb2,by unfold memV;rw[Int.toNat_natCast,hkm,hkb,Int.toNat_natCast,Int.toNat_natCast],hA,hA9 (by omega),fun W h=>⟨((joinB hb1 h).cell (p:=⟨br,orr+km,none⟩) hlb).trans h1,((joinB hb1 h).cell (p:=⟨bk,ok+kb,none⟩) (hj kb hkb2).1).trans (hj kb hkb2).2⟩⟩
 have HF:Hid (∀W,BelW W1 W→W.cell? ⟨w.heap.size,0,none⟩=some (.slice A0 n c0)∧W.cell? ⟨w.heap.size,1,none⟩=some (.slice A1 n1 c1)∧W.cell? ⟨w.heap.size,2,none⟩=some (.slice A2 m c2)∧W.cell? ⟨w.heap.size,3,none⟩=some (.slice A3 n3 c3)):=Lib.hid fun W h=>⟨(hfc.below h).cell 0,(hfc.below h).cell 1,(hfc.below h).cell 2,(hfc.below h).cell 3⟩
 have HB1:=Lib.hid hb1
 have hfew:=S.few
 have hniB:=S.niB
 have hnsB:=S.nsB
 have hm1:=S.m1
 have HIL:=Lib.hid (fun k=>ofTo_len c.nodes [0] k)
 have HSL:=Lib.hid (fun k=>ofTo_len c.nodes [14] k)
 have HIU:Hid (∀k,(ofTo c.nodes [0] (k+1)).length=(ofTo c.nodes [0] k).length+(if (c.nodes.getD k default).kind=0 then 1 else 0)):=Lib.hid fun k=>by
  rw[ofTo_succ,List.length_append,isK_one]
  by_cases e:(c.nodes.getD k default).kind=0
  ·rw[if_pos (by rw[e];rfl),if_pos e];rfl
  ·rw[if_neg (by simpa using e),if_neg e];rfl
 have HSU:Hid (∀k,(ofTo c.nodes [14] (k+1)).length=(ofTo c.nodes [14] k).length+(if (c.nodes.getD k default).kind=14 then 1 else 0)):=Lib.hid fun k=>by
  rw[ofTo_succ,List.length_append,isK_one]
  by_cases e:(c.nodes.getD k default).kind=14
  ·rw[if_pos (by rw[e];rfl),if_pos e];rfl
  ·rw[if_neg (by simpa using e),if_neg e];rfl
 have HAT0:Hid (∀k,k<n→(c.nodes.getD k default).kind=0→(ofTo c.nodes [0] k).length<ni):=Lib.hid fun k hk e=>by
  have:=(ofTo_at n hk (kl:=[0]) (nodes:=c.nodes) (by rw[isK_one,e];rfl)).1
  rw[S.hi]at this;exact this
 have HAT1:Hid (∀k,k<n→(c.nodes.getD k default).kind=14→(ofTo c.nodes [14] k).length<ns):=Lib.hid fun k hk e=>by
  have:=(ofTo_at n hk (kl:=[14]) (nodes:=c.nodes) (by rw[isK_one,e];rfl)).1
  rw[S.hs]at this;exact this
 have HGV:Hid (∀k,gvN c.nodes s.read inp s.dff k=if (c.nodes.getD k default).kind=0 then inp.getD (ofTo c.nodes [0] k).length 0 else if (c.nodes.getD k default).kind=14 then s.dff.getD (ofTo c.nodes [14] k).length 0 else if (c.nodes.getD k default).kind=15 then memV c.nodes s.read (k:Nat) else 0):=Lib.hid fun k=>rfl
 have HGS:Hid (∀k,k<n→gvL c.nodes s.read inp s.dff n (k+1)=(gvL c.nodes s.read inp s.dff n k).set k (gvN c.nodes s.read inp s.dff k)):=Lib.hid fun k hk=>gvL_succ hk
 have HGE:Hid (∀k,gvN c.nodes s.read inp s.dff k=0→gvL c.nodes s.read inp s.dff n (k+1)=gvL c.nodes s.read inp s.dff n k):=Lib.hid fun k hk=>gvL_same hk
 have HGL:Hid (∀k,(gvL c.nodes s.read inp s.dff n k).length=n):=Lib.hid fun k=>gvL_len
 have HGZ:Hid (gvL c.nodes s.read inp s.dff n 0=List.replicate n 0):=Lib.hid gvL_zero
 obtain⟨i0,hi1,hz0,hz1,hz2⟩:=info_parts info_val
 have HI:=Lib.hid (And.intro hi1 (And.intro hz0 (And.intro hz1 hz2)))
 clear hi1 hz0 hz1 hz2 hAi hAs hci hcs hi hd hr hl vi vd vr hp7 S H F hfc hb1 hH1
 obtain⟨gv,HGVL⟩:∃f:Nat→List Int,Hid (∀k,f k=gvL c.nodes s.read inp s.dff n k):=⟨_,Lib.hid fun _=>rfl⟩
 go_enter Tryz.func10,Tryz.ntmps10
 go_upto_region 1 with (fail)
 rw[←HW1.out]
 obtain⟨x0,x1,x2,x3⟩:=HF.out W1 (Below.refl _ _)
 go_upto_region 2 with (at_make;refine wpList_make_full _ rfl _ _ 41 rfl W1.heap.size 77 i0 (.int .u8 0) 1 Tryz.underlying41 HI.out.1 HI.out.2.1 HI.out.2.2.1 .i64 .i64 _ _ n rfl rfl rfl rfl ?b2 ?b3 ?b4 ?_)
 case b2=>rw[HI.out.2.2.2];omega
 case b3=>unfold maxLen;omega
 case b4=>exact Nat.le_refl _
 intro w2 hown hgr
 rw[made_vals]at hown
 have hv2:VRow w2 W1.heap.size (List.replicate n 0):=VRow.of hown (by simp)
 obtain⟨g,HG⟩:=named W1.heap.size
 have hg2:W1.grownBy w2 (some g):=by
  have hb:Below W1.heap.size W1 w2:=(Below.refl _ _).grown hgr (Nat.le_refl _) (fun k h=>by cases h)
  exact gnext (World.grownBy.refl _ _) hb
 rw[←HG.out]at hv2
 rw[←HG.out]
 have hgW:W1.heap.size≤g:=by rw[HG.out];exact Nat.le_refl _
 have HBG:Hid (∀W,W1.grownBy W (some g)→BelW W1 W):=Lib.hid fun W h=>bgrown (Below.refl _ _) h hgW
 have HL2:Hid (W1.grownBy w2 (some g)∧VRow w2 g (gv 0)):=Lib.hid ⟨hg2,by rw[HGVL.out,HGZ.out];exact hv2⟩
 have HSET1:Hid (∀W (out:List Int) (x:Nat) z,W1.grownBy W (some g)→VRow W g out→W1.grownBy (W.setCell ⟨g,x,none⟩ (.int .u8 z)) (some g)∧VRow (W.setCell ⟨g,x,none⟩ (.int .u8 z)) g (out.set x z)):=Lib.hid fun W out x z h h2=>⟨grown_v h x _,h2.set x z⟩
 have HSET2:Hid (∀W (out:List Int) (x:Nat) z,W1.grownBy W (some g)→VRow W g out→W1.grownBy (W.setCell ⟨g,x,none⟩ (.int .u8 z)).drew (some g)∧VRow (W.setCell ⟨g,x,none⟩ (.int .u8 z)).drew g (out.set x z)):=Lib.hid fun W out x z h h2=>⟨gdrew (grown_v h x _),(h2.set x z).below (BelW.drew (Below.refl _ _))⟩
 have hqg:w.heap.size≠g:=by omega
 clear hown hgr hv2 x0 x1 x2 x3 hg2
 go_wp2
 go_loopw [10,11,12] (fun iv sv ki wr=>∃k:Nat,k≤n∧ki=.int .i64 k∧iv=.int .i64 ((ofTo c.nodes [0] k).length:Int)∧sv=.int .i64 ((ofTo c.nodes [14] k).length:Int)∧W1.grownBy wr (some g)∧VRow wr g (gv k)) (fun _ _ ki _=>n-(intOf ki).toNat)
 case atStart=>exact⟨0,Nat.zero_le _,rfl,rfl,rfl,HL2.out.1,HL2.out.2⟩
 case round=>
  obtain⟨k,hk,rfl,rfl,rfl,hg,hv⟩:=hrel
  have HG1:=Lib.hid hg
  have HV1:=Lib.hid hv
  have hb:=HBG.out wr hg
  obtain⟨x0,x1,x2,x3⟩:=HF.out wr hb
  have HB:=Lib.hid hb
  by_cases hlt:k<n
  ·have hlt2:(k:Int)<(n:Int):=by omega
   obtain⟨b4,o4,A4,m4,c4,rfl,hlb,-,e0c,e1c,e2c,e3c,-,k0,-⟩:=HK.out wr hb k hlt
   have hil:=HIL.out k
   have hsl:=HSL.out k
   have hgvk:=HGV.out k
   have hat0:=HAT0.out k hlt
   have hat1:=HAT1.out k hlt
   have hrd:=HRD.out k hlt
   have hol:(gv k).length=n:=by rw[HGVL.out];exact HGL.out k
   have HSUX:Hid (gv (k+1)=(gv k).set k (gvN c.nodes s.read inp s.dff k)):=Lib.hid (by rw[HGVL.out,HGVL.out];exact HGS.out k hlt)
   have HSUE:Hid (gvN c.nodes s.read inp s.dff k=0→gv (k+1)=gv k):=Lib.hid fun h=>by rw[HGVL.out,HGVL.out];exact HGE.out k h
   obtain⟨kd,HKD⟩:=named (c.nodes.getD k default).kind
   obtain⟨md,HMD⟩:=named (c.nodes.getD k default).mem
   obtain⟨bd,HBD⟩:=named (c.nodes.getD k default).bit
   rw[←HKD.out]at e0c k0 hgvk hat0 hat1 hrd
   rw[←HMD.out]at e2c hrd
   rw[←HBD.out]at e3c hrd
   obtain⟨gvk,HGVK⟩:=named (gvN c.nodes s.read inp s.dff k)
   rw[←HGVK.out]at HSUX HSUE hgvk
   obtain⟨il,HILV⟩:=named (ofTo c.nodes [0] k).length
   obtain⟨sl,HSLV⟩:=named (ofTo c.nodes [14] k).length
   rw[←HILV.out]at hil hgvk hat0
   rw[←HSLV.out]at hsl hgvk hat1
   rw[←HILV.out,←HSLV.out]
   obtain⟨out,HOUT⟩:=named (gv k)
   rw[←HOUT.out]at HSUX HSUE hol HV1 hv
   have z1:=hv.cell (j:=k) (by rw[hol];exact hlt)
   have z2:=hv.frozen k
   obtain⟨zo,HZO⟩:=named (lat out (k:Int))
   rw[←HZO.out]at z1
   have HGVK2:=Lib.hid hgvk
   have HRDK:=Lib.hid hrd
   have HAT0K:=Lib.hid hat0
   have HAT1K:=Lib.hid hat1
   clear hgvk hrd hat0 hat1 hg hv hb
   by_cases e0:kd=0
   ·have t0:(kd==0)=true:=by simpa using e0
    have e14:¬kd=14:=by rw[e0];decide
    have hlt0:=HAT0K.out e0
    have hlt02:(il:Int)<(ni:Int):=by omega
    obtain rfl:=HAI.out (by omega)
    have f8:=HCI.out wr HB.out il hlt0
    obtain⟨z,HZ⟩:=named (inp.getD il 0)
    rw[←HZ.out]at f8
    have HSUC:Hid (gv (k+1)=out.set k z):=Lib.hid (by rw[HSUX.out,HGVK2.out,if_pos e0,HZ.out])
    go_wp2
    go_roundw
    case rel=>
     have HX:=Lib.hid (HSET1.out wr out k z HG1.out HV1.out)
     exact⟨k+1,by omega,by go_num,by rw[HIU.out k,←HKD.out,←HILV.out];(rw[if_pos e0];go_num),by rw[HSU.out k,←HKD.out,←HSLV.out];(rw[if_neg e14];rfl),HX.out.1,by rw[HSUC.out];exact HX.out.2⟩
    case measure=>simp[intOf];omega
   ·have t0:(kd==0)=false:=by simpa using e0
    by_cases e14:kd=14
    ·have t14:(kd==14)=true:=by simpa using e14
     have hlt1:=HAT1K.out e14
     have hlt12:(sl:Int)<(ns:Int):=by omega
     obtain rfl:=HAS.out (by omega)
     have f8:=HCS.out wr HB.out sl hlt1
     obtain⟨z,HZ⟩:=named (s.dff.getD sl 0)
     rw[←HZ.out]at f8
     have HSUC:Hid (gv (k+1)=out.set k z):=Lib.hid (by rw[HSUX.out,HGVK2.out,if_neg e0,if_pos e14,HZ.out])
     go_wp2
     go_roundw
     case rel=>
      have HX:=Lib.hid (HSET1.out wr out k z HG1.out HV1.out)
      exact⟨k+1,by omega,by go_num,by rw[HIU.out k,←HKD.out,←HILV.out];(rw[if_neg e0];rfl),by rw[HSU.out k,←HKD.out,←HSLV.out];(rw[if_pos e14];go_num),HX.out.1,by rw[HSUC.out];exact HX.out.2⟩
     case measure=>simp[intOf];omega
    ·have t14:(kd==14)=false:=by simpa using e14
     by_cases e15:kd=15
     ·have t15:(kd==15)=true:=by simpa using e15
      obtain⟨km,kb,nk,br,orr,Ak,ck,bk,ok,hkm,hkm2,hkb,hkb2,hmv,rfl,rfl,hcell⟩:=HRDK.out e15
      obtain⟨r1,r2⟩:=hcell wr HB.out
      obtain⟨z,HZ⟩:=named ((s.read.getD km []).getD kb 0)
      rw[←HZ.out]at r2 hmv
      have HSUC:Hid (gv (k+1)=out.set k z):=Lib.hid (by rw[HSUX.out,HGVK2.out,if_neg e0,if_neg e14,if_pos e15,hmv])
      subst hkm hkb
      have q1:(km:Int)<(m:Int):=by omega
      have q2:(kb:Int)<(nk:Int):=by omega
      clear hcell hmv
      go_wp2
      go_still_tail 20,(by kernel_rfl)
      go_wp2
      go_roundw
      case rel=>
       have HX:=Lib.hid (HSET2.out wr out k z HG1.out HV1.out)
       exact⟨k+1,by omega,by go_num,by rw[HIU.out k,←HKD.out,←HILV.out];(rw[if_neg e0];rfl),by rw[HSU.out k,←HKD.out,←HSLV.out];(rw[if_neg e14];rfl),HX.out.1,by rw[HSUC.out];exact HX.out.2⟩
      case measure=>simp[intOf];omega
     ·have t15:(kd==15)=false:=by simpa using e15
      have HSUC:Hid (gv (k+1)=out):=Lib.hid (by exact HSUE.out (by rw[HGVK2.out,if_neg e0,if_neg e14,if_neg e15]))
      go_wp2
      go_roundw
      case rel=>
       have HX:=Lib.hid (And.intro HG1.out HV1.out)
       exact⟨k+1,by omega,by go_num,by rw[HIU.out k,←HKD.out,←HILV.out];(rw[if_neg e0];rfl),by rw[HSU.out k,←HKD.out,←HSLV.out];(rw[if_neg e14];rfl),HX.out.1,by rw[HSUC.out];exact HX.out.2⟩
      case measure=>simp[intOf];omega
  ·obtain rfl:n=k:=by omega
   have HSX:=Lib.hid (HST.out wr g HB.out (by rw[←HGVL.out];exact hv))
   clear hg hv hb
   go_wp2_with (go_at_call 41;(with_reducible refine HSX.out.mono ?_);rintro e w5 ⟨⟨g5,d5,out5,rfl,hn5,hv5⟩,hb⟩;have HN5:=Lib.hid (HNET.out out5 hn5);have HV5:=Lib.hid hv5;have HB5:=Lib.hid (joinB (joinB HB1.out HB.out) hb);have HZ5:=Lib.hid (Below.size (joinB HB1.out HB.out));clear hn5 hv5 hb)
   go_ret
   exact⟨g5,d5,rfl,by rw[←HN5.out];exact HV5.out.low HZ5.out,HB5.out⟩
section
variable {c:Ck} {L:List Int} {n n1 m n3 ni ns:Nat} {A0 A1 A2 A3:Option Addr} {c0 c1 c2 c3 q:Nat} {W:World}
theorem Cm.mem(H:Cm c n n1 m n3 A0 A1 A2 A3 c0 c1 c2 c3 q W)(hm:c.mems.length=m){k:Nat}(hk:k<m):∃b o Aa na ca Ad nd cd,A2=some ⟨b,o,none⟩∧b<W.heap.size∧na=(c.mems.getD k default).addr.length∧nd=(c.mems.getD k default).data.length∧
 W.cell? ⟨b,o+k*3,none⟩=some (.slice Aa na ca)∧W.cell? ⟨b,o+k*3+1,none⟩=some (.slice Ad nd cd)∧W.cell? ⟨b,o+k*3+2,none⟩=some (.int .i64 (c.mems.getD k default).write)∧Is W W.heap.size (.slice Aa na ca) (c.mems.getD k default).addr∧Is W W.heap.size (.slice Ad nd cd) (c.mems.getD k default).data:=by
 obtain⟨v0,v1,v2,v3,e,-,-,hM,-⟩:=H.cir
 have e0:v2=.slice A2 m c2:=by have:=congrArg (fun v=>match v with|Value.agg a=>a[2]? |_=>none) e;simpa using this.symm
 subst e0
 obtain⟨A,b,o,cc,e1,hA,-,-,hc⟩:=hM
 simp only[Value.slice.injEq]at e1
 obtain⟨rfl,-,rfl⟩:=e1
 obtain⟨hb,s,t,f0,f1,f2,h4,h5⟩:=hc k (by rw[hm];exact hk)
 have h4':=h4
 have h5':=h5
 obtain⟨A4,b4,o4,c4,rfl,-⟩:=h4'
 obtain⟨A5,b5,o5,c5,rfl,-⟩:=h5'
 exact⟨b,o,A4,_,c4,A5,_,c5,hA (by omega),hb,rfl,rfl,f0,f1,f2,h4,h5⟩
end
noncomputable def nxL (ms:List Mm) (ws:List (List (List Int))) (nets:List Int) (k i:Nat):List (List Int):=(List.range i).map (nxW ms ws nets k)
theorem nxL_succ(ms:List Mm)(ws:List (List (List Int)))(nets:List Int)(k i:Nat):nxL ms ws nets k (i+1)=nxL ms ws nets k i++[nxW ms ws nets k i]:=by unfold nxL;rw[List.range_succ,List.map_append];rfl
theorem nxL_len(ms:List Mm)(ws:List (List (List Int)))(nets:List Int)(k i:Nat):(nxL ms ws nets k i).length=i:=by simp[nxL]
set_option maxRecDepth 100000 in
set_option maxHeartbeats 8000000 in
theorem rnext_any{c:Ck}{L:List Int}{n n1 m n3 ni ns:Nat}{A0 A1 A2 A3:Option Addr}{c0 c1 c2 c3 q:Nat}(w:World)(H:Cm c n n1 m n3 A0 A1 A2 A3 c0 c1 c2 c3 q w)(S:Cmt c L n n1 m n3 ni ns){s:Stt}{nets:List Int}{Aw An:Option Addr}{mw cw cn k nd:Nat}(F:FitS c ns m s)(hk:k<m)(hw:Wrds w w.heap.size (.slice Aw mw cw) (s.words.getD k []))(hn:Ks w w.heap.size (.slice An n cn) nets)(hl:nets.length=n)(hnd:nd=(c.mems.getD k default).data.length):
 Calls Tryz.prog 13 #[.agg #[.slice A0 n c0,.slice A1 n1 c1,.slice A2 m c2,.slice A3 n3 c3],.int .i64 (k:Int),.slice Aw mw cw,.slice An n cn] w fun e w'=>∃Ar cr Ao co,e=.returned (.tuple #[.slice Ar nd cr,.slice Ao mw co])∧VStk w' w.heap.size (.slice Ar nd cr) (nxR c.mems s.words nets k)∧WS w' w.heap.size (.slice Ao mw co) (nxL c.mems s.words nets k mw)∧BelW w w':=by
 obtain⟨hp1,hp2⟩:=S.port k hk
 obtain⟨hx1,hx2,hx3,hx4⟩:=S.idx k hk
 obtain⟨hwk1,hwk2⟩:=F.wk k hk
 have hm1:=S.m1
 obtain⟨wi,hwi⟩:=Int.eq_ofNat_of_zero_le hx3
 have hwi2:wi<n:=by omega
 obtain⟨b2,o2,Aa,na,ca,Ad,nd',cd,rfl,hlb,hna,hnd2,f0,f1,f2,hia,hid⟩:=H.mem S.h2 hk
 obtain rfl:nd=nd':=by omega
 rw[hwi]at f2
 obtain⟨ws,HWS⟩:=named (s.words.getD k [])
 rw[←HWS.out]at hw hwk1 hwk2
 have hmw:mw=ws.length:=by
  obtain⟨_,_,_,_,e,-⟩:=hw
  simp only[Value.slice.injEq]at e
  exact e.2.1
 have hblp:mw=2^(c.mems.getD k default).addr.length:=by rw[hmw,hwk1];rfl
 have hpos:0<mw:=by rw[hblp];exact Nat.two_pow_pos _
 have hm2:mw≤2:=by rw[hblp,hp1];exact Nat.le_refl _
 have hna1:na≤3:=by omega
 have hnd1:nd≤3:=by omega
 obtain⟨W1,HW1⟩:=named (w.alloc (.cells #[.slice A0 n c0,.slice A1 n1 c1,.slice (some ⟨b2,o2,none⟩) m c2,.slice A3 n3 c3] 39))
 have hb1:BelW w W1:=by rw[HW1.out];exact below_new (Below.refl _ _) _
 have hfc:Fr W1 w.heap.size 39 [.slice A0 n c0,.slice A1 n1 c1,.slice (some ⟨b2,o2,none⟩) m c2,.slice A3 n3 c3]:=by rw[HW1.out];exact Fr.made _ [.slice A0 n c0,.slice A1 n1 c1,.slice (some ⟨b2,o2,none⟩) m c2,.slice A3 n3 c3] _ rfl
 have hm0:∀W,BelW W1 W→W.cell? ⟨b2,o2+k*3,none⟩=some (.slice Aa na ca)∧W.cell? ⟨b2,o2+k*3+1,none⟩=some (.slice Ad nd cd)∧W.cell? ⟨b2,o2+k*3+2,none⟩=some (.int .i64 (wi:Int)):=fun W h=>⟨((joinB hb1 h).cell (p:=⟨b2,_,none⟩) hlb).trans f0,((joinB hb1 h).cell (p:=⟨b2,_,none⟩) hlb).trans f1,((joinB hb1 h).cell (p:=⟨b2,_,none⟩) hlb).trans f2⟩
 obtain⟨W2,HW2⟩:=named (W1.alloc (.cells #[.slice Aa na ca,.slice Ad nd cd,.int .i64 (wi:Int)] 67))
 have hb2:BelW W1 W2:=by rw[HW2.out];exact below_new (Below.refl _ _) _
 have hfm:Fr W2 W1.heap.size 67 [.slice Aa na ca,.slice Ad nd cd,.int .i64 (wi:Int)]:=by rw[HW2.out];exact Fr.made _ [.slice Aa na ca,.slice Ad nd cd,.int .i64 (wi:Int)] _ rfl
 obtain⟨x,HXV⟩:=named W1.heap.size
 rw[←HXV.out]at hfm
 have HFM:Hid (∀W,BelW W2 W→W.cell? ⟨x,0,none⟩=some (.slice Aa na ca)∧W.cell? ⟨x,1,none⟩=some (.slice Ad nd cd)∧W.cell? ⟨x,2,none⟩=some (.int .i64 (wi:Int))):=Lib.hid fun W h=>⟨(hfm.below h).cell 0,(hfm.below h).cell 1,(hfm.below h).cell 2⟩
 have HB2:Hid (BelW w W2):=Lib.hid (joinB hb1 hb2)
 have hks:∀W,BelW w W→Ks W W.heap.size (.slice An n cn) nets:=fun W h=>Arr.keep stays_u8 hn (Below.size h) fun _ hp=>Below.cell h hp
 have HVA:Hid (∀W,BelW w W→Calls Tryz.prog 44 #[.slice An n cn,.slice Aa na ca] W fun e w'=>∃A cc,e=.returned (.slice A na cc)∧VStk w' W.heap.size (.slice A na cc) (nvs nets (c.mems.getD k default).addr)∧BelW W w'):=Lib.hid fun W h=>rvs_any nets _ An Aa n cn na ca W W.heap.size (Nat.le_refl _) (hks W h) ((hia.below h).more (Below.size h)) hx1 (by omega)
 have HVD:Hid (∀W,BelW w W→Calls Tryz.prog 44 #[.slice An n cn,.slice Ad nd cd] W fun e w'=>∃A cc,e=.returned (.slice A nd cc)∧VStk w' W.heap.size (.slice A nd cc) (nvs nets (c.mems.getD k default).data)∧BelW W w'):=Lib.hid fun W h=>rvs_any nets _ An Ad n cn nd cd W W.heap.size (Nat.le_refl _) (hks W h) ((hid.below h).more (Below.size h)) hx2 (by omega)
 obtain⟨A,bn,on,cc,e,hAn,-,-,hcn⟩:=hn.opens
 simp only[Value.slice.injEq]at e
 obtain⟨rfl,-,rfl⟩:=e
 rw[hl]at hAn hcn
 obtain rfl:=hAn (by omega)
 obtain⟨z,HZ⟩:=named (nets.getD wi 0)
 have HZE:Hid (lat nets (c.mems.getD k default).write=z):=Lib.hid (by rw[HZ.out,hwi];unfold lat;rw[Int.toNat_natCast])
 have HCN:Hid (∀W,BelW w W→W.cell? ⟨bn,on+wi,none⟩=some (.int .u8 z)):=Lib.hid fun W h=>by rw[HZ.out];exact (h.cell (p:=⟨bn,on+wi,none⟩) (hcn wi hwi2).1).trans (hcn wi hwi2).2
 have hlw:∀i,i<mw→(ws.getD i []).length=nd:=fun i hi=>by rw[hnd];exact (hwk2 i (by rw[←hwk1,←hmw];exact hi)).1
 have HWD:Hid (∀i,i<mw→∃bW oW Ai ci,Aw=some ⟨bW,oW,none⟩∧(∀W,BelW w W→W.cell? ⟨bW,oW+i,none⟩=some (.slice Ai nd ci))∧∀W Ae ce Af cf,BelW w W→VStk W W2.heap.size (.slice Ae na ce) (nvs nets (c.mems.getD k default).addr)→VStk W W2.heap.size (.slice Af nd cf) (nvs nets (c.mems.getD k default).data)→Calls Tryz.prog 45 #[.slice Ai nd ci,.int .i64 (i:Int),.slice Ae na ce,.slice Af nd cf,.int .u8 z] W fun e w'=>∃A cc,e=.returned (.slice A nd cc)∧VStk w' W.heap.size (.slice A nd cc) (nxW c.mems s.words nets k i)∧BelW W w'):=Lib.hid fun i hi=>by
  obtain⟨bW,oW,Ai,ci,hA,hb,h1,h2⟩:=hw.at9 hi
  rw[hlw i hi]at h1 h2
  refine⟨bW,oW,Ai,ci,hA,fun W h=>(h.cell (p:=⟨bW,oW+i,none⟩) hb).trans h1,fun W Ae ce Af cf h he hf=>?_⟩
  refine (rstore_any (ws.getD i []) (nvs nets (c.mems.getD k default).addr) (nvs nets (c.mems.getD k default).data) (i:Int) z Ai Ae Af nd ci na ce nd cf W W.heap.size (Nat.le_refl _) (Arr.keep stays_u8 h2 (Below.size h) fun _ hp=>Below.cell h hp) he.ks hf.ks (by omega) (by omega)).mono fun e w' ⟨v,h3,h4,h5⟩=>?_
  have e9:=refW_eq ws (nvs nets (c.mems.getD k default).addr) (nvs nets (c.mems.getD k default).data) z i
  rw[hlw i hi]at e9
  rw[e9]at h4
  have e8:nxW c.mems s.words nets k i=stW ws (nvs nets (c.mems.getD k default).addr) (nvs nets (c.mems.getD k default).data) z i:=by unfold nxW;rw[HZE.out,←HWS.out]
  have hln:(stW ws (nvs nets (c.mems.getD k default).addr) (nvs nets (c.mems.getD k default).data) z i).length=nd:=by rw[stW_len,hlw i hi]
  obtain⟨A,cc,rfl,-⟩:=h4.form
  rw[hln]at h3 h4
  exact⟨A,cc,h3,by rw[e8];exact h4,h5⟩
 have HLK:Hid (∀W Ae ce,BelW w W→VStk W W2.heap.size (.slice Ae na ce) (nvs nets (c.mems.getD k default).addr)→Calls Tryz.prog 46 #[.slice Aw mw cw,.slice Ae na ce] W fun e w'=>∃A cc,e=.returned (.slice A nd cc)∧VStk w' W.heap.size (.slice A nd cc) (nxR c.mems s.words nets k)∧BelW W w'):=Lib.hid fun W Ae ce h he=>by
  refine (rlook_any ws (nvs nets (c.mems.getD k default).addr) Aw Ae mw cw na ce nd W W.heap.size (Nat.le_refl _) (Arr.keep stays_wds hw (Below.size h) fun _ hp=>Below.cell h hp) he.ks (by omega) hpos hlw (by omega)).mono fun e w' ⟨v,h3,h4,h5⟩=>?_
  have hal:(nvs nets (c.mems.getD k default).addr).length=(c.mems.getD k default).addr.length:=by unfold nvs;rw[List.length_map]
  rw[rlkL_eq ws _ nd (by rw[hal,←hblp,hmw];exact Nat.le_refl _)]at h4
  have e8:nxR c.mems s.words nets k=(lkS ws (nvs nets (c.mems.getD k default).addr) nd ws.length).2:=by unfold nxR;rw[←HWS.out,hlw 0 hpos]
  obtain⟨A,cc,rfl,-⟩:=h4.form
  rw[lkS_len]at h3 h4
  exact⟨A,cc,h3,by rw[e8];exact h4,h5⟩
 have HSU:=Lib.hid (fun i=>nxL_succ c.mems s.words nets k i)
 have HNL:=Lib.hid (fun i=>nxL_len c.mems s.words nets k i)
 have HWL:Hid (∀i,i<mw→(nxW c.mems s.words nets k i).length=nd):=Lib.hid fun i hi=>by
  unfold nxW
  rw[stW_len,←HWS.out,hlw i hi]
 obtain⟨i2,hj1,hj2,hj3,hj4⟩:=info_parts info_vals
 have HJ:=Lib.hid (And.intro hj1 (And.intro hj2 (And.intro hj3 hj4)))
 obtain⟨x0,x1,x2,x3⟩:W1.cell? ⟨w.heap.size,0,none⟩=some (.slice A0 n c0)∧W1.cell? ⟨w.heap.size,1,none⟩=some (.slice A1 n1 c1)∧W1.cell? ⟨w.heap.size,2,none⟩=some (.slice (some ⟨b2,o2,none⟩) m c2)∧W1.cell? ⟨w.heap.size,3,none⟩=some (.slice A3 n3 c3):=⟨hfc.cell 0,hfc.cell 1,hfc.cell 2,hfc.cell 3⟩
 obtain⟨y0,y1,y2⟩:=hm0 W1 (Below.refl _ _)
 have hk2:(k:Int)<(m:Int):=by omega
 have hwi3:(wi:Int)<(n:Int):=by omega
 clear hj1 hj2 hj3 hj4 hp1 hp2 hx1 hx2 hx3 hx4 hwk1 hwk2 hwi H f0 f1 f2 hia hid hw hn hl hnd hnd2 hna hmw hblp hb1 hb2 hfc hfm hm0 hks hcn hAn hlw S F hlb
 go_enter Tryz.func13,Tryz.ntmps13
 go_upto_region 1 with (fail)
 rw[←HW1.out]
 go_upto_region 2 with (fail)
 rw[←HW2.out,←HXV.out]
 clear x0 x1 x2 x3 y0 y1 y2
 have m0:=(HFM.out W2 (Below.refl _ _)).1
 have HVA2:=Lib.hid (HVA.out W2 HB2.out)
 go_upto_region 3 with (go_at_call 44;(with_reducible refine HVA2.out.mono ?_);rintro e w3 ⟨Ae,ce,rfl,hv3,hb3⟩;have HV3:=Lib.hid hv3;have HB3:Hid (BelW W2 w3):=Lib.hid hb3;clear hv3 hb3)
 clear m0
 obtain⟨V0,rfl⟩:∃V0:World,V0=w3:=⟨_,rfl⟩
 have HBV0:Hid (BelW w V0):=Lib.hid (joinB HB2.out HB3.out)
 go_wp2
 go_loopw [12,13] (fun sv ii wr=>∃(i:Nat) (Ao:Option Addr) (co:Nat),i≤mw∧sv=.slice Ao i co∧ii=.int .i64 i∧BelW V0 wr∧WS wr V0.heap.size (.slice Ao i co) (nxL c.mems s.words nets k i)) (fun _ ii _=>mw-(intOf ii).toNat)
 case atStart=>exact⟨0,none,0,Nat.zero_le _,rfl,rfl,Below.refl _ _,WS.nil _ _⟩
 case round=>
  obtain⟨i,Ao,co,hi,rfl,rfl,hbv,hwi⟩:=hrel
  have HBV:=Lib.hid hbv
  have HWI:=Lib.hid hwi
  have HBW:Hid (BelW w wr):=Lib.hid (joinB HBV0.out hbv)
  by_cases hlt:i<mw
  ·have hi2:(i:Int)<(mw:Int):=by omega
   obtain⟨bW,oW,Ai,ci,rfl,hcw,hst⟩:=HWD.out i hlt
   have HST:=Lib.hid hst
   have hnl:=HNL.out i
   have hwl:=HWL.out i hlt
   have hsu:=HSU.out i
   obtain⟨NW,HNW⟩:=named (nxW c.mems s.words nets k i)
   rw[←HNW.out]at HST hwl hsu
   have HSUI:=Lib.hid hsu
   have HWLN:=Lib.hid hwl
   have HSC:Hid (∀W,BelW V0 W→W.cell? ⟨bW,oW+i,none⟩=some (.slice Ai nd ci)∧W.cell? ⟨x,1,none⟩=some (.slice Ad nd cd)∧W.cell? ⟨x,2,none⟩=some (.int .i64 (wi:Int))∧W.cell? ⟨bn,on+wi,none⟩=some (.int .u8 z)):=Lib.hid fun W h=>⟨hcw W (joinB HBV0.out h),(HFM.out W (joinB HB3.out h)).2.1,(HFM.out W (joinB HB3.out h)).2.2,HCN.out W (joinB HBV0.out h)⟩
   have HD:Hid (BelW wr wr.drew):=Lib.hid (BelW.drew (Below.refl _ _))
   have HT10:=Lib.hid (HVD.out wr.drew (joinB HBW.out HD.out))
   have HS0:=Lib.hid (HSC.out _ (joinB hbv HD.out))
   clear hst hcw hbv hwi hwl hsu hnl
   go_upto_region 7 with (fail)
   refine AnyX.start (S:=(fun w'=>w'.cell? ⟨bW,oW+i,none⟩=some (.slice Ai nd ci)∧w'.cell? ⟨x,1,none⟩=some (.slice Ad nd cd)∧w'.cell? ⟨x,2,none⟩=some (.int .i64 (wi:Int))∧w'.cell? ⟨bn,on+wi,none⟩=some (.int .u8 z))) (t:=19) (by kernel_rfl) ?_
   refine AnyX.take (i:=0) (oi:=⟨some 29,_,_,_,_,_⟩) (v:=.slice Ao i co) rfl rfl (by kernel_rfl) (by kernel_rfl) (by kernel_rfl) (by kernel_rfl) (fun _ _ _ h=>h) (Or.inl ⟨by rfl,?_⟩) HS0.out ?_
   ·intro w' hSw
    obtain⟨k1',k2',k3',k4'⟩:=hSw
    first|(go_simp;done)|(go_simp;with_reducible rfl)|(go_simp;intro hh;exfalso;omega)
   simp only[Act.put,List.setIfInBounds_toArray,List.set_cons_zero,List.set_cons_succ]
   refine AnyX.take (i:=1) (oi:=⟨some 30,_,_,_,_,_⟩) (v:=.slice (some ⟨bW,oW,none⟩) mw cw) rfl rfl (by kernel_rfl) (by kernel_rfl) (by kernel_rfl) (by kernel_rfl) (fun _ _ _ h=>h) (Or.inl ⟨by rfl,?_⟩) HS0.out ?_
   ·intro w' hSw
    obtain⟨k1',k2',k3',k4'⟩:=hSw
    first|(go_simp;done)|(go_simp;with_reducible rfl)|(go_simp;intro hh;exfalso;omega)
   simp only[Act.put,List.setIfInBounds_toArray,List.set_cons_zero,List.set_cons_succ]
   refine AnyX.take (i:=2) (oi:=⟨some 31,_,_,_,_,_⟩) (v:=.int .i64 (i:Int)) rfl rfl (by kernel_rfl) (by kernel_rfl) (by kernel_rfl) (by kernel_rfl) (fun _ _ _ h=>h) (Or.inl ⟨by rfl,?_⟩) HS0.out ?_
   ·intro w' hSw
    obtain⟨k1',k2',k3',k4'⟩:=hSw
    first|(go_simp;done)|(go_simp;with_reducible rfl)|(go_simp;intro hh;exfalso;omega)
   simp only[Act.put,List.setIfInBounds_toArray,List.set_cons_zero,List.set_cons_succ]
   refine AnyX.take (i:=3) (oi:=⟨some 32,_,_,_,_,_⟩) (v:=.pointer (some ⟨bW,oW+i,none⟩)) rfl rfl (by kernel_rfl) (by kernel_rfl) (by kernel_rfl) (by kernel_rfl) (fun _ _ _ h=>h) (Or.inl ⟨by rfl,?_⟩) HS0.out ?_
   ·intro w' hSw
    obtain⟨k1',k2',k3',k4'⟩:=hSw
    first|(go_simp;done)|(go_simp;with_reducible rfl)|(go_simp;intro hh;exfalso;omega)
   simp only[Act.put,List.setIfInBounds_toArray,List.set_cons_zero,List.set_cons_succ]
   refine AnyX.take (i:=4) (oi:=⟨some 33,_,_,_,_,_⟩) (v:=.slice Ai nd ci) rfl rfl (by kernel_rfl) (by kernel_rfl) (by kernel_rfl) (by kernel_rfl) (fun _ _ _ h=>h) (Or.inl ⟨by rfl,?_⟩) HS0.out ?_
   ·intro w' hSw
    obtain⟨k1',k2',k3',k4'⟩:=hSw
    first|(go_simp;done)|(go_simp;with_reducible rfl)|(go_simp;intro hh;exfalso;omega)
   simp only[Act.put,List.setIfInBounds_toArray,List.set_cons_zero,List.set_cons_succ]
   refine AnyX.take (i:=5) (oi:=⟨some 34,_,_,_,_,_⟩) (v:=.int .i64 (i:Int)) rfl rfl (by kernel_rfl) (by kernel_rfl) (by kernel_rfl) (by kernel_rfl) (fun _ _ _ h=>h) (Or.inl ⟨by rfl,?_⟩) HS0.out ?_
   ·intro w' hSw
    obtain⟨k1',k2',k3',k4'⟩:=hSw
    first|(go_simp;done)|(go_simp;with_reducible rfl)|(go_simp;intro hh;exfalso;omega)
   simp only[Act.put,List.setIfInBounds_toArray,List.set_cons_zero,List.set_cons_succ]
   refine AnyX.take (i:=6) (oi:=⟨some 35,_,_,_,_,_⟩) (v:=.slice Ae na ce) rfl rfl (by kernel_rfl) (by kernel_rfl) (by kernel_rfl) (by kernel_rfl) (fun _ _ _ h=>h) (Or.inl ⟨by rfl,?_⟩) HS0.out ?_
   ·intro w' hSw
    obtain⟨k1',k2',k3',k4'⟩:=hSw
    first|(go_simp;done)|(go_simp;with_reducible rfl)|(go_simp;intro hh;exfalso;omega)
   simp only[Act.put,List.setIfInBounds_toArray,List.set_cons_zero,List.set_cons_succ]
   refine AnyX.take (i:=7) (oi:=⟨some 36,_,_,_,_,_⟩) (v:=.slice (some ⟨bn,on,none⟩) n cn) rfl rfl (by kernel_rfl) (by kernel_rfl) (by kernel_rfl) (by kernel_rfl) (fun _ _ _ h=>h) (Or.inl ⟨by rfl,?_⟩) HS0.out ?_
   ·intro w' hSw
    obtain⟨k1',k2',k3',k4'⟩:=hSw
    first|(go_simp;done)|(go_simp;with_reducible rfl)|(go_simp;intro hh;exfalso;omega)
   simp only[Act.put,List.setIfInBounds_toArray,List.set_cons_zero,List.set_cons_succ]
   refine AnyX.take (i:=8) (oi:=⟨some 37,_,_,_,_,_⟩) (v:=.pointer (some ⟨x,1,none⟩)) rfl rfl (by kernel_rfl) (by kernel_rfl) (by kernel_rfl) (by kernel_rfl) (fun _ _ _ h=>h) (Or.inl ⟨by rfl,?_⟩) HS0.out ?_
   ·intro w' hSw
    obtain⟨k1',k2',k3',k4'⟩:=hSw
    first|(go_simp;done)|(go_simp;with_reducible rfl)|(go_simp;intro hh;exfalso;omega)
   simp only[Act.put,List.setIfInBounds_toArray,List.set_cons_zero,List.set_cons_succ]
   refine AnyX.take (i:=9) (oi:=⟨some 38,_,_,_,_,_⟩) (v:=.slice Ad nd cd) rfl rfl (by kernel_rfl) (by kernel_rfl) (by kernel_rfl) (by kernel_rfl) (fun _ _ _ h=>h) (Or.inl ⟨by rfl,?_⟩) HS0.out ?_
   ·intro w' hSw
    obtain⟨k1',k2',k3',k4'⟩:=hSw
    first|(go_simp;done)|(go_simp;with_reducible rfl)|(go_simp;intro hh;exfalso;omega)
   simp only[Act.put,List.setIfInBounds_toArray,List.set_cons_zero,List.set_cons_succ]
   refine AnyX.take (i:=11) (oi:=⟨some 40,_,_,_,_,_⟩) (v:=.slice (some ⟨bn,on,none⟩) n cn) rfl rfl (by kernel_rfl) (by kernel_rfl) (by kernel_rfl) (by kernel_rfl) (fun _ _ _ h=>h) (Or.inl ⟨by rfl,?_⟩) HS0.out ?_
   ·intro w' hSw
    obtain⟨k1',k2',k3',k4'⟩:=hSw
    first|(go_simp;done)|(go_simp;with_reducible rfl)|(go_simp;intro hh;exfalso;omega)
   simp only[Act.put,List.setIfInBounds_toArray,List.set_cons_zero,List.set_cons_succ]
   refine AnyX.take (i:=12) (oi:=⟨some 41,_,_,_,_,_⟩) (v:=.pointer (some ⟨x,2,none⟩)) rfl rfl (by kernel_rfl) (by kernel_rfl) (by kernel_rfl) (by kernel_rfl) (fun _ _ _ h=>h) (Or.inl ⟨by rfl,?_⟩) HS0.out ?_
   ·intro w' hSw
    obtain⟨k1',k2',k3',k4'⟩:=hSw
    first|(go_simp;done)|(go_simp;with_reducible rfl)|(go_simp;intro hh;exfalso;omega)
   simp only[Act.put,List.setIfInBounds_toArray,List.set_cons_zero,List.set_cons_succ]
   refine AnyX.take (i:=13) (oi:=⟨some 42,_,_,_,_,_⟩) (v:=.int .i64 (wi:Int)) rfl rfl (by kernel_rfl) (by kernel_rfl) (by kernel_rfl) (by kernel_rfl) (fun _ _ _ h=>h) (Or.inl ⟨by rfl,?_⟩) HS0.out ?_
   ·intro w' hSw
    obtain⟨k1',k2',k3',k4'⟩:=hSw
    first|(go_simp;done)|(go_simp;with_reducible rfl)|(go_simp;intro hh;exfalso;omega)
   simp only[Act.put,List.setIfInBounds_toArray,List.set_cons_zero,List.set_cons_succ]
   refine AnyX.take (i:=14) (oi:=⟨some 43,_,_,_,_,_⟩) (v:=.pointer (some ⟨bn,on+wi,none⟩)) rfl rfl (by kernel_rfl) (by kernel_rfl) (by kernel_rfl) (by kernel_rfl) (fun _ _ _ h=>h) (Or.inl ⟨by rfl,?_⟩) HS0.out ?_
   ·intro w' hSw
    obtain⟨k1',k2',k3',k4'⟩:=hSw
    first|(go_simp;done)|(go_simp;with_reducible rfl)|(go_simp;intro hh;exfalso;omega)
   simp only[Act.put,List.setIfInBounds_toArray,List.set_cons_zero,List.set_cons_succ]
   refine AnyX.take (i:=15) (oi:=⟨some 44,_,_,_,_,_⟩) (v:=.int .u8 z) rfl rfl (by kernel_rfl) (by kernel_rfl) (by kernel_rfl) (by kernel_rfl) (fun _ _ _ h=>h) (Or.inl ⟨by rfl,?_⟩) HS0.out ?_
   ·intro w' hSw
    obtain⟨k1',k2',k3',k4'⟩:=hSw
    first|(go_simp;done)|(go_simp;with_reducible rfl)|(go_simp;intro hh;exfalso;omega)
   simp only[Act.put,List.setIfInBounds_toArray,List.set_cons_zero,List.set_cons_succ]
   refine AnyX.one (i:=10) (o:=⟨some 39,_,_,_,_,_⟩) (by kernel_rfl) rfl (fun K' hK=>?_)
   have HK:=Lib.hid hK
   clear hK
   go_simp
   go_at_call 44
   (with_reducible refine HT10.out.mono ?_)
   rintro e w5 ⟨A5,c5,rfl,hv5,hb5⟩
   have HB5:Hid (BelW wr w5):=Lib.hid (joinB HD.out hb5)
   have HV5:Hid (VStk w5 W2.heap.size (.slice A5 nd c5) (nvs nets (c.mems.getD k default).data)):=Lib.hid (hv5.low (Below.size (joinB HB3.out (joinB HBV.out HD.out))))
   have hs6:=HSC.out _ (joinB HBV.out HB5.out)
   have HT16:=Lib.hid (HST.out w5 Ae ce A5 c5 (joinB HBW.out HB5.out) (HV3.out.below (joinB HBV.out HB5.out)) HV5.out)
   clear hv5 hb5
   refine HK.out _ _ (fun _=>hs6) ?_
   clear HK
   (try simp only[Act.put,List.setIfInBounds_toArray,List.set_cons_zero,List.set_cons_succ])
   refine AnyX.one (i:=16) (o:=⟨some 45,_,_,_,_,_⟩) (by kernel_rfl) rfl (fun K' hK=>?_)
   have HK:=Lib.hid hK
   clear hK
   go_simp
   go_at_call 45
   (with_reducible refine HT16.out.mono ?_)
   rintro e w7 ⟨A7,c7,rfl,hv7,hb7⟩
   have HB57:Hid (BelW wr w7):=Lib.hid (joinB HB5.out hb7)
   have HB7:Hid (BelW V0 w7):=Lib.hid (joinB HBV.out HB57.out)
   have HV7:Hid (VStk w7 V0.heap.size (.slice A7 nd c7) NW):=Lib.hid (hv7.low (Below.size (joinB HBV.out HB5.out)))
   have hs7:=HSC.out _ HB7.out
   obtain⟨vs,q1,q2,q3⟩:=HWI.out.below HB57.out
   rw[HNL.out]at q2
   have Q1:=Lib.hid q1
   have Q2:=Lib.hid q2
   have Q3:=Lib.hid q3
   have HSZ7:=Lib.hid (Below.size HB7.out)
   clear hv7 hb7 q1 q2 q3
   refine HK.out _ _ (fun _=>hs7) ?_
   clear HK
   (try simp only[Act.put,List.setIfInBounds_toArray,List.set_cons_zero,List.set_cons_succ])
   refine AnyX.one (i:=17) (o:=⟨some 46,_,_,_,_,_⟩) (by kernel_rfl) rfl (fun K' hK=>?_)
   have HK:=Lib.hid hK
   clear hK
   go_simp
   refine HK.out _ _ (fun _=>HSC.out _ (BelW.alloc HB7.out _)) ?_
   clear HK
   (try simp only[Act.put,List.setIfInBounds_toArray,List.set_cons_zero,List.set_cons_succ])
   refine AnyX.one (i:=18) (o:=⟨some 47,_,_,_,_,_⟩) (by kernel_rfl) rfl (fun K' hK=>?_)
   have HK:=Lib.hid hK
   clear hK
   refine step_append_lies _ (by rfl) (.tmp 29) (.tmp 46) 43 (by rfl) V0.heap.size 41 i2 (.slice none 0 0) 1 24 Tryz.underlying43 HJ.out.1 HJ.out.2.1 HJ.out.2.2.1 HJ.out.2.2.2 rfl (by decide) (.slice Ao i co) i vs (by simp[Act.eval]) (World.ownsRow.alloc Q2.out _) ⟨w7.heap.size,0,none⟩ 1 1 [.slice A7 nd c7] (by simp[Act.eval]) rfl (one_new w7 _ _) (by intro u hu;obtain rfl:=List.mem_singleton.1 hu;rfl) (by decide) (by unfold maxLen;omega) (by omega) (by have:=HSZ7.out;simp;omega) _ rfl ?_
   intro g8 c8 w8 hown6 hgrow6 hat6 hlt6
   have hs8:=HSC.out w8 (bel_push HB7.out hgrow6 fun q h=>(World.ownsRow.lt Q2.out q h).1)
   have HO6:=Lib.hid (And.intro hown6 hgrow6)
   clear hown6 hgrow6 hat6 hlt6
   refine HK.out _ _ (fun _=>hs8) ?_
   clear HK
   (try simp only[Act.put,List.setIfInBounds_toArray,List.set_cons_zero,List.set_cons_succ])
   refine AnyX.one (i:=19) (o:=⟨some 12,_,_,_,_,_⟩) (by kernel_rfl) rfl (fun K' hK=>?_)
   have HK:=Lib.hid hK
   clear hK
   go_simp
   refine HK.out _ _ (fun h=>absurd rfl h) ?_
   clear HK
   (try simp only[Act.put,List.setIfInBounds_toArray,List.set_cons_zero,List.set_cons_succ])
   refine AnyX.done (by kernel_rfl) ?_ _
   have hp6:BelW V0 w8∧WS w8 V0.heap.size (.slice (some ⟨g8,0,none⟩) (i+1) c8) (nxL c.mems s.words nets k (i+1)):=by
    have hg6:(w7.alloc (.cells #[.slice A7 nd c7] 41)).grownBy w8 (Value.slice Ao i co).ownBlock:=HO6.out.2
    rw[HSUI.out]
    refine WS.push (A:=A7) (c:=c7) HB7.out Q1.out (by rw[HNL.out];exact Q2.out) Q3.out hg6 ?_ ?_
    ·rw[HNL.out,HWLN.out];exact HO6.out.1
    ·rw[HWLN.out];exact HV7.out
   have HP6:=Lib.hid hp6
   clear hp6 hs8
   go_wp2
   go_roundw
   case rel=>exact⟨i+1,some ⟨g8,0,none⟩,c8,by omega,rfl,by go_num,HP6.out.1,HP6.out.2⟩
   case measure=>simp[intOf];omega
  ·obtain rfl:mw=i:=by omega
   have HLK2:=Lib.hid (HLK.out wr Ae ce HBW.out (HV3.out.below hbv))
   clear hbv hwi
   go_wp2_with (go_at_call 46;(with_reducible refine HLK2.out.mono ?_);rintro e w9 ⟨A9,c9,rfl,hv9,hb9⟩;have HV9:=Lib.hid hv9;have HB9:Hid (BelW wr w9):=Lib.hid hb9;clear hv9 hb9)
   refine bodyPost_ret (results_tmp2 rfl _ _ _) rfl ?_
   exact⟨A9,c9,Ao,co,rfl,HV9.out.low (Below.size HBW.out),(HWI.out.below HB9.out).low (Below.size HBV0.out),joinB HBW.out HB9.out⟩
end Go.Proofs.YtemjmfpcopfdbaaGreatDoor
namespace Go.Proofs.YtemjmfpcopfdbaaGreatDoor.Ch
open Go.RowKit
open Go.Proofs.YtemjmfpcopfdbaaGreatDoor.Lg
def Cht(w:World):Prop:=∀k,k<4→w.cell? ⟨0,k,none⟩=some (.int .u8 (charsL.getD k 0))
theorem Cht.below{w w':World}(h:Cht w)(hb:Below w.heap.size w w'):Cht w':=fun k hk=>by
 have h0:=h k hk
 have hl:0<w.heap.size:=by
  rcases Nat.lt_or_ge 0 w.heap.size with hl|hl
  ·exact hl
  ·simp[World.cell?,Array.getElem?_eq_none hl]at h0
 rw[←h0];exact hb.cell (p:=⟨0,k,none⟩) hl
def vof(c:Int):Int:=if c=49 then 1 else if c=88 then 2 else if c=90 then 3 else 0
def isv(c:Int):Bool:=decide (c=48∨c=49∨c=88∨c=90)
set_option maxHeartbeats 1000000 in
theorem valueOf_ch(c:Int)(w:World)(h:Cht w):
 Calls Tryz.prog 130 #[.int .u8 c] w fun e w'=>e=.returned (.tuple #[.int .u8 (vof c),.bool (isv c)])∧w=w':=by
 have c0:=h 0 (by decide)
 have c1:=h 1 (by decide)
 have c2:=h 2 (by decide)
 have c3:=h 3 (by decide)
 simp only[charsL,List.getD_cons_zero,List.getD_cons_succ]at c0 c1 c2 c3
 clear h
 have i0:∀w,(Instr.index 23 (.agg #[.int .u8 48,.int .u8 49,.int .u8 88,.int .u8 90]) (.int .i64 0)).run Tryz.prog w=.ok (.int .u8 48) w:=fun _=>by kernel_rfl
 have i1:∀w,(Instr.index 23 (.agg #[.int .u8 48,.int .u8 49,.int .u8 88,.int .u8 90]) (.int .i64 1)).run Tryz.prog w=.ok (.int .u8 49) w:=fun _=>by kernel_rfl
 have i2:∀w,(Instr.index 23 (.agg #[.int .u8 48,.int .u8 49,.int .u8 88,.int .u8 90]) (.int .i64 2)).run Tryz.prog w=.ok (.int .u8 88) w:=fun _=>by kernel_rfl
 have i3:∀w,(Instr.index 23 (.agg #[.int .u8 48,.int .u8 49,.int .u8 88,.int .u8 90]) (.int .i64 3)).run Tryz.prog w=.ok (.int .u8 90) w:=fun _=>by kernel_rfl
 obtain⟨x,HX⟩:=named (vof c)
 obtain⟨y,HY⟩:=named (isv c)
 rw[←HX.out,←HY.out]
 by_cases h0:c=48
 ·subst h0
  go_enter Tryz.func130,Tryz.ntmps130
  go_wp2
  refine wp_loop_rounds 5 ?_
  rw[rounds_succ];go_wp2
  go_ret2
  exact⟨by rw[HX.out,HY.out];rfl,rfl⟩
 by_cases h1:c=49
 ·subst h1
  go_enter Tryz.func130,Tryz.ntmps130
  go_wp2
  refine wp_loop_rounds 5 ?_
  rw[rounds_succ];go_wp2
  rw[rounds_succ];go_wp2
  go_ret2
  exact⟨by rw[HX.out,HY.out];rfl,rfl⟩
 by_cases h2:c=88
 ·subst h2
  go_enter Tryz.func130,Tryz.ntmps130
  go_wp2
  refine wp_loop_rounds 5 ?_
  rw[rounds_succ];go_wp2
  rw[rounds_succ];go_wp2
  rw[rounds_succ];go_wp2
  go_ret2
  exact⟨by rw[HX.out,HY.out];rfl,rfl⟩
 by_cases h3:c=90
 ·subst h3
  go_enter Tryz.func130,Tryz.ntmps130
  go_wp2
  refine wp_loop_rounds 5 ?_
  rw[rounds_succ];go_wp2
  rw[rounds_succ];go_wp2
  rw[rounds_succ];go_wp2
  rw[rounds_succ];go_wp2
  go_ret2
  exact⟨by rw[HX.out,HY.out];rfl,rfl⟩
 have g0:((48:Int)==c)=false:=by simp;omega
 have g1:((49:Int)==c)=false:=by simp;omega
 have g2:((88:Int)==c)=false:=by simp;omega
 have g3:((90:Int)==c)=false:=by simp;omega
 go_enter Tryz.func130,Tryz.ntmps130
 go_wp2
 refine wp_loop_rounds 5 ?_
 rw[rounds_succ];go_wp2
 rw[rounds_succ];go_wp2
 rw[rounds_succ];go_wp2
 rw[rounds_succ];go_wp2
 rw[rounds_succ];go_wp2
 go_ret2
 exact⟨by rw[HX.out,HY.out];simp[vof,isv,h0,h1,h2,h3],rfl⟩
def chr(s:ByteArray)(k:Nat):Int:=((s.data.toList.getD k 0).toNat:Int)
theorem chr_at(s:ByteArray)(k:Nat)(h:k<s.size):((s[k]'h).toNat:Int)=chr s k:=by
 unfold chr
 rw[List.getD_eq_getElem?_getD,List.getElem?_eq_getElem (by simpa using h)]
 rfl
def fillL(f:Nat→Value)(z:Value)(n k:Nat):List Value:=(List.range n).map fun j=>if j<k then f j else z
theorem fillL_len(f:Nat→Value)(z:Value)(n k:Nat):(fillL f z n k).length=n:=by simp[fillL]
theorem fillL_get(f:Nat→Value)(z:Value)(n k j:Nat)(h:j<n):(fillL f z n k)[j]? =some (if j<k then f j else z):=by
 simp[fillL,List.getElem?_map,List.getElem?_range h]
theorem fillL_set(f:Nat→Value)(z:Value)(n k:Nat):(fillL f z n k).set k (f k)=fillL f z n (k+1):=by
 apply List.ext_getElem?
 intro j
 by_cases hj:j<n
 ·rw[List.getElem?_set,fillL_get _ _ _ _ _ hj,fillL_get _ _ _ _ _ hj,fillL_len]
  by_cases hk:k=j
  ·subst hk;simp[hj]
  ·rw[if_neg hk]
   by_cases h1:j<k
   ·rw[if_pos h1,if_pos (by omega)]
   ·rw[if_neg h1,if_neg (by omega)]
 ·rw[List.getElem?_eq_none (by simp[fillL_len];omega),List.getElem?_eq_none (by simp[fillL_len];omega)]
theorem fillL_start(f:Nat→Value)(z:Value)(n:Nat):(madeCells #[z] n).toList=fillL f z n 0:=by
 apply List.ext_getElem?
 intro j
 by_cases hj:j<n
 ·rw[fillL_get _ _ _ _ _ hj];simp[madeCells,hj,Nat.mod_one]
 ·rw[List.getElem?_eq_none (by simp[madeCells];omega),List.getElem?_eq_none (by simp[fillL_len];omega)]
theorem info_value:(Tryz.prog.info? 77).map (fun i=>(i.zero,i.size,i.bytes))=some (some (.int .u8 0),1,1):=by kernel_rfl
theorem info_byte:(Tryz.prog.info? 5).map (fun i=>(i.zero,i.size,i.bytes))=some (some (.int .u8 0),1,1):=by kernel_rfl
def ParsePost(s:ByteArray)(w:World)(e:Ending)(w':World):Prop:=
 Below w.heap.size w w'∧
 (((∀k,k<s.size→isv (chr s k)=true)∧e=.returned (.tuple #[.slice (some ⟨w.heap.size,0,none⟩) s.size s.size,.int .i64 0])∧
   w'.ownsRow w.heap.size 77 1 (.slice (some ⟨w.heap.size,0,none⟩) s.size s.size) s.size (fillL (fun j=>.int .u8 (vof (chr s j))) (.int .u8 0) s.size s.size))∨
  ((∃k,k<s.size∧isv (chr s k)=false)∧e=.returned (.tuple #[.slice none 0 0,.int .i64 4])))
set_option maxHeartbeats 1000000 in
theorem parse_ch(s:ByteArray)(w:World)(hsz:s.size≤1000)(ht:Cht w):
 Calls Tryz.prog 100 #[.string s] w (ParsePost s w):=by
 obtain⟨i0,hi,hz0,hz1,hz2⟩:=info_parts info_value
 have HT:=Lib.hid ht
 clear ht
 go_enter Tryz.func100,Tryz.ntmps100
 go_wp2_with (at_make;refine wpList_make_full _ rfl _ _ 41 rfl w.heap.size 77 i0 (.int .u8 0) 1 Tryz.underlying41 hi hz0 hz1 .i64 .i64 _ _ s.size rfl rfl rfl rfl ?b2 ?b3 ?b4 ?_)
 case b2=>rw[hz2];omega
 case b3=>unfold maxLen;omega
 case b4=>exact Nat.le_refl _
 intro w1 hown hgr
 rw[fillL_start (fun j=>.int .u8 (vof (chr s j)))]at hown
 have hb1:Below w.heap.size w w1:=(Below.refl _ _).grown hgr (Nat.le_refl _) (fun k h=>by cases h)
 have HO:=Lib.hid hown
 have HBL:=Lib.hid hb1
 clear hown hgr hb1 hz0 hz1 hz2 hi
 obtain⟨g,hg⟩:∃g,g=w.heap.size:=⟨_,rfl⟩
 rw[←hg]
 rw[←hg]at HO HBL
 have HG:=Lib.hid hg
 clear hg
 go_wp2
 go_loopw [13] (fun i wr=>∃k:Nat,k≤s.size∧i=.int .i64 k∧(∀j,j<k→isv (chr s j)=true)∧Below g w wr∧
  wr.ownsRow g 77 1 (.slice (some ⟨g,0,none⟩) s.size s.size) s.size (fillL (fun j=>.int .u8 (vof (chr s j))) (.int .u8 0) s.size k)) (fun i _=>s.size-(intOf i).toNat)
 case atStart=>exact⟨0,Nat.zero_le _,rfl,fun j hj=>absurd hj (by omega),HBL.out,HO.out⟩
 case round=>
  clear HO HBL
  obtain⟨k,hk,rfl,hall,hb,hown⟩:=hrel
  have HA:=Lib.hid hall
  have HB:=Lib.hid hb
  have HO:=Lib.hid hown
  clear hall hb hown
  by_cases hlt:k<s.size
  ·have HC:=Lib.hid (chr_at s k hlt)
   have ht:Hid (Cht wr):=Lib.hid (HT.out.below (by rw[←HG.out];exact HB.out))
   have hfz:wr.frozen? ⟨g,k,none⟩=false:=HO.out.frozenAt k
   have hcl:wr.cell? ⟨g,k,none⟩=some (.int .u8 0):=by
    rw[HO.out.cellAt k (by omega),fillL_get _ _ _ _ _ hlt,if_neg (by omega)]
   cases hv:isv (chr s k)
   ·go_wp2_with (go_at_call 130;refine (valueOf_ch _ _ ht.out).mono ?_;rintro e w' ⟨rfl,rfl⟩;rw[HC.out])
    go_ret2
    exact⟨by rw[←HG.out];exact HB.out,.inr ⟨⟨k,hlt,hv⟩,rfl⟩⟩
   ·go_wp2_with (go_at_call 130;refine (valueOf_ch _ _ ht.out).mono ?_;rintro e w' ⟨rfl,rfl⟩;rw[HC.out])
    go_roundw
    case rel=>
     refine⟨k+1,by omega,by go_num,fun j hj=>?_,HB.out.setCell (Nat.le_refl g) _,?_⟩
     ·by_cases hjk:j=k
      ·rw[hjk];exact hv
      ·exact HA.out j (by omega)
     ·have:=(HO.out.stored k (.int .u8 (vof (chr s k)))).1
      rw[fillL_set (fun j=>.int .u8 (vof (chr s j)))]at this
      exact this
    case measure=>simp[intOf];omega
  ·have hkn:k=s.size:=by omega
   subst hkn
   go_wp2
   go_ret2
   exact⟨by rw[←HG.out];exact HB.out,.inl ⟨HA.out,by rw[←HG.out];rfl,by rw[←HG.out];exact HO.out⟩⟩
def tch(v:Int):Int:=charsL.getD (cln v).toNat 0
set_option maxHeartbeats 1000000 in
theorem text_ch{w:World}{B:Nat}{s:Value}{l:List Int}(hB:B≤w.heap.size)(hs:Vs w B s l)(hsz:l.length≤1000)(hpos:∀k,k<l.length→0≤l.getD k 0)(ht:Cht w):
 Calls Tryz.prog 47 #[s] w fun e w'=>e=.returned (.string (strOfNums (l.map tch)))∧Below w.heap.size w w':=by
 obtain⟨b,o,c,hv,hm,hc⟩:=hs
 clear hm
 obtain⟨n,hn⟩:∃n,n=l.length:=⟨_,rfl⟩
 have key:∀A,(0<n→A=some ⟨b,o,none⟩)→s=.slice A n c→Calls Tryz.prog 47 #[s] w fun e w'=>e=.returned (.string (strOfNums (l.map tch)))∧Below w.heap.size w w':=by
  intro A hA hsA
  subst hsA
  obtain⟨y,HY⟩:=named (strOfNums (l.map tch))
  rw[←HY.out]
  obtain⟨i0,hi,hz0,hz1,hz2⟩:=info_parts info_byte
  rw[←hn]at hsz hpos hc
  have HA:=Lib.hid hA
  have HT:=Lib.hid ht
  have HC:=Lib.hid hc
  have HN:=Lib.hid hn
  have HP:=Lib.hid hpos
  have HB:=Lib.hid hB
  clear ht hc hn hpos hB hA hv
  go_enter Tryz.func47,Tryz.ntmps47
  go_wp2_with (at_make;refine wpList_make_full _ rfl _ _ 25 rfl w.heap.size 5 i0 (.int .u8 0) 1 Tryz.underlying25 hi hz0 hz1 .i64 .i64 _ _ n rfl rfl rfl rfl ?b2 ?b3 ?b4 ?_)
  case b2=>rw[hz2];omega
  case b3=>unfold maxLen;omega
  case b4=>exact Nat.le_refl _
  intro w1 hown hgr
  rw[fillL_start (fun j=>.int .u8 (tch (l.getD j 0)))]at hown
  have hb1:Below w.heap.size w w1:=(Below.refl _ _).grown hgr (Nat.le_refl _) (fun k h=>by cases h)
  obtain⟨g,hg⟩:∃g,g=w.heap.size:=⟨_,rfl⟩
  rw[←hg]at hown hb1
  rw[←hg]
  have HO:=Lib.hid hown
  have HBL:=Lib.hid hb1
  have HG:=Lib.hid hg
  clear hown hgr hb1 hz0 hz1 hz2 hi hg
  go_wp2
  go_loopw [11] (fun i wr=>∃k:Nat,k≤n∧i=.int .i64 k∧Below g w wr∧
   wr.ownsRow g 5 1 (.slice (some ⟨g,0,none⟩) n n) n (fillL (fun j=>.int .u8 (tch (l.getD j 0))) (.int .u8 0) n k)) (fun i _=>n-(intOf i).toNat)
  case atStart=>exact⟨0,Nat.zero_le _,rfl,HBL.out,HO.out⟩
  case round=>
   clear HO HBL
   obtain⟨k,hk,rfl,hb,hown⟩:=hrel
   have HBL:=Lib.hid hb
   have HO:=Lib.hid hown
   clear hb hown
   by_cases hlt:k<n
   ·obtain rfl:=HA.out (by omega)
    have ht:Cht wr:=HT.out.below (by rw[←HG.out];exact HBL.out)
    have hfz:wr.frozen? ⟨g,k,none⟩=false:=HO.out.frozenAt k
    have hcl:wr.cell? ⟨g,k,none⟩=some (.int .u8 0):=by
     rw[HO.out.cellAt k (by omega),fillL_get _ _ _ _ _ hlt,if_neg (by omega)]
    have hcv:wr.cell? ⟨b,o+k,none⟩=some (.int .u8 (l.getD k 0)):=
     (HBL.out.cell (p:=⟨b,o+k,none⟩) (by rw[HG.out];exact Nat.lt_of_lt_of_le (HC.out k hlt).1 HB.out)).trans (HC.out k hlt).2
    have hp:=cln_cases _ (HP.out k hlt)
    have HS:=Lib.hid (HO.out.stored k (.int .u8 (tch (l.getD k 0)))).1
    obtain⟨v,hv⟩:∃v,v=l.getD k 0:=⟨_,rfl⟩
    rw[←hv]at hcv hp HS
    have HV:=Lib.hid hv
    clear hv
    rcases hp with h|h|h|h
    all_goals
     obtain⟨q,HQ⟩:=named (tch v)
     rw[←HQ.out]at HS
     obtain rfl:q=_:=HQ.out.trans (by unfold tch;rw[h];first|done|rfl)
     have hch:=ht (cln v).toNat (by rw[h];decide)
     rw[h]at hch
     simp only[charsL,Int.toNat_zero,Int.toNat_one,Int.reduceToNat,List.getD_cons_zero,List.getD_cons_succ]at hch
     have HT':=Lib.hid ht
     clear ht
     go_wp2_with (go_at_call 94;refine (clean_any _ _).mono ?_;rintro e w' ⟨rfl,rfl⟩;rw[h])
     go_roundw
     case rel=>
      refine⟨k+1,by omega,by go_num,HBL.out.setCell (Nat.le_refl g) _,?_⟩
      have e:=fillL_set (fun j=>.int .u8 (tch (l.getD j 0))) (.int .u8 0) n k
      rw[←HV.out,←HQ.out]at e
      rw[←e];exact HS.out
     case measure=>simp[intOf];omega
   ·have hkn:k=n:=by omega
    subst hkn
    have hcv:=run_convert_bytes_arg (P:=Tryz.prog) wr 25 5 Tryz.underlying25 Tryz.underlying5 g 0 k k (l.map tch) (by rw[List.length_map,HN.out]) (fun i hi=>by
     rw[Nat.zero_add,HO.out.cellAt i (by omega),fillL_get _ _ _ _ _ hi,if_pos hi]
     rw[List.getD_eq_getElem?_getD,List.getD_eq_getElem?_getD,List.getElem?_map,List.getElem?_eq_getElem (by rw[←HN.out];exact hi)]
     rfl) 9 Tryz.underlying9
    rw[←HY.out]at hcv
    go_wp2
    go_ret
    exact⟨rfl,by rw[←HG.out];exact HBL.out⟩
 rcases hv with rfl| ⟨rfl,A,rfl⟩
 ·exact key _ (fun _=>rfl) (by rw[hn])
 ·exact key _ (fun h=>absurd h (by simp[hn])) (by rw[hn];rfl)
end Go.Proofs.YtemjmfpcopfdbaaGreatDoor.Ch
namespace Go.Proofs.YtemjmfpcopfdbaaGreatDoor
open Go.RowKit
def matB(l:List Int)(i:Nat):Bool:=((List.range l.length).all fun k=> !knw (l.getD k 0)||l.getD k 0==ibit i k)&&i>>>l.length==0
theorem mat_eq(l:List Int)(i:Nat):mat l i=matB l i:=by
 refine Bool.eq_iff_iff.2 ?_
 rw[mat_iff]
 unfold matB okA
 simp only[Bool.and_eq_true,List.all_eq_true,List.mem_range,Bool.or_eq_true,Bool.not_eq_true',beq_iff_eq]
 refine and_congr (forall_congr' fun k=>forall_congr' fun _=>?_) Iff.rfl
 cases knw (l.getD k 0)<;>simp
def txtW(ws:List (List Int))(k:Nat):ByteArray:=(List.range k).foldl (fun s i=>(s++strOfNums ((ws.getD i []).map Ch.tch))++ ⟨#[44]⟩) ⟨#[]⟩
theorem txtW_succ(ws:List (List Int))(k:Nat):txtW ws (k+1)=(txtW ws k++strOfNums ((ws.getD k []).map Ch.tch))++ ⟨#[44]⟩:=by
 unfold txtW
 rw[List.range_succ,List.foldl_append];rfl
def W4:List (List Int):=[[0,0],[0,1],[1,0],[1,1]]
def lkSB(ws:List (List Int))(ad:List Int)(n k:Nat):Bool×List Int:=(List.range k).foldl (fun s i=>if matB ad i=true then (true,if s.1=true then agL s.2 (bitsL (ws.getD i []) n) else bitsL (ws.getD i []) n) else s) (false,List.replicate n 2)
theorem lkS_eq(ws:List (List Int))(ad:List Int)(n k:Nat):lkS ws ad n k=lkSB ws ad n k:=by
 have h:(fun l i=>mat l i)=matB:=funext fun l=>funext fun i=>mat_eq l i
 unfold lkS lkSB lkStep
 simp only[mat_eq]
def stWB(ws:List (List Int))(ad dt:List Int)(en:Int)(j:Nat):List Int:=
 if en=0∨matB ad j=false then bitsL (ws.getD j []) (ws.getD j []).length
 else if certB en ad=true then bitsL dt (ws.getD j []).length
 else agL (bitsL (ws.getD j []) (ws.getD j []).length) (bitsL dt (ws.getD j []).length)
theorem stW_eq(ws:List (List Int))(ad dt:List Int)(en:Int)(j:Nat):stW ws ad dt en j=stWB ws ad dt en j:=by
 unfold stW stWB
 simp only[mat_eq]
theorem l9_k1:(lkS W4 [1,0] 2 4).2=[0,1]:=by rw[lkS_eq];decide
theorem l9_k2:(lkS W4 [2,0] 2 4).2=[0,2]:=by rw[lkS_eq];decide
theorem l9_k3:(lkS W4 [2,2] 2 4).2=[2,2]:=by rw[lkS_eq];decide
theorem l9_s1:(List.range 4).map (stW W4 [1,2] [1,1] 1)=[[0,0],[2,1],[1,0],[1,1]]:=by rw[show stW W4 _ _ _=stWB W4 _ _ _ from funext fun j=>stW_eq _ _ _ _ j];decide
theorem l9_s2:(List.range 4).map (stW W4 [1,0] [1,1] 1)=[[0,0],[1,1],[1,0],[1,1]]:=by rw[show stW W4 _ _ _=stWB W4 _ _ _ from funext fun j=>stW_eq _ _ _ _ j];decide
theorem l9_s3:(List.range 4).map (stW W4 [1,0] [1,1] 2)=[[0,0],[2,1],[1,0],[1,1]]:=by rw[show stW W4 _ _ _=stWB W4 _ _ _ from funext fun j=>stW_eq _ _ _ _ j];decide
theorem Ks.lgvs{w:World}{B:Nat}{v:Value}{l:List Int}(h:Ks w B v l):Lg.Vs w B v l:=by
 obtain⟨A,b,o,c,rfl,hA,-,hm,hc⟩:=h.opens
 refine⟨b,o,c,?_,hm,hc⟩
 by_cases h0:0<l.length
 ·rw[hA h0];exact .inl rfl
 ·have:l=[]:=List.eq_nil_of_length_eq_zero (by omega)
  exact .inr ⟨this,A,by rw[this];rfl⟩
theorem txtW_size(ws:List (List Int))(k:Nat)(h:∀j,j<k→(ws.getD j []).length≤1000):(txtW ws k).size≤k*1001:=by
 induction k with
 |zero=>exact Nat.le_refl _
 |succ k ih=>
  rw[txtW_succ,ByteArray.size_append,ByteArray.size_append,strOfNums_size,List.length_map]
  have h1:=ih fun j hj=>h j (by omega)
  have h2:=h k (by omega)
  have h3:(⟨#[44]⟩:ByteArray).size=1:=rfl
  omega
set_option maxRecDepth 100000 in
set_option maxHeartbeats 4000000 in
theorem textw_any(ws:List (List Int))(A:Option Addr)(m c:Nat)(w:World)(B:Nat)(hB:B≤w.heap.size)(hw:Wrds w B (.slice A m c) ws)(hm:m≤1000)(hl:∀k,k<m→(ws.getD k []).length≤1000∧∀y∈ws.getD k [],0≤y)(hT:Ch.Cht w):
 Calls Tryz.prog 14 #[.slice A m c] w fun e w'=>e=.returned (.string (txtW ws m))∧BelW w w':=by
 obtain⟨A',b,o,c',e,hA,-,-,hc⟩:=hw
 simp only[Value.slice.injEq]at e
 obtain⟨rfl,hml,rfl⟩:=e
 rw[←hml]at hA hc
 have HA:=Lib.hid hA
 have HC:Hid (∀k,k<m→∃A c n,∀W,BelW w W→W.cell? ⟨b,o+k,none⟩=some (.slice A n c)∧Calls Tryz.prog 47 #[.slice A n c] W fun e w'=>e=.returned (.string (strOfNums ((ws.getD k []).map Ch.tch)))∧Below W.heap.size W w'):=Lib.hid fun k hk=>by
  obtain⟨hb,A,c,h1,h2⟩:=hc k hk
  rw[Nat.mul_one]at h1
  refine⟨A,c,_,fun W h=>⟨(Below.cell h (p:=⟨b,o+k,none⟩) (Nat.lt_of_lt_of_le hb hB)).trans h1,?_⟩⟩
  have h3:Ks W W.heap.size (.slice A (ws.getD k []).length c) (ws.getD k []):=Arr.keep stays_u8 h2 (Nat.le_trans hB (Below.size h)) fun _ hp=>Below.cell h (Nat.lt_of_lt_of_le hp hB)
  exact Ch.text_ch (Nat.le_refl _) h3.lgvs (hl k hk).1 (fun j hj=>by
   rw[List.getD_eq_getElem?_getD,List.getElem?_eq_getElem hj]
   exact (hl k hk).2 _ (List.getElem_mem hj)) (hT.below h)
 have HS:=Lib.hid (fun k=>txtW_succ ws k)
 have hz:txtW ws 0=⟨#[]⟩:=rfl
 have HZ:=Lib.hid hz
 have HSZ:Hid (∀k,k≤m→(txtW ws k).size≤k*1001):=Lib.hid fun k hk=>txtW_size ws k fun j hj=>(hl j (by omega)).1
 have HTZ:Hid (∀k,k<m→(strOfNums ((ws.getD k []).map Ch.tch)).size≤1000):=Lib.hid fun k hk=>by rw[strOfNums_size,List.length_map];exact (hl k hk).1
 clear hA hc hl hT hml hz
 go_enter Tryz.func14,Tryz.ntmps14
 go_wp2
 go_loopw [3,4] (fun sv i wr=>∃k:Nat,k≤m∧i=.int .i64 k∧sv=.string (txtW ws k)∧BelW w wr) (fun _ i _=>m-(intOf i).toNat)
 case atStart=>exact⟨0,Nat.zero_le _,rfl,by rw[HZ.out],Below.refl _ _⟩
 case round=>
  obtain⟨k,hk,rfl,rfl,hb⟩:=hrel
  have HBR:=Lib.hid hb
  by_cases hlt:k<m
  ·obtain rfl:=HA.out (by omega)
   obtain⟨A2,c2,n2,hc2⟩:=HC.out k hlt
   have hk2:(k:Int)<(m:Int):=by omega
   obtain⟨x1,hcl⟩:=hc2 wr hb
   have HCL:=Lib.hid hcl
   have HSK:=Lib.hid (HS.out k)
   have hz1:=HSZ.out k hk
   have hz2:=HTZ.out k hlt
   obtain⟨s,HSS⟩:=named (txtW ws k)
   rw[←HSS.out]at HSK hz1 ⊢
   obtain⟨t,HTT⟩:=named (strOfNums ((ws.getD k []).map Ch.tch))
   rw[←HTT.out]at HSK HCL hz2
   have hz3:¬9223372036854775807<s.size+t.size:=by omega
   have hz4:¬9223372036854775807<s.size+t.size+1:=by omega
   clear hcl hc2 hb
   go_wp2_with (go_at_call 47;(with_reducible refine HCL.out.mono ?_);rintro e w4 ⟨rfl,hb4⟩;have HB4:Hid (BelW wr w4):=Lib.hid hb4;clear hb4)
   go_roundw
   case rel=>exact⟨k+1,by omega,by go_num,by rw[HSK.out],joinB HBR.out HB4.out⟩
   case measure=>simp[intOf];omega
  ·obtain rfl:m=k:=by omega
   go_wp2
   go_ret
   exact⟨rfl,HBR.out⟩
def vlsB(s:ByteArray):List Int:=(List.range s.size).map fun k=>Ch.vof (Ch.chr s k)
theorem vlsB_len(s:ByteArray):(vlsB s).length=s.size:=by simp[vlsB]
theorem vls_of{s:ByteArray}{w w':World}{e:Ending}(hall:∀k,k<s.size→Ch.isv (Ch.chr s k)=true)
 (h:((∀k,k<s.size→Ch.isv (Ch.chr s k)=true)∧e=.returned (.tuple #[.slice (some ⟨w.heap.size,0,none⟩) s.size s.size,.int .i64 0])∧w'.ownsRow w.heap.size 77 1 (.slice (some ⟨w.heap.size,0,none⟩) s.size s.size) s.size (Ch.fillL (fun j=>.int .u8 (Ch.vof (Ch.chr s j))) (.int .u8 0) s.size s.size))∨((∃k,k<s.size∧Ch.isv (Ch.chr s k)=false)∧e=.returned (.tuple #[.slice none 0 0,.int .i64 4]))):
 e=.returned (.tuple #[.slice (some ⟨w.heap.size,0,none⟩) s.size s.size,.int .i64 0])∧Hid (VRow w' w.heap.size (vlsB s)):=by
 rcases h with⟨-,he,ho⟩| ⟨⟨k,hk,h⟩,-⟩
 ·refine⟨he,Lib.hid (VRow.of (B:=w.heap.size) ?_ (vlsB_len s))⟩
  have e2:Ch.fillL (fun j=>.int .u8 (Ch.vof (Ch.chr s j))) (.int .u8 0) s.size s.size=(vlsB s).map (Value.int .u8):=by
   apply List.ext_getElem?
   intro j
   by_cases hj:j<s.size
   ·rw[Ch.fillL_get _ _ _ _ _ hj,if_pos hj];simp[vlsB,hj]
   ·rw[List.getElem?_eq_none (by simp[Ch.fillL_len];omega),List.getElem?_eq_none (by simp[vlsB_len];omega)]
  rw[←e2];exact ho
 ·rw[hall k hk]at h;cases h
theorem vls_any(s:ByteArray)(w:World)(hsz:s.size≤1000)(hT:Ch.Cht w)(hall:∀k,k<s.size→Ch.isv (Ch.chr s k)=true):
 Calls Tryz.prog 56 #[.string s] w fun e w'=>∃g,e=.returned (.slice (some ⟨g,0,none⟩) s.size s.size)∧VRow w' g (vlsB s)∧w.heap.size≤g∧BelW w w':=by
 have HP:=Lib.hid (Ch.parse_ch s w hsz hT)
 have HA:=Lib.hid hall
 obtain⟨n,HN⟩:=named s.size
 clear hall
 go_enter Tryz.func56,Tryz.ntmps56
 go_wp2_with (go_at_call 100;(with_reducible refine HP.out.mono ?_);rintro e w4 ⟨hb4,h4⟩;have HB4:Hid (BelW w w4):=Lib.hid hb4;clear hb4;obtain⟨rfl,ho⟩:e=.returned (.tuple #[.slice (some ⟨w.heap.size,0,none⟩) s.size s.size,.int .i64 0])∧Hid (VRow w4 w.heap.size (vlsB s)):=vls_of HA.out h4)
 go_ret
 exact⟨_,rfl,ho.out,Nat.le_refl _,HB4.out⟩
end Go.Proofs.YtemjmfpcopfdbaaGreatDoor
