/- The texts Ofg. -/
import Derived.Test.YtcbllelkgniogaaDoorM22
import Derived.Test.YtcbllelkgniogaaDoorM09
import Derived.Test.YtcbllelkgniogaaDoorM21
namespace Go.Proofs.YtcbllelkgniogaaDoor
open Go.RowKit
theorem isK_12(x:Int):isK [12] x=(x==12):=by simp[isK,anyP]
theorem Fr.low{w w':World}{B g:Nat}{t:TypeId}{cs:List Value}(h:Fr w g t cs)(hb:Below B w w')(hg:g<B):Fr w' g t cs:=by
 unfold Fr at*
 exact (hb.block g hg).trans h
theorem one_at{w:World}{b:Nat}{v:Value}(h:w.cell? ⟨b,0,none⟩=some v):∀(j:Nat) (u:Value),[v][j]? =some u→w.cell? ((⟨b,0,none⟩:Addr).add j)=some u:=by
 intro j u hj
 match j,hj with
 |0,hj=>
  simp at hj
  subst hj
  simpa [Addr.add]using h
theorem gate_app{w0 W w2:World}{z z1 q2:Nat}{T:TypeId}{cs1 cs2:List Value}{v':Value}(h1:Fr W z1 T cs1)(h2:Fr W q2 T cs2)(h0:BelW w0 W)(hgr:W.grownBy w2 (some z))(h01:w0.heap.size≤z)(hz1:z1≠z)(hz2:q2≠z)
 (hloc:v'.ownBlock=some z∨v'.ownBlock=some W.heap.size) (hs1:z1<W.heap.size) (hs2:q2<W.heap.size):Fr w2 z1 T cs1∧Fr w2 q2 T cs2∧BelW w0 w2∧v'.ownBlock≠some z1∧v'.ownBlock≠some q2:=by
 refine⟨?_,?_,?_,?_,?_⟩
 ·exact (hgr.block z1 hs1 (by simpa using hz1)).trans h1
 ·exact (hgr.block q2 hs2 (by simpa using hz2)).trans h2
 ·exact Below.grown h0 hgr (Below.size h0) (fun q hq=>by simp at hq;omega)
 ·rcases hloc with h|h<;>rw[h]<;>simp<;>omega
 ·rcases hloc with h|h<;>rw[h]<;>simp<;>omega
theorem stk_set{w:World}{base b j:Nat}{v:Value}{l:List Int}(h:w.ownsRow base 3 1 v l.length (l.map (Value.int .i64)))(hb:v.ownBlock≠some b)(u:Value):Stk (w.setCell ⟨b,j,none⟩ u) base v l:=
 World.ownsRow.kept h (grown_set w b j u) (.inr hb)
theorem Stk.set_other{w:World}{base b:Nat}{v:Value}{l:List Int}(h:Stk w base v l)(hb:v.ownBlock≠some b)(j:Nat)(u:Value):Stk (w.setCell ⟨b,j,none⟩ u) base v l:=
 World.ownsRow.kept h (grown_set w b j u) (.inr hb)
def GatePost(nd:Nd)(w:World)(e:Ending)(w':World):Prop:=
 (∃A cc,e=.returned (.agg #[.int .u8 nd.kind,.slice A nd.ins.length cc,.int .i64 nd.mem,.int .i64 nd.bit])∧Is w' w'.heap.size (.slice A nd.ins.length cc) nd.ins∧∀a:Addr,A=some a→w.heap.size≤a.block)∧Below w.heap.size w w'
set_option maxRecDepth 100000 in
set_option maxHeartbeats 8000000 in
theorem gate_any(bus:Bool)(g:Gx)(hg:Gok g)(nodes:List Nd)(a0 a1 a2 a3 a5 a6 a7 a8 a9 a10 a11:Value)(A0:Option Addr)(c0:Nat)(w:World)(B:Nat)(hB:B≤w.heap.size)
 (hn:Ns w B (.slice A0 nodes.length c0) nodes) (hlo:0<nodes.length) (hhi:nodes.length≤16):
 Calls Tryd.prog 31 #[.agg #[a0,a1,a2,a3,.bool bus,a5,a6,a7,a8,a9,a10,a11],.agg #[.int .u8 g.kind,.int .u8 g.i0,.int .u8 g.i1,.int .u8 g.i2],.slice A0 nodes.length c0] w (GatePost (gateN bus g nodes) w):=by
 obtain⟨A0',b,o,c0',e0,hA,hle0,-,hcell⟩:=id hn
 simp only[Value.slice.injEq,true_and]at e0
 obtain⟨rfl,rfl⟩:=e0
 obtain rfl:=hA hlo
 have HCE:=Lib.hid hcell
 obtain⟨⟨gk,g0,g1,g2⟩,HG⟩:∃y,Hid (y=g):=⟨g,Lib.hid rfl⟩
 obtain⟨⟨hk0,hk1⟩,⟨h00,h01⟩,⟨h10,h11⟩,⟨h20,h21⟩⟩:=hg
 rw[←HG.out]at hk0 hk1 h00 h01 h10 h11 h20 h21
 rw[←HG.out]
 clear hn hA hcell HG
 dsimp only at hk0 hk1 h00 h01 h10 h11 h20 h21 ⊢
 obtain⟨ka,hka,hkal⟩:=ix_lt g0 hlo
 obtain⟨kb,hkb,hkbl⟩:=ix_lt g1 hlo
 obtain⟨kd,hkd,hkdl⟩:=ix_lt g2 hlo
 obtain⟨n,HN⟩:=named nodes.length
 rw[←HN.out]at hle0 hlo hhi hka hkb hkd hkal hkbl hkdl
 rw[←HN.out]
 unfold ix at hka hkb hkd
 go_enter Tryd.func31,Tryd.ntmps31
 go_wp2
 obtain⟨W,HW⟩:=named (((w.alloc (.cells #[a0,a1,a2,a3,.bool bus,a5,a6,a7,a8,a9,a10,a11] 27)).alloc (.cells #[.int .u8 gk,.int .u8 g0,.int .u8 g1,.int .u8 g2] 82)).alloc (.cells #[.int .u8 0,.slice none 0 0,.int .i64 0,.int .i64 0] 53))
 have hz:W.heap.size=w.heap.size+1+1+1:=by rw[HW.out];simp
 have hbW:Below w.heap.size w W:=by rw[HW.out];exact (((Below.refl _ _).alloc (Nat.le_refl _) _).alloc (by simp) _).alloc (by simp;omega) _
 have hfx:Fr W w.heap.size 27 [a0,a1,a2,a3,.bool bus,a5,a6,a7,a8,a9,a10,a11]:=by rw[HW.out];exact ((Fr.made _ _ _ rfl).alloc _).alloc _
 have hfg:Fr W (w.heap.size+1) 82 [.int .u8 gk,.int .u8 g0,.int .u8 g1,.int .u8 g2]:=by rw[HW.out];exact (Fr.made _ _ _ (by simp)).alloc _
 have hfr:Fr W (w.heap.size+1+1) 53 [.int .u8 0,.slice none 0 0,.int .i64 0,.int .i64 0]:=by rw[HW.out];exact Fr.made _ _ _ (by simp)
 rw[←HW.out]
 have e0:=hfg.cell 0
 have e1:=hfg.cell 1
 have e2:=hfg.cell 2
 have e3:=hfg.cell 3
 simp only[List.getElem?_cons_zero,List.getElem?_cons_succ]at e0 e1 e2 e3
 have HZ:=Lib.hid hz
 have HBW:=Lib.hid hbW
 have HFX:=Lib.hid hfx
 have HFG:=Lib.hid hfg
 have HFR:=Lib.hid hfr
 clear hz hbW hfx hfg hfr HW
 go_quiet (fail)
 rw[hka,hkb,hkd]
 obtain⟨G,HGN⟩:=named (gateN bus ⟨gk,g0,g1,g2⟩ nodes)
 rw[←HGN.out]
 have HB1:Hid (Below w.heap.size w (W.drewN nq)):=Lib.hid (below_drewN HBW.out nq)
 have HGX:Hid (Fr (W.drewN nq) (w.heap.size+1) 82 [.int .u8 gk,.int .u8 g0,.int .u8 g1,.int .u8 g2]):=Lib.hid HFG.out
 have HXX:Hid (Fr (W.drewN nq) w.heap.size 27 [a0,a1,a2,a3,.bool bus,a5,a6,a7,a8,a9,a10,a11]):=Lib.hid HFX.out
 have HRX:Hid (Fr (W.drewN nq) (w.heap.size+1+1) 53 [.int .u8 0,.slice none 0 0,.int .i64 0,.int .i64 0]):=Lib.hid HFR.out
 have HZ1:Hid ((W.drewN nq).heap.size=w.heap.size+1+1+1):=Lib.hid HZ.out
 clear e0 e1 e2 e3
 generalize W.drewN nq=V at HB1 HGX HXX HRX HZ1 ⊢
 clear HBW HFX HFG HFR HZ
 go_wp2
 go_loopw [12,11] (fun i sv wr=>∃k:Nat,k≤n∧i=.int .i64 k∧Below (w.heap.size+1+1+1) V wr∧Stk wr (w.heap.size+1+1+1) sv (ofTo nodes [12] k)) (fun i _ _=>n-(intOf i).toNat)
 case atStart=>exact⟨0,Nat.zero_le _,rfl,Below.refl _ _,Stk.nil _ _⟩
 case round=>
  obtain⟨k,hk,rfl,hb,hst⟩:=hrel
  have hgz:w.heap.size+1+1+1≤wr.heap.size:=by have:=hb.size;have:=HZ1.out;omega
  obtain⟨A6,c6,rfl,hle6,hc6,hsh⟩:=hst.shape
  have hol:=ofTo_len nodes [12] k
  by_cases hlt:k<n
  ·obtain⟨hlb,s,h0,-⟩:=HCE.out k (by rw[←HN.out];exact hlt)
   have hsu:=ofTo_succ nodes [12] k
   have e0:wr.cell? ⟨b,o+k*4,none⟩=_:=(hb.cell (p:=⟨b,o+k*4,none⟩) (by show b<w.heap.size+1+1+1;omega)).trans ((HB1.out.cell (p:=⟨b,o+k*4,none⟩) (by show b<w.heap.size;omega)).trans h0)
   obtain⟨kd0,HKD⟩:=named (nodes.getD k default).kind
   rw[←HKD.out]at e0 hsu
   rw[isK_12]at hsu
   have HST:=Lib.hid hst
   have HB:=Lib.hid hb
   have HOL:=Lib.hid hol
   clear hst hb h0 hol
   obtain⟨L,HL⟩:=named (ofTo nodes [12] k)
   rw[←HL.out]at hsu HST HOL hle6 hsh
   rw[←HL.out]
   cases hv:kd0==12
   ·rw[hv]at hsu
    rw[if_neg (by decide),List.append_nil]at hsu
    have HSU:=Lib.hid hsu
    clear hsu hsh
    go_wp2
    go_roundw
    case rel=>
     refine⟨k+1,by omega,by go_num,HB.out,?_⟩
     rw[HSU.out];exact HST.out
    case measure=>simp[intOf];omega
   ·rw[hv]at hsu
    rw[if_pos rfl]at hsu
    have HSU:=Lib.hid hsu
    clear hsu hsh
    obtain⟨i1,hi1,hz0,hz1,hz2⟩:=info_parts info_int
    have HI:=Lib.hid (And.intro hi1 (And.intro hz0 (And.intro hz1 hz2)))
    clear hi1 hz0 hz1 hz2
    go_wp2_with (at_builtin;refine wpList_append_own_at _ rfl _ _ 37 rfl (w.heap.size+1+1+1) 3 i1 (.int .i64 0) 1 8 Tryd.underlying37 HI.out.1 HI.out.2.1 HI.out.2.2.1 HI.out.2.2.2 rfl (by decide) _ _ _ rfl (World.ownsRow.alloc HST.out _) ⟨wr.heap.size,0,none⟩ 1 1 [.int .i64 (k:Int)] rfl rfl (one_new _ _ _) (ints_oneCell .i64 [(k:Int)]) (by unfold maxLen;have:=HOL.out;omega) (by have:=HOL.out;omega) (by simp;omega) ?_;intro v' w2 hown' hgrow hnil hloc;have HF:=Lib.hid (push_own hgz HB.out HST.out hown' hgrow);clear hown' hgrow hnil hloc)
    go_roundw
    case rel=>
     refine⟨k+1,by omega,by go_num,HF.out.1,?_⟩
     rw[HSU.out];exact HF.out.2
    case measure=>simp[intOf];omega
  ·obtain rfl:n=k:=by omega
   have hr:=hst.all (by unfold maxLen;omega)
   have HR:=Lib.hid hr
   have HBR:=Lib.hid (HB1.out.trans (hb.mono (by omega)))
   have hfg:Fr wr (w.heap.size+1) 82 [.int .u8 gk,.int .u8 g0,.int .u8 g1,.int .u8 g2]:=HGX.out.low hb (by omega)
   have hfx:Fr wr w.heap.size 27 [a0,a1,a2,a3,.bool bus,a5,a6,a7,a8,a9,a10,a11]:=HXX.out.low hb (by omega)
   have hfr:Fr wr (w.heap.size+1+1) 53 [.int .u8 0,.slice none 0 0,.int .i64 0,.int .i64 0]:=HRX.out.low hb (by omega)
   have e0:=hfg.cell 0
   have e1:=hfg.cell 1
   have ex:=hfx.cell 4
   have r0:=hfr.cell 0
   have r1:=hfr.cell 1
   have r2:=hfr.cell 2
   have r3:=hfr.cell 3
   have f0:=hfr.frozen 0
   have f1:=hfr.frozen 1
   have f2:=hfr.frozen 2
   have f3:=hfr.frozen 3
   simp only[List.getElem?_cons_zero,List.getElem?_cons_succ]at e0 e1 ex r0 r1 r2 r3
   have HFR:=Lib.hid hfr
   clear hr hb hst hsh hle6 hfg hfx hfr
   obtain⟨m,HM⟩:=named (ofTo nodes [12] n).length
   rw[←HM.out]at HR
   rw[←HM.out]
   have HMT:Hid (m=(trisOf nodes).length):=Lib.hid (by unfold trisOf;rw[HM.out,HN.out])
   obtain⟨q2,HQ2⟩:=named (w.heap.size+1+1)
   rw[←HQ2.out]at r0 r1 r2 r3 f0 f1 f2 f3 HFR
   rw[←HQ2.out]
   have hl2:q2<wr.heap.size:=by have:=HQ2.out;omega
   have hn2:¬q2=wr.heap.size:=by omega
   obtain⟨q1,HQ1⟩:=named (w.heap.size+1)
   rw[←HQ1.out]at e0 e1
   rw[←HQ1.out]
   have hl1:q1<wr.heap.size:=by have:=HQ1.out;omega
   have hn1:¬q1=wr.heap.size:=by omega
   have hl0:w.heap.size<wr.heap.size:=by omega
   have hn0:¬w.heap.size=wr.heap.size:=by omega
   clear hgz HGX HXX HRX HZ1
   cases bus
   ·by_cases q6:gk%9<6
    ·by_cases q128:128≤gk
     ·obtain⟨i1,hi1,hz0,hz1,hz2⟩:=info_parts info_int
      have HI:=Lib.hid (And.intro hi1 (And.intro hz0 (And.intro hz1 hz2)))
      clear hi1 hz0 hz1 hz2
      obtain⟨W3,HW3⟩:=named (((wr.alloc (.cells #[.int .i64 (ka:Int),.int .i64 (kb:Int)] 3)).alloc (.cells #[.int .u8 (5+gk%9),.slice (some ⟨wr.heap.size,0,none⟩) 2 2,.int .i64 0,.int .i64 0] 53)).alloc (.cells #[.int .i64 (kd:Int)] 3))
      have hown:W3.ownsRow wr.heap.size 3 1 (.slice (some ⟨wr.heap.size,0,none⟩) 2 2) 2 [.int .i64 (ka:Int),.int .i64 (kb:Int)]:=by
       rw[HW3.out]
       exact World.ownsRow.alloc (World.ownsRow.alloc (World.ownsRow_lit wr #[.int .i64 (ka:Int),.int .i64 (kb:Int)] 2 (Nat.le_refl _) (by simp[maxLen]) (by simp)) _) _
      have hnv:Fr W3 (wr.heap.size+1) 53 [.int .u8 (5+gk%9),(.slice (some ⟨wr.heap.size,0,none⟩) 2 2),.int .i64 0,.int .i64 0]:=by
       rw[HW3.out];exact ((Fr.made _ _ _ (by simp)).alloc _)
      have hqv:Fr W3 q2 53 [.int .u8 0,.slice none 0 0,.int .i64 0,.int .i64 0]:=by
       rw[HW3.out];exact (((HFR.out.alloc _).alloc _).alloc _)
      have hwv:BelW w W3:=by
       rw[HW3.out];exact (((BelW.alloc HBR.out _).alloc _).alloc _)
      have hz3:W3.heap.size=wr.heap.size+1+1+1:=by rw[HW3.out];simp
      have hnz:W3.cell? ⟨wr.heap.size+1+1,0,none⟩=some (.int .i64 (kd:Int)):=by
       rw[HW3.out];show (World.alloc _ _).cell? _=_;rw[World.cell?_alloc_at _ _ _ _ (by simp)];rfl
      have HO:=Lib.hid hown
      have HNV:=Lib.hid hnv
      have HQV:=Lib.hid hqv
      have HWV:=Lib.hid hwv
      have HZ3:=Lib.hid hz3
      have HNZ:=Lib.hid hnz
      clear hown hnv hqv hwv hz3 hnz
      have hzq:¬q2=wr.heap.size+1:=by omega
      have hzq':¬wr.heap.size+1=q2:=by omega
      have HGG:Hid (gateN false ⟨gk,g0,g1,g2⟩ nodes=⟨5+gk%9,[(ka:Int),(kb:Int),(kd:Int)],0,0⟩):=Lib.hid (gateN_lt3 HN.out q6 q128 hka hkb hkd)
      go_wp2_with (at_builtin;rw[←HW3.out];refine wpList_append_own_at _ rfl _ _ 37 rfl wr.heap.size 3 i1 (.int .i64 0) 1 8 Tryd.underlying37 HI.out.1 HI.out.2.1 HI.out.2.2.1 HI.out.2.2.2 rfl (by decide) _ _ _ rfl HO.out ⟨wr.heap.size+1+1,0,none⟩ 1 1 [.int .i64 (kd:Int)] rfl rfl (fun j u hj=>one_at HNZ.out j u hj) (ints_oneCell .i64 [(kd:Int)]) (by unfold maxLen;omega) (by omega) (by have:=HZ3.out;omega) ?_;intro v' w2 hown' hgrow hnil hloc;obtain⟨A9,c9,hv9⟩:=own_form hown';subst hv9;obtain⟨k1,k2,k3,k4,k5⟩:=gate_app (w0:=w) (z:=wr.heap.size) (z1:=wr.heap.size+1) (q2:=q2) HNV.out HQV.out HWV.out hgrow (by omega) (by omega) (by omega) hloc (by have:=HZ3.out;omega) (by have:=HZ3.out;omega);have y0:=k1.cell 0;have y1:=k1.cell 1;have y2:=k1.cell 2;have y3:=k1.cell 3;have t1:=k1.frozen 1;have z0:=k2.cell 0;have z1:=k2.cell 1;have z2:=k2.cell 2;have z3:=k2.cell 3;have u0:=k2.frozen 0;have u1:=k2.frozen 1;have u2:=k2.frozen 2;have u3:=k2.frozen 3;simp only[List.getElem?_cons_zero,List.getElem?_cons_succ]at y0 y1 y2 y3 z0 z1 z2 z3;have HL:=Lib.hid (And.intro k2 (And.intro k3 (And.intro k4 (And.intro k5 hown'))));clear hown' hgrow hnil hloc k1 k2 k3 k4 k5)
      rw[HGG.out]
      have hq:=(HL.out.1.other (a:=⟨wr.heap.size+1,1,none⟩) hzq' (.slice A9 (2+1) c9)).set4 (.int .u8 (5+gk%9)) (.slice A9 (2+1) c9) (.int .i64 0) (.int .i64 0)
      have hi:Stk _ wr.heap.size (.slice A9 (2+1) c9) [(ka:Int),(kb:Int),(kd:Int)]:=((((stk_set HL.out.2.2.2.2 (j:=1) HL.out.2.2.1 (.slice A9 (2+1) c9)).set_other HL.out.2.2.2.1 0 (.int .u8 (5+gk%9))).set_other HL.out.2.2.2.1 1 (.slice A9 (2+1) c9)).set_other HL.out.2.2.2.1 2 (.int .i64 0)).set_other HL.out.2.2.2.1 3 (.int .i64 0)
      have hw:=BelW.set4 (BelW.set HL.out.2.1 (a:=⟨wr.heap.size+1,1,none⟩) (by show w.heap.size≤wr.heap.size+1;omega) (.slice A9 (2+1) c9)) (D:=q2) (by have:=HQ2.out;omega) (.int .u8 (5+gk%9)) (.slice A9 (2+1) c9) (.int .i64 0) (.int .i64 0)
      (try simp only[Exit.inBlock,Exit.then])
      refine bodyPost_ret (results_cell_row rfl _ _ _ _ _ _ _ rfl hq Tryd.underlying53 rfl (by kernel_rfl)) rfl ?_
      exact⟨⟨_,_,rfl,hi.all (by simp[maxLen]),fun a h=>by have:=(World.ownsRow.lt hi a.block (by rw[h];rfl)).1;omega⟩,hw⟩
     ·have HGG:Hid (gateN false ⟨gk,g0,g1,g2⟩ nodes=⟨5+gk%9,[(ka:Int),(kb:Int)],0,0⟩):=Lib.hid (gateN_lt HN.out q6 q128 hka hkb)
      go_wp2
      rw[HGG.out]
      have hq:=((HFR.out.set4 (.int .u8 (5+gk%9)) (.slice (some ⟨wr.heap.size,0,none⟩) 2 2) (.int .i64 0) (.int .i64 0)).alloc (.cells #[.int .i64 (ka:Int),.int .i64 (kb:Int)] 3)).alloc (.cells #[.int .u8 (5+gk%9),(.slice (some ⟨wr.heap.size,0,none⟩) 2 2),.int .i64 0,.int .i64 0] 53)
      have hi:=(Fr.made (w:=(((wr.setCell ⟨q2,0,none⟩ (.int .u8 (5+gk%9))).setCell ⟨q2,1,none⟩ (.slice (some ⟨wr.heap.size,0,none⟩) 2 2)).setCell ⟨q2,2,none⟩ (.int .i64 0)).setCell ⟨q2,3,none⟩ (.int .i64 0)) [.int .i64 (ka:Int),.int .i64 (kb:Int)] 3 (g:=wr.heap.size) (by simp)).alloc (.cells #[.int .u8 (5+gk%9),(.slice (some ⟨wr.heap.size,0,none⟩) 2 2),.int .i64 0,.int .i64 0] 53)
      have hw:=(BelW.set4 HBR.out (D:=q2) (by have:=HQ2.out;omega) (.int .u8 (5+gk%9)) (.slice (some ⟨wr.heap.size,0,none⟩) 2 2) (.int .i64 0) (.int .i64 0)).alloc (.cells #[.int .i64 (ka:Int),.int .i64 (kb:Int)] 3)
      (try simp only[Exit.inBlock,Exit.then])
      refine bodyPost_ret (results_cell_row rfl _ _ _ _ _ _ _ rfl hq Tryd.underlying53 rfl (by kernel_rfl)) rfl ?_
      exact⟨⟨_,_,rfl,is_of (l:=[(ka:Int),(kb:Int)]) _ hi (by simp[maxLen]) (by first|(simp;done)|(simp;omega)),fun a h=>by cases h;exact Nat.le_of_lt hl0⟩,BelW.alloc hw _⟩
    ·by_cases q7:gk%9=6
     ·have HGG:Hid (gateN false ⟨gk,g0,g1,g2⟩ nodes=⟨4,[(ka:Int)],0,0⟩):=Lib.hid (gateN_not HN.out q6 q7 hka)
      go_wp2
      rw[HGG.out]
      have hq:=((HFR.out.set4 (.int .u8 (4)) (.slice (some ⟨wr.heap.size,0,none⟩) 1 1) (.int .i64 0) (.int .i64 0)).alloc (.cells #[.int .i64 (ka:Int)] 3))
      have hi:=(Fr.made (w:=(((wr.setCell ⟨q2,0,none⟩ (.int .u8 (4))).setCell ⟨q2,1,none⟩ (.slice (some ⟨wr.heap.size,0,none⟩) 1 1)).setCell ⟨q2,2,none⟩ (.int .i64 0)).setCell ⟨q2,3,none⟩ (.int .i64 0)) [.int .i64 (ka:Int)] 3 (g:=wr.heap.size) (by simp))
      have hw:=(BelW.set4 HBR.out (D:=q2) (by have:=HQ2.out;omega) (.int .u8 (4)) (.slice (some ⟨wr.heap.size,0,none⟩) 1 1) (.int .i64 0) (.int .i64 0)).alloc (.cells #[.int .i64 (ka:Int)] 3)
      (try simp only[Exit.inBlock,Exit.then])
      refine bodyPost_ret (results_cell_row rfl _ _ _ _ _ _ _ rfl hq Tryd.underlying53 rfl (by kernel_rfl)) rfl ?_
      exact⟨⟨_,_,rfl,is_of (l:=[(ka:Int)]) _ hi (by simp[maxLen]) (by first|(simp;done)|(simp;omega)),fun a h=>by cases h;exact Nat.le_of_lt hl0⟩,hw⟩
     ·by_cases q8:gk%9=7
      ·have HGG:Hid (gateN false ⟨gk,g0,g1,g2⟩ nodes=⟨11,[(ka:Int),(kb:Int),(kd:Int)],0,0⟩):=Lib.hid (gateN_mux HN.out q6 q7 q8 hka hkb hkd)
       go_wp2
       rw[HGG.out]
       have hq:=((HFR.out.set4 (.int .u8 (11)) (.slice (some ⟨wr.heap.size,0,none⟩) 3 3) (.int .i64 0) (.int .i64 0)).alloc (.cells #[.int .i64 (ka:Int),.int .i64 (kb:Int),.int .i64 (kd:Int)] 3))
       have hi:=(Fr.made (w:=(((wr.setCell ⟨q2,0,none⟩ (.int .u8 (11))).setCell ⟨q2,1,none⟩ (.slice (some ⟨wr.heap.size,0,none⟩) 3 3)).setCell ⟨q2,2,none⟩ (.int .i64 0)).setCell ⟨q2,3,none⟩ (.int .i64 0)) [.int .i64 (ka:Int),.int .i64 (kb:Int),.int .i64 (kd:Int)] 3 (g:=wr.heap.size) (by simp))
       have hw:=(BelW.set4 HBR.out (D:=q2) (by have:=HQ2.out;omega) (.int .u8 (11)) (.slice (some ⟨wr.heap.size,0,none⟩) 3 3) (.int .i64 0) (.int .i64 0)).alloc (.cells #[.int .i64 (ka:Int),.int .i64 (kb:Int),.int .i64 (kd:Int)] 3)
       (try simp only[Exit.inBlock,Exit.then])
       refine bodyPost_ret (results_cell_row rfl _ _ _ _ _ _ _ rfl hq Tryd.underlying53 rfl (by kernel_rfl)) rfl ?_
       exact⟨⟨_,_,rfl,is_of (l:=[(ka:Int),(kb:Int),(kd:Int)]) _ hi (by simp[maxLen]) (by first|(simp;done)|(simp;omega)),fun a h=>by cases h;exact Nat.le_of_lt hl0⟩,hw⟩
      ·have q9a:¬gk%9=9:=by omega
       have q9b:¬gk%9=10:=by omega
       have q10:¬10<gk%9:=by omega
       have d9:decide (gk%9=9)=false:=decide_eq_false q9a
       have d10:decide (gk%9=10)=false:=decide_eq_false q9b
       have d9':(gk%9==9)=false:=by simpa using q9a
       have d10':(gk%9==10)=false:=by simpa using q9b
       by_cases q240:240<gk
       ·have HGG:Hid (gateN false ⟨gk,g0,g1,g2⟩ nodes=⟨1+g0%2,[],0,0⟩):=Lib.hid (gateN_const q6 q7 q8 q9a q9b (fun h=>q10 h.1) q240)
        go_wp2
        rw[HGG.out]
        have hq:=HFR.out.set4 (.int .u8 (1+g0%2)) (.slice none 0 0) (.int .i64 0) (.int .i64 0)
        have hw:=BelW.set4 HBR.out (D:=q2) (by have:=HQ2.out;omega) (.int .u8 (1+g0%2)) (.slice none 0 0) (.int .i64 0) (.int .i64 0)
        (try simp only[Exit.inBlock,Exit.then])
        refine bodyPost_ret (results_cell_row rfl _ _ _ _ _ _ _ rfl hq Tryd.underlying53 rfl (by kernel_rfl)) rfl ?_
        exact⟨⟨_,_,rfl,Arr.nil _ _ _ _ _,fun a h=>by cases h⟩,hw⟩
       ·have HGG:Hid (gateN false ⟨gk,g0,g1,g2⟩ nodes=⟨3,[(ka:Int)],0,0⟩):=Lib.hid (gateN_buf HN.out q6 q7 q8 q9a q9b (fun h=>q10 h.1) q240 hka)
        go_wp2
        rw[HGG.out]
        have hq:=((HFR.out.set4 (.int .u8 (3)) (.slice (some ⟨wr.heap.size,0,none⟩) 1 1) (.int .i64 0) (.int .i64 0)).alloc (.cells #[.int .i64 (ka:Int)] 3))
        have hi:=(Fr.made (w:=(((wr.setCell ⟨q2,0,none⟩ (.int .u8 (3))).setCell ⟨q2,1,none⟩ (.slice (some ⟨wr.heap.size,0,none⟩) 1 1)).setCell ⟨q2,2,none⟩ (.int .i64 0)).setCell ⟨q2,3,none⟩ (.int .i64 0)) [.int .i64 (ka:Int)] 3 (g:=wr.heap.size) (by simp))
        have hw:=(BelW.set4 HBR.out (D:=q2) (by have:=HQ2.out;omega) (.int .u8 (3)) (.slice (some ⟨wr.heap.size,0,none⟩) 1 1) (.int .i64 0) (.int .i64 0)).alloc (.cells #[.int .i64 (ka:Int)] 3)
        (try simp only[Exit.inBlock,Exit.then])
        refine bodyPost_ret (results_cell_row rfl _ _ _ _ _ _ _ rfl hq Tryd.underlying53 rfl (by kernel_rfl)) rfl ?_
        exact⟨⟨_,_,rfl,is_of (l:=[(ka:Int)]) _ hi (by simp[maxLen]) (by first|(simp;done)|(simp;omega)),fun a h=>by cases h;exact Nat.le_of_lt hl0⟩,hw⟩
   ·by_cases q6:gk%13<6
    ·by_cases q128:128≤gk
     ·obtain⟨i1,hi1,hz0,hz1,hz2⟩:=info_parts info_int
      have HI:=Lib.hid (And.intro hi1 (And.intro hz0 (And.intro hz1 hz2)))
      clear hi1 hz0 hz1 hz2
      obtain⟨W3,HW3⟩:=named (((wr.alloc (.cells #[.int .i64 (ka:Int),.int .i64 (kb:Int)] 3)).alloc (.cells #[.int .u8 (5+gk%13),.slice (some ⟨wr.heap.size,0,none⟩) 2 2,.int .i64 0,.int .i64 0] 53)).alloc (.cells #[.int .i64 (kd:Int)] 3))
      have hown:W3.ownsRow wr.heap.size 3 1 (.slice (some ⟨wr.heap.size,0,none⟩) 2 2) 2 [.int .i64 (ka:Int),.int .i64 (kb:Int)]:=by
       rw[HW3.out]
       exact World.ownsRow.alloc (World.ownsRow.alloc (World.ownsRow_lit wr #[.int .i64 (ka:Int),.int .i64 (kb:Int)] 2 (Nat.le_refl _) (by simp[maxLen]) (by simp)) _) _
      have hnv:Fr W3 (wr.heap.size+1) 53 [.int .u8 (5+gk%13),(.slice (some ⟨wr.heap.size,0,none⟩) 2 2),.int .i64 0,.int .i64 0]:=by
       rw[HW3.out];exact ((Fr.made _ _ _ (by simp)).alloc _)
      have hqv:Fr W3 q2 53 [.int .u8 0,.slice none 0 0,.int .i64 0,.int .i64 0]:=by
       rw[HW3.out];exact (((HFR.out.alloc _).alloc _).alloc _)
      have hwv:BelW w W3:=by
       rw[HW3.out];exact (((BelW.alloc HBR.out _).alloc _).alloc _)
      have hz3:W3.heap.size=wr.heap.size+1+1+1:=by rw[HW3.out];simp
      have hnz:W3.cell? ⟨wr.heap.size+1+1,0,none⟩=some (.int .i64 (kd:Int)):=by
       rw[HW3.out];show (World.alloc _ _).cell? _=_;rw[World.cell?_alloc_at _ _ _ _ (by simp)];rfl
      have HO:=Lib.hid hown
      have HNV:=Lib.hid hnv
      have HQV:=Lib.hid hqv
      have HWV:=Lib.hid hwv
      have HZ3:=Lib.hid hz3
      have HNZ:=Lib.hid hnz
      clear hown hnv hqv hwv hz3 hnz
      have hzq:¬q2=wr.heap.size+1:=by omega
      have hzq':¬wr.heap.size+1=q2:=by omega
      have HGG:Hid (gateN true ⟨gk,g0,g1,g2⟩ nodes=⟨5+gk%13,[(ka:Int),(kb:Int),(kd:Int)],0,0⟩):=Lib.hid (gateN_lt3 HN.out q6 q128 hka hkb hkd)
      go_wp2_with (at_builtin;rw[←HW3.out];refine wpList_append_own_at _ rfl _ _ 37 rfl wr.heap.size 3 i1 (.int .i64 0) 1 8 Tryd.underlying37 HI.out.1 HI.out.2.1 HI.out.2.2.1 HI.out.2.2.2 rfl (by decide) _ _ _ rfl HO.out ⟨wr.heap.size+1+1,0,none⟩ 1 1 [.int .i64 (kd:Int)] rfl rfl (fun j u hj=>one_at HNZ.out j u hj) (ints_oneCell .i64 [(kd:Int)]) (by unfold maxLen;omega) (by omega) (by have:=HZ3.out;omega) ?_;intro v' w2 hown' hgrow hnil hloc;obtain⟨A9,c9,hv9⟩:=own_form hown';subst hv9;obtain⟨k1,k2,k3,k4,k5⟩:=gate_app (w0:=w) (z:=wr.heap.size) (z1:=wr.heap.size+1) (q2:=q2) HNV.out HQV.out HWV.out hgrow (by omega) (by omega) (by omega) hloc (by have:=HZ3.out;omega) (by have:=HZ3.out;omega);have y0:=k1.cell 0;have y1:=k1.cell 1;have y2:=k1.cell 2;have y3:=k1.cell 3;have t1:=k1.frozen 1;have z0:=k2.cell 0;have z1:=k2.cell 1;have z2:=k2.cell 2;have z3:=k2.cell 3;have u0:=k2.frozen 0;have u1:=k2.frozen 1;have u2:=k2.frozen 2;have u3:=k2.frozen 3;simp only[List.getElem?_cons_zero,List.getElem?_cons_succ]at y0 y1 y2 y3 z0 z1 z2 z3;have HL:=Lib.hid (And.intro k2 (And.intro k3 (And.intro k4 (And.intro k5 hown'))));clear hown' hgrow hnil hloc k1 k2 k3 k4 k5)
      rw[HGG.out]
      have hq:=(HL.out.1.other (a:=⟨wr.heap.size+1,1,none⟩) hzq' (.slice A9 (2+1) c9)).set4 (.int .u8 (5+gk%13)) (.slice A9 (2+1) c9) (.int .i64 0) (.int .i64 0)
      have hi:Stk _ wr.heap.size (.slice A9 (2+1) c9) [(ka:Int),(kb:Int),(kd:Int)]:=((((stk_set HL.out.2.2.2.2 (j:=1) HL.out.2.2.1 (.slice A9 (2+1) c9)).set_other HL.out.2.2.2.1 0 (.int .u8 (5+gk%13))).set_other HL.out.2.2.2.1 1 (.slice A9 (2+1) c9)).set_other HL.out.2.2.2.1 2 (.int .i64 0)).set_other HL.out.2.2.2.1 3 (.int .i64 0)
      have hw:=BelW.set4 (BelW.set HL.out.2.1 (a:=⟨wr.heap.size+1,1,none⟩) (by show w.heap.size≤wr.heap.size+1;omega) (.slice A9 (2+1) c9)) (D:=q2) (by have:=HQ2.out;omega) (.int .u8 (5+gk%13)) (.slice A9 (2+1) c9) (.int .i64 0) (.int .i64 0)
      (try simp only[Exit.inBlock,Exit.then])
      refine bodyPost_ret (results_cell_row rfl _ _ _ _ _ _ _ rfl hq Tryd.underlying53 rfl (by kernel_rfl)) rfl ?_
      exact⟨⟨_,_,rfl,hi.all (by simp[maxLen]),fun a h=>by have:=(World.ownsRow.lt hi a.block (by rw[h];rfl)).1;omega⟩,hw⟩
     ·have HGG:Hid (gateN true ⟨gk,g0,g1,g2⟩ nodes=⟨5+gk%13,[(ka:Int),(kb:Int)],0,0⟩):=Lib.hid (gateN_lt HN.out q6 q128 hka hkb)
      go_wp2
      rw[HGG.out]
      have hq:=((HFR.out.set4 (.int .u8 (5+gk%13)) (.slice (some ⟨wr.heap.size,0,none⟩) 2 2) (.int .i64 0) (.int .i64 0)).alloc (.cells #[.int .i64 (ka:Int),.int .i64 (kb:Int)] 3)).alloc (.cells #[.int .u8 (5+gk%13),(.slice (some ⟨wr.heap.size,0,none⟩) 2 2),.int .i64 0,.int .i64 0] 53)
      have hi:=(Fr.made (w:=(((wr.setCell ⟨q2,0,none⟩ (.int .u8 (5+gk%13))).setCell ⟨q2,1,none⟩ (.slice (some ⟨wr.heap.size,0,none⟩) 2 2)).setCell ⟨q2,2,none⟩ (.int .i64 0)).setCell ⟨q2,3,none⟩ (.int .i64 0)) [.int .i64 (ka:Int),.int .i64 (kb:Int)] 3 (g:=wr.heap.size) (by simp)).alloc (.cells #[.int .u8 (5+gk%13),(.slice (some ⟨wr.heap.size,0,none⟩) 2 2),.int .i64 0,.int .i64 0] 53)
      have hw:=(BelW.set4 HBR.out (D:=q2) (by have:=HQ2.out;omega) (.int .u8 (5+gk%13)) (.slice (some ⟨wr.heap.size,0,none⟩) 2 2) (.int .i64 0) (.int .i64 0)).alloc (.cells #[.int .i64 (ka:Int),.int .i64 (kb:Int)] 3)
      (try simp only[Exit.inBlock,Exit.then])
      refine bodyPost_ret (results_cell_row rfl _ _ _ _ _ _ _ rfl hq Tryd.underlying53 rfl (by kernel_rfl)) rfl ?_
      exact⟨⟨_,_,rfl,is_of (l:=[(ka:Int),(kb:Int)]) _ hi (by simp[maxLen]) (by first|(simp;done)|(simp;omega)),fun a h=>by cases h;exact Nat.le_of_lt hl0⟩,BelW.alloc hw _⟩
    ·by_cases q7:gk%13=6
     ·have HGG:Hid (gateN true ⟨gk,g0,g1,g2⟩ nodes=⟨4,[(ka:Int)],0,0⟩):=Lib.hid (gateN_not HN.out q6 q7 hka)
      go_wp2
      rw[HGG.out]
      have hq:=((HFR.out.set4 (.int .u8 (4)) (.slice (some ⟨wr.heap.size,0,none⟩) 1 1) (.int .i64 0) (.int .i64 0)).alloc (.cells #[.int .i64 (ka:Int)] 3))
      have hi:=(Fr.made (w:=(((wr.setCell ⟨q2,0,none⟩ (.int .u8 (4))).setCell ⟨q2,1,none⟩ (.slice (some ⟨wr.heap.size,0,none⟩) 1 1)).setCell ⟨q2,2,none⟩ (.int .i64 0)).setCell ⟨q2,3,none⟩ (.int .i64 0)) [.int .i64 (ka:Int)] 3 (g:=wr.heap.size) (by simp))
      have hw:=(BelW.set4 HBR.out (D:=q2) (by have:=HQ2.out;omega) (.int .u8 (4)) (.slice (some ⟨wr.heap.size,0,none⟩) 1 1) (.int .i64 0) (.int .i64 0)).alloc (.cells #[.int .i64 (ka:Int)] 3)
      (try simp only[Exit.inBlock,Exit.then])
      refine bodyPost_ret (results_cell_row rfl _ _ _ _ _ _ _ rfl hq Tryd.underlying53 rfl (by kernel_rfl)) rfl ?_
      exact⟨⟨_,_,rfl,is_of (l:=[(ka:Int)]) _ hi (by simp[maxLen]) (by first|(simp;done)|(simp;omega)),fun a h=>by cases h;exact Nat.le_of_lt hl0⟩,hw⟩
     ·by_cases q8:gk%13=7
      ·have HGG:Hid (gateN true ⟨gk,g0,g1,g2⟩ nodes=⟨11,[(ka:Int),(kb:Int),(kd:Int)],0,0⟩):=Lib.hid (gateN_mux HN.out q6 q7 q8 hka hkb hkd)
       go_wp2
       rw[HGG.out]
       have hq:=((HFR.out.set4 (.int .u8 (11)) (.slice (some ⟨wr.heap.size,0,none⟩) 3 3) (.int .i64 0) (.int .i64 0)).alloc (.cells #[.int .i64 (ka:Int),.int .i64 (kb:Int),.int .i64 (kd:Int)] 3))
       have hi:=(Fr.made (w:=(((wr.setCell ⟨q2,0,none⟩ (.int .u8 (11))).setCell ⟨q2,1,none⟩ (.slice (some ⟨wr.heap.size,0,none⟩) 3 3)).setCell ⟨q2,2,none⟩ (.int .i64 0)).setCell ⟨q2,3,none⟩ (.int .i64 0)) [.int .i64 (ka:Int),.int .i64 (kb:Int),.int .i64 (kd:Int)] 3 (g:=wr.heap.size) (by simp))
       have hw:=(BelW.set4 HBR.out (D:=q2) (by have:=HQ2.out;omega) (.int .u8 (11)) (.slice (some ⟨wr.heap.size,0,none⟩) 3 3) (.int .i64 0) (.int .i64 0)).alloc (.cells #[.int .i64 (ka:Int),.int .i64 (kb:Int),.int .i64 (kd:Int)] 3)
       (try simp only[Exit.inBlock,Exit.then])
       refine bodyPost_ret (results_cell_row rfl _ _ _ _ _ _ _ rfl hq Tryd.underlying53 rfl (by kernel_rfl)) rfl ?_
       exact⟨⟨_,_,rfl,is_of (l:=[(ka:Int),(kb:Int),(kd:Int)]) _ hi (by simp[maxLen]) (by first|(simp;done)|(simp;omega)),fun a h=>by cases h;exact Nat.le_of_lt hl0⟩,hw⟩
      ·by_cases q9a:gk%13=9
       ·have HGG:Hid (gateN true ⟨gk,g0,g1,g2⟩ nodes=⟨12,[(ka:Int),(kb:Int)],0,0⟩):=Lib.hid (gateN_tri HN.out (.inl q9a) hka hkb)
        go_wp2
        rw[HGG.out]
        have hq:=((HFR.out.set4 (.int .u8 (12)) (.slice (some ⟨wr.heap.size,0,none⟩) 2 2) (.int .i64 0) (.int .i64 0)).alloc (.cells #[.int .i64 (ka:Int),.int .i64 (kb:Int)] 3))
        have hi:=(Fr.made (w:=(((wr.setCell ⟨q2,0,none⟩ (.int .u8 (12))).setCell ⟨q2,1,none⟩ (.slice (some ⟨wr.heap.size,0,none⟩) 2 2)).setCell ⟨q2,2,none⟩ (.int .i64 0)).setCell ⟨q2,3,none⟩ (.int .i64 0)) [.int .i64 (ka:Int),.int .i64 (kb:Int)] 3 (g:=wr.heap.size) (by simp))
        have hw:=(BelW.set4 HBR.out (D:=q2) (by have:=HQ2.out;omega) (.int .u8 (12)) (.slice (some ⟨wr.heap.size,0,none⟩) 2 2) (.int .i64 0) (.int .i64 0)).alloc (.cells #[.int .i64 (ka:Int),.int .i64 (kb:Int)] 3)
        (try simp only[Exit.inBlock,Exit.then])
        refine bodyPost_ret (results_cell_row rfl _ _ _ _ _ _ _ rfl hq Tryd.underlying53 rfl (by kernel_rfl)) rfl ?_
        exact⟨⟨_,_,rfl,is_of (l:=[(ka:Int),(kb:Int)]) _ hi (by simp[maxLen]) (by first|(simp;done)|(simp;omega)),fun a h=>by cases h;exact Nat.le_of_lt hl0⟩,hw⟩
       ·by_cases q9b:gk%13=10
        ·have HGG:Hid (gateN true ⟨gk,g0,g1,g2⟩ nodes=⟨12,[(ka:Int),(kb:Int)],0,0⟩):=Lib.hid (gateN_tri HN.out (.inr q9b) hka hkb)
         go_wp2
         rw[HGG.out]
         have hq:=((HFR.out.set4 (.int .u8 (12)) (.slice (some ⟨wr.heap.size,0,none⟩) 2 2) (.int .i64 0) (.int .i64 0)).alloc (.cells #[.int .i64 (ka:Int),.int .i64 (kb:Int)] 3))
         have hi:=(Fr.made (w:=(((wr.setCell ⟨q2,0,none⟩ (.int .u8 (12))).setCell ⟨q2,1,none⟩ (.slice (some ⟨wr.heap.size,0,none⟩) 2 2)).setCell ⟨q2,2,none⟩ (.int .i64 0)).setCell ⟨q2,3,none⟩ (.int .i64 0)) [.int .i64 (ka:Int),.int .i64 (kb:Int)] 3 (g:=wr.heap.size) (by simp))
         have hw:=(BelW.set4 HBR.out (D:=q2) (by have:=HQ2.out;omega) (.int .u8 (12)) (.slice (some ⟨wr.heap.size,0,none⟩) 2 2) (.int .i64 0) (.int .i64 0)).alloc (.cells #[.int .i64 (ka:Int),.int .i64 (kb:Int)] 3)
         (try simp only[Exit.inBlock,Exit.then])
         refine bodyPost_ret (results_cell_row rfl _ _ _ _ _ _ _ rfl hq Tryd.underlying53 rfl (by kernel_rfl)) rfl ?_
         exact⟨⟨_,_,rfl,is_of (l:=[(ka:Int),(kb:Int)]) _ hi (by simp[maxLen]) (by first|(simp;done)|(simp;omega)),fun a h=>by cases h;exact Nat.le_of_lt hl0⟩,hw⟩
        ·have d9:decide (gk%13=9)=false:=decide_eq_false q9a
         have d10:decide (gk%13=10)=false:=decide_eq_false q9b
         have d9':(gk%13==9)=false:=by simpa using q9a
         have d10':(gk%13==10)=false:=by simpa using q9b
         by_cases q10:10<gk%13
         ·by_cases qm:0<m
          ·obtain⟨kt,hkt,hktl⟩:=ix_lt g0 qm
           unfold ix at hkt
           obtain⟨At,bt,ot,ct,et,hAt,hlet,hmt,hct⟩:=HR.out.opens
           simp only[Value.slice.injEq]at et
           obtain⟨rfl,et1,rfl⟩:=et
           obtain rfl:=hAt (by omega)
           have hlet':m≤c6:=by omega
           obtain⟨hbt,hx⟩:=hct kt (by omega)
           have HCT:=Lib.hid hct
           clear hct hAt hlet hmt
           obtain⟨x,HX⟩:=named ((ofTo nodes [12] n).getD kt 0)
           rw[←HX.out]at hx
           have hbtn:¬bt=wr.heap.size:=by omega
           have HXT:Hid (x=(trisOf nodes).getD kt 0):=Lib.hid (by unfold trisOf;rw[HX.out,HN.out])
           clear et1
           by_cases qn1:1<m
           ·obtain⟨kt2,hkt2,hktl2⟩:=ix_lt ((kt:Int)+1) qm
            unfold ix at hkt2
            obtain⟨-,hy⟩:=HCT.out kt2 (by have:=HM.out;omega)
            obtain⟨y,HY⟩:=named ((ofTo nodes [12] n).getD kt2 0)
            rw[←HY.out]at hy
            have HYT:Hid (y=(trisOf nodes).getD kt2 0):=Lib.hid (by unfold trisOf;rw[HY.out,HN.out])
            have hbtn2:¬bt=wr.heap.size+1:=by omega
            have hm0':¬m=0:=by omega
            have hm16:m≤16:=by
             have h1:=ofTo_len nodes [12] n
             have h2:=HM.out
             omega
            have hkt2l:kt2<m:=hktl2
            have htm:(IntKind.i64.wrap ((kt:Int)+1)).tmod (m:Int)=(kt2:Int):=by
             rw[show IntKind.i64.wrap ((kt:Int)+1)=(kt:Int)+1 from IntWalk.i64_in _ (by omega),Int.tmod_eq_emod_of_nonneg (by omega)];exact hkt2
            obtain⟨i1,hi1,hz0,hz1,hz2⟩:=info_parts info_int
            have HI:=Lib.hid (And.intro hi1 (And.intro hz0 (And.intro hz1 hz2)))
            clear hi1 hz0 hz1 hz2
            obtain⟨W3,HW3⟩:=named (((wr.alloc (.cells #[.int .i64 x] 3)).alloc (.cells #[.int .u8 (13),.slice (some ⟨wr.heap.size,0,none⟩) 1 1,.int .i64 0,.int .i64 0] 53)).alloc (.cells #[.int .i64 y] 3)).drew
            have hown:W3.ownsRow wr.heap.size 3 1 (.slice (some ⟨wr.heap.size,0,none⟩) 1 1) 1 [.int .i64 x]:=by
             rw[HW3.out]
             exact World.ownsRow.alloc (World.ownsRow.alloc (World.ownsRow_lit wr #[.int .i64 x] 1 (Nat.le_refl _) (by simp[maxLen]) (by simp)) _) _
            have hnv:Fr W3 (wr.heap.size+1) 53 [.int .u8 (13),(.slice (some ⟨wr.heap.size,0,none⟩) 1 1),.int .i64 0,.int .i64 0]:=by
             rw[HW3.out];exact ((Fr.made _ _ _ (by simp)).alloc _).drew
            have hqv:Fr W3 q2 53 [.int .u8 0,.slice none 0 0,.int .i64 0,.int .i64 0]:=by
             rw[HW3.out];exact (((HFR.out.alloc _).alloc _).alloc _).drew
            have hwv:BelW w W3:=by
             rw[HW3.out];exact (((BelW.alloc HBR.out _).alloc _).alloc _).drew
            have hz3:W3.heap.size=wr.heap.size+1+1+1:=by rw[HW3.out];simp
            have hnz:W3.cell? ⟨wr.heap.size+1+1,0,none⟩=some (.int .i64 y):=by
             rw[HW3.out];show (World.alloc _ _).cell? _=_;rw[World.cell?_alloc_at _ _ _ _ (by simp)];rfl
            have HO:=Lib.hid hown
            have HNV:=Lib.hid hnv
            have HQV:=Lib.hid hqv
            have HWV:=Lib.hid hwv
            have HZ3:=Lib.hid hz3
            have HNZ:=Lib.hid hnz
            clear hown hnv hqv hwv hz3 hnz
            have hzq:¬q2=wr.heap.size+1:=by omega
            have hzq':¬wr.heap.size+1=q2:=by omega
            have HGG:Hid (gateN true ⟨gk,g0,g1,g2⟩ nodes=⟨13,[x,y],0,0⟩):=Lib.hid (gateN_bus2 (bus:=true) (k:=gk) q10 HMT.out qn1 hkt hkt2 HXT.out HYT.out)
            go_wp2
            go_region_law ((refine step_append_lies _ rfl (.tmp 132) (.tmp 141) 37 rfl wr.heap.size 3 i1 (.int .i64 0) 1 8 Tryd.underlying37 HI.out.1 HI.out.2.1 HI.out.2.2.1 HI.out.2.2.2 rfl (by decide) (.slice (some ⟨wr.heap.size,0,none⟩) 1 1) 1 [.int .i64 x] (by simp[Act.eval,Act.put]) (by rw[HW3.out]at HO;exact HO.out) ⟨wr.heap.size+1+1,0,none⟩ 1 1 [.int .i64 y] (by simp[Act.eval,Act.put]) rfl (by rw[HW3.out]at HNZ;exact fun j u hj=>one_at HNZ.out j u hj) (ints_oneCell .i64 [y]) (by decide) (by unfold maxLen;omega) (by omega) (by rw[←HW3.out];have:=HZ3.out;omega) _ rfl ?_);intro g9 c9 w2 hown' hgrow hat hlt;rw[←HW3.out]at hgrow hat;have hloc:(Value.slice (some ⟨g9,0,none⟩) (1+1) c9).ownBlock=some wr.heap.size∨(Value.slice (some ⟨g9,0,none⟩) (1+1) c9).ownBlock=some W3.heap.size:=hat.imp (fun h=>h.symm) (fun h=>by rw[←h];rfl);obtain⟨k1,k2,k3,k4,k5⟩:=gate_app (w0:=w) (z:=wr.heap.size) (z1:=wr.heap.size+1) (q2:=q2) HNV.out HQV.out HWV.out hgrow (by omega) (by omega) (by omega) hloc (by have:=HZ3.out;omega) (by have:=HZ3.out;omega);have y0:=k1.cell 0;have y1:=k1.cell 1;have y2:=k1.cell 2;have y3:=k1.cell 3;have t1:=k1.frozen 1;have z0:=k2.cell 0;have z1:=k2.cell 1;have z2:=k2.cell 2;have z3:=k2.cell 3;have u0:=k2.frozen 0;have u1:=k2.frozen 1;have u2:=k2.frozen 2;have u3:=k2.frozen 3;simp only[List.getElem?_cons_zero,List.getElem?_cons_succ]at y0 y1 y2 y3 z0 z1 z2 z3;have HL:=Lib.hid (And.intro k2 (And.intro k3 (And.intro k4 (And.intro k5 hown'))));clear hown' hgrow hat hlt hloc k1 k2 k3 k4 k5)
            all_goals go_wp2
            all_goals rw[HGG.out]
            all_goals
             have hq:=(HL.out.1.other (a:=⟨wr.heap.size+1,1,none⟩) hzq' (.slice (some ⟨g9,0,none⟩) 2 c9)).set4 (.int .u8 (13)) (.slice (some ⟨g9,0,none⟩) 2 c9) (.int .i64 0) (.int .i64 0)
             have hi:Stk _ wr.heap.size (.slice (some ⟨g9,0,none⟩) 2 c9) [x,y]:=((((stk_set HL.out.2.2.2.2 (j:=1) HL.out.2.2.1 (.slice (some ⟨g9,0,none⟩) 2 c9)).set_other HL.out.2.2.2.1 0 (.int .u8 (13))).set_other HL.out.2.2.2.1 1 (.slice (some ⟨g9,0,none⟩) 2 c9)).set_other HL.out.2.2.2.1 2 (.int .i64 0)).set_other HL.out.2.2.2.1 3 (.int .i64 0)
             have hw:=BelW.set4 (BelW.set HL.out.2.1 (a:=⟨wr.heap.size+1,1,none⟩) (by show w.heap.size≤wr.heap.size+1;omega) (.slice (some ⟨g9,0,none⟩) 2 c9)) (D:=q2) (by have:=HQ2.out;omega) (.int .u8 (13)) (.slice (some ⟨g9,0,none⟩) 2 c9) (.int .i64 0) (.int .i64 0)
             (try simp only[Exit.inBlock,Exit.then])
             refine bodyPost_ret (results_cell_row rfl _ _ _ _ _ _ _ rfl hq Tryd.underlying53 rfl (by kernel_rfl)) rfl ?_
             exact⟨⟨_,_,rfl,hi.all (by simp[maxLen]),fun a h=>by cases h;have:=(World.ownsRow.lt hi g9 rfl).1;show w.heap.size≤g9;omega⟩,hw⟩
           ·have HGG:Hid (gateN true ⟨gk,g0,g1,g2⟩ nodes=⟨13,[x],0,0⟩):=Lib.hid (gateN_bus1 (bus:=true) (k:=gk) q10 HMT.out qm qn1 hkt HXT.out)
            go_wp2
            rw[HGG.out]
            have hq:=((HFR.out.set4 (.int .u8 (13)) (.slice (some ⟨wr.heap.size,0,none⟩) 1 1) (.int .i64 0) (.int .i64 0)).alloc (.cells #[.int .i64 x] 3)).alloc (.cells #[.int .u8 (13),(.slice (some ⟨wr.heap.size,0,none⟩) 1 1),.int .i64 0,.int .i64 0] 53)
            have hi:=(Fr.made (w:=(((wr.setCell ⟨q2,0,none⟩ (.int .u8 (13))).setCell ⟨q2,1,none⟩ (.slice (some ⟨wr.heap.size,0,none⟩) 1 1)).setCell ⟨q2,2,none⟩ (.int .i64 0)).setCell ⟨q2,3,none⟩ (.int .i64 0)) [.int .i64 x] 3 (g:=wr.heap.size) (by simp)).alloc (.cells #[.int .u8 (13),(.slice (some ⟨wr.heap.size,0,none⟩) 1 1),.int .i64 0,.int .i64 0] 53)
            have hw:=(BelW.set4 HBR.out (D:=q2) (by have:=HQ2.out;omega) (.int .u8 (13)) (.slice (some ⟨wr.heap.size,0,none⟩) 1 1) (.int .i64 0) (.int .i64 0)).alloc (.cells #[.int .i64 x] 3)
            (try simp only[Exit.inBlock,Exit.then])
            refine bodyPost_ret (results_cell_row rfl _ _ _ _ _ _ _ rfl hq Tryd.underlying53 rfl (by kernel_rfl)) rfl ?_
            exact⟨⟨_,_,rfl,is_of (l:=[x]) _ hi (by simp[maxLen]) (by first|(simp;done)|(simp;omega)),fun a h=>by cases h;exact Nat.le_of_lt hl0⟩,BelW.alloc hw _⟩
          ·by_cases q240:240<gk
           ·have HGG:Hid (gateN true ⟨gk,g0,g1,g2⟩ nodes=⟨1+g0%2,[],0,0⟩):=Lib.hid (gateN_const (show ¬gk%13<6 by omega) (show ¬gk%13=6 by omega) (show ¬gk%13=7 by omega) q9a q9b (fun h=>qm (by have:=HMT.out;have:=h.2;omega)) q240)
            go_wp2
            rw[HGG.out]
            have hq:=HFR.out.set4 (.int .u8 (1+g0%2)) (.slice none 0 0) (.int .i64 0) (.int .i64 0)
            have hw:=BelW.set4 HBR.out (D:=q2) (by have:=HQ2.out;omega) (.int .u8 (1+g0%2)) (.slice none 0 0) (.int .i64 0) (.int .i64 0)
            (try simp only[Exit.inBlock,Exit.then])
            refine bodyPost_ret (results_cell_row rfl _ _ _ _ _ _ _ rfl hq Tryd.underlying53 rfl (by kernel_rfl)) rfl ?_
            exact⟨⟨_,_,rfl,Arr.nil _ _ _ _ _,fun a h=>by cases h⟩,hw⟩
           ·have HGG:Hid (gateN true ⟨gk,g0,g1,g2⟩ nodes=⟨3,[(ka:Int)],0,0⟩):=Lib.hid (gateN_buf HN.out (show ¬gk%13<6 by omega) (show ¬gk%13=6 by omega) (show ¬gk%13=7 by omega) q9a q9b (fun h=>qm (by have:=HMT.out;have:=h.2;omega)) q240 hka)
            go_wp2
            rw[HGG.out]
            have hq:=((HFR.out.set4 (.int .u8 (3)) (.slice (some ⟨wr.heap.size,0,none⟩) 1 1) (.int .i64 0) (.int .i64 0)).alloc (.cells #[.int .i64 (ka:Int)] 3))
            have hi:=(Fr.made (w:=(((wr.setCell ⟨q2,0,none⟩ (.int .u8 (3))).setCell ⟨q2,1,none⟩ (.slice (some ⟨wr.heap.size,0,none⟩) 1 1)).setCell ⟨q2,2,none⟩ (.int .i64 0)).setCell ⟨q2,3,none⟩ (.int .i64 0)) [.int .i64 (ka:Int)] 3 (g:=wr.heap.size) (by simp))
            have hw:=(BelW.set4 HBR.out (D:=q2) (by have:=HQ2.out;omega) (.int .u8 (3)) (.slice (some ⟨wr.heap.size,0,none⟩) 1 1) (.int .i64 0) (.int .i64 0)).alloc (.cells #[.int .i64 (ka:Int)] 3)
            (try simp only[Exit.inBlock,Exit.then])
            refine bodyPost_ret (results_cell_row rfl _ _ _ _ _ _ _ rfl hq Tryd.underlying53 rfl (by kernel_rfl)) rfl ?_
            exact⟨⟨_,_,rfl,is_of (l:=[(ka:Int)]) _ hi (by simp[maxLen]) (by first|(simp;done)|(simp;omega)),fun a h=>by cases h;exact Nat.le_of_lt hl0⟩,hw⟩
         ·by_cases q240:240<gk
          ·have HGG:Hid (gateN true ⟨gk,g0,g1,g2⟩ nodes=⟨1+g0%2,[],0,0⟩):=Lib.hid (gateN_const q6 q7 q8 q9a q9b (fun h=>q10 h.1) q240)
           go_wp2
           rw[HGG.out]
           have hq:=HFR.out.set4 (.int .u8 (1+g0%2)) (.slice none 0 0) (.int .i64 0) (.int .i64 0)
           have hw:=BelW.set4 HBR.out (D:=q2) (by have:=HQ2.out;omega) (.int .u8 (1+g0%2)) (.slice none 0 0) (.int .i64 0) (.int .i64 0)
           (try simp only[Exit.inBlock,Exit.then])
           refine bodyPost_ret (results_cell_row rfl _ _ _ _ _ _ _ rfl hq Tryd.underlying53 rfl (by kernel_rfl)) rfl ?_
           exact⟨⟨_,_,rfl,Arr.nil _ _ _ _ _,fun a h=>by cases h⟩,hw⟩
          ·have HGG:Hid (gateN true ⟨gk,g0,g1,g2⟩ nodes=⟨3,[(ka:Int)],0,0⟩):=Lib.hid (gateN_buf HN.out q6 q7 q8 q9a q9b (fun h=>q10 h.1) q240 hka)
           go_wp2
           rw[HGG.out]
           have hq:=((HFR.out.set4 (.int .u8 (3)) (.slice (some ⟨wr.heap.size,0,none⟩) 1 1) (.int .i64 0) (.int .i64 0)).alloc (.cells #[.int .i64 (ka:Int)] 3))
           have hi:=(Fr.made (w:=(((wr.setCell ⟨q2,0,none⟩ (.int .u8 (3))).setCell ⟨q2,1,none⟩ (.slice (some ⟨wr.heap.size,0,none⟩) 1 1)).setCell ⟨q2,2,none⟩ (.int .i64 0)).setCell ⟨q2,3,none⟩ (.int .i64 0)) [.int .i64 (ka:Int)] 3 (g:=wr.heap.size) (by simp))
           have hw:=(BelW.set4 HBR.out (D:=q2) (by have:=HQ2.out;omega) (.int .u8 (3)) (.slice (some ⟨wr.heap.size,0,none⟩) 1 1) (.int .i64 0) (.int .i64 0)).alloc (.cells #[.int .i64 (ka:Int)] 3)
           (try simp only[Exit.inBlock,Exit.then])
           refine bodyPost_ret (results_cell_row rfl _ _ _ _ _ _ _ rfl hq Tryd.underlying53 rfl (by kernel_rfl)) rfl ?_
           exact⟨⟨_,_,rfl,is_of (l:=[(ka:Int)]) _ hi (by simp[maxLen]) (by first|(simp;done)|(simp;omega)),fun a h=>by cases h;exact Nat.le_of_lt hl0⟩,hw⟩
end Go.Proofs.YtcbllelkgniogaaDoor
