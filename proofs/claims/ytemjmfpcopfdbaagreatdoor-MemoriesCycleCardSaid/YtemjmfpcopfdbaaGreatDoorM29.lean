/- The texts LgCnt LgApp LgAppp LgAnx. -/
import Derived.Test.YtemjmfpcopfdbaaGreatDoorM27
import Derived.Test.YtemjmfpcopfdbaaGreatDoorM28
import Derived.Lib.SmallJoins
import Derived.ChangeKeysEq
import Derived.Laws.StructEq
namespace Go.Proofs.YtemjmfpcopfdbaaGreatDoor.Lg
open Go.RowKit
theorem info_three:(Tryz.prog.info? 193).map (fun i=>(i.zero,i.size,i.bytes))=some (some (.agg #[.int .i64 0,.int .i64 0,.int .i64 0]),3,24):=by kernel_rfl
theorem info_int:(Tryz.prog.info? 3).map (fun i=>(i.zero,i.size,i.bytes))=some (some (.int .i64 0),1,8):=by kernel_rfl
theorem eq_three(a b c d e f:Int)(w:World):(binOp .eql 193 (.agg #[.int .i64 a,.int .i64 b,.int .i64 c]) (.agg #[.int .i64 d,.int .i64 e,.int .i64 f])).run Tryz.prog w=.ok (.bool (a==d&&(b==e&&c==f))) w:=by
 obtain⟨i,hi,-⟩:=info_parts info_int
 have hp: Tryz.prog.plainKey 3=true:=by kernel_rfl
 rw[run_eql_struct,run_equalIn_array _ 9999 _ _ Tryz.underlying193 hi,show Tryz.prog.cellsOf 3=1 by kernel_rfl]
 have p0:∀(x y z:Int) (w:World),(part 3 #[Value.int .i64 x,.int .i64 y,.int .i64 z] 0).run Tryz.prog w=.ok (.int .i64 x) w:=fun x y z w=>run_part_plain _ hp rfl
 have p1:∀(x y z:Int) (w:World),(part 3 #[Value.int .i64 x,.int .i64 y,.int .i64 z] 1).run Tryz.prog w=.ok (.int .i64 y) w:=fun x y z w=>run_part_plain _ hp rfl
 have p2:∀(x y z:Int) (w:World),(part 3 #[Value.int .i64 x,.int .i64 y,.int .i64 z] 2).run Tryz.prog w=.ok (.int .i64 z) w:=fun x y z w=>run_part_plain _ hp rfl
 have q0:∀(x y:Int) (w:World),(Op.equalIn 9999 3 (.int .i64 x) (.int .i64 y)).run Tryz.prog w=.ok (x==y) w:=fun x y w=>run_equalIn_int w 9998 _ _ _ x y Tryz.underlying3
 rw[show List.range 3=[0,1,2] from rfl]
 simp only[Op.eqItems,Sem.run_bind,Nat.mul_one,p0,q0,Result.andThen_ok]
 cases h1:(a==d)<;>cases h2:(b==e)<;>cases h3:(c==f)<;>simp[Sem.run_bind,p1,p2,q0,h2,h3,Sem.run_pure]
theorem own_slice{w:World}{base:Nat}{e:TypeId}{size n:Nat}{v:Value}{xs:List Value}(h:w.ownsRow base e size v n xs):∃A c,v=.slice A n c:=by
 rcases h.2 with⟨rfl,rfl⟩| ⟨g,cap,cur,rfl,-⟩
 ·exact⟨_,_,rfl⟩
 ·exact⟨_,_,rfl⟩
theorem comp_get(S:List T3)(j e:Nat)(h:j<S.length)(he:e<3):(flatT S)[j*3+e]? =some (.int .i64 (comp (S.getD j T3.zero) e)):=by
 have hg:=flatT_get S j h
 rcases (by omega:e=0∨e=1∨e=2) with rfl|rfl|rfl
 ·exact hg.1
 ·exact hg.2.1
 ·exact hg.2.2
theorem own_keep{w w':World}{base:Nat}{e:TypeId}{size n:Nat}{v:Value}{xs:List Value}(h:w.ownsRow base e size v n xs)(hb:Below w.heap.size w w'):w'.ownsRow base e size v n xs:=by
 refine⟨h.1,?_⟩
 rcases h.2 with h| ⟨g,cap,cur,hv,hbg,hg,rest⟩
 ·exact .inl h
 ·refine .inr ⟨g,cap,cur,hv,hbg,?_,rest⟩
  rw[hb.block g ?_]
  ·exact hg
  ·rcases Nat.lt_or_ge g w.heap.size with h|h
   ·exact h
   ·rw[Array.getElem?_eq_none h]at hg;cases hg
theorem own_trans{gx gl:Nat}{X Y w:World}(h1:Own gx X Y)(h2:Own gl Y w)(hg:gl=Y.heap.size):Own gx X w:=
 ⟨h1.below.trans (h2.below.mono (by rw[hg];exact h1.size)),Nat.le_trans h1.size (by rw[hg]at h2;exact h2.size)⟩
def outC(q:Int)(S:List T3)(j:Nat):List Value:=((S.take j).map (fnT q)).map (Value.int .i64)
theorem outC_succ(q:Int)(S:List T3)(j:Nat)(h:j<S.length):outC q S (j+1)=outC q S j++[.int .i64 (fnT q (S.getD j T3.zero))]:=by
 unfold outC
 rw[List.take_succ_eq_append_getElem h,List.map_append,List.map_append,List.getD_eq_getElem?_getD,List.getElem?_eq_getElem h];rfl
def CntPost(q:Int)(l:List Int)(w:World)(e:Ending)(w':World):Prop:=
 ∃gv cv,e=.returned (.slice (some ⟨gv,0,none⟩) (cS l (q==13)).length cv)∧Below w.heap.size w w'∧Vi w' w'.heap.size (.slice (some ⟨gv,0,none⟩) (cS l (q==13)).length cv) ((cS l (q==13)).map (fnT q))
def Counts(q:Int):Prop:=q=5∨q=6∨q=7∨q=8∨q=9∨q=10∨q=13
theorem fun_cnt(q:Int)(hq:Counts q)(l:List Int)(s:Value)(w:World)(B:Nat)(hs:Vi w B s l)(hlen:l.length≤1000):
 Calls Tryz.prog 159 #[.int .u8 q,s] w fun e w'=>e=.returned (.int .i64 (fn q l))∧w=w':=by
 obtain⟨A,n,c,hv⟩:∃A n c,s=.slice A n c:=by
  obtain⟨b,o,c,h1,-⟩:=hs
  rcases h1 with h1| ⟨-,A,h1⟩
  ·exact⟨_,_,_,h1⟩
  ·exact⟨_,_,_,h1⟩
 rcases hq with rfl|rfl|rfl|rfl|rfl|rfl|rfl
 ·exact fun_k5 l s n c A hv w B hs hlen
 ·exact fun_k6 l s n c A hv w B hs hlen
 ·exact fun_k7 l s n c A hv w B hs hlen
 ·exact fun_k8 l s n c A hv w B hs hlen
 ·exact fun_k9 l s n c A hv w B hs hlen
 ·exact fun_k10 l s n c A hv w B hs hlen
 ·exact fun_k13 l s n c A hv w B hs hlen
theorem own_join{g gx:Nat}{w wo w1 wr:World}{o:Obj}(h1:Own g w wo)(h2:Own gx w1 wr)(hw:w1=wo.alloc o)(hg:gx=w1.heap.size):Own g w wr:=by
 have h3:Own g w w1:=by rw[hw];exact h1.alloc o
 have hgx:g≤gx:=by rw[hg];exact h3.size
 exact⟨h3.below.trans (h2.below.mono hgx),Nat.le_trans hgx h2.size⟩
theorem three_new(w:World)(u:T3)(o:Obj)(t:TypeId):∀(j:Nat) (v:Value),(cellsT u)[j]? =some v→((w.alloc o).alloc (.cells #[.int .i64 (u.a:Nat),.int .i64 (u.b:Nat),.int .i64 (u.c:Nat)] t)).cell? ((⟨w.heap.size+1,0,none⟩:Addr).add j)=some v:=by
 intro j v hj
 rw[add_flat,Nat.zero_add,World.cell?_alloc_at _ _ _ _ (by simp),←Array.getElem?_toList]
 exact hj
theorem own_drewN{w:World}{base:Nat}{e:TypeId}{size n:Nat}{v:Value}{xs:List Value}(h:w.ownsRow base e size v n xs)(k:Nat):(w.drewN k).ownsRow base e size v n xs:=h
theorem own_drewN'{g:Nat}{w w':World}(h:Own g w w')(k:Nat):Own g w (w'.drewN k):=⟨below_drewN h.below k,h.size⟩
theorem any_take(l:List T3)(p:T3→Bool)(k:Nat)(h:k<l.length):(l.take (k+1)).any p=((l.take k).any p||p (l.getD k T3.zero)):=by
 rw[List.take_succ_eq_append_getElem h,List.any_append,List.getD_eq_getElem?_getD,List.getElem?_eq_getElem h]
 simp
set_option maxHeartbeats 4000000 in
set_option maxRecDepth 100000 in
theorem counted_any(q:Int)(l:List Int)(s:Value)(n c b o:Nat)(A:Option Addr)(hv:s=.slice A n c)(hA:0<n→A=some ⟨b,o,none⟩)(w:World)(hn:n=l.length)(h7:n≤7)(hq:Counts q)
 (hc:∀k,k<n→b<w.heap.size∧w.cell? ⟨b,o+k,none⟩=some (.int .u8 (l.getD k 0))):
 Calls Tryz.prog 147 #[.int .u8 q,s] w (CntPost q l w):=by
 obtain⟨i3,hi,hz0,hz1,hz2⟩:=info_parts info_three
 have HA:=Lib.hid hA
 have HC:=Lib.hid hc
 have HN:=Lib.hid hn
 have HQ:=Lib.hid hq
 have HI:=Lib.hid hi
 have HZ0:=Lib.hid hz0
 have HZ1:=Lib.hid hz1
 have HZ2:=Lib.hid hz2
 obtain⟨ii,hji,hy0,hy1,hy2⟩:=info_parts info_int
 have HJ:=Lib.hid hji
 have HY0:=Lib.hid hy0
 have HY1:=Lib.hid hy1
 have HY2:=Lib.hid hy2
 clear hji hy0 hy1 hy2
 obtain⟨bus,HB⟩:=named (q==13)
 have hbus:(q==13)=bus:=HB.out.symm
 obtain⟨g,hg⟩:∃g,g=w.heap.size:=⟨_,rfl⟩
 have HG:=Lib.hid hg
 clear hn hc hA hi hz0 hz1 hz2 hg hq
 subst hv
 go_enter Tryz.func147,Tryz.ntmps147
 go_wp2_with fail
 go_loopw [5,6] (fun v i wr=>∃k:Nat,k≤n∧i=.int .i64 k∧Own g w wr∧wr.ownsRow g 193 3 v (cS (l.take k) bus).length (flatT (cS (l.take k) bus))) (fun _ i _=>n-(intOf i).toNat)
 case atStart=>
  refine⟨0,Nat.zero_le _,rfl,⟨(Below.refl _ _).alloc (by rw[HG.out];exact Nat.le_refl _) _,by rw[HG.out];simp⟩,?_⟩
  refine⟨flatT_len _,.inr ⟨w.heap.size,1,#[.int .i64 0,.int .i64 0,.int .i64 0],rfl,by rw[HG.out];exact Nat.le_refl _,heap_alloc_new w _,Nat.le_refl _,by unfold maxLen;omega,rfl,rfl⟩⟩
 case round=>
  obtain⟨k,hk,rfl,hown0,hown⟩:=hrel
  have HX:=Lib.hid hown0
  have HO:=Lib.hid hown
  clear hown0 hown
  by_cases hlt:k<n
  ·obtain rfl:=HA.out (by omega)
   have hcl:wr.cell? ⟨b,o+k,none⟩=some (.int .u8 (l.getD k 0)):=
    (HX.out.below.cell (p:=⟨b,o+k,none⟩) (by rw[HG.out];exact (HC.out k hlt).1)).trans (HC.out k hlt).2
   have HS:=Lib.hid (fold_take (fun S v=>midS S (chc v bus)) [T3.zero] 0 l k (by rw[←HN.out];exact hlt))
   obtain⟨x,HXV⟩:=named (l.getD k 0)
   rw[←HXV.out]at hcl HS
   obtain⟨S,HSS⟩:=named (cS (l.take k) bus)
   rw[←HSS.out]at HO
   obtain⟨al,HAL⟩:=named (chc x bus)
   have hSp:1≤S.length:=by rw[HSS.out];exact cS_pos _ _
   have hSs:S.length≤2187:=by rw[HSS.out];exact cS_small _ _ (by rw[List.length_take];omega)
   have HSM:Hid (∀t∈S,t.sum=k):=Lib.hid fun t ht=>by
    rw[HSS.out]at ht
    rw[cS_sum _ _ t ht,List.length_take,←HN.out];omega
   obtain⟨gs,cs,rfl,-,hgs,-⟩:=own_form HO.out (by omega)
   have HGS:=Lib.hid hgs
   clear hgs
   have hal:al.length≤3:=by rw[HAL.out];exact (chc_len _ _).2
   obtain⟨wo,rfl⟩:∃wo:World,wo=wr:=⟨_,rfl⟩
   go_wp2_with fail
   refine (choices_any x bus _).mono ?_
   rintro e w1 ⟨rfl,hw1⟩
   rw[←HAL.out]at hw1
   rw[←HAL.out]
   have HW1:=Lib.hid hw1
   clear hw1
   obtain⟨ga,hga⟩:∃ga,ga=wo.heap.size:=⟨_,rfl⟩
   rw[←hga]
   have HGA:=Lib.hid hga
   clear hga
   obtain⟨gx,hgx⟩:∃gx,gx=w1.heap.size:=⟨_,rfl⟩
   have HGX:=Lib.hid hgx
   clear hgx
   go_wp2_with fail
   go_loopw [7,9] (fun v i wr=>∃j:Nat,j≤S.length∧i=.int .i64 j∧Own gx w1 wr∧wr.ownsRow gx 193 3 v ((S.take j).foldl (fun m s=>inS s al m) []).length (flatT ((S.take j).foldl (fun m s=>inS s al m) []))) (fun _ i _=>S.length-(intOf i).toNat)
   case atStart=>exact⟨0,Nat.zero_le _,rfl,⟨Below.refl _ _,by rw[HGX.out];exact Nat.le_refl _⟩,rfl,.inl ⟨rfl,rfl⟩⟩
   case round=>
    obtain⟨j,hj,rfl,hown0,hown⟩:=hrel
    have HXB:=Lib.hid hown0
    have HOB:=Lib.hid hown
    clear hown0 hown
    by_cases hjl:j<S.length
    ·obtain⟨MB,HMB⟩:=named ((S.take j).foldl (fun m s=>inS s al m) [])
     rw[←HMB.out]at HOB
     have hMB:MB.length≤6561:=by
      rw[HMB.out]
      have h1:=mid_len (S.take j) al []
      have h2:(S.take j).length*al.length≤2187*3:=Nat.mul_le_mul (by rw[List.length_take];omega) hal
      simp only[List.length_nil,Nat.zero_add]at h1
      omega
     obtain⟨t,HT⟩:=named (S.getD j T3.zero)
     obtain⟨w2,rfl⟩:∃w2:World,w2=wr:=⟨_,rfl⟩
     go_wp2_with fail
     go_loopw [7,10] (fun v i wr=>∃m:Nat,m≤al.length∧i=.int .i64 m∧Own gx w1 wr∧wr.ownsRow gx 193 3 v (inS t (al.take m) MB).length (flatT (inS t (al.take m) MB))) (fun _ i _=>al.length-(intOf i).toNat)
     case atStart=>exact⟨0,Nat.zero_le _,rfl,HXB.out,HOB.out⟩
     case round=>
      obtain⟨m,hm,rfl,hown0,hown⟩:=hrel
      have HXC:=Lib.hid hown0
      have HOC:=Lib.hid hown
      clear hown0 hown
      by_cases hml:m<al.length
      ·have hsum:t.sum=k:=HSM.out t (by rw[HT.out];exact getD_mem3 S j hjl)
       have hta:t.a≤7∧t.b≤7∧t.c≤7:=by unfold T3.sum at hsum;omega
       have keep:∀i,wr.cell? ⟨gs,i,none⟩=wo.cell? ⟨gs,i,none⟩:=fun i=>by
        rw[HXC.out.below.cell (p:=⟨gs,i,none⟩) (by rw[HGX.out,HW1.out];have:=HGS.out;simp;omega),HW1.out]
        exact World.cell?_alloc_lt _ _ _ HGS.out
       have hget:=flatT_get S j hjl
       rw[←HT.out]at hget
       have hs0:wr.cell? ⟨gs,j*3,none⟩=some (.int .i64 t.a):=by rw[keep,HO.out.cellAt _ (by omega)];exact hget.1
       have hs1:wr.cell? ⟨gs,j*3+1,none⟩=some (.int .i64 t.b):=by rw[keep,HO.out.cellAt _ (by omega)];exact hget.2.1
       have hs2:wr.cell? ⟨gs,j*3+2,none⟩=some (.int .i64 t.c):=by rw[keep,HO.out.cellAt _ (by omega)];exact hget.2.2
       have ha:wr.cell? ⟨ga,m,none⟩=some (.int .i64 (al.getD m 0)):=by
        rw[HXC.out.below.cell (p:=⟨ga,m,none⟩) (by rw[HGX.out,HW1.out,HGA.out];simp),HW1.out,HGA.out,World.cell?_alloc_at _ _ _ _ rfl]
        simp[List.getElem?_map,List.getElem?_eq_getElem hml]
       have hy:al.getD m 0=0∨al.getD m 0=1∨al.getD m 0=2:=by rw[HAL.out];exact chc_vals x bus m (by rw[←HAL.out];exact hml)
       have HSTEP:Hid (inS t (al.take (m+1)) MB=addT (inS t (al.take m) MB) (bump t (al.getD m 0))):=Lib.hid (fold_take (fun m x=>addT m (bump t x)) MB 0 al m hml)
       clear keep hget hsum
       obtain⟨y,HY⟩:=named (al.getD m 0)
       rw[←HY.out]at ha hy HSTEP
       obtain⟨M,HM⟩:=named (inS t (al.take m) MB)
       rw[←HM.out]at HSTEP HOC
       have hMl:M.length≤6600:=by
        rw[HM.out]
        have h1:=inS_len t (al.take m) MB
        rw[List.length_take]at h1
        omega
       obtain⟨w3,rfl⟩:∃w3:World,w3=wr:=⟨_,rfl⟩
       have hga3:ga<w3.heap.size:=cell_lt ha
       have ha':=(World.cell?_alloc_lt w3 (.cells #[.int .i64 t.a,.int .i64 t.b,.int .i64 t.c] 193) ⟨ga,m,none⟩ hga3).trans ha
       obtain⟨u,HU⟩:=named (bump t y)
       go_upto_region 14 with (fail)
       go_cut [] (fun wx=>wx=w3.alloc (.cells #[.int .i64 (u.a:Nat),.int .i64 (u.b:Nat),.int .i64 (u.c:Nat)] 193))
       case first=>
        rcases hy with rfl|rfl|rfl
        all_goals
         go_wp2_with fail
         go_meet
         rw[HU.out]
         rfl
       case rest=>
        subst hcut
        clear hs0 hs1 hs2 ha ha' hga3 hy
        have h3:=eq_three
        obtain⟨A7,c7,rfl⟩:=own_slice HOC.out
        go_wp2_with fail
        go_loopw [12,13] (fun v i wr=>∃e:Nat,e≤M.length∧i=.int .i64 e∧v=.bool ((M.take e).any fun s=>eqT s u)∧∃z,wr=(w3.alloc (.cells #[.int .i64 (u.a:Nat),.int .i64 (u.b:Nat),.int .i64 (u.c:Nat)] 193)).drewN z) (fun _ i _=>M.length-(intOf i).toNat)
        case atStart=>exact⟨0,Nat.zero_le _,rfl,rfl,0,rfl⟩
        case round=>
         obtain⟨e,he,rfl,rfl,z,rfl⟩:=hrel
         by_cases hel:e<M.length
         ·obtain⟨gm,cm,hgv,-,hgm,-⟩:=own_form HOC.out (by omega)
          simp only[Value.slice.injEq,true_and]at hgv
          obtain⟨rfl,rfl⟩:=hgv
          obtain⟨v,HV⟩:=named (M.getD e T3.zero)
          have hget:=flatT_get M e hel
          rw[←HV.out]at hget
          have keep:∀i,(w3.alloc (.cells #[.int .i64 (u.a:Nat),.int .i64 (u.b:Nat),.int .i64 (u.c:Nat)] 193)).cell? ⟨gm,i,none⟩=w3.cell? ⟨gm,i,none⟩:=fun i=>World.cell?_alloc_lt _ _ _ hgm
          have hm0:(w3.alloc (.cells #[.int .i64 (u.a:Nat),.int .i64 (u.b:Nat),.int .i64 (u.c:Nat)] 193)).cell? ⟨gm,e*3,none⟩=some (.int .i64 v.a):=by rw[keep,HOC.out.cellAt _ (by omega)];exact hget.1
          have hm1:(w3.alloc (.cells #[.int .i64 (u.a:Nat),.int .i64 (u.b:Nat),.int .i64 (u.c:Nat)] 193)).cell? ⟨gm,e*3+1,none⟩=some (.int .i64 v.b):=by rw[keep,HOC.out.cellAt _ (by omega)];exact hget.2.1
          have hm2:(w3.alloc (.cells #[.int .i64 (u.a:Nat),.int .i64 (u.b:Nat),.int .i64 (u.c:Nat)] 193)).cell? ⟨gm,e*3+2,none⟩=some (.int .i64 v.c):=by rw[keep,HOC.out.cellAt _ (by omega)];exact hget.2.2
          have HANY:=Lib.hid (any_take M (fun s=>eqT s u) e hel)
          rw[←HV.out]at HANY
          clear keep hget hgm
          obtain⟨th,HTH⟩:=named ((M.take e).any fun s=>eqT s u)
          rw[←HTH.out]at HANY
          rw[←HTH.out]
          cases th
          ·go_wp2_with fail
           go_quiet (fail)
           go_wp2_with fail
           go_roundw
           case rel=>exact⟨e+1,by omega,by go_num,by rw[HANY.out];rfl,_,rfl⟩
           case measure=>simp[intOf];omega
          ·go_wp2_with fail
           go_quiet (fail)
           go_wp2_with fail
           go_roundw
           case rel=>exact⟨e+1,by omega,by go_num,by rw[HANY.out];rfl,_,rfl⟩
           case measure=>simp[intOf];omega
         ·obtain rfl:M.length=e:=by omega
          rw[List.take_length]
          have HADD:Hid (addT M u=if (M.any fun s=>eqT s u)=true then M else M++[u]):=Lib.hid rfl
          obtain⟨th,HTH⟩:=named (M.any fun s=>eqT s u)
          rw[←HTH.out]at HADD
          rw[←HTH.out]
          have HOZ:=Lib.hid (own_drewN (HOC.out.alloc (.cells #[.int .i64 (u.a:Nat),.int .i64 (u.b:Nat),.int .i64 (u.c:Nat)] 193)) z)
          have HXZ:=Lib.hid (own_drewN' (HXC.out.alloc (.cells #[.int .i64 (u.a:Nat),.int .i64 (u.b:Nat),.int .i64 (u.c:Nat)] 193)) z)
          cases th
          ·go_wp2_with (at_builtin;go_loud (refine wpList_append_own _ rfl _ _ 194 rfl gx 193 i3 (.agg #[.int .i64 0,.int .i64 0,.int .i64 0]) 3 24 Tryz.underlying194 HI.out HZ0.out HZ1.out HZ2.out rfl (by decide) _ _ _ rfl (by first|exact HOZ.out.alloc _|exact own_drewN ((HOC.out.alloc _).alloc _) z) ⟨w3.heap.size+1,0,none⟩ 1 1 (cellsT u) rfl rfl ?c1 ?c2 ?c3 ?c4 ?c5 ?_))
           case c1=>exact three_new w3 u _ _
           case c2=>intro v hv;simp[cellsT]at hv;rcases hv with rfl|rfl|rfl<;>rfl
           case c3=>unfold maxLen;omega
           case c4=>omega
           case c5=>have:=HXZ.out.size;simp at this ⊢;omega
           intro v' w4 hown' hgrow _
           have HO4:=Lib.hid hown'
           have HX4:Hid (Own gx w1 w4):=Lib.hid (Own.grown (by first|exact HXZ.out.alloc _|exact own_drewN' ((HXC.out.alloc _).alloc _) z) hgrow (fun q hq=>own_from HOC.out hq))
           clear hown' hgrow
           go_wp2_with fail
           go_roundw
           case rel=>
            refine⟨m+1,by omega,by go_num,HX4.out,?_⟩
            rw[HSTEP.out,←HU.out,HADD.out,if_neg (by decide),flatT_snoc,List.length_append]
            exact HO4.out
           case measure=>simp[intOf];omega
          ·go_wp2_with fail
           go_roundw
           case rel=>exact⟨m+1,by omega,by go_num,HXZ.out,by rw[HSTEP.out,←HU.out,HADD.out,if_pos rfl];exact HOZ.out⟩
           case measure=>simp[intOf];omega
      ·obtain rfl:al.length=m:=by omega
       rw[List.take_length]at HOC
       have HSB:=Lib.hid (fold_take (fun m s=>inS s al m) [] T3.zero S j hjl)
       go_wp2_with fail
       go_roundw
       case rel=>exact⟨j+1,by omega,by go_num,HXC.out,by rw[HSB.out,←HMB.out,←HT.out];exact HOC.out⟩
       case measure=>simp[intOf];omega
    ·obtain rfl:S.length=j:=by omega
     rw[List.take_length]at HOB
     have HXW:Hid (Own g w wr):=Lib.hid (own_join HX.out HXB.out HW1.out HGX.out)
     have hgx:g≤gx:=by rw[HGX.out,HW1.out];have:=HX.out.size;simp;omega
     have HOW:Hid (wr.ownsRow g 193 3 _ _ _):=Lib.hid (Joins.ownsRow_le HOB.out hgx)
     go_wp2_with fail
     go_roundw
     case rel=>exact⟨k+1,by omega,by go_num,HXW.out,by
      have e:cS (l.take (k+1)) bus=midS S al:=by rw[HSS.out,HAL.out,HXV.out];exact fold_take (fun S v=>midS S (chc v bus)) [T3.zero] 0 l k (by rw[←HN.out];exact hlt)
      rw[e];exact HOW.out⟩
     case measure=>simp[intOf];omega
  ·obtain rfl:n=k:=by omega
   rw[List.take_of_length_le (by rw[←HN.out];exact Nat.le_refl _)]at HO
   obtain⟨S,HSS⟩:=named (cS l bus)
   rw[←HSS.out]at HO
   have hSp:1≤S.length:=by rw[HSS.out];exact cS_pos _ _
   have hSs:S.length≤2187:=by rw[HSS.out];exact cS_small _ _ (by rw[←HN.out];exact h7)
   have HSM:Hid (∀t∈S,t.sum≤7):=Lib.hid fun t ht=>by
    rw[HSS.out]at ht
    rw[cS_sum _ _ t ht,←HN.out];exact h7
   obtain⟨gs,cs,rfl,-,hgs,-⟩:=own_form HO.out (by omega)
   have HGS:=Lib.hid hgs
   clear hgs
   obtain⟨X,rfl⟩:∃X:World,X=wr:=⟨_,rfl⟩
   obtain⟨gx,hgx⟩:∃gx,gx=X.heap.size:=⟨_,rfl⟩
   have HGX:=Lib.hid hgx
   clear hgx
   go_wp2_with fail
   go_loopw [14,15] (fun v i wr=>∃j:Nat,j≤S.length∧i=.int .i64 j∧Own gx X wr∧wr.ownsRow gx 3 1 v j (outC q S j)) (fun _ i _=>S.length-(intOf i).toNat)
   case atStart=>exact⟨0,Nat.zero_le _,rfl,⟨Below.refl _ _,by rw[HGX.out];exact Nat.le_refl _⟩,rfl,.inl ⟨rfl,rfl⟩⟩
   case round=>
    obtain⟨j,hj,rfl,hown0,hown⟩:=hrel
    have HXE:=Lib.hid hown0
    have HOE:=Lib.hid hown
    clear hown0 hown
    by_cases hjl:j<S.length
    ·obtain⟨t,HT⟩:=named (S.getD j T3.zero)
     have hsum:t.sum≤7:=HSM.out t (by rw[HT.out];exact getD_mem3 S j hjl)
     obtain⟨Y,rfl⟩:∃Y:World,Y=wr:=⟨_,rfl⟩
     obtain⟨gl,hgl⟩:∃gl,gl=Y.heap.size:=⟨_,rfl⟩
     have HGL:=Lib.hid hgl
     clear hgl
     go_wp2_with fail
     go_loopw [16,17] (fun v i wr=>∃e:Nat,e≤3∧i=.int .i64 e∧Own gl Y wr∧wr.ownsRow gl 3 1 v (pre t e).length ((pre t e).map (Value.int .i64))) (fun _ i _=>3-(intOf i).toNat)
     case atStart=>exact⟨0,Nat.zero_le _,rfl,⟨Below.refl _ _,by rw[HGL.out];exact Nat.le_refl _⟩,rfl,.inl ⟨rfl,rfl⟩⟩
     case round=>
      obtain⟨e,he,rfl,hown0,hown⟩:=hrel
      have HXF:=Lib.hid hown0
      have HOF:=Lib.hid hown
      clear hown0 hown
      by_cases hel:e<3
      ·have HPS:=Lib.hid (pre_succ t e hel)
       have hcl:=comp_le t e
       have hpl:=pre_len t e (by omega)
       have HCE:=Lib.hid (comp_get S j e hjl hel)
       rw[←HT.out]at HCE
       obtain⟨ce,HCC⟩:=named (comp t e)
       rw[←HCC.out]at HPS hcl HCE
       obtain⟨P,HPP⟩:=named (pre t e)
       rw[←HPP.out]at HPS hpl HOF
       obtain⟨w2,rfl⟩:∃w2:World,w2=wr:=⟨_,rfl⟩
       have he3:decide ((e:Int)<3)=true:=by simp;omega
       have he4:(e:Int)<3:=by omega
       go_wp2_with fail
       go_loopw [16,18] (fun v i wr=>∃d:Nat,d≤ce∧i=.int .i64 d∧Own gl Y wr∧wr.ownsRow gl 3 1 v (P.length+d) ((P++List.replicate d (e:Int)).map (Value.int .i64))) (fun _ i _=>ce-(intOf i).toNat)
       case atStart=>exact⟨0,Nat.zero_le _,rfl,HXF.out,by simpa using HOF.out⟩
       case round=>
        obtain⟨d,hd,rfl,hown0,hown⟩:=hrel
        have HXG:=Lib.hid hown0
        have HOG:=Lib.hid hown
        clear hown0 hown
        have hcell:wr.cell? ⟨gs,j*3+e,none⟩=some (.int .i64 ce):=by
         rw[HXG.out.below.cell (p:=⟨gs,j*3+e,none⟩) (by rw[HGL.out];have h1:=HXE.out.below.size;have h2:=HGS.out;simp only;omega),HXE.out.below.cell (p:=⟨gs,j*3+e,none⟩) (by rw[HGX.out];exact HGS.out),HO.out.cellAt _ (by omega)]
         exact HCE.out
        by_cases hdl:d<ce
        ·go_wp2_with (at_builtin;go_loud (refine wpList_append_own _ rfl _ _ 37 rfl gl 3 ii (.int .i64 0) 1 8 Tryz.underlying37 HJ.out HY0.out HY1.out HY2.out rfl (by decide) _ _ _ rfl (HOG.out.alloc _) ⟨wr.heap.size,0,none⟩ 1 1 [.int .i64 e] rfl rfl ?c1 ?c2 ?c3 ?c4 ?c5 ?_))
         case c1=>exact one_new _ _ _
         case c2=>intro u hu;obtain rfl:=List.mem_singleton.1 hu;rfl
         case c3=>unfold maxLen;omega
         case c4=>omega
         case c5=>have:=HXG.out.size;simp;omega
         intro v' w4 hown' hgrow _
         have HO4:=Lib.hid hown'
         have HX4:=Lib.hid ((HXG.out.alloc _).grown hgrow (fun q hq=>own_from HOG.out hq))
         clear hown' hgrow
         go_wp2_with fail
         go_roundw
         case rel=>
          refine⟨d+1,by omega,by go_num,HX4.out,?_⟩
          have h:=HO4.out
          rw[List.replicate_succ']
          simpa [Nat.add_assoc]using h
         case measure=>simp[intOf];omega
        ·obtain rfl:ce=d:=by omega
         go_wp2_with fail
         go_roundw
         case rel=>exact⟨e+1,by omega,by go_num,HXG.out,by rw[HPS.out];have h:=HOG.out;simpa using h⟩
         case measure=>simp[intOf];omega
      ·obtain rfl:e=3:=by omega
       have hpl:=pre_len t 3 (by omega)
       have HVI:=Lib.hid (Vi.of_own HOF.out).1
       have HFT:Hid (fnT q t=fn q (pre t 3)):=Lib.hid rfl
       have HSNOC:=Lib.hid (outC_succ q S j hjl)
       rw[←HT.out]at HSNOC
       obtain⟨y,HYF⟩:=named (fnT q t)
       rw[←HYF.out]at HSNOC HFT
       have HOE':Hid (wr.ownsRow gx 3 1 _ _ _):=Lib.hid (own_keep HOE.out (by rw[←HGL.out];exact HXF.out.below))
       have HXX:Hid (Own gx X wr):=Lib.hid (own_trans HXE.out HXF.out HGL.out)
       go_wp2_with fail
       refine (fun_cnt q HQ.out _ _ _ _ HVI.out (by omega)).mono ?_
       rintro e w' ⟨rfl,rfl⟩
       rw[←HFT.out]
       go_wp2_with (at_builtin;go_loud (refine wpList_append_own _ rfl _ _ 37 rfl gx 3 ii (.int .i64 0) 1 8 Tryz.underlying37 HJ.out HY0.out HY1.out HY2.out rfl (by decide) _ _ _ rfl (HOE'.out.alloc _) ⟨wr.heap.size,0,none⟩ 1 1 [.int .i64 y] rfl rfl ?c1 ?c2 ?c3 ?c4 ?c5 ?_))
       case c1=>exact one_new _ _ _
       case c2=>intro u hu;obtain rfl:=List.mem_singleton.1 hu;rfl
       case c3=>unfold maxLen;omega
       case c4=>omega
       case c5=>have:=HXX.out.size;simp;omega
       intro v' w4 hown' hgrow _
       have HO4:=Lib.hid hown'
       have HX4:=Lib.hid ((HXX.out.alloc _).grown hgrow (fun q hq=>own_from HOE.out hq))
       clear hown' hgrow
       go_wp2_with fail
       go_roundw
       case rel=>exact⟨j+1,by omega,by go_num,HX4.out,by rw[HSNOC.out];exact HO4.out⟩
       case measure=>simp[intOf];omega
    ·obtain rfl:S.length=j:=by omega
     have hlast:=HOE.out
     unfold outC at hlast
     rw[List.take_length]at hlast
     obtain⟨gv,cv,rfl,-,-,-⟩:=own_form hlast (by omega)
     have HVL:=Lib.hid (Vi.of_own hlast).1
     have HBL:Hid (Below w.heap.size w wr):=Lib.hid (by
      have h1:=HX.out
      rw[HG.out]at h1
      exact h1.below.trans (HXE.out.below.mono (by rw[HGX.out];exact h1.size)))
     clear hlast
     rw[HSS.out,HB.out]at HVL
     have HEQ:Hid (S.length=(cS l (q==13)).length):=Lib.hid (by rw[HSS.out,HB.out])
     go_wp2_with fail
     go_ret
     exact⟨gv,cv,by rw[←HEQ.out];rfl,HBL.out,HVL.out⟩
def tabI(y:Int):Int:=if y=0 then 0 else if y=1 then 1 else if y=2 then 3 else 2
def allEq(L:List Int):Bool:=L.all fun x=>x==L.getD 0 0
def apL(L:List Int):Int:=if allEq L=true then tabI (L.getD 0 0) else 2
theorem allEq_no{L:List Int}(k:Nat)(hk:k<L.length)(h:(L.getD k 0==L.getD 0 0)=false):allEq L=false:=by
 rw[List.getD_eq_getElem?_getD,List.getElem?_eq_getElem hk]at h
 exact List.all_eq_false.2 ⟨L[k],List.getElem_mem hk,by simpa using h⟩
theorem allEq_yes{L:List Int}(h:∀j,j<L.length→(L.getD j 0==L.getD 0 0)=true):allEq L=true:=by
 refine List.all_eq_true.2 fun x hx=>?_
 obtain⟨k,hk,rfl⟩:=List.mem_iff_getElem.1 hx
 have:=h k hk
 rw[List.getD_eq_getElem?_getD,List.getElem?_eq_getElem hk]at this
 exact this
theorem counts_test(q:Int)(hq:Counts q):(decide (5≤q)=true∧decide (q≤10)=true∧q≠13)∨q=13:=by
 rcases hq with rfl|rfl|rfl|rfl|rfl|rfl|rfl<;>simp
theorem vi_cell{w:World}{B g n c k:Nat}{l:List Int}(h:Vi w B (.slice (some ⟨g,0,none⟩) n c) l)(hk:k<l.length):w.cell? ⟨g,k,none⟩=some (.int .i64 (l.getD k 0)):=by
 obtain⟨b,o,c',hv,-,hc⟩:=h
 rcases hv with hv| ⟨rfl,-⟩
 ·simp only[Value.slice.injEq,Option.some.injEq,Addr.mk.injEq,and_true]at hv
  obtain⟨⟨rfl,rfl⟩,-,-⟩:=hv
  have:=(hc k hk).2
  rw[Nat.zero_add]at this
  exact this
 ·simp at hk
set_option maxHeartbeats 1000000 in
set_option maxRecDepth 100000 in
theorem apply_lo(q:Int)(l:List Int)(s:Value)(n c b o:Nat)(A:Option Addr)(hv:s=.slice A n c)(hA:0<n→A=some ⟨b,o,none⟩)(w:World)(hn:n=l.length)(h7:n≤7)(hq:Counts q)(t1:decide (5≤q)=true)(t2:decide (q≤10)=true)
 (hc:∀k,k<n→b<w.heap.size∧w.cell? ⟨b,o+k,none⟩=some (.int .u8 (l.getD k 0))) (L:List Int) (hL:L=(cS l (q==13)).map (fnT q)) (hy:L.getD 0 0=0∨L.getD 0 0=1∨L.getD 0 0=2∨L.getD 0 0=3):
 Calls Tryz.prog 129 #[.int .u8 q,s] w fun e w'=>e=.returned (.int .u8 (apL L))∧Below w.heap.size w w':=by
 have HA:=Lib.hid hA
 have HC:=Lib.hid hc
 have HN:=Lib.hid hn
 have HL:=Lib.hid hL
 have HQ:=Lib.hid hq
 have HP:Hid (1≤L.length∧L.length≤2187):=Lib.hid (by rw[hL,List.length_map];exact⟨cS_pos _ _,cS_small _ _ (by rw[←hn];exact h7)⟩)
 have HLL:Hid ((cS l (q==13)).length=L.length):=Lib.hid (by rw[hL,List.length_map])
 obtain⟨y,HY⟩:=named (apL L)
 rw[←HY.out]
 obtain⟨y0,HY0⟩:=named (L.getD 0 0)
 rw[←HY0.out]at hy
 obtain⟨N,HNN⟩:=named L.length
 rw[←HNN.out]at HP HLL
 have hN1:1≤N:=HP.out.1
 have hN2:N≤2187:=HP.out.2
 have HV:=Lib.hid hv
 have HYY:=Lib.hid hy
 clear hn hL hq hc hA hv hy
 go_enter Tryz.func129,Tryz.ntmps129
 go_wp2_with fail
 have HB0:Hid (Below w.heap.size w (w.alloc (.cells #[] 3))):=Lib.hid (below_new (Below.refl _ _) _)
 (with_reducible refine (counted_any q l s n c b o A HV.out HA.out _ HN.out h7 HQ.out ?hc).mono ?_)
 case hc=>exact fun k hk=>⟨by have:=(HC.out k hk).1;simp;omega,(World.cell?_alloc_lt _ _ _ (HC.out k hk).1).trans (HC.out k hk).2⟩
 rintro e w1 ⟨gv,cv,rfl,hb1,hvi⟩
 rw[HLL.out,←HL.out]at hvi
 rw[HLL.out]
 have HB1:Hid (Below w.heap.size w w1):=Lib.hid (join HB0.out hb1)
 have HCV:Hid (∀k,k<N→w1.cell? ⟨gv,k,none⟩=some (.int .i64 (L.getD k 0))):=Lib.hid fun k hk=>vi_cell hvi (by rw[←HNN.out];exact hk)
 clear hvi hb1
 have h00:w1.cell? ⟨gv,0,none⟩=some (.int .i64 y0):=by rw[HY0.out];exact HCV.out 0 (by omega)
 have h0N:(0:Int)<(N:Int):=by omega
 have h0N':0<N:=by omega
 go_wp2_with fail
 go_loopw [6] (fun i wr=>∃k:Nat,k≤N∧i=.int .i64 k∧(∀j,j<k→(L.getD j 0==y0)=true)∧∃z,wr=w1.drewN z) (fun i _=>N-(intOf i).toNat)
 case atStart=>exact⟨0,Nat.zero_le _,rfl,fun j hj=>absurd hj (by omega),0,rfl⟩
 case round=>
  obtain⟨k,hk,rfl,hall,z,rfl⟩:=hrel
  have HALL:=Lib.hid hall
  clear hall
  by_cases hkN:k<N
  ·have hck:=HCV.out k hkN
   obtain⟨x,HX⟩:=named (L.getD k 0)
   rw[←HX.out]at hck
   cases hxy:(x==y0)
   ·have hne:(x != y0)=true:=by simp only[bne,hxy];rfl
    go_wp2_with fail
    go_quiet (fail)
    go_wp2_with fail
    go_ret
    exact⟨ret_int (by rw[HY.out,apL,if_neg (by rw[allEq_no k (by rw[←HNN.out];exact hkN) (by rw[←HX.out,←HY0.out];exact hxy)];decide)]),below_drewN (below_drewN HB1.out _) _⟩
   ·have hne:(x != y0)=false:=by simp only[bne,hxy];rfl
    go_wp2_with fail
    go_quiet (fail)
    go_wp2_with fail
    go_roundw
    case rel=>
     refine⟨k+1,by omega,by go_num,fun j hj=>?_,_,rfl⟩
     by_cases hjk:j=k
     ·rw[hjk,←HX.out];exact hxy
     ·exact HALL.out j (by omega)
    case measure=>simp[intOf];omega
  ·obtain rfl:N=k:=by omega
   have HE:Hid (y=tabI y0):=Lib.hid (by rw[HY.out,apL,if_pos (allEq_yes fun j hj=>by rw[←HY0.out];exact HALL.out j (by rw[HNN.out];exact hj)),HY0.out])
   have h00':∀o,((w1.drewN z).alloc o).cell? ⟨gv,0,none⟩=some (.int .i64 y0):=fun o=>(World.cell?_alloc_lt _ _ _ (cell_lt h00)).trans h00
   have h00'':∀o,(w1.alloc o).cell? ⟨gv,0,none⟩=some (.int .i64 y0):=fun o=>(World.cell?_alloc_lt _ _ _ (cell_lt h00)).trans h00
   have hn0:∀t:Nat,((w1.drewN z).alloc (.cells #[.int .u8 0,.int .u8 1,.int .u8 3,.int .u8 2] t)).cell? ⟨w1.heap.size,0,none⟩=some (.int .u8 0):=fun t=>(World.cell?_alloc_at _ t _ _ rfl).trans rfl
   have hn1:∀t:Nat,((w1.drewN z).alloc (.cells #[.int .u8 0,.int .u8 1,.int .u8 3,.int .u8 2] t)).cell? ⟨w1.heap.size,1,none⟩=some (.int .u8 1):=fun t=>(World.cell?_alloc_at _ t _ _ rfl).trans rfl
   have hn2:∀t:Nat,((w1.drewN z).alloc (.cells #[.int .u8 0,.int .u8 1,.int .u8 3,.int .u8 2] t)).cell? ⟨w1.heap.size,2,none⟩=some (.int .u8 3):=fun t=>(World.cell?_alloc_at _ t _ _ rfl).trans rfl
   have hn3:∀t:Nat,((w1.drewN z).alloc (.cells #[.int .u8 0,.int .u8 1,.int .u8 3,.int .u8 2] t)).cell? ⟨w1.heap.size,3,none⟩=some (.int .u8 2):=fun t=>(World.cell?_alloc_at _ t _ _ rfl).trans rfl
   rcases HYY.out with rfl|rfl|rfl|rfl
   all_goals
    go_wp2_with fail
    go_ret
    exact⟨ret_int (by rw[HE.out];rfl),by first|exact below_drewN (below_new HB1.out _) _|exact below_new (below_drewN HB1.out _) _⟩
set_option maxHeartbeats 1000000 in
set_option maxRecDepth 100000 in
theorem apply_13(l:List Int)(s:Value)(n c b o:Nat)(A:Option Addr)(hv:s=.slice A n c)(hA:0<n→A=some ⟨b,o,none⟩)(w:World)(hn:n=l.length)(h7:n≤7)(hq:Counts 13)
 (hc:∀k,k<n→b<w.heap.size∧w.cell? ⟨b,o+k,none⟩=some (.int .u8 (l.getD k 0))) (L:List Int) (hL:L=(cS l ((13:Int)==13)).map (fnT 13)) (hy:L.getD 0 0=0∨L.getD 0 0=1∨L.getD 0 0=2∨L.getD 0 0=3):
 Calls Tryz.prog 129 #[.int .u8 13,s] w fun e w'=>e=.returned (.int .u8 (apL L))∧Below w.heap.size w w':=by
 have HA:=Lib.hid hA
 have HC:=Lib.hid hc
 have HN:=Lib.hid hn
 have HL:=Lib.hid hL
 have HQ:=Lib.hid hq
 have HP:Hid (1≤L.length∧L.length≤2187):=Lib.hid (by rw[hL,List.length_map];exact⟨cS_pos _ _,cS_small _ _ (by rw[←hn];exact h7)⟩)
 have HLL:Hid ((cS l ((13:Int)==13)).length=L.length):=Lib.hid (by rw[hL,List.length_map])
 obtain⟨y,HY⟩:=named (apL L)
 rw[←HY.out]
 obtain⟨y0,HY0⟩:=named (L.getD 0 0)
 rw[←HY0.out]at hy
 obtain⟨N,HNN⟩:=named L.length
 rw[←HNN.out]at HP HLL
 have hN1:1≤N:=HP.out.1
 have hN2:N≤2187:=HP.out.2
 have HV:=Lib.hid hv
 have HYY:=Lib.hid hy
 clear hn hL hq hc hA hv hy
 go_enter Tryz.func129,Tryz.ntmps129
 go_wp2_with fail
 have HB0:Hid (Below w.heap.size w (w.alloc (.cells #[] 3))):=Lib.hid (below_new (Below.refl _ _) _)
 (with_reducible refine (counted_any 13 l s n c b o A HV.out HA.out _ HN.out h7 HQ.out ?hc).mono ?_)
 case hc=>exact fun k hk=>⟨by have:=(HC.out k hk).1;simp;omega,(World.cell?_alloc_lt _ _ _ (HC.out k hk).1).trans (HC.out k hk).2⟩
 rintro e w1 ⟨gv,cv,rfl,hb1,hvi⟩
 rw[HLL.out,←HL.out]at hvi
 rw[HLL.out]
 have HB1:Hid (Below w.heap.size w w1):=Lib.hid (join HB0.out hb1)
 have HCV:Hid (∀k,k<N→w1.cell? ⟨gv,k,none⟩=some (.int .i64 (L.getD k 0))):=Lib.hid fun k hk=>vi_cell hvi (by rw[←HNN.out];exact hk)
 clear hvi hb1
 have h00:w1.cell? ⟨gv,0,none⟩=some (.int .i64 y0):=by rw[HY0.out];exact HCV.out 0 (by omega)
 have h0N:(0:Int)<(N:Int):=by omega
 have h0N':0<N:=by omega
 go_wp2_with fail
 go_loopw [6] (fun i wr=>∃k:Nat,k≤N∧i=.int .i64 k∧(∀j,j<k→(L.getD j 0==y0)=true)∧∃z,wr=w1.drewN z) (fun i _=>N-(intOf i).toNat)
 case atStart=>exact⟨0,Nat.zero_le _,rfl,fun j hj=>absurd hj (by omega),0,rfl⟩
 case round=>
  obtain⟨k,hk,rfl,hall,z,rfl⟩:=hrel
  have HALL:=Lib.hid hall
  clear hall
  by_cases hkN:k<N
  ·have hck:=HCV.out k hkN
   obtain⟨x,HX⟩:=named (L.getD k 0)
   rw[←HX.out]at hck
   cases hxy:(x==y0)
   ·have hne:(x != y0)=true:=by simp only[bne,hxy];rfl
    go_wp2_with fail
    go_quiet (fail)
    go_wp2_with fail
    go_ret
    exact⟨ret_int (by rw[HY.out,apL,if_neg (by rw[allEq_no k (by rw[←HNN.out];exact hkN) (by rw[←HX.out,←HY0.out];exact hxy)];decide)]),below_drewN (below_drewN HB1.out _) _⟩
   ·have hne:(x != y0)=false:=by simp only[bne,hxy];rfl
    go_wp2_with fail
    go_quiet (fail)
    go_wp2_with fail
    go_roundw
    case rel=>
     refine⟨k+1,by omega,by go_num,fun j hj=>?_,_,rfl⟩
     by_cases hjk:j=k
     ·rw[hjk,←HX.out];exact hxy
     ·exact HALL.out j (by omega)
    case measure=>simp[intOf];omega
  ·obtain rfl:N=k:=by omega
   have HE:Hid (y=tabI y0):=Lib.hid (by rw[HY.out,apL,if_pos (allEq_yes fun j hj=>by rw[←HY0.out];exact HALL.out j (by rw[HNN.out];exact hj)),HY0.out])
   have h00':∀o,((w1.drewN z).alloc o).cell? ⟨gv,0,none⟩=some (.int .i64 y0):=fun o=>(World.cell?_alloc_lt _ _ _ (cell_lt h00)).trans h00
   have h00'':∀o,(w1.alloc o).cell? ⟨gv,0,none⟩=some (.int .i64 y0):=fun o=>(World.cell?_alloc_lt _ _ _ (cell_lt h00)).trans h00
   have hn0:∀t:Nat,((w1.drewN z).alloc (.cells #[.int .u8 0,.int .u8 1,.int .u8 3,.int .u8 2] t)).cell? ⟨w1.heap.size,0,none⟩=some (.int .u8 0):=fun t=>(World.cell?_alloc_at _ t _ _ rfl).trans rfl
   have hn1:∀t:Nat,((w1.drewN z).alloc (.cells #[.int .u8 0,.int .u8 1,.int .u8 3,.int .u8 2] t)).cell? ⟨w1.heap.size,1,none⟩=some (.int .u8 1):=fun t=>(World.cell?_alloc_at _ t _ _ rfl).trans rfl
   have hn2:∀t:Nat,((w1.drewN z).alloc (.cells #[.int .u8 0,.int .u8 1,.int .u8 3,.int .u8 2] t)).cell? ⟨w1.heap.size,2,none⟩=some (.int .u8 3):=fun t=>(World.cell?_alloc_at _ t _ _ rfl).trans rfl
   have hn3:∀t:Nat,((w1.drewN z).alloc (.cells #[.int .u8 0,.int .u8 1,.int .u8 3,.int .u8 2] t)).cell? ⟨w1.heap.size,3,none⟩=some (.int .u8 2):=fun t=>(World.cell?_alloc_at _ t _ _ rfl).trans rfl
   rcases HYY.out with rfl|rfl|rfl|rfl
   all_goals
    go_wp2_with fail
    go_ret
    exact⟨ret_int (by rw[HE.out];rfl),by first|exact below_drewN (below_new HB1.out _) _|exact below_new (below_drewN HB1.out _) _⟩
theorem apply_cnt(q:Int)(l:List Int)(s:Value)(n c b o:Nat)(A:Option Addr)(hv:s=.slice A n c)(hA:0<n→A=some ⟨b,o,none⟩)(w:World)(hn:n=l.length)(h7:n≤7)(hq:Counts q)
 (hc:∀k,k<n→b<w.heap.size∧w.cell? ⟨b,o+k,none⟩=some (.int .u8 (l.getD k 0))) (L:List Int) (hL:L=(cS l (q==13)).map (fnT q)) (hy:L.getD 0 0=0∨L.getD 0 0=1∨L.getD 0 0=2∨L.getD 0 0=3):
 Calls Tryz.prog 129 #[.int .u8 q,s] w fun e w'=>e=.returned (.int .u8 (apL L))∧Below w.heap.size w w':=by
 rcases counts_test q hq with⟨t1,t2,-⟩|rfl
 ·exact apply_lo q l s n c b o A hv hA w hn h7 hq t1 t2 hc L hL hy
 ·exact apply_13 l s n c b o A hv hA w hn h7 hq hc L hL hy
def Ch(bus:Bool):List Int→List Int→Prop
 |[],[]=>True
 |v::l,x::m=>x∈chc v bus∧Ch bus l m
 |_,_=>False
theorem ch_app{bus:Bool}{l1 l2 m1 m2:List Int}(h1:Ch bus l1 m1)(h2:Ch bus l2 m2):Ch bus (l1++l2) (m1++m2):=by
 induction l1 generalizing m1 with
 |nil=>cases m1 with
  |nil=>exact h2
  |cons=>exact absurd h1 id
 |cons v l1 ih=>cases m1 with
  |nil=>exact absurd h1 id
  |cons x m1=>exact⟨h1.1,ih h1.2⟩
theorem ch_some(bus:Bool)(l:List Int):∃m,Ch bus l m:=by
 induction l with
 |nil=>exact⟨[],trivial⟩
 |cons v l ih=>
  obtain⟨m,hm⟩:=ih
  exact⟨(chc v bus)[0]'(chc_len v bus).1::m,List.getElem_mem _,hm⟩
theorem foldS_mem(l:List Int)(bus:Bool)(S:List T3)(t:T3):t∈l.foldl (fun S v=>midS S (chc v bus)) S↔∃s∈S,∃m,Ch bus l m∧t=m.foldl bump s:=by
 induction l generalizing S with
 |nil=>
  constructor
  ·exact fun h=>⟨t,h,[],trivial,rfl⟩
  ·rintro⟨s,hs,m,hm,rfl⟩
   cases m with
   |nil=>exact hs
   |cons=>exact absurd hm id
 |cons v l ih=>
  rw[List.foldl_cons,ih]
  constructor
  ·rintro⟨s,hs,m,hm,rfl⟩
   obtain⟨u,hu,x,hx,rfl⟩:=(midS_mem _ _ _).1 hs
   exact⟨u,hu,x::m,⟨hx,hm⟩,rfl⟩
  ·rintro⟨s,hs,m,hm,rfl⟩
   cases m with
   |nil=>exact absurd hm id
   |cons x m=>exact⟨bump s x,(midS_mem _ _ _).2 ⟨s,hs,x,hm.1,rfl⟩,m,hm.2,rfl⟩
theorem bump_a(m:List Int)(s:T3):(m.foldl bump s).a=s.a+cnt 0 m∧(m.foldl bump s).b=s.b+cnt 1 m:=by
 induction m generalizing s with
 |nil=>exact⟨rfl,rfl⟩
 |cons x m ih=>
  rw[List.foldl_cons,(ih _).1,(ih _).2,cnt,cnt]
  unfold bump
  by_cases h0:x=0
  ·subst h0;simp;omega
  ·by_cases h1:x=1
   ·subst h1;simp;omega
   ·simp[h0,h1]
def fC(q:Int)(m:List Int):Int:=fnK q (cnt 1 m) (cnt 0 m) []
def Count2(q:Int):Prop:=q=5∨q=6∨q=7∨q=8∨q=9∨q=10∨q=13
theorem fnT_ab{q:Int}(hq:Count2 q)(t:T3):fnT q t=fnK q t.b t.a []:=by
 unfold fnT fn
 rw[(cnt_pre t).1,(cnt_pre t).2]
 rcases hq with rfl|rfl|rfl|rfl|rfl|rfl|rfl<;>rfl
theorem fL_mem{q:Int}(hq:Count2 q)(l:List Int)(bus:Bool)(x:Int):x∈(cS l bus).map (fnT q)↔∃m,Ch bus l m∧x=fC q m:=by
 rw[List.mem_map]
 constructor
 ·rintro⟨t,ht,rfl⟩
  obtain⟨s,hs,m,hm,rfl⟩:=(foldS_mem l bus _ t).1 ht
  have hs:s=T3.zero:=by simpa using hs
  subst hs
  refine⟨m,hm,?_⟩
  rw[fnT_ab hq,(bump_a _ _).1,(bump_a _ _).2]
  simp[fC,T3.zero]
 ·rintro⟨m,hm,rfl⟩
  refine⟨m.foldl bump T3.zero,(foldS_mem l bus _ _).2 ⟨T3.zero,by simp,m,hm,rfl⟩,?_⟩
  rw[fnT_ab hq,(bump_a _ _).1,(bump_a _ _).2]
  simp[fC,T3.zero]
theorem head_mem{L:List Int}(h:L≠[]):L.getD 0 0∈L:=by
 cases L with
 |nil=>exact absurd rfl h
 |cons a L=>simp
theorem apL_same{L:List Int}{y:Int}(h0:L≠[])(h:∀x∈L,x=y):apL L=tabI y:=by
 have e:L.getD 0 0=y:=h _ (head_mem h0)
 rw[apL,if_pos,e]
 rw[allEq,e]
 exact List.all_eq_true.2 fun x hx=>by rw[h x hx];simp
theorem apL_diff{L:List Int}{x z:Int}(hx:x∈L)(hz:z∈L)(h:x≠z):apL L=2:=by
 rw[apL,if_neg]
 intro he
 have:=List.all_eq_true.1 he
 have h1:=this x hx
 have h2:=this z hz
 simp only[beq_iff_eq]at h1 h2
 exact h (h1.trans h2.symm)
theorem apL_three{L:List Int}(h:3∈L):apL L=2:=by
 by_cases he:∀x∈L,x=3
 ·exact apL_same (fun e=>by subst e;simp at h) he
 ·have ⟨x,hx⟩:=Classical.not_forall.1 he
  have ⟨hx,hn⟩:=Classical.not_imp.1 hx
  exact apL_diff hx h hn
theorem ch_cnt{bus:Bool}(x:Int){l m:List Int}(h:Ch bus l m)(v:Int)(hv:v∈l)(hc:chc v bus=[x]):0<cnt x m:=by
 induction l generalizing m with
 |nil=>simp at hv
 |cons u l ih=>
  cases m with
  |nil=>exact absurd h id
  |cons z m=>
   rw[cnt]
   rcases List.mem_cons.1 hv with rfl|hv
   ·have h1:=h.1
    rw[hc]at h1
    have h1:z=x:=by simpa using h1
    rw[if_pos h1];omega
   ·have:=ih h.2 hv;omega
theorem ch_not{bus:Bool}(x:Int){l m:List Int}(h:Ch bus l m)(hc:∀v∈l,x ∉ chc v bus):cnt x m=0:=by
 induction l generalizing m with
 |nil=>
  cases m with
  |nil=>rfl
  |cons=>exact absurd h id
 |cons u l ih=>
  cases m with
  |nil=>exact absurd h id
  |cons z m=>
   rw[cnt,ih h.2 (fun v hv=>hc v (List.mem_cons_of_mem _ hv)),if_neg]
   rintro rfl
   exact hc u (by simp) h.1
theorem any_mem{f:Int→Int}{x:Int}{l:List Int}(h:anyIs f x l=true):∃v∈l,f v=x:=by
 obtain⟨v,hv,h⟩:=List.any_eq_true.1 h
 exact⟨v,hv,by simpa using h⟩
theorem any_not{f:Int→Int}{x:Int}{l:List Int}(h:anyIs f x l=false):∀v∈l,f v≠x:=by
 intro v hv e
 have:=List.any_eq_false.1 h v hv
 simp[e]at this
theorem cln0{v:Int}(h:cln v=0):v=0:=by unfold cln at h;split at h<;>omega
theorem cln1{v:Int}(h:cln v=1):v=1:=by unfold cln at h;split at h<;>omega
theorem cln2{v:Int}(h:cln v=2):v=2∨3<v:=by unfold cln at h;split at h<;>omega
theorem chc_bus{v:Int}(h:v=2∨3<v):chc v true=[0,1,2]:=by
 unfold chc;rw[if_neg (by omega),if_neg (by omega),if_neg (by omega),if_pos rfl]
theorem fC_bus(m:List Int):fC 13 m=if cnt 1 m+cnt 0 m=0 then 2 else if 0<cnt 1 m∧0<cnt 0 m then 3 else bitI (decide (0<cnt 1 m)):=rfl
theorem ap_bus(l:List Int)(h0:∀v∈l,0≤v):apL ((cS l true).map (fnT 13))=busL l:=by
 have hq:Count2 13:=by unfold Count2;omega
 have hne:(cS l true).map (fnT 13)≠[]:=by
  intro e
  have:=congrArg List.length e
  rw[List.length_map]at this
  have:=cS_pos l true
  simp_all
 unfold busL
 cases h2:anyIs cln 2 l
 ·cases hc:conL l
  ·rw[if_neg (by simp)]
   have hw:∀v∈l,v=0∨v=1∨v=3:=fun v hv=>by
    have h1:=any_not h2 v hv
    have:=h0 v hv
    unfold cln at h1
    split at h1<;>omega
   cases hz:anyIs cln 0 l
   ·have hn0:∀v∈l,(0:Int) ∉ chc v true:=fun v hv=>by
     have h1:=any_not hz v hv
     rcases hw v hv with rfl|rfl|rfl
     ·exact absurd rfl h1
     ·decide
     ·decide
    cases ho:anyIs cln 1 l
    ·rw[if_neg (by simp),if_neg (by simp)]
     have hn1:∀v∈l,(1:Int) ∉ chc v true:=fun v hv=>by
      have h1:=any_not ho v hv
      rcases hw v hv with rfl|rfl|rfl
      ·decide
      ·exact absurd rfl h1
      ·decide
     refine (apL_same (y:=2) hne fun x hx=>?_).trans rfl
     obtain⟨m,hm,rfl⟩:=(fL_mem hq _ _ _).1 hx
     rw[fC_bus,ch_not 1 hm hn1,ch_not 0 hm hn0];rfl
    ·rw[if_neg (by simp),if_pos rfl]
     obtain⟨v,hv,e⟩:=any_mem ho
     obtain rfl:=cln1 e
     refine (apL_same (y:=1) hne fun x hx=>?_).trans rfl
     obtain⟨m,hm,rfl⟩:=(fL_mem hq _ _ _).1 hx
     have hp:=ch_cnt 1 hm 1 hv rfl
     rw[fC_bus,ch_not 0 hm hn0,if_neg (by omega),if_neg (by omega),decide_eq_true hp];rfl
   ·rw[if_pos rfl]
    obtain⟨v,hv,e⟩:=any_mem hz
    obtain rfl:=cln0 e
    have ho:anyIs cln 1 l=false:=by
     unfold conL at hc;rw[hz]at hc;simpa using hc
    have hn1:∀v∈l,(1:Int) ∉ chc v true:=fun v hv=>by
     have h1:=any_not ho v hv
     rcases hw v hv with rfl|rfl|rfl
     ·decide
     ·exact absurd rfl h1
     ·decide
    refine (apL_same (y:=0) hne fun x hx=>?_).trans rfl
    obtain⟨m,hm,rfl⟩:=(fL_mem hq _ _ _).1 hx
    have hp:=ch_cnt 0 hm 0 hv rfl
    rw[fC_bus,ch_not 1 hm hn1,if_neg (by omega),if_neg (by omega)];rfl
  ·rw[if_pos (by simp)]
   unfold conL at hc
   obtain⟨hz,ho⟩:=(Bool.and_eq_true _ _).mp hc
   obtain⟨v,hv,e⟩:=any_mem hz
   obtain rfl:=cln0 e
   obtain⟨v,hv1,e⟩:=any_mem ho
   obtain rfl:=cln1 e
   obtain⟨m,hm⟩:=ch_some true l
   refine apL_three ((fL_mem hq _ _ _).2 ⟨m,hm,?_⟩)
   have hp:=ch_cnt 0 hm 0 hv rfl
   have hp1:=ch_cnt 1 hm 1 hv1 rfl
   rw[fC_bus,if_neg (by omega),if_pos ⟨hp1,hp⟩]
 ·rw[if_pos (by simp)]
  obtain⟨v,hv,e⟩:=any_mem h2
  obtain⟨l1,l2,rfl⟩:=List.append_of_mem hv
  have hx:=chc_bus (cln2 e)
  obtain⟨m1,hm1⟩:=ch_some true l1
  obtain⟨m2,hm2⟩:=ch_some true l2
  have hA:Ch true (l1++v::l2) (m1++0::m2):=ch_app hm1 ⟨by rw[hx];simp,hm2⟩
  have hB:Ch true (l1++v::l2) (m1++1::m2):=ch_app hm1 ⟨by rw[hx];simp,hm2⟩
  have a0:cnt 0 (m1++0::m2)=cnt 0 m1+(1+cnt 0 m2):=by rw[cnt_app,cnt];rfl
  have a1:cnt 1 (m1++0::m2)=cnt 1 m1+(0+cnt 1 m2):=by rw[cnt_app,cnt];rfl
  have b0:cnt 0 (m1++1::m2)=cnt 0 m1+(0+cnt 0 m2):=by rw[cnt_app,cnt];rfl
  have b1:cnt 1 (m1++1::m2)=cnt 1 m1+(1+cnt 1 m2):=by rw[cnt_app,cnt];rfl
  have eA:fC 13 (m1++0::m2)=if 0<cnt 1 m1+cnt 1 m2 then 3 else 0:=by
   rw[fC_bus,a0,a1]
   by_cases h:0<cnt 1 m1+cnt 1 m2
   ·rw[if_pos h,if_neg (by omega),if_pos (by omega)]
   ·rw[if_neg h,if_neg (by omega),if_neg (by omega),decide_eq_false (by omega)];rfl
  have eB:fC 13 (m1++1::m2)=if 0<cnt 0 m1+cnt 0 m2 then 3 else 1:=by
   rw[fC_bus,b0,b1]
   by_cases h:0<cnt 0 m1+cnt 0 m2
   ·rw[if_pos h,if_neg (by omega),if_pos (by omega)]
   ·rw[if_neg h,if_neg (by omega),if_neg (by omega),decide_eq_true (by omega)];rfl
  by_cases h:0<cnt 1 m1+cnt 1 m2
  ·rw[if_pos h]at eA
   exact apL_three ((fL_mem hq _ _ _).2 ⟨_,hA,eA.symm⟩)
  ·rw[if_neg h]at eA
   refine apL_diff ((fL_mem hq _ _ _).2 ⟨_,hA,eA.symm⟩) ((fL_mem hq _ _ _).2 ⟨_,hB,eB.symm⟩) ?_
   split<;>omega
theorem bitI_ways(b:Bool):bitI b=0∨bitI b=1∨bitI b=2∨bitI b=3:=by cases b<;>simp[bitI]
theorem fC_first{q:Int}(hq:Count2 q)(m:List Int):fC q m=0∨fC q m=1∨fC q m=2∨fC q m=3:=by
 rcases hq with rfl|rfl|rfl|rfl|rfl|rfl|rfl
 ·exact bitI_ways _
 ·exact bitI_ways _
 ·exact bitI_ways _
 ·exact bitI_ways _
 ·exact bitI_ways _
 ·exact bitI_ways _
 ·rw[fC_bus]
  split
  ·simp
  ·split
   ·simp
   ·exact bitI_ways _
theorem first_ways{q:Int}(hq:Count2 q)(l:List Int)(bus:Bool):let L:=(cS l bus).map (fnT q);L.getD 0 0=0∨L.getD 0 0=1∨L.getD 0 0=2∨L.getD 0 0=3:=by
 intro L
 have hne:L≠[]:=by
  intro e
  have:=congrArg List.length e
  rw[List.length_map]at this
  have:=cS_pos l bus
  simp_all
 obtain⟨m,-,e⟩:=(fL_mem hq l bus _).1 (head_mem hne)
 rw[e]
 exact fC_first hq m
theorem ch_avoid{bus:Bool}(x:Int){l:List Int}(h:∀v∈l,∃z∈chc v bus,z≠x):∃m,Ch bus l m∧cnt x m=0:=by
 induction l with
 |nil=>exact⟨[],trivial,rfl⟩
 |cons v l ih=>
  obtain⟨m,hm,hc⟩:=ih fun u hu=>h u (List.mem_cons_of_mem _ hu)
  obtain⟨z,hz,hn⟩:=h v (by simp)
  exact⟨z::m,⟨hz,hm⟩,by rw[cnt,if_neg hn,hc]⟩
theorem chc_f{v:Int}(h0:v≠0)(h1:v≠1):chc v false=[0,1]:=by
 unfold chc;rw[if_neg h0,if_neg h1,if_neg (by simp),if_neg (by simp)]
theorem chc_avoid(x v:Int)(hv:v≠x)(hx:x=0∨x=1):∃z∈chc v false,z≠x:=by
 by_cases h0:v=0
 ·subst h0;exact⟨0,by simp[chc],hv⟩
 ·by_cases h1:v=1
  ·subst h1;exact⟨1,by simp[chc],hv⟩
  ·rw[chc_f h0 h1]
   rcases hx with rfl|rfl
   ·exact⟨1,by simp,by decide⟩
   ·exact⟨0,by simp,by decide⟩
theorem rd0{v:Int}(h:rd v=0):v=0:=by rcases knw_cases v with⟨h',_⟩| ⟨_,_,e,_⟩| ⟨_,_,_,e⟩ <;>omega
theorem rd1{v:Int}(h:rd v=1):v=1:=by rcases knw_cases v with⟨_,_,e,_⟩| ⟨h',_⟩| ⟨_,_,_,e⟩ <;>omega
theorem rd2{v:Int}(h:rd v=2):v≠0∧v≠1:=by rcases knw_cases v with⟨_,_,e,_⟩| ⟨_,_,e,_⟩| ⟨h0,h1,_,_⟩ <;>first|exact⟨h0,h1⟩|omega
theorem rd_n0{v:Int}(h:rd v≠0):v≠0:=by rintro rfl;exact h rfl
theorem rd_n1{v:Int}(h:rd v≠1):v≠1:=by rintro rfl;exact h rfl
theorem rd_n2{v:Int}(h:rd v≠2):v=0∨v=1:=by rcases knw_cases v with⟨e,_⟩| ⟨e,_⟩| ⟨_,_,_,e⟩ <;>first|exact .inl e|exact .inr e|exact absurd e h
theorem chc_not(x v:Int)(hv:v=0∨v=1)(hx:v≠x):x ∉ chc v false:=by
 rcases hv with rfl|rfl
 ·simp[chc];exact fun e=>hx e.symm
 ·simp[chc];exact fun e=>hx e.symm
theorem cS_ne(q:Int)(l:List Int)(bus:Bool):(cS l bus).map (fnT q)≠[]:=by
 intro e
 have:=congrArg List.length e
 rw[List.length_map]at this
 have:=cS_pos l bus
 simp_all
theorem fC_and(m:List Int):fC 5 m=bitI (cnt 0 m==0):=rfl
theorem fC_or(m:List Int):fC 7 m=bitI (decide (0<cnt 1 m)):=rfl
theorem fC_xor(m:List Int):fC 9 m=bitI (cnt 1 m%2==1):=rfl
theorem ap_and(l:List Int):apL ((cS l false).map (fnT 5))=andL l:=by
 have hq:Count2 5:=by unfold Count2;omega
 have hne:=cS_ne 5 l false
 unfold andL
 cases h0:anyIs rd 0 l
 ·rw[if_neg (by simp)]
  cases h2:anyIs rd 2 l
  ·rw[if_neg (by simp)]
   refine (apL_same (y:=1) hne fun x hx=>?_).trans rfl
   obtain⟨m,hm,rfl⟩:=(fL_mem hq _ _ _).1 hx
   rw[fC_and,ch_not 0 hm fun v hv=>chc_not 0 v (rd_n2 (any_not h2 v hv)) (rd_n0 (any_not h0 v hv))];rfl
  ·rw[if_pos rfl]
   obtain⟨v,hv,e⟩:=any_mem h2
   obtain⟨l1,l2,rfl⟩:=List.append_of_mem hv
   have hx:=chc_f (rd2 e).1 (rd2 e).2
   obtain⟨m1,hm1⟩:=ch_some false l1
   obtain⟨m2,hm2⟩:=ch_some false l2
   have hA:Ch false (l1++v::l2) (m1++0::m2):=ch_app hm1 ⟨by rw[hx];simp,hm2⟩
   have a0:cnt 0 (m1++0::m2)=cnt 0 m1+(1+cnt 0 m2):=by rw[cnt_app,cnt];rfl
   obtain⟨mB,hB,hB0⟩:=ch_avoid (bus:=false) 0 fun u hu=>chc_avoid 0 u (rd_n0 (any_not h0 u hu)) (.inl rfl)
   refine apL_diff ((fL_mem hq _ _ _).2 ⟨_,hA,rfl⟩) ((fL_mem hq _ _ _).2 ⟨_,hB,rfl⟩) ?_
   rw[fC_and,fC_and,hB0,a0,beq_eq_false_iff_ne.2 (by omega:cnt 0 m1+(1+cnt 0 m2)≠0)]
   decide
 ·rw[if_pos rfl]
  obtain⟨v,hv,e⟩:=any_mem h0
  obtain rfl:=rd0 e
  refine (apL_same (y:=0) hne fun x hx=>?_).trans rfl
  obtain⟨m,hm,rfl⟩:=(fL_mem hq _ _ _).1 hx
  have hp:=ch_cnt 0 hm 0 hv rfl
  rw[fC_and,beq_eq_false_iff_ne.2 (by omega:cnt 0 m≠0)];rfl
theorem ap_or(l:List Int):apL ((cS l false).map (fnT 7))=orL l:=by
 have hq:Count2 7:=by unfold Count2;omega
 have hne:=cS_ne 7 l false
 unfold orL
 cases h0:anyIs rd 1 l
 ·rw[if_neg (by simp)]
  cases h2:anyIs rd 2 l
  ·rw[if_neg (by simp)]
   refine (apL_same (y:=0) hne fun x hx=>?_).trans rfl
   obtain⟨m,hm,rfl⟩:=(fL_mem hq _ _ _).1 hx
   rw[fC_or,ch_not 1 hm fun v hv=>chc_not 1 v (rd_n2 (any_not h2 v hv)) (rd_n1 (any_not h0 v hv))];rfl
  ·rw[if_pos rfl]
   obtain⟨v,hv,e⟩:=any_mem h2
   obtain⟨l1,l2,rfl⟩:=List.append_of_mem hv
   have hx:=chc_f (rd2 e).1 (rd2 e).2
   obtain⟨m1,hm1⟩:=ch_some false l1
   obtain⟨m2,hm2⟩:=ch_some false l2
   have hA:Ch false (l1++v::l2) (m1++1::m2):=ch_app hm1 ⟨by rw[hx];simp,hm2⟩
   have a0:cnt 1 (m1++1::m2)=cnt 1 m1+(1+cnt 1 m2):=by rw[cnt_app,cnt];rfl
   obtain⟨mB,hB,hB0⟩:=ch_avoid (bus:=false) 1 fun u hu=>chc_avoid 1 u (rd_n1 (any_not h0 u hu)) (.inr rfl)
   refine apL_diff ((fL_mem hq _ _ _).2 ⟨_,hA,rfl⟩) ((fL_mem hq _ _ _).2 ⟨_,hB,rfl⟩) ?_
   rw[fC_or,fC_or,hB0,a0,decide_eq_true (by omega:0<cnt 1 m1+(1+cnt 1 m2))]
   decide
 ·rw[if_pos rfl]
  obtain⟨v,hv,e⟩:=any_mem h0
  obtain rfl:=rd1 e
  refine (apL_same (y:=1) hne fun x hx=>?_).trans rfl
  obtain⟨m,hm,rfl⟩:=(fL_mem hq _ _ _).1 hx
  have hp:=ch_cnt 1 hm 1 hv rfl
  rw[fC_or,decide_eq_true hp];rfl
theorem ch_known{l m:List Int}(h:Ch false l m)(hv:∀v∈l,v=0∨v=1):m=l:=by
 induction l generalizing m with
 |nil=>cases m with
  |nil=>rfl
  |cons=>exact absurd h id
 |cons v l ih=>cases m with
  |nil=>exact absurd h id
  |cons x m=>
   rw[ih h.2 fun u hu=>hv u (List.mem_cons_of_mem _ hu)]
   have h1:=h.1
   rcases hv v (by simp) with rfl|rfl
   ·rw[show chc 0 false=[0] from rfl]at h1
    rw[List.mem_singleton.1 h1]
   ·rw[show chc 1 false=[1] from rfl]at h1
    rw[List.mem_singleton.1 h1]
theorem par_cnt(l:List Int):bitI (cnt 1 l%2==1)=par l:=by
 induction l with
 |nil=>rfl
 |cons v l ih=>
  rw[cnt,par]
  by_cases h:v=1
  ·rw[if_pos h,if_pos h,←ih]
   rcases Nat.mod_two_eq_zero_or_one (cnt 1 l) with e|e
   ·rw[e,show (1+cnt 1 l)%2=1 by omega];rfl
   ·rw[e,show (1+cnt 1 l)%2=0 by omega];rfl
  ·rw[if_neg h,if_neg h,Nat.zero_add,ih]
theorem ap_xor(l:List Int):apL ((cS l false).map (fnT 9))=xorL l:=by
 have hq:Count2 9:=by unfold Count2;omega
 have hne:=cS_ne 9 l false
 unfold xorL
 cases h2:anyIs rd 2 l
 ·rw[if_neg (by simp)]
  have e:apL ((cS l false).map (fnT 9))=tabI (par l):=by
   refine apL_same hne fun x hx=>?_
   obtain⟨m,hm,rfl⟩:=(fL_mem hq _ _ _).1 hx
   rw[fC_xor,ch_known hm fun v hv=>rd_n2 (any_not h2 v hv),par_cnt]
  rw[e]
  rcases par_cases l with e|e<;>rw[e]<;>rfl
 ·rw[if_pos rfl]
  obtain⟨v,hv,e⟩:=any_mem h2
  obtain⟨l1,l2,rfl⟩:=List.append_of_mem hv
  have hx:=chc_f (rd2 e).1 (rd2 e).2
  obtain⟨m1,hm1⟩:=ch_some false l1
  obtain⟨m2,hm2⟩:=ch_some false l2
  have hA:Ch false (l1++v::l2) (m1++0::m2):=ch_app hm1 ⟨by rw[hx];simp,hm2⟩
  have hB:Ch false (l1++v::l2) (m1++1::m2):=ch_app hm1 ⟨by rw[hx];simp,hm2⟩
  have a1:cnt 1 (m1++0::m2)=cnt 1 m1+(0+cnt 1 m2):=by rw[cnt_app,cnt];rfl
  have b1:cnt 1 (m1++1::m2)=cnt 1 m1+(1+cnt 1 m2):=by rw[cnt_app,cnt];rfl
  refine apL_diff ((fL_mem hq _ _ _).2 ⟨_,hA,rfl⟩) ((fL_mem hq _ _ _).2 ⟨_,hB,rfl⟩) ?_
  rw[fC_xor,fC_xor,a1,b1]
  rcases Nat.mod_two_eq_zero_or_one (cnt 1 m1+cnt 1 m2) with e|e
  ·rw[show (cnt 1 m1+(0+cnt 1 m2))%2=0 by omega,show (cnt 1 m1+(1+cnt 1 m2))%2=1 by omega];decide
  ·rw[show (cnt 1 m1+(0+cnt 1 m2))%2=1 by omega,show (cnt 1 m1+(1+cnt 1 m2))%2=0 by omega];decide
theorem apL_neg{L:List Int}(h0:L≠[])(h:∀x∈L,x=0∨x=1):apL (L.map fun x=>1-x)=nt (apL L):=by
 have h0':(L.map fun x=>1-x)≠[]:=fun e=>h0 (List.map_eq_nil_iff.1 e)
 by_cases ha:∀x∈L,x=0
 ·rw[apL_same h0 ha,apL_same (y:=1) h0' (fun x hx=>by obtain⟨z,hz,rfl⟩:=List.mem_map.1 hx;rw[ha z hz];rfl)];rfl
 ·by_cases hb:∀x∈L,x=1
  ·rw[apL_same h0 hb,apL_same (y:=0) h0' (fun x hx=>by obtain⟨z,hz,rfl⟩:=List.mem_map.1 hx;rw[hb z hz];rfl)];rfl
  ·obtain⟨x,hx⟩:=Classical.not_forall.1 ha
   obtain⟨hx,nx⟩:=Classical.not_imp.1 hx
   obtain⟨z,hz⟩:=Classical.not_forall.1 hb
   obtain⟨hz,nz⟩:=Classical.not_imp.1 hz
   have ex:=h x hx
   have ez:=h z hz
   rw[apL_diff hx hz (by omega),apL_diff (List.mem_map.2 ⟨x,hx,rfl⟩) (List.mem_map.2 ⟨z,hz,rfl⟩) (by omega)];rfl
theorem bitI_not(b:Bool):bitI (!b)=1-bitI b:=by cases b<;>rfl
theorem bitI_two(b:Bool):bitI b=0∨bitI b=1:=by cases b<;>simp[bitI]
theorem neg_kind{q r:Int}(h:∀t,fnT r t=1-fnT q t)(h2:∀t,fnT q t=0∨fnT q t=1)(l:List Int)(bus:Bool):apL ((cS l bus).map (fnT r))=nt (apL ((cS l bus).map (fnT q))):=by
 rw[←apL_neg (cS_ne q l bus) (fun x hx=>by obtain⟨t,-,rfl⟩:=List.mem_map.1 hx;exact h2 t),List.map_map]
 exact congrArg (fun f=>apL ((cS l bus).map f)) (funext h)
theorem ap_nand(l:List Int):apL ((cS l false).map (fnT 6))=nt (andL l):=by
 rw[←ap_and];exact neg_kind (q:=5) (r:=6) (fun t=>bitI_not _) (fun t=>bitI_two _) l false
theorem ap_nor(l:List Int):apL ((cS l false).map (fnT 8))=nt (orL l):=by
 rw[←ap_or];exact neg_kind (q:=7) (r:=8) (fun t=>bitI_not _) (fun t=>bitI_two _) l false
theorem ap_xnor(l:List Int):apL ((cS l false).map (fnT 10))=nt (xorL l):=by
 rw[←ap_xor];exact neg_kind (q:=9) (r:=10) (fun t=>bitI_not _) (fun t=>bitI_two _) l false
def cntL(q:Int)(l:List Int):Int:=
 if q=5 then andL l else if q=6 then nt (andL l) else if q=7 then orL l else if q=8 then nt (orL l) else if q=9 then xorL l else if q=10 then nt (xorL l) else busL l
theorem count_apply(q:Int)(hq:Counts q)(l:List Int)(s:Value)(n c b o:Nat)(A:Option Addr)(hv:s=.slice A n c)(hA:0<n→A=some ⟨b,o,none⟩)(w:World)(hn:n=l.length)(h7:n≤7)(h0:∀v∈l,0≤v)
 (hc:∀k,k<n→b<w.heap.size∧w.cell? ⟨b,o+k,none⟩=some (.int .u8 (l.getD k 0))):
 Calls Tryz.prog 129 #[.int .u8 q,s] w fun e w'=>e=.returned (.int .u8 (cntL q l))∧RowKit.Below w.heap.size w w':=by
 have h:=apply_cnt q l s n c b o A hv hA w hn h7 hq hc _ rfl (first_ways hq l _)
 have e:apL ((cS l (q==13)).map (fnT q))=cntL q l:=by
  rcases hq with rfl|rfl|rfl|rfl|rfl|rfl|rfl
  ·exact ap_and l
  ·exact ap_nand l
  ·exact ap_or l
  ·exact ap_nor l
  ·exact ap_xor l
  ·exact ap_xnor l
  ·exact ap_bus l h0
 rw[e]at h
 exact h
end Go.Proofs.YtemjmfpcopfdbaaGreatDoor.Lg
