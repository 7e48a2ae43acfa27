import Derived.Test.YtckgnoopjapknaaDoorM43
namespace Go.Proofs.YtckgnoopjapknaaDoor
open Go.RowKit
theorem memB_congr{R R':List Bool}{n:Nat}(h:∀j,j<n→bat R j=bat R' j):memB R n=memB R' n:=by
 unfold memB
 rw[List.filter_congr fun j hj=>h j (List.mem_range.1 hj)]
def BStk(w:World)(base:Nat)(v:Value)(l:List Bool):Prop:=w.ownsRow base 4 1 v l.length (l.map Value.bool)
theorem BStk.nil(w:World)(base:Nat):BStk w base (.slice none 0 0) []:=World.ownsRow_nil w base _ _
theorem BStk.kept{w w':World}{base:Nat}{v:Value}{l:List Bool}{row:Option Nat}(h:BStk w base v l)(hg:w.grownBy w' row)(hne:∀q,row=some q→q<base):BStk w' base v l:=by
 refine World.ownsRow.kept h hg ?_
 rcases ho:v.ownBlock with _|q
 ·exact .inl rfl
 ·refine .inr fun e=>?_
  have:=(World.ownsRow.lt h q ho).1
  have:=hne q e.symm
  omega
theorem BStk.below{w w':World}{base:Nat}{v:Value}{l:List Bool}(h:BStk w base v l)(hb:Below w.heap.size w w'):BStk w' base v l:=
 h.kept (row:=none) ⟨hb.os,hb.tape,hb.output,hb.size,fun i hi _=>hb.block i hi⟩ (by simp)
theorem BStk.shape{w:World}{base:Nat}{v:Value}{l:List Bool}(h:BStk w base v l):∃A c,v=.slice A l.length c∧l.length≤c∧c≤maxLen∧(0<l.length→∃q,A=some ⟨q,0,none⟩∧base≤q∧q<w.heap.size):=by
 have hlt:=World.ownsRow.lt h
 rcases h.2 with⟨rfl,hn⟩| ⟨g,cap,cur,rfl,hb,hg,hle,hm,-⟩
 ·exact⟨none,0,by rw[hn],by omega,by simp,fun h=>by omega⟩
 ·exact⟨_,cap,rfl,hle,hm,fun _=>⟨g,rfl,hb,(hlt g rfl).2⟩⟩
theorem BStk.cell{w:World}{base q c:Nat}{l:List Bool}(h:BStk w base (.slice (some ⟨q,0,none⟩) l.length c) l){j:Nat}(hj:j<l.length):w.cell? ⟨q,j,none⟩=some (.bool (l.getD j false)):=by
 rw[World.ownsRow.cellAt h j (by omega),List.getElem?_map,List.getElem?_eq_getElem hj]
 simp[List.getD_eq_getElem?_getD,List.getElem?_eq_getElem hj]
theorem pushB_own{w wo w1:World}{g:Nat}{sv v':Value}{st:List Bool}{x:Bool}{o:Obj}(hg:g≤wo.heap.size)(hb:Below g w wo)(hstk:BStk wo g sv st)
 (hown:w1.ownsRow g 4 1 v' (st.length+1) (st.map Value.bool++[.bool x])) (hgr:(wo.alloc o).grownBy w1 sv.ownBlock):Below g w w1∧BStk w1 g v' (st++[x]):=by
 have hq:∀q,sv.ownBlock=some q→g≤q:=fun q h=>(World.ownsRow.lt hstk q h).1
 refine⟨(hb.alloc hg o).grown hgr (by simp;omega) hq,?_⟩
 unfold BStk
 rw[List.length_append,List.map_append]
 exact hown
theorem bools_oneCell(l:List Bool):∀u∈l.map Value.bool,u.oneCell'=true:=by
 intro u hu
 obtain⟨z,-,rfl⟩:=List.mem_map.1 hu
 rfl
set_option maxHeartbeats 4000000 in
theorem set5_cap(g n c:Nat)(R:List Bool)(w:World)(hR:∀W,BelW w W→∀k:Nat,k<n→W.cell? ⟨g,k,none⟩=some (.bool (bat R k)))(hn:n≤1000000):
 Calls Tryd.prog 22 #[.slice (some ⟨g,0,none⟩) n c] w fun e w'=>∃A d,e=.returned (.slice A (memB R n).length d)∧Is w' w'.heap.size (.slice A (memB R n).length d) (memB R n)∧BelW w w':=by
 obtain⟨i1,hi1,hz0,hz1,hz2⟩:=info_parts info_int
 have HI:=Lib.hid (And.intro hi1 (And.intro hz0 (And.intro hz1 hz2)))
 have HR:=Lib.hid hR
 clear hi1 hz0 hz1 hz2 hR
 go_enter Tryd.func22,Tryd.ntmps22
 go_wp2
 go_loopw [3,4] (fun sv i wr=>∃k:Nat,k≤n∧i=.int .i64 k∧Below w.heap.size w wr∧w.heap.size≤wr.heap.size∧Stk wr w.heap.size sv (memB R k)) (fun _ i _=>n-(intOf i).toNat)
 case atStart=>exact⟨0,Nat.zero_le _,rfl,Below.refl _ _,Nat.le_refl _,Stk.nil _ _⟩
 case round=>
  obtain⟨k,hk,rfl,hb,hg,hst⟩:=hrel
  obtain⟨A6,c6,rfl,hle6,hc6,hsh⟩:=hst.shape
  have hol:=memB_len R k
  by_cases hlt:k<n
  ·have hk2:(k:Int)<(n:Int):=by omega
   have hsu:=memB_succ R k
   obtain⟨t,HT⟩:=named (bat R k)
   have x0:wr.cell? ⟨g,k,none⟩=some (.bool t):=by rw[HT.out];exact HR.out wr hb k hlt
   rw[←HT.out]at hsu
   have HB:=Lib.hid hb
   have HST:=Lib.hid hst
   clear hst hb HT
   obtain⟨L,HL⟩:=named (memB R k)
   rw[←HL.out]at hsu HST hol hle6 hsh
   rw[←HL.out]
   cases t
   ·rw[if_neg (by decide),List.append_nil]at hsu
    have HSU:=Lib.hid hsu
    clear hsu hsh
    go_wp2
    go_roundw
    case rel=>exact⟨k+1,by omega,by go_num,HB.out,hg,by rw[HSU.out];exact HST.out⟩
    case measure=>simp[intOf];omega
   ·rw[if_pos rfl]at hsu
    have HSU:=Lib.hid hsu
    clear hsu hsh
    go_wp2_with (at_builtin;refine wpList_append_own_at _ rfl _ _ 25 rfl w.heap.size 3 i1 (.int .i64 0) 1 8 Tryd.underlying25 HI.out.1 HI.out.2.1 HI.out.2.2.1 HI.out.2.2.2 rfl (by decide) _ _ _ rfl (World.ownsRow.alloc HST.out _) ⟨wr.heap.size,0,none⟩ 1 1 [.int .i64 (k:Int)] rfl rfl (by have:=one_new wr (.int .i64 (k:Int)) 3;simpa using this) (ints_oneCell .i64 [(k:Int)]) (by unfold maxLen;omega) (by omega) (by simp;omega) ?_;intro v' w2 hown' hgrow hnil hloc;have HF:=Lib.hid (push_own hg HB.out HST.out hown' hgrow);have HZ:=Lib.hid hgrow.size;clear hown' hgrow hnil hloc)
    go_roundw
    case rel=>
     refine⟨k+1,by omega,by go_num,HF.out.1,by have:=HZ.out;simp at this;omega,?_⟩
     rw[HSU.out];exact HF.out.2
    case measure=>simp[intOf];omega
  ·obtain rfl:n=k:=by omega
   have hr:=hst.reads c6 hle6 (by unfold maxLen;omega)
   have HRD:=Lib.hid hr
   have HB:=Lib.hid hb
   obtain⟨L,HL⟩:=named (memB R n)
   rw[←HL.out]at HRD
   rw[←HL.out]
   clear hr hb hst hsh hle6
   go_wp2
   go_ret
   rw[←HL.out]
   exact⟨A6,c6,rfl,HRD.out,HB.out⟩
end Go.Proofs.YtckgnoopjapknaaDoor
