/- The texts Knw. -/
import Derived.Test.YtjdjcaobkmpoeaaDoorM09
import Derived.Test.YtjdjcaobkmpoeaaDoorM10
import Derived.Test.YtjdjcaobkmpoeaaDoorM12
namespace Go.Proofs.YtjdjcaobkmpoeaaDoor
open Go.RowKit
def nwL(p:Nat→Bool)(k:Nat):List Int:=((List.range k).filter p).map fun(j:Nat)=>(j:Int)
theorem nwL_succ(p:Nat→Bool)(k:Nat):nwL p (k+1)=nwL p k++(if p k=true then [(k:Int)] else []):=by
 unfold nwL
 rw[List.range_succ,List.filter_append,List.map_append]
 by_cases h:p k=true
 ·rw[if_pos h,List.filter_cons_of_pos h];rfl
 ·rw[if_neg h,List.filter_cons_of_neg h];rfl
theorem nwL_len(p:Nat→Bool)(k:Nat):(nwL p k).length≤k:=by
 unfold nwL
 rw[List.length_map]
 exact Nat.le_trans (List.length_filter_le _ _) (by simp)
set_option maxHeartbeats 4000000 in
theorem nw_mem(n:Nat)(p:Nat→Bool)(q0:Nat)(w:World)(hn:n≤1000000)(hp:∀W,BelW w W→∀i:Nat,i<n→Calls Tryd.prog 53 #[.int .i64 (i:Int),.pointer (some ⟨q0,0,none⟩)] W fun e w'=>e=.returned (.bool (p i))∧w'=W):
 Calls Tryd.prog 33 #[.int .i64 (n:Int),.func (.func 53) #[] #[.pointer (some ⟨q0,0,none⟩)]] w (OfPost (nwL p n) w):=by
 have HP:=Lib.hid hp
 obtain⟨i1,hi1,hz0,hz1,hz2⟩:=info_parts info_int
 have HI:=Lib.hid (And.intro hi1 (And.intro hz0 (And.intro hz1 hz2)))
 clear hp hi1 hz0 hz1 hz2
 go_enter Tryd.func33,Tryd.ntmps33
 go_wp2
 go_loopw [8,5] (fun i sv wr=>∃k:Nat,k≤n∧i=.int .i64 k∧Below w.heap.size w wr∧w.heap.size≤wr.heap.size∧Stk wr w.heap.size sv (nwL p k)) (fun i _ _=>n-(intOf i).toNat)
 case atStart=>exact⟨0,Nat.zero_le _,rfl,Below.refl _ _,Nat.le_refl _,Stk.nil _ _⟩
 case round=>
  obtain⟨k,hk,rfl,hb,hg,hst⟩:=hrel
  obtain⟨A6,c6,rfl,hle6,hc6,hsh⟩:=hst.shape
  have hol:=nwL_len p k
  by_cases hlt:k<n
  ·have hsu:=nwL_succ p k
   have HCON:=Lib.hid (HP.out wr hb k hlt)
   have HB:=Lib.hid hb
   have HST:=Lib.hid hst
   clear hst hb
   obtain⟨L,HL⟩:=named (nwL p k)
   rw[←HL.out]at hsu HST hol hle6 hsh
   rw[←HL.out]
   cases hv:p k
   ·rw[hv]at hsu HCON
    rw[if_neg (by decide),List.append_nil]at hsu
    have HSU:=Lib.hid hsu
    clear hsu hv hsh
    go_wp2_with (go_at_call 53;(with_reducible refine HCON.out.mono ?_);rintro e w1 ⟨rfl,rfl⟩)
    go_roundw
    case rel=>exact⟨k+1,by omega,by go_num,HB.out,hg,by rw[HSU.out];exact HST.out⟩
    case measure=>simp[intOf];omega
   ·rw[hv]at hsu HCON
    rw[if_pos rfl]at hsu
    have HSU:=Lib.hid hsu
    clear hsu hv hsh
    go_wp2_with (first
     |(go_at_call 53;(with_reducible refine HCON.out.mono ?_);rintro e w1 ⟨rfl,rfl⟩)
     |(at_builtin;refine wpList_append_own_at _ rfl _ _ 25 rfl w.heap.size 3 i1 (.int .i64 0) 1 8 Tryd.underlying25 HI.out.1 HI.out.2.1 HI.out.2.2.1 HI.out.2.2.2 rfl (by decide) _ _ _ rfl (World.ownsRow.alloc HST.out _) ⟨w1.heap.size,0,none⟩ 1 1 [.int .i64 (k:Int)] rfl rfl (by have:=one_new w1 (.int .i64 (k:Int)) 3;simpa using this) (ints_oneCell .i64 [(k:Int)]) (by unfold maxLen;omega) (by omega) (by simp;omega) ?_;intro v' w2 hown' hgrow hnil hloc;have HF:=Lib.hid (push_own hg HB.out HST.out hown' hgrow);have HZ:=Lib.hid hgrow.size;clear hown' hgrow hnil hloc))
    go_roundw
    case rel=>
     refine⟨k+1,by omega,by go_num,HF.out.1,by have:=HZ.out;simp at this;omega,?_⟩
     rw[HSU.out];exact HF.out.2
    case measure=>simp[intOf];omega
  ·obtain rfl:n=k:=by omega
   have hr:=hst.reads _ (Nat.le_refl _) (by unfold maxLen;omega)
   have HR:=Lib.hid hr
   have HB:=Lib.hid hb
   have hclip:=clip_any A6 (nwL p n).length c6 wr hsh hle6 hc6
   obtain⟨L,HL⟩:=named (nwL p n)
   rw[←HL.out]at hclip HR
   rw[←HL.out]
   have HCL:=Lib.hid hclip
   clear hr hb hst hclip hsh hle6
   go_wp2_with (go_at_call 32;(with_reducible refine HCL.out.mono ?_);rintro e w1 ⟨rfl,rfl⟩)
   go_ret
   rw[←HL.out]
   exact⟨A6,rfl,HR.out,HB.out⟩
set_option maxHeartbeats 4000000 in
theorem nw_meet(n:Nat)(p:Nat→Bool)(q0 q1:Nat)(w:World)(hn:n≤1000000)(hp:∀W,BelW w W→∀i:Nat,i<n→Calls Tryd.prog 34 #[.int .i64 (i:Int),.pointer (some ⟨q0,0,none⟩),.pointer (some ⟨q1,0,none⟩)] W fun e w'=>e=.returned (.bool (p i))∧w'=W):
 Calls Tryd.prog 33 #[.int .i64 (n:Int),.func (.func 34) #[] #[.pointer (some ⟨q0,0,none⟩),.pointer (some ⟨q1,0,none⟩)]] w (OfPost (nwL p n) w):=by
 have HP:=Lib.hid hp
 obtain⟨i1,hi1,hz0,hz1,hz2⟩:=info_parts info_int
 have HI:=Lib.hid (And.intro hi1 (And.intro hz0 (And.intro hz1 hz2)))
 clear hp hi1 hz0 hz1 hz2
 go_enter Tryd.func33,Tryd.ntmps33
 go_wp2
 go_loopw [8,5] (fun i sv wr=>∃k:Nat,k≤n∧i=.int .i64 k∧Below w.heap.size w wr∧w.heap.size≤wr.heap.size∧Stk wr w.heap.size sv (nwL p k)) (fun i _ _=>n-(intOf i).toNat)
 case atStart=>exact⟨0,Nat.zero_le _,rfl,Below.refl _ _,Nat.le_refl _,Stk.nil _ _⟩
 case round=>
  obtain⟨k,hk,rfl,hb,hg,hst⟩:=hrel
  obtain⟨A6,c6,rfl,hle6,hc6,hsh⟩:=hst.shape
  have hol:=nwL_len p k
  by_cases hlt:k<n
  ·have hsu:=nwL_succ p k
   have HCON:=Lib.hid (HP.out wr hb k hlt)
   have HB:=Lib.hid hb
   have HST:=Lib.hid hst
   clear hst hb
   obtain⟨L,HL⟩:=named (nwL p k)
   rw[←HL.out]at hsu HST hol hle6 hsh
   rw[←HL.out]
   cases hv:p k
   ·rw[hv]at hsu HCON
    rw[if_neg (by decide),List.append_nil]at hsu
    have HSU:=Lib.hid hsu
    clear hsu hv hsh
    go_wp2_with (go_at_call 34;(with_reducible refine HCON.out.mono ?_);rintro e w1 ⟨rfl,rfl⟩)
    go_roundw
    case rel=>exact⟨k+1,by omega,by go_num,HB.out,hg,by rw[HSU.out];exact HST.out⟩
    case measure=>simp[intOf];omega
   ·rw[hv]at hsu HCON
    rw[if_pos rfl]at hsu
    have HSU:=Lib.hid hsu
    clear hsu hv hsh
    go_wp2_with (first
     |(go_at_call 34;(with_reducible refine HCON.out.mono ?_);rintro e w1 ⟨rfl,rfl⟩)
     |(at_builtin;refine wpList_append_own_at _ rfl _ _ 25 rfl w.heap.size 3 i1 (.int .i64 0) 1 8 Tryd.underlying25 HI.out.1 HI.out.2.1 HI.out.2.2.1 HI.out.2.2.2 rfl (by decide) _ _ _ rfl (World.ownsRow.alloc HST.out _) ⟨w1.heap.size,0,none⟩ 1 1 [.int .i64 (k:Int)] rfl rfl (by have:=one_new w1 (.int .i64 (k:Int)) 3;simpa using this) (ints_oneCell .i64 [(k:Int)]) (by unfold maxLen;omega) (by omega) (by simp;omega) ?_;intro v' w2 hown' hgrow hnil hloc;have HF:=Lib.hid (push_own hg HB.out HST.out hown' hgrow);have HZ:=Lib.hid hgrow.size;clear hown' hgrow hnil hloc))
    go_roundw
    case rel=>
     refine⟨k+1,by omega,by go_num,HF.out.1,by have:=HZ.out;simp at this;omega,?_⟩
     rw[HSU.out];exact HF.out.2
    case measure=>simp[intOf];omega
  ·obtain rfl:n=k:=by omega
   have hr:=hst.reads _ (Nat.le_refl _) (by unfold maxLen;omega)
   have HR:=Lib.hid hr
   have HB:=Lib.hid hb
   have hclip:=clip_any A6 (nwL p n).length c6 wr hsh hle6 hc6
   obtain⟨L,HL⟩:=named (nwL p n)
   rw[←HL.out]at hclip HR
   rw[←HL.out]
   have HCL:=Lib.hid hclip
   clear hr hb hst hclip hsh hle6
   go_wp2_with (go_at_call 32;(with_reducible refine HCL.out.mono ?_);rintro e w1 ⟨rfl,rfl⟩)
   go_ret
   rw[←HL.out]
   exact⟨A6,rfl,HR.out,HB.out⟩
set_option maxHeartbeats 4000000 in
theorem nw_stem(n:Nat)(p:Nat→Bool)(q0:Nat)(w:World)(hn:n≤1000000)(hp:∀W,BelW w W→∀i:Nat,i<n→Calls Tryd.prog 37 #[.int .i64 (i:Int),.pointer (some ⟨q0,0,none⟩)] W fun e w'=>e=.returned (.bool (p i))∧w'=W):
 Calls Tryd.prog 33 #[.int .i64 (n:Int),.func (.func 37) #[] #[.pointer (some ⟨q0,0,none⟩)]] w (OfPost (nwL p n) w):=by
 have HP:=Lib.hid hp
 obtain⟨i1,hi1,hz0,hz1,hz2⟩:=info_parts info_int
 have HI:=Lib.hid (And.intro hi1 (And.intro hz0 (And.intro hz1 hz2)))
 clear hp hi1 hz0 hz1 hz2
 go_enter Tryd.func33,Tryd.ntmps33
 go_wp2
 go_loopw [8,5] (fun i sv wr=>∃k:Nat,k≤n∧i=.int .i64 k∧Below w.heap.size w wr∧w.heap.size≤wr.heap.size∧Stk wr w.heap.size sv (nwL p k)) (fun i _ _=>n-(intOf i).toNat)
 case atStart=>exact⟨0,Nat.zero_le _,rfl,Below.refl _ _,Nat.le_refl _,Stk.nil _ _⟩
 case round=>
  obtain⟨k,hk,rfl,hb,hg,hst⟩:=hrel
  obtain⟨A6,c6,rfl,hle6,hc6,hsh⟩:=hst.shape
  have hol:=nwL_len p k
  by_cases hlt:k<n
  ·have hsu:=nwL_succ p k
   have HCON:=Lib.hid (HP.out wr hb k hlt)
   have HB:=Lib.hid hb
   have HST:=Lib.hid hst
   clear hst hb
   obtain⟨L,HL⟩:=named (nwL p k)
   rw[←HL.out]at hsu HST hol hle6 hsh
   rw[←HL.out]
   cases hv:p k
   ·rw[hv]at hsu HCON
    rw[if_neg (by decide),List.append_nil]at hsu
    have HSU:=Lib.hid hsu
    clear hsu hv hsh
    go_wp2_with (go_at_call 37;(with_reducible refine HCON.out.mono ?_);rintro e w1 ⟨rfl,rfl⟩)
    go_roundw
    case rel=>exact⟨k+1,by omega,by go_num,HB.out,hg,by rw[HSU.out];exact HST.out⟩
    case measure=>simp[intOf];omega
   ·rw[hv]at hsu HCON
    rw[if_pos rfl]at hsu
    have HSU:=Lib.hid hsu
    clear hsu hv hsh
    go_wp2_with (first
     |(go_at_call 37;(with_reducible refine HCON.out.mono ?_);rintro e w1 ⟨rfl,rfl⟩)
     |(at_builtin;refine wpList_append_own_at _ rfl _ _ 25 rfl w.heap.size 3 i1 (.int .i64 0) 1 8 Tryd.underlying25 HI.out.1 HI.out.2.1 HI.out.2.2.1 HI.out.2.2.2 rfl (by decide) _ _ _ rfl (World.ownsRow.alloc HST.out _) ⟨w1.heap.size,0,none⟩ 1 1 [.int .i64 (k:Int)] rfl rfl (by have:=one_new w1 (.int .i64 (k:Int)) 3;simpa using this) (ints_oneCell .i64 [(k:Int)]) (by unfold maxLen;omega) (by omega) (by simp;omega) ?_;intro v' w2 hown' hgrow hnil hloc;have HF:=Lib.hid (push_own hg HB.out HST.out hown' hgrow);have HZ:=Lib.hid hgrow.size;clear hown' hgrow hnil hloc))
    go_roundw
    case rel=>
     refine⟨k+1,by omega,by go_num,HF.out.1,by have:=HZ.out;simp at this;omega,?_⟩
     rw[HSU.out];exact HF.out.2
    case measure=>simp[intOf];omega
  ·obtain rfl:n=k:=by omega
   have hr:=hst.reads _ (Nat.le_refl _) (by unfold maxLen;omega)
   have HR:=Lib.hid hr
   have HB:=Lib.hid hb
   have hclip:=clip_any A6 (nwL p n).length c6 wr hsh hle6 hc6
   obtain⟨L,HL⟩:=named (nwL p n)
   rw[←HL.out]at hclip HR
   rw[←HL.out]
   have HCL:=Lib.hid hclip
   clear hr hb hst hclip hsh hle6
   go_wp2_with (go_at_call 32;(with_reducible refine HCL.out.mono ?_);rintro e w1 ⟨rfl,rfl⟩)
   go_ret
   rw[←HL.out]
   exact⟨A6,rfl,HR.out,HB.out⟩
theorem mem1_any(g n i q:Nat)(R:List Bool)(W:World)(hR:BRow W g R)(hl:R.length=n)(hi:i<n)(hn:n≤1000000)(hq:W.cell? ⟨q,0,none⟩=some (.slice (some ⟨g,0,none⟩) n n)):
 Calls Tryd.prog 53 #[.int .i64 (i:Int),.pointer (some ⟨q,0,none⟩)] W fun e w'=>e=.returned (.bool (bat R i))∧w'=W:=by
 obtain⟨b,HB⟩:=named (bat R i)
 rw[←HB.out]
 have hlt:i<R.length:=by omega
 have hc:W.cell? ⟨g,i,none⟩=some (.bool b):=hR.cell (by rw[HB.out,List.getElem?_eq_getElem hlt];unfold bat;rw[List.getD_eq_getElem?_getD,List.getElem?_eq_getElem hlt];rfl)
 have hi2:(i:Int)<(n:Int):=by omega
 clear hR hl hlt
 go_enter Tryd.func53,Tryd.ntmps53
 go_wp2
 go_ret
 exact⟨rfl,rfl⟩
set_option maxHeartbeats 2000000 in
theorem members_any(g n:Nat)(R:List Bool)(w:World)(hR:BRow w g R)(hl:R.length=n)(hn:n≤1000000):
 Calls Tryd.prog 26 #[.slice (some ⟨g,0,none⟩) n n] w (OfPost (memB R n) w):=by
 obtain⟨W1,HW1⟩:=named (w.alloc (.cells #[.slice (some ⟨g,0,none⟩) n n] 41))
 have hb1:BelW w W1:=by rw[HW1.out];exact below_new (Below.refl _ _) _
 have hf:Fr W1 w.heap.size 41 [.slice (some ⟨g,0,none⟩) n n]:=by rw[HW1.out];exact Fr.made _ _ _ rfl
 have HNW:=Lib.hid (nw_mem n (bat R) w.heap.size W1 hn fun W h i hi=>mem1_any g n i w.heap.size R W (hR.below (joinB hb1 h)) hl hi hn ((hf.below h).cell 0))
 have x0:=hf.cell 0
 have HB1:=Lib.hid hb1
 clear hb1 hf hR
 go_enter Tryd.func26,Tryd.ntmps26
 go_upto_region 1 with (fail)
 rw[←HW1.out]
 go_wp2_with (go_at_call 33;(with_reducible refine HNW.out.mono ?_);rintro e w2 ⟨A,rfl,h1,h2⟩;have H1:=Lib.hid h1;have H2:=Lib.hid h2;clear h1 h2)
 go_ret
 exact⟨A,rfl,H1.out,joinB HB1.out H2.out⟩
end Go.Proofs.YtjdjcaobkmpoeaaDoor
