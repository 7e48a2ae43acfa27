/- The texts Fq8. -/
import Derived.Test.YtcbllelkgniogaaDoorM35
namespace Go.Proofs.YtcbllelkgniogaaDoor
open Go.RowKit
attribute [local go_sem] Oper.semAt_some
theorem isNode_any(A0 A1 A2 A3:Option Addr)(n n1 n2 n3 c0 c1 c2 c3:Nat)(i:Int)(w:World):
 Calls Tryd.prog 34 #[.agg #[.slice A0 n c0,.slice A1 n1 c1,.slice A2 n2 c2,.slice A3 n3 c3],.int .i64 i] w fun e w'=>e=.returned (.bool (decide (0≤i∧i<(n:Int))))∧BelW w w':=by
 by_cases h0:0≤i
 ·by_cases h1:i<(n:Int)
  ·have t0:decide (0≤i∧i<(n:Int))=true:=by simp[h0,h1]
   rw[t0]
   clear t0
   go_enter Tryd.func34,Tryd.ntmps34
   go_wp2
   go_ret
   exact⟨rfl,below_new (Below.refl _ _) _⟩
  ·have t0:decide (0≤i∧i<(n:Int))=false:=by simp[h1]
   rw[t0]
   clear t0
   go_enter Tryd.func34,Tryd.ntmps34
   go_wp2
   go_ret
   exact⟨rfl,below_new (Below.refl _ _) _⟩
 ·have t0:decide (0≤i∧i<(n:Int))=false:=by simp[h0]
  rw[t0]
  clear t0
  go_enter Tryd.func34,Tryd.ntmps34
  go_wp2
  go_ret
  exact⟨rfl,below_new (Below.refl _ _) _⟩
theorem small_lo(k:Nat)(hk:k<10)(w:World):Calls Tryd.prog 78 #[.int .i64 (k:Int)] w fun e w'=>e=.returned (.string ⟨#[48+UInt8.ofNat k]⟩)∧w=w':=by
 have h:k=0∨k=1∨k=2∨k=3∨k=4∨k=5∨k=6∨k=7∨k=8∨k=9:=by omega
 clear hk
 rcases h with rfl|rfl|rfl|rfl|rfl|rfl|rfl|rfl|rfl|rfl<;>
  (go_enter Tryd.func78,Tryd.ntmps78
   go_wp2
   go_ret
   exact⟨rfl,rfl⟩)
theorem fmtInt_lo(k:Nat)(hk:k<10)(w:World):Calls Tryd.prog 63 #[.int .i64 (k:Int),.int .i64 10] w fun e w'=>e=.returned (.string ⟨#[48+UInt8.ofNat k]⟩)∧w=w':=by
 have h0:(0:Int)≤(k:Int):=by omega
 have h1:(k:Int)<100:=by omega
 go_enter Tryd.func63,Tryd.ntmps63
 go_wp2_with (go_at_call 78;(with_reducible refine (small_lo k hk _).mono ?_);rintro e w1 ⟨rfl,rfl⟩)
 go_ret
 exact⟨rfl,rfl⟩
theorem itoaI_lo(k:Nat)(hk:k<10)(w:World):Calls Tryd.prog 51 #[.int .i64 (k:Int)] w fun e w'=>e=.returned (.string ⟨#[48+UInt8.ofNat k]⟩)∧w=w':=by
 go_enter Tryd.func51,Tryd.ntmps51
 go_wp2_with (go_at_call 63;(with_reducible refine (fmtInt_lo k hk _).mono ?_);rintro e w1 ⟨rfl,rfl⟩)
 go_ret
 exact⟨rfl,rfl⟩
theorem itoa_lo(k:Nat)(hk:k<10)(w:World):Calls Tryd.prog 38 #[.int .i64 (k:Int)] w fun e w'=>e=.returned (.string ⟨#[48+UInt8.ofNat k]⟩)∧w=w':=by
 go_enter Tryd.func38,Tryd.ntmps38
 go_wp2_with (go_at_call 51;(with_reducible refine (itoaI_lo k hk _).mono ?_);rintro e w1 ⟨rfl,rfl⟩)
 go_ret
 exact⟨rfl,rfl⟩
theorem lineText_pin(k j:Nat)(hk:k<10)(hj:j<10)(w:World):Calls Tryd.prog 39 #[.agg #[.int .i64 (k:Int),.int .i64 (j:Int)]] w fun e w'=>e=.returned (.string ⟨#[48+UInt8.ofNat k,46,48+UInt8.ofNat j]⟩)∧BelW w w':=by
 have t0:((j:Int)== -1)=false:=by simp
 go_enter Tryd.func39,Tryd.ntmps39
 go_wp2_with (go_at_call 38;(first|(with_reducible refine (itoa_lo k hk _).mono ?_)|(with_reducible refine (itoa_lo j hj _).mono ?_));rintro e w1 ⟨rfl,rfl⟩)
 go_ret
 exact⟨rfl,below_new (Below.refl _ _) _⟩
set_option maxHeartbeats 2000000 in
theorem isLine_any(c:Ck)(A0 A1 A2 A3:Option Addr)(n n1 n2 n3 c0 c1 c2 c3:Nat)(i p:Int)(w:World)(hc:Cir w w.heap.size (.agg #[.slice A0 n c0,.slice A1 n1 c1,.slice A2 n2 c2,.slice A3 n3 c3]) c):
 Calls Tryd.prog 16 #[.agg #[.slice A0 n c0,.slice A1 n1 c1,.slice A2 n2 c2,.slice A3 n3 c3],.agg #[.int .i64 i,.int .i64 p]] w fun e w'=>e=.returned (.bool (decide (0≤i∧i<(n:Int)∧ -1≤p∧p<((c.nodes.getD i.toNat default).ins.length:Int))))∧BelW w w':=by
 obtain⟨-,-,b,o,hA0,hbB,hcc⟩:=cir_nodes hc
 obtain⟨W1,HW1⟩:=named ((w.alloc (.cells #[.slice A0 n c0,.slice A1 n1 c1,.slice A2 n2 c2,.slice A3 n3 c3] 39)).alloc (.cells #[.int .i64 i,.int .i64 p] 30))
 have hb1:BelW w W1:=by rw[HW1.out];exact joinB (below_new (Below.refl _ _) _) (below_new (Below.refl _ _) _)
 have hfc:Fr W1 w.heap.size 39 [.slice A0 n c0,.slice A1 n1 c1,.slice A2 n2 c2,.slice A3 n3 c3]:=by rw[HW1.out];exact (Fr.made _ _ _ rfl).alloc _
 have hfl:Fr W1 (w.heap.size+1) 30 [.int .i64 i,.int .i64 p]:=by rw[HW1.out];exact Fr.made _ _ _ (by simp)
 have HR:Hid (∀W,BelW W1 W→W.cell? ⟨w.heap.size,0,none⟩=some (.slice A0 n c0)∧W.cell? ⟨w.heap.size,1,none⟩=some (.slice A1 n1 c1)∧W.cell? ⟨w.heap.size,2,none⟩=some (.slice A2 n2 c2)∧W.cell? ⟨w.heap.size,3,none⟩=some (.slice A3 n3 c3)∧W.cell? ⟨w.heap.size+1,0,none⟩=some (.int .i64 i)∧W.cell? ⟨w.heap.size+1,1,none⟩=some (.int .i64 p)):=Lib.hid fun W h=>⟨(hfc.below h).cell 0,(hfc.below h).cell 1,(hfc.below h).cell 2,(hfc.below h).cell 3,(hfl.below h).cell 0,(hfl.below h).cell 1⟩
 have HB1:=Lib.hid hb1
 have HIN:Hid (∀k:Nat,k<n→A0=some ⟨b,o,none⟩∧∃A4 c4,∀W,BelW w W→W.cell? ⟨b,o+k*4+1,none⟩=some (.slice A4 (c.nodes.getD k default).ins.length c4)):=Lib.hid fun k hk=>by
  obtain⟨A4,c4,g0,g1,-⟩:=hcc k hk
  exact⟨hA0 (by omega),A4,c4,fun W h=>(Below.cell h (p:=⟨b,o+k*4+1,none⟩) (hbB (by omega))).trans g1⟩
 have q0:∀xx:Beh W1,xx.x.cell? ⟨w.heap.size,0,none⟩=some (.slice A0 n c0):=fun xx=>(HR.out _ xx.below).1
 have q1:∀xx:Beh W1,xx.x.cell? ⟨w.heap.size,1,none⟩=some (.slice A1 n1 c1):=fun xx=>(HR.out _ xx.below).2.1
 have q2:∀xx:Beh W1,xx.x.cell? ⟨w.heap.size,2,none⟩=some (.slice A2 n2 c2):=fun xx=>(HR.out _ xx.below).2.2.1
 have q3:∀xx:Beh W1,xx.x.cell? ⟨w.heap.size,3,none⟩=some (.slice A3 n3 c3):=fun xx=>(HR.out _ xx.below).2.2.2.1
 have q4:∀xx:Beh W1,xx.x.cell? ⟨w.heap.size+1,0,none⟩=some (.int .i64 i):=fun xx=>(HR.out _ xx.below).2.2.2.2.1
 have q5:∀xx:Beh W1,xx.x.cell? ⟨w.heap.size+1,1,none⟩=some (.int .i64 p):=fun xx=>(HR.out _ xx.below).2.2.2.2.2
 clear hb1 hfc hfl hc hA0 hbB hcc
 have HNO:Hid (∀xx:Beh W1,Calls Tryd.prog 34 #[.agg #[.slice A0 n c0,.slice A1 n1 c1,.slice A2 n2 c2,.slice A3 n3 c3],.int .i64 i] xx.x fun e w'=>e=.returned (.bool (decide (0≤i∧i<(n:Int))))∧Below W1.heap.size W1 w'):=Lib.hid fun xx=>(isNode_any A0 A1 A2 A3 n n1 n2 n3 c0 c1 c2 c3 i xx.x).mono fun _ _ h=>⟨h.1,joinB xx.below h.2⟩
 by_cases h0:0≤i∧i<(n:Int)
 ·have t0:decide (0≤i∧i<(n:Int))=true:=by simp[h0]
  rw[t0]at HNO
  obtain⟨k,rfl⟩:∃k:Nat,(k:Int)=i:=⟨i.toNat,Int.toNat_of_nonneg h0.1⟩
  have hk:k<n:=by omega
  obtain⟨rfl,A4,c4,hcl⟩:=HIN.out k hk
  clear HIN
  rw[Int.toNat_natCast]
  obtain⟨m,HM⟩:=named (c.nodes.getD k default).ins.length
  rw[←HM.out]at hcl
  rw[←HM.out]
  have q6:∀xx:Beh W1,xx.x.cell? ⟨b,o+k*4+1,none⟩=some (.slice A4 m c4):=fun xx=>hcl _ (joinB HB1.out xx.below)
  have hk2:(k:Int)<(n:Int):=by omega
  have hk0:(0:Int)≤(k:Int):=by omega
  clear t0 hcl HM
  by_cases h1: -1≤p
  ·have u1:decide (p≥ -1)=true:=by simp[h1]
   by_cases h2:p<(m:Int)
   ·have u2:decide (p<(m:Int))=true:=by simp[h2]
    have t1:decide (0≤(k:Int)∧(k:Int)<(n:Int)∧ -1≤p∧p<(m:Int))=true:=by simp[hk2,h1,h2]
    rw[t1]
    clear t1 h0
    go_enter Tryd.func16,Tryd.ntmps16
    go_upto_region 1 with (fail)
    rw[←HW1.out]
    refine region_class (w0:=W1) (Below.refl _ _) (by kernel_rfl) (by kernel_rfl) ?_
    repeat (first
     |go_big_quiet_skip
     |(go_big_quiet_want;go_big_quiet_op;first
      |go_big_quiet_on
      |(apply Exists.intro
        refine⟨fun xx=>?_,?_⟩
        focus first
         |(go_at_call 34;with_reducible exact beh_of (HNO.out xx))
        go_big_quiet_on)))
    refine wpQuiet_nil ?_
    rintro w9 ⟨⟨wz,hz9⟩,rfl⟩
    go_wp2
    go_ret
    exact⟨rfl,joinB HB1.out hz9⟩
   ·have u2:decide (p<(m:Int))=false:=by simpa using h2
    have t1:decide (0≤(k:Int)∧(k:Int)<(n:Int)∧ -1≤p∧p<(m:Int))=false:=by simp[h2]
    rw[t1]
    clear t1 h0
    go_enter Tryd.func16,Tryd.ntmps16
    go_upto_region 1 with (fail)
    rw[←HW1.out]
    refine region_class (w0:=W1) (Below.refl _ _) (by kernel_rfl) (by kernel_rfl) ?_
    repeat (first
     |go_big_quiet_skip
     |(go_big_quiet_want;go_big_quiet_op;first
      |go_big_quiet_on
      |(apply Exists.intro
        refine⟨fun xx=>?_,?_⟩
        focus first
         |(go_at_call 34;with_reducible exact beh_of (HNO.out xx))
        go_big_quiet_on)))
    refine wpQuiet_nil ?_
    rintro w9 ⟨⟨wz,hz9⟩,rfl⟩
    go_wp2
    go_ret
    exact⟨rfl,joinB HB1.out hz9⟩
  ·have u1:decide (p≥ -1)=false:=by simpa using h1
   have t1:decide (0≤(k:Int)∧(k:Int)<(n:Int)∧ -1≤p∧p<(m:Int))=false:=by simp[h1]
   rw[t1]
   clear t1 h0
   go_enter Tryd.func16,Tryd.ntmps16
   go_upto_region 1 with (fail)
   rw[←HW1.out]
   refine region_class (w0:=W1) (Below.refl _ _) (by kernel_rfl) (by kernel_rfl) ?_
   repeat (first
    |go_big_quiet_skip
    |(go_big_quiet_want;go_big_quiet_op;first
     |go_big_quiet_on
     |(apply Exists.intro
       refine⟨fun xx=>?_,?_⟩
       focus first
        |(go_at_call 34;with_reducible exact beh_of (HNO.out xx))
       go_big_quiet_on)))
   refine wpQuiet_nil ?_
   rintro w9 ⟨⟨wz,hz9⟩,rfl⟩
   go_wp2
   go_ret
   exact⟨rfl,joinB HB1.out hz9⟩
 ·have t1:decide (0≤i∧i<(n:Int)∧ -1≤p∧p<((c.nodes.getD i.toNat default).ins.length:Int))=false:=by
   simp only[decide_eq_false_iff_not]
   exact fun h=>h0 ⟨h.1,h.2.1⟩
  have t0:decide (0≤i∧i<(n:Int))=false:=by simpa using h0
  rw[t1]
  rw[t0]at HNO
  clear t0 t1 h0 HIN
  go_enter Tryd.func16,Tryd.ntmps16
  go_upto_region 1 with (fail)
  rw[←HW1.out]
  refine region_class (w0:=W1) (Below.refl _ _) (by kernel_rfl) (by kernel_rfl) ?_
  repeat (first
   |go_big_quiet_skip
   |(go_big_quiet_want;go_big_quiet_op;first
    |go_big_quiet_on
    |(apply Exists.intro
      refine⟨fun xx=>?_,?_⟩
      focus first
       |(go_at_call 34;with_reducible exact beh_of (HNO.out xx))
      go_big_quiet_on)))
  refine wpQuiet_nil ?_
  rintro w9 ⟨⟨wz,hz9⟩,rfl⟩
  go_wp2
  go_ret
  exact⟨rfl,joinB HB1.out hz9⟩
end Go.Proofs.YtcbllelkgniogaaDoor
