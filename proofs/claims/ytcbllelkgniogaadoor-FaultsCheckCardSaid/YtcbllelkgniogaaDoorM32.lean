/- The texts Fq8 Dpd. -/
import Derived.Test.YtcbllelkgniogaaDoorM31
import Derived.Test.YtcbllelkgniogaaDoorM29
namespace Go.Proofs.YtcbllelkgniogaaDoor
open Go.RowKit
attribute [local go_sem] Oper.semAt_some
theorem isNode_any(A0 A1 A2 A3:Option Addr)(n n1 n2 n3 c0 c1 c2 c3:Nat)(i:Int)(w:World):
 Calls Tryd.prog 34 #[.agg #[.slice A0 n c0,.slice A1 n1 c1,.slice A2 n2 c2,.slice A3 n3 c3],.int .i64 i] w fun e w'=>e=.returned (.bool (decide (0≤i∧i<(n:Int))))∧BelW w w':=by
 by_cases h0:0≤i
 ·by_cases h1:i<(n:Int)
  ·have t0:decide (0≤i∧i<(n:Int))=true:=by simp[h0,h1]
   rw[t0]
   clear t0
   go_enter Tryd.func34,Tryd.ntmps34
   go_wp2
   go_ret
   exact⟨rfl,below_new (Below.refl _ _) _⟩
  ·have t0:decide (0≤i∧i<(n:Int))=false:=by simp[h1]
   rw[t0]
   clear t0
   go_enter Tryd.func34,Tryd.ntmps34
   go_wp2
   go_ret
   exact⟨rfl,below_new (Below.refl _ _) _⟩
 ·have t0:decide (0≤i∧i<(n:Int))=false:=by simp[h0]
  rw[t0]
  clear t0
  go_enter Tryd.func34,Tryd.ntmps34
  go_wp2
  go_ret
  exact⟨rfl,below_new (Below.refl _ _) _⟩
theorem small_lo(k:Nat)(hk:k<10)(w:World):Calls Tryd.prog 78 #[.int .i64 (k:Int)] w fun e w'=>e=.returned (.string ⟨#[48+UInt8.ofNat k]⟩)∧w=w':=by
 have h:k=0∨k=1∨k=2∨k=3∨k=4∨k=5∨k=6∨k=7∨k=8∨k=9:=by omega
 clear hk
 rcases h with rfl|rfl|rfl|rfl|rfl|rfl|rfl|rfl|rfl|rfl<;>
  (go_enter Tryd.func78,Tryd.ntmps78
   go_wp2
   go_ret
   exact⟨rfl,rfl⟩)
theorem fmtInt_lo(k:Nat)(hk:k<10)(w:World):Calls Tryd.prog 63 #[.int .i64 (k:Int),.int .i64 10] w fun e w'=>e=.returned (.string ⟨#[48+UInt8.ofNat k]⟩)∧w=w':=by
 have h0:(0:Int)≤(k:Int):=by omega
 have h1:(k:Int)<100:=by omega
 go_enter Tryd.func63,Tryd.ntmps63
 go_wp2_with (go_at_call 78;(with_reducible refine (small_lo k hk _).mono ?_);rintro e w1 ⟨rfl,rfl⟩)
 go_ret
 exact⟨rfl,rfl⟩
theorem itoaI_lo(k:Nat)(hk:k<10)(w:World):Calls Tryd.prog 51 #[.int .i64 (k:Int)] w fun e w'=>e=.returned (.string ⟨#[48+UInt8.ofNat k]⟩)∧w=w':=by
 go_enter Tryd.func51,Tryd.ntmps51
 go_wp2_with (go_at_call 63;(with_reducible refine (fmtInt_lo k hk _).mono ?_);rintro e w1 ⟨rfl,rfl⟩)
 go_ret
 exact⟨rfl,rfl⟩
theorem itoa_lo(k:Nat)(hk:k<10)(w:World):Calls Tryd.prog 38 #[.int .i64 (k:Int)] w fun e w'=>e=.returned (.string ⟨#[48+UInt8.ofNat k]⟩)∧w=w':=by
 go_enter Tryd.func38,Tryd.ntmps38
 go_wp2_with (go_at_call 51;(with_reducible refine (itoaI_lo k hk _).mono ?_);rintro e w1 ⟨rfl,rfl⟩)
 go_ret
 exact⟨rfl,rfl⟩
theorem lineText_pin(k j:Nat)(hk:k<10)(hj:j<10)(w:World):Calls Tryd.prog 39 #[.agg #[.int .i64 (k:Int),.int .i64 (j:Int)]] w fun e w'=>e=.returned (.string ⟨#[48+UInt8.ofNat k,46,48+UInt8.ofNat j]⟩)∧BelW w w':=by
 have t0:((j:Int)== -1)=false:=by simp
 go_enter Tryd.func39,Tryd.ntmps39
 go_wp2_with (go_at_call 38;(first|(with_reducible refine (itoa_lo k hk _).mono ?_)|(with_reducible refine (itoa_lo j hj _).mono ?_));rintro e w1 ⟨rfl,rfl⟩)
 go_ret
 exact⟨rfl,below_new (Below.refl _ _) _⟩
set_option maxHeartbeats 2000000 in
theorem isLine_any(c:Ck)(A0 A1 A2 A3:Option Addr)(n n1 n2 n3 c0 c1 c2 c3:Nat)(i p:Int)(w:World)(hc:Cir w w.heap.size (.agg #[.slice A0 n c0,.slice A1 n1 c1,.slice A2 n2 c2,.slice A3 n3 c3]) c):
 Calls Tryd.prog 16 #[.agg #[.slice A0 n c0,.slice A1 n1 c1,.slice A2 n2 c2,.slice A3 n3 c3],.agg #[.int .i64 i,.int .i64 p]] w fun e w'=>e=.returned (.bool (decide (0≤i∧i<(n:Int)∧ -1≤p∧p<((c.nodes.getD i.toNat default).ins.length:Int))))∧BelW w w':=by
 obtain⟨-,-,b,o,hA0,hbB,hcc⟩:=cir_nodes hc
 obtain⟨W1,HW1⟩:=named ((w.alloc (.cells #[.slice A0 n c0,.slice A1 n1 c1,.slice A2 n2 c2,.slice A3 n3 c3] 39)).alloc (.cells #[.int .i64 i,.int .i64 p] 30))
 have hb1:BelW w W1:=by rw[HW1.out];exact joinB (below_new (Below.refl _ _) _) (below_new (Below.refl _ _) _)
 have hfc:Fr W1 w.heap.size 39 [.slice A0 n c0,.slice A1 n1 c1,.slice A2 n2 c2,.slice A3 n3 c3]:=by rw[HW1.out];exact (Fr.made _ _ _ rfl).alloc _
 have hfl:Fr W1 (w.heap.size+1) 30 [.int .i64 i,.int .i64 p]:=by rw[HW1.out];exact Fr.made _ _ _ (by simp)
 have HR:Hid (∀W,BelW W1 W→W.cell? ⟨w.heap.size,0,none⟩=some (.slice A0 n c0)∧W.cell? ⟨w.heap.size,1,none⟩=some (.slice A1 n1 c1)∧W.cell? ⟨w.heap.size,2,none⟩=some (.slice A2 n2 c2)∧W.cell? ⟨w.heap.size,3,none⟩=some (.slice A3 n3 c3)∧W.cell? ⟨w.heap.size+1,0,none⟩=some (.int .i64 i)∧W.cell? ⟨w.heap.size+1,1,none⟩=some (.int .i64 p)):=Lib.hid fun W h=>⟨(hfc.below h).cell 0,(hfc.below h).cell 1,(hfc.below h).cell 2,(hfc.below h).cell 3,(hfl.below h).cell 0,(hfl.below h).cell 1⟩
 have HB1:=Lib.hid hb1
 have HIN:Hid (∀k:Nat,k<n→A0=some ⟨b,o,none⟩∧∃A4 c4,∀W,BelW w W→W.cell? ⟨b,o+k*4+1,none⟩=some (.slice A4 (c.nodes.getD k default).ins.length c4)):=Lib.hid fun k hk=>by
  obtain⟨A4,c4,g0,g1,-⟩:=hcc k hk
  exact⟨hA0 (by omega),A4,c4,fun W h=>(Below.cell h (p:=⟨b,o+k*4+1,none⟩) (hbB (by omega))).trans g1⟩
 have q0:∀xx:Beh W1,xx.x.cell? ⟨w.heap.size,0,none⟩=some (.slice A0 n c0):=fun xx=>(HR.out _ xx.below).1
 have q1:∀xx:Beh W1,xx.x.cell? ⟨w.heap.size,1,none⟩=some (.slice A1 n1 c1):=fun xx=>(HR.out _ xx.below).2.1
 have q2:∀xx:Beh W1,xx.x.cell? ⟨w.heap.size,2,none⟩=some (.slice A2 n2 c2):=fun xx=>(HR.out _ xx.below).2.2.1
 have q3:∀xx:Beh W1,xx.x.cell? ⟨w.heap.size,3,none⟩=some (.slice A3 n3 c3):=fun xx=>(HR.out _ xx.below).2.2.2.1
 have q4:∀xx:Beh W1,xx.x.cell? ⟨w.heap.size+1,0,none⟩=some (.int .i64 i):=fun xx=>(HR.out _ xx.below).2.2.2.2.1
 have q5:∀xx:Beh W1,xx.x.cell? ⟨w.heap.size+1,1,none⟩=some (.int .i64 p):=fun xx=>(HR.out _ xx.below).2.2.2.2.2
 clear hb1 hfc hfl hc hA0 hbB hcc
 have HNO:Hid (∀xx:Beh W1,Calls Tryd.prog 34 #[.agg #[.slice A0 n c0,.slice A1 n1 c1,.slice A2 n2 c2,.slice A3 n3 c3],.int .i64 i] xx.x fun e w'=>e=.returned (.bool (decide (0≤i∧i<(n:Int))))∧Below W1.heap.size W1 w'):=Lib.hid fun xx=>(isNode_any A0 A1 A2 A3 n n1 n2 n3 c0 c1 c2 c3 i xx.x).mono fun _ _ h=>⟨h.1,joinB xx.below h.2⟩
 by_cases h0:0≤i∧i<(n:Int)
 ·have t0:decide (0≤i∧i<(n:Int))=true:=by simp[h0]
  rw[t0]at HNO
  obtain⟨k,rfl⟩:∃k:Nat,(k:Int)=i:=⟨i.toNat,Int.toNat_of_nonneg h0.1⟩
  have hk:k<n:=by omega
  obtain⟨rfl,A4,c4,hcl⟩:=HIN.out k hk
  clear HIN
  rw[Int.toNat_natCast]
  obtain⟨m,HM⟩:=named (c.nodes.getD k default).ins.length
  rw[←HM.out]at hcl
  rw[←HM.out]
  have q6:∀xx:Beh W1,xx.x.cell? ⟨b,o+k*4+1,none⟩=some (.slice A4 m c4):=fun xx=>hcl _ (joinB HB1.out xx.below)
  have hk2:(k:Int)<(n:Int):=by omega
  have hk0:(0:Int)≤(k:Int):=by omega
  clear t0 hcl HM
  by_cases h1: -1≤p
  ·have u1:decide (p≥ -1)=true:=by simp[h1]
   by_cases h2:p<(m:Int)
   ·have u2:decide (p<(m:Int))=true:=by simp[h2]
    have t1:decide (0≤(k:Int)∧(k:Int)<(n:Int)∧ -1≤p∧p<(m:Int))=true:=by simp[hk2,h1,h2]
    rw[t1]
    clear t1 h0
    go_enter Tryd.func16,Tryd.ntmps16
    go_upto_region 1 with (fail)
    rw[←HW1.out]
    refine region_class (w0:=W1) (Below.refl _ _) (by kernel_rfl) (by kernel_rfl) ?_
    repeat (first
     |go_big_quiet_skip
     |(go_big_quiet_want;go_big_quiet_op;first
      |go_big_quiet_on
      |(apply Exists.intro
        refine⟨fun xx=>?_,?_⟩
        focus first
         |(go_at_call 34;with_reducible exact beh_of (HNO.out xx))
        go_big_quiet_on)))
    refine wpQuiet_nil ?_
    rintro w9 ⟨⟨wz,hz9⟩,rfl⟩
    go_wp2
    go_ret
    exact⟨rfl,joinB HB1.out hz9⟩
   ·have u2:decide (p<(m:Int))=false:=by simpa using h2
    have t1:decide (0≤(k:Int)∧(k:Int)<(n:Int)∧ -1≤p∧p<(m:Int))=false:=by simp[h2]
    rw[t1]
    clear t1 h0
    go_enter Tryd.func16,Tryd.ntmps16
    go_upto_region 1 with (fail)
    rw[←HW1.out]
    refine region_class (w0:=W1) (Below.refl _ _) (by kernel_rfl) (by kernel_rfl) ?_
    repeat (first
     |go_big_quiet_skip
     |(go_big_quiet_want;go_big_quiet_op;first
      |go_big_quiet_on
      |(apply Exists.intro
        refine⟨fun xx=>?_,?_⟩
        focus first
         |(go_at_call 34;with_reducible exact beh_of (HNO.out xx))
        go_big_quiet_on)))
    refine wpQuiet_nil ?_
    rintro w9 ⟨⟨wz,hz9⟩,rfl⟩
    go_wp2
    go_ret
    exact⟨rfl,joinB HB1.out hz9⟩
  ·have u1:decide (p≥ -1)=false:=by simpa using h1
   have t1:decide (0≤(k:Int)∧(k:Int)<(n:Int)∧ -1≤p∧p<(m:Int))=false:=by simp[h1]
   rw[t1]
   clear t1 h0
   go_enter Tryd.func16,Tryd.ntmps16
   go_upto_region 1 with (fail)
   rw[←HW1.out]
   refine region_class (w0:=W1) (Below.refl _ _) (by kernel_rfl) (by kernel_rfl) ?_
   repeat (first
    |go_big_quiet_skip
    |(go_big_quiet_want;go_big_quiet_op;first
     |go_big_quiet_on
     |(apply Exists.intro
       refine⟨fun xx=>?_,?_⟩
       focus first
        |(go_at_call 34;with_reducible exact beh_of (HNO.out xx))
       go_big_quiet_on)))
   refine wpQuiet_nil ?_
   rintro w9 ⟨⟨wz,hz9⟩,rfl⟩
   go_wp2
   go_ret
   exact⟨rfl,joinB HB1.out hz9⟩
 ·have t1:decide (0≤i∧i<(n:Int)∧ -1≤p∧p<((c.nodes.getD i.toNat default).ins.length:Int))=false:=by
   simp only[decide_eq_false_iff_not]
   exact fun h=>h0 ⟨h.1,h.2.1⟩
  have t0:decide (0≤i∧i<(n:Int))=false:=by simpa using h0
  rw[t1]
  rw[t0]at HNO
  clear t0 t1 h0 HIN
  go_enter Tryd.func16,Tryd.ntmps16
  go_upto_region 1 with (fail)
  rw[←HW1.out]
  refine region_class (w0:=W1) (Below.refl _ _) (by kernel_rfl) (by kernel_rfl) ?_
  repeat (first
   |go_big_quiet_skip
   |(go_big_quiet_want;go_big_quiet_op;first
    |go_big_quiet_on
    |(apply Exists.intro
      refine⟨fun xx=>?_,?_⟩
      focus first
       |(go_at_call 34;with_reducible exact beh_of (HNO.out xx))
      go_big_quiet_on)))
  refine wpQuiet_nil ?_
  rintro w9 ⟨⟨wz,hz9⟩,rfl⟩
  go_wp2
  go_ret
  exact⟨rfl,joinB HB1.out hz9⟩
attribute [local go_sem] Oper.semAt_some
set_option maxHeartbeats 8000000 in
theorem ldep_any{c:Ck}{n:Nat}{L:List Int}(G:G5 c n L)(A0 A1 A2 A3:Option Addr)(n1 n2 n3 c0 c1 c2 c3:Nat)(b:Nat):∀(f a d:Nat) (w:World),a<n→d+f=n+1→Cir w w.heap.size (.agg #[.slice A0 n c0,.slice A1 n1 c1,.slice A2 n2 c2,.slice A3 n3 c3]) c→
 Calls Tryd.prog 19 #[.agg #[.slice A0 n c0,.slice A1 n1 c1,.slice A2 n2 c2,.slice A3 n3 c3],.int .i64 (a:Int),.int .i64 (b:Int),.int .i64 (d:Int)] w fun e w'=>e=.returned (.bool (depF (rdQ c) f a b))∧BelW w w':=by
 intro f
 induction f with
 |zero=>
  intro a d w ha hd hc
  obtain⟨nb,no,hA,-⟩:=rel_nodes G (Nat.le_refl _) hc
  obtain rfl:=hA (by omega)
  have hd2:(n:Int)<(d:Int):=by omega
  have hd3:decide ((d:Int)>(n:Int))=true:=by simp;omega
  by_cases hab:a=b
  ·have t0:((a:Int)==(b:Int))=true:=by simp[hab]
   have hv:depF (rdQ c) 0 a b=true:=by simp[depF,hab]
   rw[hv]
   clear hv hab
   go_enter Tryd.func19,Tryd.ntmps19
   go_wp2
   go_ret
   exact⟨rfl,below_new (Below.refl _ _) _⟩
  ·have t0:((a:Int)==(b:Int))=false:=by simp;omega
   have hv:depF (rdQ c) 0 a b=false:=by simp[depF,hab]
   rw[hv]
   clear hv hab
   go_enter Tryd.func19,Tryd.ntmps19
   go_wp2
   go_ret
   exact⟨rfl,below_new (Below.refl _ _) _⟩
 |succ f ih=>
  intro a d w ha hd hc
  obtain⟨nb,no,hA,hin⟩:=rel_nodes G (Nat.le_refl _) hc
  obtain rfl:=hA (by omega)
  by_cases hab:a=b
  ·have t0:((a:Int)==(b:Int))=true:=by simp[hab]
   have hv:depF (rdQ c) (f+1) a b=true:=by simp[depF,hab]
   rw[hv]
   clear hv hab
   go_enter Tryd.func19,Tryd.ntmps19
   go_wp2
   go_ret
   exact⟨rfl,below_new (Below.refl _ _) _⟩
  ·have t0:((a:Int)==(b:Int))=false:=by simp;omega
   have hdn:¬(n:Int)<(d:Int):=by omega
   have hd3:decide ((d:Int)>(n:Int))=false:=by simp;omega
   have hv:depF (rdQ c) (f+1) a b=(rdQ c a).any fun x=>depF (rdQ c) f x b:=by simp[depF,hab]
   rw[hv]
   obtain⟨A4,c4,md,bt,b4,o4,hW⟩:=hin a ha
   have ha2:(a:Int)<(n:Int):=by omega
   obtain⟨kd,HKD⟩:=named (c.nodes.getD a default).kind
   obtain⟨m,HM⟩:=named ((c.nodes.getD a default).ins.map Int.toNat).length
   obtain⟨W1,HW1⟩:=named (w.alloc (.cells #[.slice (some ⟨nb,no,none⟩) n c0,.slice A1 n1 c1,.slice A2 n2 c2,.slice A3 n3 c3] 39))
   have hb1:BelW w W1:=by rw[HW1.out];exact below_new (Below.refl _ _) _
   have hfc:Fr W1 w.heap.size 39 [.slice (some ⟨nb,no,none⟩) n c0,.slice A1 n1 c1,.slice A2 n2 c2,.slice A3 n3 c3]:=by rw[HW1.out];exact Fr.made _ _ _ rfl
   have HR:Hid (∀W,BelW W1 W→W.cell? ⟨w.heap.size,0,none⟩=some (.slice (some ⟨nb,no,none⟩) n c0)∧W.cell? ⟨w.heap.size,1,none⟩=some (.slice A1 n1 c1)∧W.cell? ⟨w.heap.size,2,none⟩=some (.slice A2 n2 c2)∧W.cell? ⟨w.heap.size,3,none⟩=some (.slice A3 n3 c3)∧W.cell? ⟨nb,no+a*4,none⟩=some (.int .u8 kd)∧W.cell? ⟨nb,no+a*4+1,none⟩=some (.slice A4 m c4)):=Lib.hid fun W h=>⟨(hfc.below h).cell 0,(hfc.below h).cell 1,(hfc.below h).cell 2,(hfc.below h).cell 3,by rw[HKD.out];exact (hW W (joinB hb1 h)).1,by rw[HM.out];exact (hW W (joinB hb1 h)).2.1⟩
   have HB1:=Lib.hid hb1
   by_cases h14:kd=14
   ·have t1:(kd==14)=true:=by simp[h14]
    have hv2:((rdQ c a).any fun x=>depF (rdQ c) f x b)=false:=by
     have:rdQ c a=[]:=by unfold rdQ;rw[if_pos (by rw[←HKD.out];exact h14)]
     rw[this];rfl
    rw[hv2]
    obtain⟨x0,x1,x2,x3,x4,x5⟩:=HR.out W1 (Below.refl _ _)
    clear hv hv2 hab hb1 hfc hW hin h14 ih
    go_enter Tryd.func19,Tryd.ntmps19
    go_upto_region 1 with (fail)
    rw[←HW1.out]
    go_wp2
    go_ret
    exact⟨rfl,HB1.out⟩
   ·have t1:(kd==14)=false:=by simp[h14]
    have hrd:rdQ c a=(c.nodes.getD a default).ins.map Int.toNat:=by unfold rdQ;rw[if_neg (by rw[←HKD.out];exact h14)]
    obtain⟨rd,HRD⟩:=named (rdQ c a)
    rw[←HRD.out]
    have HRL:Hid (rd.length=m):=Lib.hid (by rw[HRD.out,hrd,HM.out])
    have HRX:Hid (∀j,j<m→rd.getD j 0<n∧A4=some ⟨b4,o4,none⟩∧∀W,BelW W1 W→W.cell? ⟨b4,o4+j,none⟩=some (.int .i64 ((rd.getD j 0:Nat):Int))):=Lib.hid fun j hj=>by
     rw[HRD.out,hrd]
     rw[HM.out]at hj
     exact⟨(rel_ins G a ha).2 j hj,((hW w (Below.refl _ _)).2.2.2.2 j hj).1,fun W h=>((hW W (joinB hb1 h)).2.2.2.2 j hj).2⟩
    have HML:Hid (m≤1000000):=Lib.hid (by rw[HM.out];exact (rel_ins G a ha).1)
    have HIH:Hid (∀(x:Nat) W,x<n→BelW W1 W→Calls Tryd.prog 19 #[.agg #[.slice (some ⟨nb,no,none⟩) n c0,.slice A1 n1 c1,.slice A2 n2 c2,.slice A3 n3 c3],.int .i64 (x:Int),.int .i64 (b:Int),.int .i64 ((d:Int)+1)] W fun e w'=>e=.returned (.bool (depF (rdQ c) f x b))∧BelW W w'):=Lib.hid fun x W hx hWW=>by
     have h:=ih x (d+1) W hx (by omega) ((hc.below (joinB hb1 hWW)).more (Below.size (joinB hb1 hWW)))
     rwa [show ((d+1:Nat):Int)=(d:Int)+1 from by omega]at h
    have hml:=HML.out
    have hadd:IntKind.i64.wrap ((d:Int)+1)=(d:Int)+1:=by
     have:=G.few
     rw[IntKind.wrap_i64];omega
    obtain⟨x0,x1,x2,x3,x4,x5⟩:=HR.out W1 (Below.refl _ _)
    clear hv hab hb1 hfc hW hin h14 ih hrd HRD HM HKD hc G hd
    go_enter Tryd.func19,Tryd.ntmps19
    go_upto_region 1 with (fail)
    rw[←HW1.out]
    have HB0:Hid (BelW W1 W1):=Lib.hid (Below.refl _ _)
    have HN0:Hid (∀j,j<0→depF (rdQ c) f (rd.getD j 0) b=false):=Lib.hid fun j h=>absurd h (Nat.not_lt_zero _)
    go_upto_block 0 with (fail)
    clear x0 x1 x2 x3 x4 x5
    go_wp2_with fail
    go_loopw [9] (fun s9 wr=>∃k:Nat,k≤m∧s9=.int .i64 (k:Int)∧Hid (BelW W1 wr)∧Hid (∀j,j<k→depF (rdQ c) f (rd.getD j 0) b=false)) (fun s9 _=>m-(intOf s9).toNat)
    case atStart=>exact⟨0,Nat.zero_le _,rfl,HB0,HN0⟩
    case round=>
     clear HB0 HN0
     obtain⟨k,hk,rfl,HB,HN⟩:=hrel
     obtain⟨x0,x1,x2,x3,x4,x5⟩:=HR.out wr HB.out
     by_cases hkm:k<m
     ·have hk2:(k:Int)<(m:Int):=by omega
      obtain⟨hx,rfl,hcx⟩:=HRX.out k hkm
      obtain⟨x,HX⟩:=named (rd.getD k 0)
      rw[←HX.out]at hx hcx
      have HRC:=Lib.hid fun(xx:Beh wr)=>HIH.out x xx.x hx (joinB HB.out xx.below)
      obtain⟨t,HT⟩:=named (depF (rdQ c) f x b)
      have HRC2:Hid (∀xx:Beh wr,Calls Tryd.prog 19 #[.agg #[.slice (some ⟨nb,no,none⟩) n c0,.slice A1 n1 c1,.slice A2 n2 c2,.slice A3 n3 c3],.int .i64 (x:Int),.int .i64 (b:Int),.int .i64 ((d:Int)+1)] xx.x fun e w'=>e=.returned (.bool t)∧Below wr.heap.size wr w'):=Lib.hid fun xx=>(HRC.out xx).mono fun e w' h=>⟨by rw[HT.out];exact h.1,joinB xx.below h.2⟩
      have q0:∀xx:Beh wr,xx.x.cell? ⟨w.heap.size,0,none⟩=some (.slice (some ⟨nb,no,none⟩) n c0):=fun xx=>(HR.out _ (joinB HB.out xx.below)).1
      have q1:∀xx:Beh wr,xx.x.cell? ⟨w.heap.size,1,none⟩=some (.slice A1 n1 c1):=fun xx=>(HR.out _ (joinB HB.out xx.below)).2.1
      have q2:∀xx:Beh wr,xx.x.cell? ⟨w.heap.size,2,none⟩=some (.slice A2 n2 c2):=fun xx=>(HR.out _ (joinB HB.out xx.below)).2.2.1
      have q3:∀xx:Beh wr,xx.x.cell? ⟨w.heap.size,3,none⟩=some (.slice A3 n3 c3):=fun xx=>(HR.out _ (joinB HB.out xx.below)).2.2.2.1
      have q5:∀xx:Beh wr,xx.x.cell? ⟨nb,no+a*4+1,none⟩=some (.slice (some ⟨b4,o4,none⟩) m c4):=fun xx=>(HR.out _ (joinB HB.out xx.below)).2.2.2.2.2
      have q6:∀xx:Beh wr,xx.x.cell? ⟨b4,o4+k,none⟩=some (.int .i64 (x:Int)):=fun xx=>hcx _ (joinB HB.out xx.below)
      have HKM:=Lib.hid hkm
      clear hk hkm hcx hx HRC
      go_upto_region 8 with (fail)
      clear x0 x1 x2 x3 x4 x5
      refine region_class (w0:=wr) (Below.refl _ _) (by kernel_rfl) (by kernel_rfl) ?_
      repeat (first
       |go_big_quiet_skip
       |(go_big_quiet_want;go_big_quiet_op;first
        |go_big_quiet_on
        |(apply Exists.intro
          refine⟨fun xx=>?_,?_⟩
          focus first
           |(go_at_call 19;with_reducible exact beh_of (HRC2.out xx))
          go_big_quiet_on)))
      refine wpQuiet_nil ?_
      rintro w9 ⟨⟨wz,hz9⟩,rfl⟩
      have HB9:Hid (BelW W1 w9):=Lib.hid (joinB HB.out hz9)
      clear hz9 q0 q1 q2 q3 q5 q6
      cases t
      ·have HN9:Hid (∀j,j<k+1→depF (rdQ c) f (rd.getD j 0) b=false):=Lib.hid fun j hj=>by
        by_cases e:j=k
        ·subst e;rw[←HX.out,←HT.out]
        ·exact HN.out j (by omega)
       go_wp2
       go_roundw
       case rel=>exact⟨k+1,HKM.out,by go_num,HB9,HN9⟩
       case measure=>have:=HKM.out;simp[intOf];omega
      ·have hany:(rd.any fun x=>depF (rdQ c) f x b)=true:=List.any_eq_true.2 ⟨x,by rw[HX.out];exact mem_getD.2 ⟨k,by rw[HRL.out];exact HKM.out,rfl⟩,HT.out.symm⟩
       have HANY:=Lib.hid hany
       clear hany
       go_wp2
       go_ret
       exact⟨by(rw[HANY.out];try rfl),joinB HB1.out HB9.out⟩
     ·obtain rfl:m=k:=by omega
      have hany:(rd.any fun x=>depF (rdQ c) f x b)=false:=by
       rw[Bool.eq_false_iff]
       intro h
       obtain⟨x,hx,h2⟩:=List.any_eq_true.1 h
       obtain⟨q,hq,rfl⟩:=mem_getD.1 hx
       rw[HN.out q (by rw[←HRL.out];exact hq)]at h2
       cases h2
      have HANY:=Lib.hid hany
      clear hany
      go_wp2
      go_ret
      exact⟨by(rw[HANY.out];try rfl),joinB HB1.out HB.out⟩
end Go.Proofs.YtcbllelkgniogaaDoor
