/- The texts Mag Mat Lok Sro Sct. -/
import Derived.Test.YtemjmfpcopfdbaaGreatDoorM20
import Derived.Test.YtemjmfpcopfdbaaGreatDoorM16
namespace Go.Proofs.YtemjmfpcopfdbaaGreatDoor
open Go.RowKit
def agB(a b:List Int)(j:Nat):Int:=if a.getD j 0=b.getD j 0 then a.getD j 0 else 2
def agL(a b:List Int):List Int:=(List.range a.length).map (agB a b)
theorem agL_len(a b:List Int):(agL a b).length=a.length:=by simp[agL]
def agK(a b:List Int)(k:Nat)(out:List Int):Prop:=out.length=a.length∧(∀j,j<k→out.getD j 0=agB a b j)∧∀j,k≤j→out.getD j 0=a.getD j 0
theorem agK_all{a b out:List Int}(h:agK a b a.length out):out=agL a b:=by
 apply List.ext_getElem (by rw[h.1,agL_len])
 intro i h1 h2
 have:=h.2.1 i (by rw[←h.1];exact h1)
 rw[List.getD_eq_getElem?_getD,List.getElem?_eq_getElem h1]at this
 simpa [agL]using this
theorem agK_same{a b out:List Int}{k:Nat}(h:agK a b k out)(e:a.getD k 0=b.getD k 0):agK a b (k+1) out:=by
 refine⟨h.1,fun j hj=>?_,fun j hj=>h.2.2 j (by omega)⟩
 by_cases hjk:j<k
 ·exact h.2.1 j hjk
 ·obtain rfl:j=k:=by omega
  rw[h.2.2 j (Nat.le_refl _)];unfold agB;rw[if_pos e]
theorem agK_set{a b out:List Int}{k:Nat}(h:agK a b k out)(hk:k<a.length)(e:¬a.getD k 0=b.getD k 0):agK a b (k+1) (out.set k 2):=by
 have hl:k<out.length:=by rw[h.1];exact hk
 refine⟨by rw[List.length_set];exact h.1,fun j hj=>?_,fun j hj=>?_⟩
 ·rw[getD_set _ _ _ _ _ hl]
  split
  ·subst_vars;unfold agB;rw[if_neg e]
  ·exact h.2.1 j (by omega)
 ·rw[getD_set _ _ _ _ _ hl,if_neg (by omega)]
  exact h.2.2 j (by omega)
set_option maxRecDepth 100000 in
set_option maxHeartbeats 4000000 in
theorem agreed_any(a b:List Int)(g h n:Nat)(w:World)(ha:VRow w g a)(hb:VRow w h b)(la:a.length=n)(lb:b.length=n)(hne:h≠g):
 Calls Tryz.prog 103 #[.slice (some ⟨g,0,none⟩) n n,.slice (some ⟨h,0,none⟩) n n] w fun e w'=>e=.returned (.tuple #[])∧VRow w' g (agL a b)∧w.grownBy w' (some g):=by
 have HA:=Lib.hid ha
 have HB:=Lib.hid hb
 have HLA:=Lib.hid la
 have HLB:=Lib.hid lb
 have HNE:Hid (some h≠some g):=Lib.hid fun e=>hne (Option.some.inj e)
 have hnm:=ha.len
 rw[la]at hnm
 unfold maxLen at hnm
 clear ha hb la lb hne
 go_enter Tryz.func103,Tryz.ntmps103
 go_wp2
 go_loopw [8] (fun i wr=>∃(k:Nat) (out:List Int),k≤n∧i=.int .i64 k∧agK a b k out∧VRow wr g out∧w.grownBy wr (some g)) (fun i _=>n-(intOf i).toNat)
 case atStart=>exact⟨0,a,Nat.zero_le _,rfl,⟨rfl,fun j h=>absurd h (Nat.not_lt_zero j),fun j _=>rfl⟩,HA.out,World.grownBy.refl _ _⟩
 case round=>
  obtain⟨k,out,hk,rfl,hf,hv,hg⟩:=hrel
  have HF:=Lib.hid hf
  have HVR:=Lib.hid hv
  have HGR:=Lib.hid hg
  by_cases hlt:k<n
  ·have hk2:(k:Int)<(n:Int):=by omega
   have x1:=hv.cell (by rw[hf.1,HLA.out];exact hlt)
   have x2:=hv.frozen k
   have y1:=(HB.out.kept hg HNE.out).cell (by rw[HLB.out];exact hlt)
   have hx:lat out (k:Int)=a.getD k 0:=hf.2.2 k (Nat.le_refl _)
   have hy:lat b (k:Int)=b.getD k 0:=rfl
   rw[hx]at x1
   rw[hy]at y1
   have HSM:=Lib.hid (fun e=>agK_same HF.out (k:=k) e)
   have HST:=Lib.hid (fun e=>agK_set HF.out (k:=k) (by rw[HLA.out];exact hlt) e)
   obtain⟨u,HU⟩:=named (a.getD k 0)
   obtain⟨v,HV⟩:=named (b.getD k 0)
   rw[←HU.out]at x1
   rw[←HV.out]at y1
   rw[←HU.out,←HV.out]at HSM HST
   clear hf hv hg hx hy
   by_cases huv:u=v
   ·have HN:=Lib.hid (HSM.out huv)
    subst huv
    go_wp2
    go_roundw
    case rel=>exact⟨k+1,out,by omega,by go_num,HN.out,HVR.out,HGR.out⟩
    case measure=>simp[intOf];omega
   ·have HN:=Lib.hid (HST.out huv)
    have HVN:=Lib.hid (HVR.out.set k 2)
    have HGN:Hid (w.grownBy (wr.setCell ⟨g,k,none⟩ (.int .u8 2)) (some g)):=Lib.hid (grown_v HGR.out k _)
    go_wp2
    go_roundw
    case rel=>exact⟨k+1,out.set k 2,by omega,by go_num,HN.out,HVN.out,HGN.out⟩
    case measure=>simp[intOf];omega
  ·obtain rfl:n=k:=by omega
   have e9:out=agL a b:=agK_all (by rw[HLA.out];exact HF.out)
   clear hf hv hg
   go_wp2
   go_end0
   exact⟨rfl,by rw[←e9];exact HVR.out,HGR.out⟩
def ibit(i k:Nat):Int:=if i.testBit k then 1 else 0
def okA(l:List Int)(i k:Nat):Prop:=knw (l.getD k 0)=true→l.getD k 0=ibit i k
theorem i64_and1(n:Int):bits .and .i64 n 1=n%2:=by
 have h1:(BitVec.ofInt 64 1).toNat=2^1-1:=by decide
 have key:(BitVec.ofInt 64 n&&&BitVec.ofInt 64 1).toNat=(n%((2^64:Nat):Int)).toNat%2^1:=by
  rw[BitVec.toNat_and,BitVec.toNat_ofInt,h1,Nat.and_two_pow_sub_one_eq_mod]
 show IntKind.i64.wrap ((BitVec.ofInt 64 n&&&BitVec.ofInt 64 1).toNat:Nat)=n%2
 rw[key,IntKind.wrap_i64]
 omega
theorem shr_cast(i k:Nat)(hi:i<1000000):(i:Int)/2^min k 64=((i/2^k:Nat):Int):=by
 by_cases h:k≤64
 ·rw[Nat.min_eq_left h,Int.natCast_ediv,Int.natCast_pow];rfl
 ·have h1:i/2^k=0:=Nat.div_eq_of_lt (Nat.lt_of_lt_of_le (show i<2^64 by omega) (Nat.pow_le_pow_right (by decide) (by omega)))
  rw[Nat.min_eq_right (by omega),h1]
  omega
theorem zbit(i k:Nat)(hi:i<1000000):bits .and .i64 ((i:Int)/2^min k 64) 1%256=ibit i k:=by
 rw[i64_and1,shr_cast i k hi]
 unfold ibit
 rw[Nat.testBit_eq_decide_div_mod_eq]
 by_cases h:i/2^k%2=1
 ·rw[if_pos (by simpa using h)];omega
 ·rw[if_neg (by simpa using h)];omega
set_option maxRecDepth 100000 in
set_option maxHeartbeats 4000000 in
theorem match_any(l:List Int)(A:Option Addr)(m c i q:Nat)(w:World)(B:Nat)(hB:B≤w.heap.size)(hs:Ks w B (.slice A m c) l)(hq:w.cell? ⟨q,0,none⟩=some (.slice A m c))(hi:i<1000000)(r:Bool)(hr:r=true↔(∀k,k<l.length→okA l i k)∧i>>>l.length=0):
 Calls Tryz.prog 131 #[.int .i64 (i:Int),.pointer (some ⟨q,0,none⟩)] w fun e w'=>e=.returned (.bool r)∧w'=w:=by
 obtain⟨A',b,o,c',e,hA,-,hm,hc⟩:=hs.opens
 simp only[Value.slice.injEq]at e
 obtain⟨rfl,hml,rfl⟩:=e
 rw[←hml]at hA hc hm
 have HA:=Lib.hid hA
 have HC:=Lib.hid hc
 have HML:=Lib.hid hml
 have HR:=Lib.hid hr
 have HKN:Hid (∀W y,Calls Tryz.prog 29 #[.int .u8 y] W fun e w'=>e=.returned (.bool (knw y))∧W=w'):=Lib.hid fun W y=>Lg.known_any y W
 unfold maxLen at hm
 clear hA hc hml hr hs
 go_enter Tryz.func131,Tryz.ntmps131
 go_wp2
 go_loopw [8] (fun j wr=>wr=w∧∃k:Nat,k≤m∧j=.int .i64 k∧∀t,t<k→okA l i t) (fun j _=>m-(intOf j).toNat)
 case atStart=>exact⟨rfl,0,Nat.zero_le _,rfl,fun t h=>absurd h (Nat.not_lt_zero t)⟩
 case round=>
  obtain⟨rfl,k,hk,rfl,hok⟩:=hrel
  have HOK:=Lib.hid hok
  clear hok
  by_cases hlt:k<m
  ·obtain rfl:=HA.out (by omega)
   have x0:=(HC.out k hlt).2
   obtain⟨y,HY⟩:=named (l.getD k 0)
   rw[←HY.out]at x0
   have HKY:=Lib.hid (fun W=>HKN.out W y)
   have hk2:(k:Int)<(m:Int):=by omega
   obtain⟨kb,HKB⟩:=named (knw y)
   rw[←HKB.out]at HKY
   cases kb
   ·go_wp2_with (go_at_call 29;(with_reducible refine (HKY.out _).mono ?_);rintro e w' ⟨rfl,rfl⟩)
    go_roundw
    case rel=>
     refine⟨by trivial,k+1,by omega,by go_num,fun t ht=>?_⟩
     by_cases htk:t<k
     ·exact HOK.out t htk
     ·obtain rfl:t=k:=by omega
      intro h
      rw[←HY.out,←HKB.out]at h
      cases h
    case measure=>simp[intOf];omega
   ·have hz:=zbit i k hi
    obtain⟨z,HZ⟩:=named (ibit i k)
    rw[←HZ.out]at hz
    by_cases hyz:y=z
    ·subst hyz
     go_wp2_with (go_at_call 29;(with_reducible refine (HKY.out _).mono ?_);rintro e w' ⟨rfl,rfl⟩)
     go_roundw
     case rel=>
      refine⟨by trivial,k+1,by omega,by go_num,fun t ht=>?_⟩
      by_cases htk:t<k
      ·exact HOK.out t htk
      ·obtain rfl:t=k:=by omega
       intro _
       rw[←HY.out,←HZ.out]
     case measure=>simp[intOf];omega
    ·go_wp2_with (go_at_call 29;(with_reducible refine (HKY.out _).mono ?_);rintro e w' ⟨rfl,rfl⟩)
     go_ret
     refine⟨?_,rfl⟩
     have:r=false:=by
      cases hr:r with
      |false=>rfl
      |true=>
       have h1:=(HR.out.1 hr).1 k (by rw[←HML.out];exact hlt)
       unfold okA at h1
       rw[←HY.out,←HKB.out,←HZ.out]at h1
       exact absurd (h1 rfl) hyz
     rw[this];rfl
  ·obtain rfl:m=k:=by omega
   have hsh:=shr_cast i m hi
   obtain⟨z,HZ⟩:=named (i/2^m)
   rw[←HZ.out]at hsh
   go_wp2
   go_ret
   refine⟨?_,rfl⟩
   have:r=((z:Int)==0):=by
    have hall:∀t,t<l.length→okA l i t:=fun t ht=>HOK.out t (by rw[HML.out];exact ht)
    have hz:i>>>l.length=z:=by rw[HZ.out,Nat.shiftRight_eq_div_pow,HML.out]
    have h:=HR.out
    rw[hz]at h
    by_cases h0:z=0
    ·rw[h.2 ⟨hall,h0⟩,h0];rfl
    ·have:r=false:=by
      cases hr:r with
      |false=>rfl
      |true=>exact absurd (h.1 hr).2 h0
     rw[this]
     exact (beq_false_of_ne (by omega)).symm
   rw[this];rfl
theorem matcher_any(A:Option Addr)(m c:Nat)(w:World):Calls Tryz.prog 101 #[.slice A m c] w fun e w'=>e=.returned (.func (.func 131) #[] #[.pointer (some ⟨w.heap.size,0,none⟩)])∧w'=w.alloc (.cells #[.slice A m c] 41):=by
 go_enter Tryz.func101,Tryz.ntmps101
 go_wp2
 go_ret
 exact⟨rfl,rfl⟩
noncomputable def mat (l:List Int) (i:Nat):Bool:=@decide ((∀k,k<l.length→okA l i k)∧i>>>l.length=0) (Classical.propDecidable _)
theorem mat_iff(l:List Int)(i:Nat):mat l i=true↔(∀k,k<l.length→okA l i k)∧i>>>l.length=0:=by unfold mat;exact @decide_eq_true_iff _ (Classical.propDecidable _)
def WdsAt(w:World)(B b p:Nat)(x:List Int):Prop:=∃A c,w.cell? ⟨b,p,none⟩=some (.slice A x.length c)∧Ks w B (.slice A x.length c) x
def Wrds(w:World)(B:Nat)(v:Value)(l:List (List Int)):Prop:=Arr [] 1 WdsAt w B v l
theorem stays_wds:Stays WdsAt:=fun w w' B B' b p x hb hB ⟨A,c,h1,h2⟩ hk=>⟨A,c,(hk ⟨b,p,none⟩ hb).trans h1,Arr.keep stays_u8 h2 hB hk⟩
noncomputable def lkStep (ws:List (List Int)) (ad:List Int) (n:Nat) (s:Bool×List Int) (i:Nat):Bool×List Int:=
 if mat ad i=true then (true,if s.1=true then agL s.2 (bitsL (ws.getD i []) n) else bitsL (ws.getD i []) n) else s
noncomputable def lkS (ws:List (List Int)) (ad:List Int) (n k:Nat):Bool×List Int:=(List.range k).foldl (lkStep ws ad n) (false,List.replicate n 2)
theorem lkS_succ(ws:List (List Int))(ad:List Int)(n k:Nat):lkS ws ad n (k+1)=lkStep ws ad n (lkS ws ad n k) k:=by
 unfold lkS
 rw[List.range_succ,List.foldl_append];rfl
theorem lkS_len(ws:List (List Int))(ad:List Int)(n k:Nat):(lkS ws ad n k).2.length=n:=by
 induction k with
 |zero=>exact List.length_replicate
 |succ k ih=>
  rw[lkS_succ]
  unfold lkStep
  split
  ·show (if _ then _ else _:List Int).length=n
   split
   ·rw[agL_len];exact ih
   ·exact bitsL_len _ _
  ·exact ih
set_option maxRecDepth 100000 in
set_option maxHeartbeats 8000000 in
theorem look_any(ws:List (List Int))(ad:List Int)(A Aa:Option Addr)(m c ma ca n:Nat)(w:World)(B:Nat)(hB:B≤w.heap.size)(hw:Wrds w B (.slice A m c) ws)(ha:Ks w B (.slice Aa ma ca) ad)(hm:m≤1000)(h0:0<m)(hn:n=(ws.getD 0 []).length)(hn2:n≤1000000):
 Calls Tryz.prog 57 #[.slice A m c,.slice Aa ma ca] w fun e w'=>∃g,e=.returned (.slice (some ⟨g,0,none⟩) n n)∧VRow w' g (lkS ws ad n m).2∧BelW w w':=by
 obtain⟨A',b,o,c',e,hA,-,-,hc⟩:=hw
 simp only[Value.slice.injEq]at e
 obtain⟨rfl,hml,rfl⟩:=e
 rw[←hml]at hA hc
 obtain rfl:=hA h0
 have HC:Hid (∀k,k<m→∃A c k2,k2=(ws.getD k []).length∧∀W,BelW w W→W.cell? ⟨b,o+k,none⟩=some (.slice A k2 c)∧Ks W W.heap.size (.slice A k2 c) (ws.getD k [])):=Lib.hid fun k hk=>by
  obtain⟨hb,A,c,h1,h2⟩:=hc k hk
  rw[Nat.mul_one]at h1
  exact⟨A,c,_,rfl,fun W h=>⟨(Below.cell h (p:=⟨b,o+k,none⟩) (Nat.lt_of_lt_of_le hb hB)).trans h1,Arr.keep stays_u8 h2 (Nat.le_trans hB (Below.size h)) fun _ hp=>Below.cell h (Nat.lt_of_lt_of_le hp hB)⟩⟩
 have HM:=Lib.hid (fun W (h:BelW w W)=>(Arr.keep stays_u8 ha (Nat.le_trans hB (Below.size h)) fun _ hp=>Below.cell h (Nat.lt_of_lt_of_le hp hB):Ks W W.heap.size (.slice Aa ma ca) ad))
 obtain⟨A0,d0,k0,hk0,hc0⟩:=HC.out 0 h0
 rw[←hn]at hk0
 subst hk0
 have f0:=(hc0 w (Below.refl _ _)).1
 rw[Nat.add_zero]at f0
 have HMT:=Lib.hid (matcher_any Aa ma ca w)
 obtain⟨W1,HW1⟩:=named (w.alloc (.cells #[.slice Aa ma ca] 41))
 have hb1:BelW w W1:=by rw[HW1.out];exact below_new (Below.refl _ _) _
 have hfa:Fr W1 w.heap.size 41 [.slice Aa ma ca]:=by rw[HW1.out];exact Fr.made _ _ _ rfl
 rw[←HW1.out]at HMT
 obtain⟨q,HQ⟩:=named w.heap.size
 rw[←HQ.out]at HMT hfa
 have HB1:=Lib.hid hb1
 have HFA:=Lib.hid hfa
 have HUN:=Lib.hid (munk_any k0 hn2 W1)
 have HBT:Hid (∀W A c m l,BelW w W→Ks W W.heap.size (.slice A m c) l→Calls Tryz.prog 86 #[.slice A m c,.int .i64 (k0:Int)] W fun e w'=>∃g,e=.returned (.slice (some ⟨g,0,none⟩) k0 k0)∧VRow w' g (bitsL l k0)∧W.heap.size≤g∧BelW W w'):=Lib.hid fun W A c m l _ h=>bits_any l A m c k0 hn2 W W.heap.size (Nat.le_refl _) h
 have HMA:Hid (∀W k,BelW W1 W→k<m→Calls Tryz.prog 131 #[.int .i64 (k:Int),.pointer (some ⟨q,0,none⟩)] W fun e w'=>e=.returned (.bool (mat ad k))∧w'=W):=Lib.hid fun W k h hk=>
  match_any ad Aa ma ca k q W W.heap.size (Nat.le_refl _) (HM.out W (joinB HB1.out h)) ((HFA.out.below h).cell 0) (by omega) _ (mat_iff ad k)
 have h0':¬(m:Int)=0:=by omega
 have h1':(0:Int)<(m:Int):=by omega
 clear hc hml hA hc0 hn ha hb1 hfa
 go_enter Tryz.func57,Tryz.ntmps57
 go_wp2_with (first
  |(go_at_call 101;(with_reducible refine HMT.out.mono ?_);rintro e w2 ⟨rfl,hw2⟩;obtain rfl:W1=w2:=hw2.symm)
  |(go_at_call 102;(with_reducible refine HUN.out.mono ?_);rintro e w3 ⟨g,rfl,hv,hg,hb⟩;have HV:=Lib.hid hv;have HG:Hid (W1.heap.size≤g):=Lib.hid hg;have HB3:Hid (BelW W1 w3):=Lib.hid hb;clear hv hg hb))
 go_loopw [7,8,24] (fun ov fv i wr=>∃k g,k≤m∧i=.int .i64 k∧fv=.bool (lkS ws ad k0 k).1∧ov=.slice (some ⟨g,0,none⟩) k0 k0∧VRow wr g (lkS ws ad k0 k).2∧W1.heap.size≤g∧BelW W1 wr) (fun _ _ i _=>m-(intOf i).toNat)
 case atStart=>exact⟨0,g,Nat.zero_le _,rfl,rfl,rfl,HV.out,HG.out,HB3.out⟩
 case round=>
  obtain⟨k,g,hk,rfl,rfl,rfl,hv,hg,hb⟩:=hrel
  have HVR:=Lib.hid hv
  have HGR:=Lib.hid hg
  have HBR:=Lib.hid hb
  clear hv hg
  by_cases hlt:k<m
  ·have hk2:(k:Int)<(m:Int):=by omega
   obtain⟨A2,d2,k2,hk2',hc2⟩:=HC.out k hlt
   have HC2:=Lib.hid hc2
   clear hc2 hk2'
   have f1:=(HC2.out wr (joinB HB1.out hb)).1
   have HS:=Lib.hid (lkS_succ ws ad k0 k)
   have HMK:=Lib.hid (HMA.out wr k hb hlt)
   have HLK:=Lib.hid (lkS_len ws ad k0 k)
   have HBK:=Lib.hid (HBT.out wr _ _ _ _ (joinB HB1.out hb) (HC2.out wr (joinB HB1.out hb)).2)
   obtain⟨s,HSS⟩:=named (lkS ws ad k0 k)
   rw[←HSS.out]at HS HLK HVR ⊢
   obtain⟨mb,HMB⟩:=named (mat ad k)
   unfold lkStep at HS
   rw[←HMB.out]at HMK HS
   obtain⟨sf,so⟩:=s
   cases mb
   ·have HS2:Hid (lkS ws ad k0 (k+1)=(sf,so)):=Lib.hid (by rw[HS.out];rfl)
    go_wp2_with (go_at_call 131;(with_reducible refine HMK.out.mono ?_);rintro e w4 ⟨rfl,hw4⟩;obtain rfl:wr=w4:=hw4.symm)
    go_roundw
    case rel=>exact⟨k+1,g,by omega,by go_num,by rw[HS2.out],rfl,by rw[HS2.out];exact HVR.out,HGR.out,HBR.out⟩
    case measure=>simp[intOf];omega
   ·cases sf
    ·have HS2:Hid (lkS ws ad k0 (k+1)=(true,bitsL (ws.getD k []) k0)):=Lib.hid (by rw[HS.out];rfl)
     go_wp2_with (first
      |(go_at_call 131;(with_reducible refine HMK.out.mono ?_);rintro e w4 ⟨rfl,hw4⟩;obtain rfl:wr=w4:=hw4.symm)
      |(go_at_call 86;(with_reducible refine HBK.out.mono ?_);rintro e w5 ⟨g5,rfl,hv5,hg5,hb5⟩;have HV5:=Lib.hid hv5;have HG5:=Lib.hid hg5;have HB5:Hid (BelW wr w5):=Lib.hid hb5;clear hv5 hg5 hb5))
     go_roundw
     case rel=>exact⟨k+1,g5,by omega,by go_num,by rw[HS2.out],rfl,by rw[HS2.out];exact HV5.out,Nat.le_trans (Below.size HBR.out) HG5.out,joinB HBR.out HB5.out⟩
     case measure=>simp[intOf];omega
    ·have HS2:Hid (lkS ws ad k0 (k+1)=(true,agL so (bitsL (ws.getD k []) k0))):=Lib.hid (by rw[HS.out];rfl)
     go_wp2_with (first
      |(go_at_call 131;(with_reducible refine HMK.out.mono ?_);rintro e w4 ⟨rfl,hw4⟩;obtain rfl:wr=w4:=hw4.symm)
      |(go_at_call 86;(with_reducible refine HBK.out.mono ?_);rintro e w5 ⟨g5,rfl,hv5,hg5,hb5⟩;have HV5:=Lib.hid hv5;have HG5:=Lib.hid hg5;have HB5:Hid (BelW wr w5):=Lib.hid hb5;have HAG:=Lib.hid (agreed_any so (bitsL (ws.getD k []) k0) g g5 k0 w5 (HVR.out.below hb5) hv5 HLK.out (bitsL_len _ _) (by have:=HVR.out.lt;omega));clear hv5 hg5 hb5)
      |(go_at_call 103;(with_reducible refine HAG.out.mono ?_);rintro e w6 ⟨rfl,hv6,hg6⟩;have HV6:=Lib.hid hv6;have HG6:=Lib.hid hg6;clear hv6 hg6))
     go_roundw
     case rel=>exact⟨k+1,g,by omega,by go_num,by rw[HS2.out],rfl,by rw[HS2.out];exact HV6.out,HGR.out,bgrown (joinB HBR.out HB5.out) HG6.out HGR.out⟩
     case measure=>simp[intOf];omega
  ·obtain rfl:m=k:=by omega
   go_wp2
   go_ret
   exact⟨g,rfl,HVR.out,joinB HB1.out HBR.out⟩
def SRow(w:World)(D:Nat)(f:Nat→List Int)(m k T:Nat):Prop:=
 ∃(vs:List Value) (gf:Nat→Nat),Fr w D 41 vs∧vs.length=m∧(∀j,j<k→vs[j]? =some (.slice (some ⟨gf j,0,none⟩) (f j).length (f j).length)∧VRow w (gf j) (f j)∧D<gf j∧gf j<T)∧∀i j,i<j→j<k→gf i<gf j
section
variable {w w':World} {D m k T T':Nat} {f:Nat→List Int}
theorem SRow.lt(h:SRow w D f m k T):D<w.heap.size:=by obtain⟨vs,gf,h1,-⟩:=h;exact h1.lt
theorem SRow.below(h:SRow w D f m k T)(hb:BelW w w'):SRow w' D f m k T:=by
 obtain⟨vs,gf,h1,h2,h3,h4⟩:=h
 exact⟨vs,gf,h1.below hb,h2,fun j hj=>by
  obtain⟨e,v,n⟩:=h3 j hj
  exact⟨e,v.below hb,n⟩,h4⟩
theorem SRow.frozen(h:SRow w D f m k T)(j:Nat):w.frozen? ⟨D,j,none⟩=false:=by obtain⟨vs,gf,h1,-⟩:=h;exact h1.frozen j
theorem SRow.there(h:SRow w D f m k T){j:Nat}(hj:j<m):∃u,w.cell? ⟨D,j,none⟩=some u:=by
 obtain⟨vs,gf,h1,h2,-⟩:=h
 exact⟨vs[j],by rw[h1.cell,List.getElem?_eq_getElem (by omega)]⟩
theorem SRow.open(h:SRow w D f m k T):∃gf:Nat→Nat,(∀j,j<k→w.cell? ⟨D,j,none⟩=some (.slice (some ⟨gf j,0,none⟩) (f j).length (f j).length)∧VRow w (gf j) (f j)∧D<gf j)∧∀i j,i<j→j<k→gf i<gf j:=by
 obtain⟨vs,gf,h1,h2,h3,h4⟩:=h
 exact⟨gf,fun j hj=>by
  obtain⟨e,v,n,-⟩:=h3 j hj
  exact⟨by rw[h1.cell,e],v,n⟩,h4⟩
theorem SRow.step(h:SRow w D f m k T)(hT:T≤T')(hk:k<m){g:Nat}(v:VRow w g (f k))(n:D<g)(hg:g<T')(hg0:T≤g):SRow (w.setCell ⟨D,k,none⟩ (.slice (some ⟨g,0,none⟩) (f k).length (f k).length)) D f m (k+1) T':=by
 obtain⟨vs,gf,h1,h2,h3,h4⟩:=h
 refine⟨vs.set k (.slice (some ⟨g,0,none⟩) (f k).length (f k).length),fun j=>if j=k then g else gf j,h1.set _ _,by rw[List.length_set];exact h2,fun j hj=>?_,fun i j hij hj=>?_⟩
 ·by_cases e:j=k
  ·subst e
   simp only[if_true]
   exact⟨by rw[List.getElem?_set];simp[h2,hk],v.other (a:=⟨D,_,none⟩) (Nat.ne_of_lt n) _,n,hg⟩
  ·obtain⟨e',v',n',t'⟩:=h3 j (by omega)
   simp only[if_neg e]
   exact⟨by rw[List.getElem?_set,if_neg (by omega)];exact e',v'.other (a:=⟨D,_,none⟩) (Nat.ne_of_lt n') _,n',Nat.lt_of_lt_of_le t' hT⟩
 ·show (if i=k then g else gf i)<if j=k then g else gf j
  rw[if_neg (by omega:¬i=k)]
  by_cases e:j=k
  ·rw[if_pos e]
   have:=(h3 i (by omega)).2.2.2
   omega
  ·rw[if_neg e];exact h4 i j hij (by omega)
theorem SRow.put(h:SRow w D f m k T)(x:Value):SRow (w.setCell ⟨D,k,none⟩ x) D f m k T:=by
 obtain⟨vs,gf,h1,h2,h3,h4⟩:=h
 refine⟨vs.set k x,gf,h1.set _ _,by rw[List.length_set];exact h2,fun j hj=>?_,h4⟩
 obtain⟨e',v',n',t'⟩:=h3 j hj
 exact⟨by rw[List.getElem?_set,if_neg (by omega)];exact e',v'.other (a:=⟨D,_,none⟩) (Nat.ne_of_lt n') _,n',t'⟩
theorem SRow.grown(h:SRow w D f m k T){g:Nat}(hg:w.grownBy w' (some g))(hT:T≤g)(hD:D≠g):SRow w' D f m k T:=by
 obtain⟨vs,gf,h1,h2,h3,h4⟩:=h
 have hlt:=h1.lt
 refine⟨vs,gf,?_,h2,fun j hj=>?_,h4⟩
 ·unfold Fr at h1 ⊢
  rw[hg.block D hlt (fun e=>hD (Option.some.inj e))];exact h1
 ·obtain⟨e',v',n',t'⟩:=h3 j hj
  exact⟨e',v'.kept hg (fun e=>by have:=Option.some.inj e;omega),n',t'⟩
theorem SRow.count(h:SRow w D f m k T)(hT:T≤T'){g:Nat}(hc:w.cell? ⟨D,k,none⟩=some (.slice (some ⟨g,0,none⟩) (f k).length (f k).length))(v:VRow w g (f k))(n:D<g)(hg:g<T')(hg0:T≤g):SRow w D f m (k+1) T':=by
 obtain⟨vs,gf,h1,h2,h3,h4⟩:=h
 refine⟨vs,fun j=>if j=k then g else gf j,h1,h2,fun j hj=>?_,fun i j hij hj=>?_⟩
 ·by_cases e:j=k
  ·subst e
   simp only[if_true]
   exact⟨by rw[←h1.cell];exact hc,v,n,hg⟩
  ·obtain⟨e',v',n',t'⟩:=h3 j (by omega)
   simp only[if_neg e]
   exact⟨e',v',n',Nat.lt_of_lt_of_le t' hT⟩
 ·show (if i=k then g else gf i)<if j=k then g else gf j
  rw[if_neg (by omega:¬i=k)]
  by_cases e:j=k
  ·rw[if_pos e]
   have:=(h3 i (by omega)).2.2.2
   omega
  ·rw[if_neg e];exact h4 i j hij (by omega)
theorem SRow.of{B:Nat}(h:w.ownsRow B 41 1 (.slice (some ⟨D,0,none⟩) m m) m (List.replicate m (.slice none 0 0))):SRow w D f m 0 T:=by
 rcases h.2 with⟨e,-⟩| ⟨g',cap,cur,e,hb',hg',hle,hmx,hs',ht'⟩
 ·cases e
 ·simp only[Value.slice.injEq,Option.some.injEq,Addr.mk.injEq]at e
  obtain⟨⟨rfl,-⟩,-,rfl⟩:=e
  refine⟨List.replicate m (.slice none 0 0),fun _=>0,?_,by simp,fun j hj=>absurd hj (by omega),fun i j _ hj=>absurd hj (by omega)⟩
  unfold Fr
  rw[hg']
  have e:cur.toList=List.replicate m (.slice none 0 0):=by rw[←ht',List.take_of_length_le (by simp[hs'])]
  rw[←e,Array.toArray_toList]
end
def unk(v:Int):Bool:= !knw v
theorem unk_any(v:Int)(w:World):Calls Tryz.prog 104 #[.int .u8 v] w fun e w'=>e=.returned (.bool (unk v))∧w=w':=by
 have HK:=Lib.hid (Lg.known_any v w)
 obtain⟨k,HKK⟩:=named (knw v)
 unfold unk
 rw[←HKK.out]at HK ⊢
 go_enter Tryz.func104,Tryz.ntmps104
 go_wp2_with (go_at_call 29;(with_reducible refine HK.out.mono ?_);rintro e w' ⟨rfl,rfl⟩)
 go_ret
 exact⟨rfl,rfl⟩
set_option maxHeartbeats 1000000 in
theorem indexU_any(l:List Int)(s:Value)(w:World)(B:Nat)(hs:Ks w B s l):
 Calls Tryz.prog 125 #[s,.func (.func 104) #[] #[]] w (IdxP (anyP unk l) w):=by
 obtain⟨A,b,o,c,rfl,hA,-,hm,hc⟩:=hs.opens
 unfold maxLen at hm
 have HC:=Lib.hid hc
 have HAA:=Lib.hid hA
 clear hc hA hs
 obtain⟨n,hn⟩:∃n,n=l.length:=⟨_,rfl⟩
 rw[←hn]at hm
 rw[←hn]
 have HN:=Lib.hid hn
 have HAB:=Lib.hid unk_any
 clear hn
 go_enter Tryz.func125,Tryz.ntmps125
 go_wp2
 go_loopw [8] (fun i wr=>wr=w∧∃k:Nat,k≤n∧i=.int .i64 k∧∀j,j<k→unk (l.getD j 0)=false) (fun i _=>n-(intOf i).toNat)
 case atStart=>exact⟨rfl,0,Nat.zero_le _,rfl,fun j hj=>absurd hj (by omega)⟩
 case round=>
  obtain⟨rfl,k,hk,rfl,hno⟩:=hrel
  have HNO:=Lib.hid hno
  clear hno
  by_cases hlt:k<n
  ·obtain rfl:=HAA.out (by rw[←HN.out];omega)
   have hcell:=(HC.out k (by rw[←HN.out];omega)).2
   obtain⟨y,HX⟩:=named (l.getD k 0)
   rw[←HX.out]at hcell
   have HA1:=Lib.hid (fun w=>HAB.out y w)
   cases hv:unk y
   ·have HV:=Lib.hid hv
    rw[hv]at HA1
    go_wp2_with (go_at_call 104;(with_reducible refine (HA1.out _).mono ?_);rintro e w' ⟨rfl,rfl⟩)
    go_roundw
    case rel=>
     refine⟨by trivial,k+1,by omega,by go_num,fun j hj=>?_⟩
     by_cases hjk:j=k
     ·rw[hjk,←HX.out];exact HV.out
     ·exact HNO.out j (by omega)
    case measure=>simp[intOf];omega
   ·have HV:=Lib.hid hv
    rw[hv]at HA1
    go_wp2_with (go_at_call 104;(with_reducible refine (HA1.out _).mono ?_);rintro e w' ⟨rfl,rfl⟩)
    go_ret
    exact⟨k,rfl,⟨fun _=>anyP_yes k (by rw[←HN.out];omega) (by rw[←HX.out];exact HV.out),fun _=>by omega⟩,rfl⟩
  ·go_wp2
   go_ret
   exact⟨-1,rfl,⟨fun h=>absurd h (by omega),fun h=>by rw[anyP_no (fun j hj=>HNO.out j (by rw[←HN.out]at hj;omega))]at h;cases h⟩,rfl⟩
set_option maxHeartbeats 400000 in
theorem containsU_any(l:List Int)(s:Value)(w:World)(B:Nat)(hs:Ks w B s l):
 Calls Tryz.prog 81 #[s,.func (.func 104) #[] #[]] w fun e w'=>e=.returned (.bool (anyP unk l))∧w=w':=by
 obtain⟨y,HY⟩:=named (anyP unk l)
 rw[←HY.out]
 have HI:=Lib.hid (indexU_any l s w B hs)
 clear hs
 rw[←HY.out]at HI
 go_enter Tryz.func81,Tryz.ntmps81
 go_wp2_with (go_at_call 125;(with_reducible refine HI.out.mono ?_);rintro e w' ⟨i,rfl,hi,rfl⟩;have HI2:=Lib.hid hi;clear hi)
 go_ret
 exact⟨ret_bool (Bool.eq_iff_iff.2 (by simpa using HI2.out)),rfl⟩
end Go.Proofs.YtemjmfpcopfdbaaGreatDoor
