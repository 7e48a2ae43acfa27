/- . -/
import Derived.Test.YtjdjcaobkmpoeaaDoorLgSome
namespace Go.Proofs.YtjdjcaobkmpoeaaDoor.Lg
open Go.RowKit
theorem rel{P:Program}{f:FuncId}{args:Array Value}{w0 w:World}{v:Value}(h:Calls P f args w fun e w'=>e=.returned v∧Below w.heap.size w w')(hb:Below w0.heap.size w0 w):
 Calls P f args w fun e w'=>e=.returned v∧Below w0.heap.size w0 w':=h.mono fun _ _ ⟨he,h'⟩=>⟨he,hb.trans (h'.mono hb.size)⟩
theorem someR{w0:World}{B:Nat}{s:Value}{l:List Int}(hB:B≤w0.heap.size)(hs:Vs w0 B s l)(x:Int)(w:World)(hb:Below w0.heap.size w0 w):
 Calls Tryd.prog 90 #[s,.int .u8 x,.func (.func 65) #[] #[]] w fun e w'=>e=.returned (.bool (anyIs rd x l))∧Below w0.heap.size w0 w':=
 rel (some_any _ rd (.inl ⟨rfl,rfl⟩) x l s w B (Nat.le_trans hB hb.size) (hs.below (hb.mono hB))) hb
theorem someC{w0:World}{B:Nat}{s:Value}{l:List Int}(hB:B≤w0.heap.size)(hs:Vs w0 B s l)(x:Int)(w:World)(hb:Below w0.heap.size w0 w):
 Calls Tryd.prog 90 #[s,.int .u8 x,.func (.func 91) #[] #[]] w fun e w'=>e=.returned (.bool (anyIs cln x l))∧Below w0.heap.size w0 w':=
 rel (some_any _ cln (.inr ⟨rfl,rfl⟩) x l s w B (Nat.le_trans hB hb.size) (hs.below (hb.mono hB))) hb
set_option maxHeartbeats 400000 in
theorem and_any{w:World}{B:Nat}{s:Value}{l:List Int}(hB:B≤w.heap.size)(hs:Vs w B s l):
 Calls Tryd.prog 67 #[s] w fun e w'=>e=.returned (.int .u8 (andL l))∧Below w.heap.size w w':=by
 have HS:=Lib.hid hs
 have HB:=Lib.hid hB
 clear hs hB
 have hb0:=Below.refl w.heap.size w
 obtain⟨y,HY⟩:=named (andL l)
 rw[←HY.out]
 cases h0:anyIs rd 0 l<;>cases h2:anyIs rd 2 l
 all_goals
  go_enter Tryd.func67,Tryd.ntmps67
  go_wp2_with (go_at_call 90;refine (someR HB.out HS.out _ _ (by assumption)).mono ?_;rintro e w' ⟨rfl,hb⟩)
  go_ret
  exact⟨ret_int (by rw[HY.out];simp[andL,h0,h2]),by assumption⟩
set_option maxHeartbeats 400000 in
theorem or_any{w:World}{B:Nat}{s:Value}{l:List Int}(hB:B≤w.heap.size)(hs:Vs w B s l):
 Calls Tryd.prog 68 #[s] w fun e w'=>e=.returned (.int .u8 (orL l))∧Below w.heap.size w w':=by
 have HS:=Lib.hid hs
 have HB:=Lib.hid hB
 clear hs hB
 have hb0:=Below.refl w.heap.size w
 obtain⟨y,HY⟩:=named (orL l)
 rw[←HY.out]
 cases h0:anyIs rd 1 l<;>cases h2:anyIs rd 2 l
 all_goals
  go_enter Tryd.func68,Tryd.ntmps68
  go_wp2_with (go_at_call 90;refine (someR HB.out HS.out _ _ (by assumption)).mono ?_;rintro e w' ⟨rfl,hb⟩)
  go_ret
  exact⟨ret_int (by rw[HY.out];simp[orL,h0,h2]),by assumption⟩
set_option maxHeartbeats 400000 in
theorem conflict_any{w:World}{B:Nat}{s:Value}{l:List Int}(hB:B≤w.heap.size)(hs:Vs w B s l):
 Calls Tryd.prog 92 #[s] w fun e w'=>e=.returned (.bool (conL l))∧Below w.heap.size w w':=by
 have HS:=Lib.hid hs
 have HB:=Lib.hid hB
 clear hs hB
 have hb0:=Below.refl w.heap.size w
 obtain⟨y,HY⟩:=named (conL l)
 rw[←HY.out]
 cases h0:anyIs cln 0 l<;>cases h2:anyIs cln 1 l
 all_goals
  go_enter Tryd.func92,Tryd.ntmps92
  go_wp2_with (go_at_call 90;refine (someC HB.out HS.out _ _ (by assumption)).mono ?_;rintro e w' ⟨rfl,hb⟩)
  go_ret
  exact⟨ret_bool (by rw[HY.out];simp[conL,h0,h2]),by assumption⟩
theorem conflict_rel{w0:World}{B:Nat}{s:Value}{l:List Int}(hB:B≤w0.heap.size)(hs:Vs w0 B s l)(w:World)(hb:Below w0.heap.size w0 w):
 Calls Tryd.prog 92 #[s] w fun e w'=>e=.returned (.bool (conL l))∧Below w0.heap.size w0 w':=
 rel (conflict_any (Nat.le_trans hB hb.size) (hs.below (hb.mono hB))) hb
set_option maxHeartbeats 400000 in
theorem bus_any{w:World}{B:Nat}{s:Value}{l:List Int}(hB:B≤w.heap.size)(hs:Vs w B s l):
 Calls Tryd.prog 72 #[s] w fun e w'=>e=.returned (.int .u8 (busL l))∧Below w.heap.size w w':=by
 have HS:=Lib.hid hs
 have HB:=Lib.hid hB
 clear hs hB
 have hb0:=Below.refl w.heap.size w
 obtain⟨y,HY⟩:=named (busL l)
 rw[←HY.out]
 cases hx:anyIs cln 2 l<;>cases hc:conL l<;>cases h0:anyIs cln 0 l<;>cases h1:anyIs cln 1 l
 all_goals
  go_enter Tryd.func72,Tryd.ntmps72
  go_wp2_with (first
   |(go_at_call 90;refine (someC HB.out HS.out _ _ (by assumption)).mono ?_;rintro e w' ⟨rfl,hb⟩)
   |(go_at_call 92;refine (conflict_rel HB.out HS.out _ (by assumption)).mono ?_;rintro e w' ⟨rfl,hb⟩))
  go_ret
  exact⟨ret_int (by rw[HY.out];simp[busL,hx,hc,h0,h1]),by assumption⟩
set_option maxHeartbeats 1000000 in
theorem xor_any{w:World}{B:Nat}{s:Value}{l:List Int}(hB:B≤w.heap.size)(hs:Vs w B s l):
 Calls Tryd.prog 69 #[s] w fun e w'=>e=.returned (.int .u8 (xorL l))∧Below w.heap.size w w':=by
 have HS:=Lib.hid hs
 have HB:=Lib.hid hB
 have hb0:=Below.refl w.heap.size w
 obtain⟨y,HY⟩:=named (xorL l)
 rw[←HY.out]
 cases h2:anyIs rd 2 l
 ·obtain⟨b,o,c,hv,hm,hc⟩:=hs
  unfold maxLen at hm
  have key:∀A,(0<l.length→A=some ⟨b,o,none⟩)→s=.slice A l.length c→Calls Tryd.prog 69 #[s] w fun e w'=>e=.returned (.int .u8 y)∧Below w.heap.size w w':=by
   intro A hA hsA
   have HA:=Lib.hid hA
   have HC:=Lib.hid hc
   obtain⟨n,hn⟩:∃n,n=l.length:=⟨_,rfl⟩
   rw[←hn]at hm hsA
   have HN:=Lib.hid hn
   subst hsA
   clear hA hc hv hB hn
   go_enter Tryd.func69,Tryd.ntmps69
   go_wp2_with (go_at_call 90;refine (someR HB.out HS.out _ _ (by assumption)).mono ?_;rintro e w1 ⟨rfl,hb⟩)
   clear hb0
   have H2:=Lib.hid h2
   clear h2
   go_loop [3,10] (fun r i=>∃k:Nat,k≤n∧i=.int .i64 k∧r=.int .u8 (par (l.take k))) (fun _ i=>n-(intOf i).toNat)
   case atStart=>exact⟨0,Nat.zero_le _,rfl,rfl⟩
   case round=>
    obtain⟨k,hk,rfl,rfl⟩:=hrel
    by_cases hlt:k<n
    ·obtain rfl:=HA.out (by rw[←HN.out];omega)
     have hk':k<l.length:=by rw[←HN.out];omega
     have hcell:w1.cell? ⟨b,o+k,none⟩=some (.int .u8 (l.getD k 0)):=(hb.cell (p:=⟨b,o+k,none⟩) (Nat.lt_of_lt_of_le (HC.out k hk').1 HB.out)).trans (HC.out k hk').2
     have HP:=Lib.hid (par_take l k hk')
     have hp:=par_cases (l.take k)
     have hv:=bit_of_any H2.out k hk'
     clear hk'
     generalize hg:l.getD k 0=v at hcell hv
     have HG:=Lib.hid hg
     generalize hg':par (l.take k)=q at hp
     have HG':=Lib.hid hg'
     clear hg hg'
     rcases hp with rfl|rfl<;>rcases hv with rfl|rfl
     all_goals
      go_wp2
      go_round
      case rel=>exact⟨k+1,by omega,by go_num,by rw[HP.out,HG.out,HG'.out];rfl⟩
      case measure=>simp[intOf];omega
    ·have hkn:k=n:=by omega
     subst hkn
     go_wp2
     go_ret
     exact⟨ret_int (by rw[HY.out,xorL,if_neg (by rw[H2.out];decide),List.take_of_length_le (by rw[HN.out];exact Nat.le_refl _)]),hb⟩
  rcases hv with rfl| ⟨rfl,A,rfl⟩
  ·exact key _ (fun _=>rfl) rfl
  ·exact key _ (fun h=>absurd h (by simp)) rfl
 ·clear hs hB
  go_enter Tryd.func69,Tryd.ntmps69
  go_wp2_with (go_at_call 90;refine (someR HB.out HS.out _ _ (by assumption)).mono ?_;rintro e w' ⟨rfl,hb⟩)
  go_ret
  exact⟨ret_int (by rw[HY.out];simp[xorL,h2]),by assumption⟩
end Go.Proofs.YtjdjcaobkmpoeaaDoor.Lg
