/- The texts Net. -/
import Derived.Test.YtcbllelkgniogaaDoorM02
namespace Go.Proofs.YtcbllelkgniogaaDoor
open Go.RowKit
def anyP(p:Int→Bool)(l:List Int):Bool:=l.any p
theorem anyP_yes{p:Int→Bool}{l:List Int}(k:Nat)(hk:k<l.length)(h:p (l.getD k 0)=true):anyP p l=true:=by
 refine List.any_eq_true.2 ⟨l[k],List.getElem_mem hk,?_⟩
 rwa [List.getD_eq_getElem?_getD,List.getElem?_eq_getElem hk]at h
theorem anyP_no{p:Int→Bool}{l:List Int}(h:∀j,j<l.length→p (l.getD j 0)=false):anyP p l=false:=by
 refine List.any_eq_false.2 fun v hv=>?_
 obtain⟨k,hk,rfl⟩:=List.mem_iff_getElem.1 hv
 have:=h k hk
 rw[List.getD_eq_getElem?_getD,List.getElem?_eq_getElem hk]at this
 simpa using this
def areIdx(n:Nat)(l:List Int):Bool:= !anyP (fun x=> !isIdx n x) l
def IdxP(b:Bool)(w:World)(e:Ending)(w':World):Prop:=∃i:Int,e=.returned (.int .i64 i)∧(0≤i↔b=true)∧w=w'
set_option maxHeartbeats 1000000 in
theorem indexI_any(g:Nat)(env:Value)(p:Int→Bool)(l:List Int)(s:Value)(w:World)(B:Nat)(hs:Is w B s l)
 (hp:∀k,k<l.length→Calls Tryd.prog g #[.int .i64 (l.getD k 0),env] w fun e w'=>e=.returned (.bool (p (l.getD k 0)))∧w=w') (hg:g=91∨g=86):
 Calls Tryd.prog 101 #[s,.func (.func g) #[] #[env]] w (IdxP (anyP p l) w):=by
 obtain⟨A,b,o,c,rfl,hA,-,hm,hc⟩:=hs.opens
 unfold maxLen at hm
 have HC:=Lib.hid hc
 have HP:=Lib.hid hp
 have HAA:=Lib.hid hA
 clear hc hp hA hs
 obtain⟨n,hn⟩:∃n,n=l.length:=⟨_,rfl⟩
 rw[←hn]at hm
 rw[←hn]
 have HN:=Lib.hid hn
 clear hn
 rcases hg with rfl|rfl
 ·go_enter Tryd.func101,Tryd.ntmps101
  go_wp2
  go_loopw [8] (fun i wr=>wr=w∧∃k:Nat,k≤n∧i=.int .i64 k∧∀j,j<k→p (l.getD j 0)=false) (fun i _=>n-(intOf i).toNat)
  case atStart=>exact⟨rfl,0,Nat.zero_le _,rfl,fun j hj=>absurd hj (by omega)⟩
  case round=>
   obtain⟨rfl,k,hk,rfl,hno⟩:=hrel
   have HNO:=Lib.hid hno
   clear hno
   by_cases hlt:k<n
   ·obtain rfl:=HAA.out (by rw[←HN.out];omega)
    have hcell:=(HC.out k (by rw[←HN.out];omega)).2
    obtain⟨x,HX⟩:=named (l.getD k 0)
    rw[←HX.out]at hcell
    have hcall:=HP.out k (by rw[←HN.out];omega)
    rw[←HX.out]at hcall
    cases hv:p x
    ·rw[hv]at hcall
     have HCALL:=Lib.hid hcall
     have HV:=Lib.hid hv
     clear hcall hv
     go_wp2_with (go_at_call 91;(with_reducible refine HCALL.out.mono ?_);rintro e w' ⟨rfl,rfl⟩)
     go_roundw
     case rel=>
      refine⟨by trivial,k+1,by omega,by go_num,fun j hj=>?_⟩
      by_cases hjk:j=k
      ·rw[hjk,←HX.out];exact HV.out
      ·exact HNO.out j (by omega)
     case measure=>simp[intOf];omega
    ·rw[hv]at hcall
     have HCALL:=Lib.hid hcall
     have HV:=Lib.hid hv
     clear hcall hv
     go_wp2_with (go_at_call 91;(with_reducible refine HCALL.out.mono ?_);rintro e w' ⟨rfl,rfl⟩)
     go_ret
     exact⟨k,rfl,⟨fun _=>anyP_yes k (by rw[←HN.out];omega) (by rw[←HX.out];exact HV.out),fun _=>by omega⟩,rfl⟩
   ·go_wp2
    go_ret
    exact⟨-1,rfl,⟨fun h=>absurd h (by omega),fun h=>by rw[anyP_no (fun j hj=>HNO.out j (by rw[←HN.out]at hj;omega))]at h;cases h⟩,rfl⟩
 ·go_enter Tryd.func101,Tryd.ntmps101
  go_wp2
  go_loopw [8] (fun i wr=>wr=w∧∃k:Nat,k≤n∧i=.int .i64 k∧∀j,j<k→p (l.getD j 0)=false) (fun i _=>n-(intOf i).toNat)
  case atStart=>exact⟨rfl,0,Nat.zero_le _,rfl,fun j hj=>absurd hj (by omega)⟩
  case round=>
   obtain⟨rfl,k,hk,rfl,hno⟩:=hrel
   have HNO:=Lib.hid hno
   clear hno
   by_cases hlt:k<n
   ·obtain rfl:=HAA.out (by rw[←HN.out];omega)
    have hcell:=(HC.out k (by rw[←HN.out];omega)).2
    obtain⟨x,HX⟩:=named (l.getD k 0)
    rw[←HX.out]at hcell
    have hcall:=HP.out k (by rw[←HN.out];omega)
    rw[←HX.out]at hcall
    cases hv:p x
    ·rw[hv]at hcall
     have HCALL:=Lib.hid hcall
     have HV:=Lib.hid hv
     clear hcall hv
     go_wp2_with (go_at_call 86;(with_reducible refine HCALL.out.mono ?_);rintro e w' ⟨rfl,rfl⟩)
     go_roundw
     case rel=>
      refine⟨by trivial,k+1,by omega,by go_num,fun j hj=>?_⟩
      by_cases hjk:j=k
      ·rw[hjk,←HX.out];exact HV.out
      ·exact HNO.out j (by omega)
     case measure=>simp[intOf];omega
    ·rw[hv]at hcall
     have HCALL:=Lib.hid hcall
     have HV:=Lib.hid hv
     clear hcall hv
     go_wp2_with (go_at_call 86;(with_reducible refine HCALL.out.mono ?_);rintro e w' ⟨rfl,rfl⟩)
     go_ret
     exact⟨k,rfl,⟨fun _=>anyP_yes k (by rw[←HN.out];omega) (by rw[←HX.out];exact HV.out),fun _=>by omega⟩,rfl⟩
   ·go_wp2
    go_ret
    exact⟨-1,rfl,⟨fun h=>absurd h (by omega),fun h=>by rw[anyP_no (fun j hj=>HNO.out j (by rw[←HN.out]at hj;omega))]at h;cases h⟩,rfl⟩
set_option maxHeartbeats 400000 in
theorem containsI_any(g:Nat)(env:Value)(p:Int→Bool)(l:List Int)(s:Value)(w:World)(B:Nat)(hs:Is w B s l)
 (hp:∀k,k<l.length→Calls Tryd.prog g #[.int .i64 (l.getD k 0),env] w fun e w'=>e=.returned (.bool (p (l.getD k 0)))∧w=w') (hg:g=91∨g=86):
 Calls Tryd.prog 85 #[s,.func (.func g) #[] #[env]] w fun e w'=>e=.returned (.bool (anyP p l))∧w=w':=by
 obtain⟨y,HY⟩:=named (anyP p l)
 rw[←HY.out]
 have HI:=Lib.hid (indexI_any g env p l s w B hs hp hg)
 clear hs hp hg
 go_enter Tryd.func85,Tryd.ntmps85
 go_wp2_with (go_at_call 101;(with_reducible refine HI.out.mono ?_);rintro e w' ⟨i,rfl,hi,rfl⟩;have HI2:=Lib.hid hi;clear hi)
 go_ret
 exact⟨ret_bool (by rw[HY.out];exact Bool.eq_iff_iff.2 (by simpa using HI2.out)),rfl⟩
set_option maxHeartbeats 400000 in
theorem areNets1_any(x:Int)(A:Option Addr)(n c:Nat)(q:Nat)(w:World)(h0:w.cell? ⟨q,0,none⟩=some (.slice A n c)):
 Calls Tryd.prog 91 #[.int .i64 x,.pointer (some ⟨q,0,none⟩)] w fun e w'=>e=.returned (.bool (!isIdx n x))∧w=w':=by
 go_enter Tryd.func91,Tryd.ntmps91
 go_wp2_with (go_at_call 92;(with_reducible refine (idx_any _ _ _).mono ?_);rintro e w' ⟨rfl,rfl⟩)
 go_ret
 exact⟨rfl,rfl⟩
set_option maxHeartbeats 400000 in
theorem areNets_any(A0 A1 A2 A3:Option Addr)(n0 c0 n1 c1 n2 c2 n3 c3:Nat)(l:List Int)(s:Value)(w:World)(B:Nat)(hB:B≤w.heap.size)(hs:Is w B s l):
 Calls Tryd.prog 74 #[.agg #[.slice A0 n0 c0,.slice A1 n1 c1,.slice A2 n2 c2,.slice A3 n3 c3],s] w fun e w'=>e=.returned (.bool (areIdx n0 l))∧Below w.heap.size w w':=by
 have hb:Below w.heap.size w (w.alloc (.cells #[.slice A0 n0 c0,.slice A1 n1 c1,.slice A2 n2 c2,.slice A3 n3 c3] 39)):=(Below.refl _ _).alloc (Nat.le_refl _) _
 have hcell:(w.alloc (.cells #[.slice A0 n0 c0,.slice A1 n1 c1,.slice A2 n2 c2,.slice A3 n3 c3] 39)).cell? ⟨w.heap.size,0,none⟩=some (.slice A0 n0 c0):=by
  rw[World.cell?_alloc_at _ _ _ _ rfl];rfl
 have hI:=containsI_any 91 (.pointer (some ⟨w.heap.size,0,none⟩)) (fun x=> !isIdx n0 x) l s _ B (hs.below (hb.mono hB)) (fun k _=>areNets1_any _ A0 n0 c0 _ _ hcell) (.inl rfl)
 obtain⟨y,HY⟩:=named (anyP (fun x=> !isIdx n0 x) l)
 rw[←HY.out]at hI
 have HI:=Lib.hid hI
 have HB:=Lib.hid hb
 clear hI hcell hs hb
 go_enter Tryd.func74,Tryd.ntmps74
 go_wp2_with (go_at_call 85;(with_reducible refine HI.out.mono ?_);rintro e w' ⟨rfl,rfl⟩)
 go_ret
 exact⟨ret_bool (by rw[areIdx,HY.out]),HB.out⟩
end Go.Proofs.YtcbllelkgniogaaDoor
