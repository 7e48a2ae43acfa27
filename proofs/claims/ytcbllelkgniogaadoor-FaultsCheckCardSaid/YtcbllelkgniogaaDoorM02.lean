/- The texts Sli Nam. -/
import Derived.Test.YtcbllelkgniogaaDoorM01
namespace Go.Proofs.YtcbllelkgniogaaDoor
open Go.RowKit
def Arr{α:Type}(d:α)(sz:Nat)(R:World→Nat→Nat→Nat→α→Prop)(w:World)(B:Nat)(v:Value)(l:List α):Prop:=
 ∃A b o c,v=.slice A l.length c∧(0<l.length→A=some ⟨b,o,none⟩)∧l.length≤c∧l.length≤maxLen∧∀k,k<l.length→b<B∧R w B b (o+k*sz) (l.getD k d)
def Stays{α:Type}(R:World→Nat→Nat→Nat→α→Prop):Prop:=
 ∀w w' B B' b p x,b<B→B≤B'→R w B b p x→(∀q:Addr,q.block<B→w'.cell? q=w.cell? q)→R w' B' b p x
theorem Arr.keep{α:Type}{d:α}{sz:Nat}{R:World→Nat→Nat→Nat→α→Prop}(hR:Stays R){w w':World}{B B':Nat}{v:Value}{l:List α}(h:Arr d sz R w B v l)(hB:B≤B')(hk:∀q:Addr,q.block<B→w'.cell? q=w.cell? q):Arr d sz R w' B' v l:=by
 obtain⟨A,b,o,c,h1,h2,h3,h4,h5⟩:=h
 exact⟨A,b,o,c,h1,h2,h3,h4,fun k hk'=>⟨Nat.lt_of_lt_of_le (h5 k hk').1 hB,hR _ _ _ _ _ _ _ (h5 k hk').1 hB (h5 k hk').2 hk⟩⟩
theorem Arr.nil{α:Type}(d:α)(sz:Nat)(R:World→Nat→Nat→Nat→α→Prop)(w:World)(B:Nat):Arr d sz R w B (.slice none 0 0) []:=
 ⟨none,0,0,0,rfl,fun h=>absurd h (by simp),by simp,by simp,fun k hk=>absurd hk (by simp)⟩
def IntAt(w:World)(_B b p:Nat)(x:Int):Prop:=w.cell? ⟨b,p,none⟩=some (.int .i64 x)
def StrAt(w:World)(_B b p:Nat)(x:ByteArray):Prop:=w.cell? ⟨b,p,none⟩=some (.string x)∧x.size≤maxLen
def Is(w:World)(B:Nat)(v:Value)(l:List Int):Prop:=Arr 0 1 IntAt w B v l
def Ss(w:World)(B:Nat)(v:Value)(l:List ByteArray):Prop:=Arr ByteArray.empty 1 StrAt w B v l
def NdAt(w:World)(B b p:Nat)(x:Nd):Prop:=
 ∃s,w.cell? ⟨b,p,none⟩=some (.int .u8 x.kind)∧w.cell? ⟨b,p+1,none⟩=some s∧w.cell? ⟨b,p+2,none⟩=some (.int .i64 x.mem)∧w.cell? ⟨b,p+3,none⟩=some (.int .i64 x.bit)∧Is w B s x.ins∧0≤x.kind∧x.kind≤255
def MmAt(w:World)(B b p:Nat)(x:Mm):Prop:=
 ∃s t,w.cell? ⟨b,p,none⟩=some s∧w.cell? ⟨b,p+1,none⟩=some t∧w.cell? ⟨b,p+2,none⟩=some (.int .i64 x.write)∧Is w B s x.addr∧Is w B t x.data
def Ns(w:World)(B:Nat)(v:Value)(l:List Nd):Prop:=Arr default 4 NdAt w B v l
def Ms(w:World)(B:Nat)(v:Value)(l:List Mm):Prop:=Arr default 3 MmAt w B v l
theorem stays_int:Stays IntAt:=fun w w' B B' b p x hb hB h hk=>(hk ⟨b,p,none⟩ hb).trans h
theorem stays_str:Stays StrAt:=fun w w' B B' b p x hb hB h hk=>⟨(hk ⟨b,p,none⟩ hb).trans h.1,h.2⟩
theorem Is.keep{w w':World}{B B':Nat}{v:Value}{l:List Int}(h:Is w B v l)(hB:B≤B')(hk:∀q:Addr,q.block<B→w'.cell? q=w.cell? q):Is w' B' v l:=Arr.keep stays_int h hB hk
theorem stays_nd:Stays NdAt:=fun w w' B B' b p x hb hB ⟨s,h0,h1,h2,h3,h4,h5,h6⟩ hk=>
 ⟨s,(hk ⟨b,p,none⟩ hb).trans h0,(hk ⟨b,p+1,none⟩ hb).trans h1,(hk ⟨b,p+2,none⟩ hb).trans h2,(hk ⟨b,p+3,none⟩ hb).trans h3,h4.keep hB hk,h5,h6⟩
theorem stays_mm:Stays MmAt:=fun w w' B B' b p x hb hB ⟨s,t,h0,h1,h2,h4,h5⟩ hk=>
 ⟨s,t,(hk ⟨b,p,none⟩ hb).trans h0,(hk ⟨b,p+1,none⟩ hb).trans h1,(hk ⟨b,p+2,none⟩ hb).trans h2,h4.keep hB hk,h5.keep hB hk⟩
theorem Ss.keep{w w':World}{B B':Nat}{v:Value}{l:List ByteArray}(h:Ss w B v l)(hB:B≤B')(hk:∀q:Addr,q.block<B→w'.cell? q=w.cell? q):Ss w' B' v l:=Arr.keep stays_str h hB hk
theorem Ns.keep{w w':World}{B B':Nat}{v:Value}{l:List Nd}(h:Ns w B v l)(hB:B≤B')(hk:∀q:Addr,q.block<B→w'.cell? q=w.cell? q):Ns w' B' v l:=Arr.keep stays_nd h hB hk
theorem Ms.keep{w w':World}{B B':Nat}{v:Value}{l:List Mm}(h:Ms w B v l)(hB:B≤B')(hk:∀q:Addr,q.block<B→w'.cell? q=w.cell? q):Ms w' B' v l:=Arr.keep stays_mm h hB hk
def Cir(w:World)(B:Nat)(v:Value)(x:Ck):Prop:=
 ∃v0 v1 v2 v3,v=.agg #[v0,v1,v2,v3]∧Ns w B v0 x.nodes∧Ss w B v1 x.names∧Ms w B v2 x.mems∧Is w B v3 x.outs
theorem Cir.keep{w w':World}{B B':Nat}{v:Value}{x:Ck}(h:Cir w B v x)(hB:B≤B')(hk:∀q:Addr,q.block<B→w'.cell? q=w.cell? q):Cir w' B' v x:=by
 obtain⟨v0,v1,v2,v3,h0,h1,h2,h3,h4⟩:=h
 exact⟨v0,v1,v2,v3,h0,h1.keep hB hk,h2.keep hB hk,h3.keep hB hk,h4.keep hB hk⟩
section
variable {w w':World} {B B':Nat} {v:Value}
theorem Is.below{l:List Int}(h:Is w B v l)(hb:Below B w w'):Is w' B v l:=h.keep (Nat.le_refl _) fun _ hp=>hb.cell hp
theorem Ss.below{l:List ByteArray}(h:Ss w B v l)(hb:Below B w w'):Ss w' B v l:=h.keep (Nat.le_refl _) fun _ hp=>hb.cell hp
theorem Ns.below{l:List Nd}(h:Ns w B v l)(hb:Below B w w'):Ns w' B v l:=h.keep (Nat.le_refl _) fun _ hp=>hb.cell hp
theorem Ms.below{l:List Mm}(h:Ms w B v l)(hb:Below B w w'):Ms w' B v l:=h.keep (Nat.le_refl _) fun _ hp=>hb.cell hp
theorem Cir.below{x:Ck}(h:Cir w B v x)(hb:Below B w w'):Cir w' B v x:=h.keep (Nat.le_refl _) fun _ hp=>hb.cell hp
theorem Is.more{l:List Int}(h:Is w B v l)(hB:B≤B'):Is w B' v l:=h.keep hB fun _ _=>rfl
theorem Ss.more{l:List ByteArray}(h:Ss w B v l)(hB:B≤B'):Ss w B' v l:=h.keep hB fun _ _=>rfl
theorem Ns.more{l:List Nd}(h:Ns w B v l)(hB:B≤B'):Ns w B' v l:=h.keep hB fun _ _=>rfl
theorem Ms.more{l:List Mm}(h:Ms w B v l)(hB:B≤B'):Ms w B' v l:=h.keep hB fun _ _=>rfl
theorem Cir.more{x:Ck}(h:Cir w B v x)(hB:B≤B'):Cir w B' v x:=h.keep hB fun _ _=>rfl
theorem Is.opens{l:List Int}(h:Is w B v l):∃A b o c,v=.slice A l.length c∧(0<l.length→A=some ⟨b,o,none⟩)∧l.length≤c∧l.length≤maxLen∧∀k,k<l.length→b<B∧w.cell? ⟨b,o+k,none⟩=some (.int .i64 (l.getD k 0)):=by
 obtain⟨A,b,o,c,h1,h2,h3,h4,h5⟩:=h
 exact⟨A,b,o,c,h1,h2,h3,h4,fun k hk=>⟨(h5 k hk).1,by have:=(h5 k hk).2;rw[Nat.mul_one]at this;exact this⟩⟩
theorem Ss.opens{l:List ByteArray}(h:Ss w B v l):∃A b o c,v=.slice A l.length c∧(0<l.length→A=some ⟨b,o,none⟩)∧l.length≤c∧l.length≤maxLen∧∀k,k<l.length→b<B∧w.cell? ⟨b,o+k,none⟩=some (.string (l.getD k ByteArray.empty))∧(l.getD k ByteArray.empty).size≤maxLen:=by
 obtain⟨A,b,o,c,h1,h2,h3,h4,h5⟩:=h
 exact⟨A,b,o,c,h1,h2,h3,h4,fun k hk=>⟨(h5 k hk).1,by have:=(h5 k hk).2;rw[Nat.mul_one]at this;exact this⟩⟩
end
def nmb(b:Int):Bool:= !(b==40||b==41||b==61||b==44||b==35)&&(decide (33≤b)&&decide (b≤126))
def nameOk(s:List UInt8):Bool:=decide (0<s.length)&&decide (s.length≤32)&&s.all fun c=>nmb (c.toNat:Int)
set_option maxHeartbeats 400000 in
theorem comb_any(k:Int)(w:World):Calls Tryd.prog 93 #[.int .u8 k] w fun e w'=>e=.returned (.bool (cmb k))∧w=w':=by
 obtain⟨y,HY⟩:=named (cmb k)
 rw[←HY.out]
 by_cases h1:1≤k
 all_goals
  go_enter Tryd.func93,Tryd.ntmps93
  go_wp2
  go_ret
  exact⟨ret_bool (by rw[HY.out];first|(simp[cmb,h1];done)|(simp[cmb,h1];omega)),rfl⟩
set_option maxHeartbeats 400000 in
theorem idx_any(i:Int)(n:Nat)(w:World):Calls Tryd.prog 92 #[.int .i64 i,.int .i64 n] w fun e w'=>e=.returned (.bool (isIdx n i))∧w=w':=by
 obtain⟨y,HY⟩:=named (isIdx n i)
 rw[←HY.out]
 by_cases h1:0≤i
 all_goals
  go_enter Tryd.func92,Tryd.ntmps92
  go_wp2
  go_ret
  exact⟨ret_bool (by rw[HY.out];first|(simp[isIdx,h1];done)|(simp[isIdx,h1];omega)),rfl⟩
set_option maxHeartbeats 400000 in
theorem nmb_any(b:Int)(w:World):Calls Tryd.prog 103 #[.int .u8 b] w fun e w'=>e=.returned (.bool (nmb b))∧w=w':=by
 obtain⟨y,HY⟩:=named (nmb b)
 rw[←HY.out]
 by_cases h1:b=40
 ·subst h1;go_enter Tryd.func103,Tryd.ntmps103
  go_wp2
  go_ret
  exact⟨ret_bool (by rw[HY.out];rfl),rfl⟩
 by_cases h2:b=41
 ·subst h2;go_enter Tryd.func103,Tryd.ntmps103
  go_wp2
  go_ret
  exact⟨ret_bool (by rw[HY.out];rfl),rfl⟩
 by_cases h3:b=61
 ·subst h3;go_enter Tryd.func103,Tryd.ntmps103
  go_wp2
  go_ret
  exact⟨ret_bool (by rw[HY.out];rfl),rfl⟩
 by_cases h4:b=44
 ·subst h4;go_enter Tryd.func103,Tryd.ntmps103
  go_wp2
  go_ret
  exact⟨ret_bool (by rw[HY.out];rfl),rfl⟩
 by_cases h5:b=35
 ·subst h5;go_enter Tryd.func103,Tryd.ntmps103
  go_wp2
  go_ret
  exact⟨ret_bool (by rw[HY.out];rfl),rfl⟩
 by_cases h6:33≤b
 all_goals
  go_enter Tryd.func103,Tryd.ntmps103
  go_wp2
  go_ret
  exact⟨ret_bool (by rw[HY.out];first|(simp[nmb,h1,h2,h3,h4,h5,h6];done)|(simp[nmb,h1,h2,h3,h4,h5,h6];omega)),rfl⟩
theorem name_no{s:List UInt8}(k:Nat)(h:k<s.length)(hf:nmb ((s.getD k 0).toNat:Int)=false):nameOk s=false:=by
 unfold nameOk
 have:(s.all fun c=>nmb (c.toNat:Int))=false:=by
  rw[List.all_eq_false]
  refine⟨s[k],List.getElem_mem h,?_⟩
  rw[List.getD_eq_getElem?_getD,List.getElem?_eq_getElem h]at hf
  simpa using hf
 rw[this,Bool.and_false]
theorem name_yes{s:List UInt8}(h0:0<s.length)(h1:s.length≤32)(h:∀k,k<s.length→nmb ((s.getD k 0).toNat:Int)=true):nameOk s=true:=by
 unfold nameOk
 have:(s.all fun c=>nmb (c.toNat:Int))=true:=by
  rw[List.all_eq_true]
  intro c hc
  obtain⟨k,hk,rfl⟩:=List.mem_iff_getElem.1 hc
  have:=h k hk
  rwa [List.getD_eq_getElem?_getD,List.getElem?_eq_getElem hk]at this
 simp[this,h1,h0]
set_option maxHeartbeats 1000000 in
theorem isName_any(s:ByteArray)(w:World):Calls Tryd.prog 90 #[.string s] w fun e w'=>e=.returned (.bool (nameOk s.data.toList))∧w=w':=by
 obtain⟨y,HY⟩:=named (nameOk s.data.toList)
 rw[←HY.out]
 have hlen:s.data.toList.length=s.size:=by simp
 have HL:=Lib.hid hlen
 clear hlen
 by_cases he:s.data.toList=[]
 ·obtain rfl:s=⟨#[]⟩:=by
   obtain⟨⟨l⟩⟩:=s
   obtain rfl:l=[]:=he
   rfl
  go_enter Tryd.func90,Tryd.ntmps90
  go_wp2
  go_ret
  exact⟨ret_bool (by rw[HY.out];rfl),rfl⟩
 ·have hpos:0<s.size:=by rw[←HL.out];exact List.length_pos_iff.2 he
  have hemp:s.toList.isEmpty=false:=by rw[ByteArray.toList_eq];simpa using he
  have hne:¬s.toList=[]:=by rw[ByteArray.toList_eq];exact he
  have HE:=Lib.hid he
  clear he
  by_cases h32:s.size≤32
  ·have h32':decide (32<(s.size:Int))=false:=by simp;omega
   go_enter Tryd.func90,Tryd.ntmps90
   go_wp2_with fail
   go_loopw [13] (fun i wr=>wr=w∧∃k:Nat,k≤s.size∧i=.int .i64 k∧∀j,j<k→nmb ((s.data.toList.getD j 0).toNat:Int)=true) (fun i _=>s.size-(intOf i).toNat)
   case atStart=>exact⟨rfl,0,Nat.zero_le _,rfl,fun j hj=>absurd hj (by omega)⟩
   case round=>
    obtain⟨rfl,k,hk,rfl,hno⟩:=hrel
    have HNO:=Lib.hid hno
    clear hno
    by_cases hlt:k<s.size
    ·have hb:(((s[k]'hlt).toNat:Nat):Int)=((s.data.toList.getD k 0).toNat:Int):=by
      rw[List.getD_eq_getElem?_getD,List.getElem?_eq_getElem (by simpa using hlt)];rfl
     have HB:=Lib.hid hb
     clear hb
     cases hv:nmb ((s[k]'hlt).toNat:Int)
     ·have HV:=Lib.hid hv
      clear hv
      go_wp2_with (go_at_call 103;(with_reducible refine (nmb_any _ _).mono ?_);rintro e w' ⟨rfl,rfl⟩;rw[HV.out])
      go_ret
      exact⟨ret_bool (by rw[HY.out];exact (name_no k (by rw[HL.out];exact hlt) (by rw[←HB.out];exact HV.out)).symm),rfl⟩
     ·have HV:=Lib.hid hv
      clear hv
      go_wp2_with (go_at_call 103;(with_reducible refine (nmb_any _ _).mono ?_);rintro e w' ⟨rfl,rfl⟩;rw[HV.out])
      go_roundw
      case rel=>
       refine⟨by trivial,k+1,by omega,by go_num,fun j hj=>?_⟩
       by_cases hjk:j=k
       ·rw[hjk,←HB.out];exact HV.out
       ·exact HNO.out j (by omega)
      case measure=>simp[intOf];omega
    ·go_wp2
     go_ret
     exact⟨ret_bool (by rw[HY.out];exact (name_yes (by rw[HL.out];exact hpos) (by rw[HL.out];exact h32) (fun j hj=>HNO.out j (by rw[HL.out]at hj;omega))).symm),rfl⟩
  ·have h32':decide (32<(s.size:Int))=true:=by simp;omega
   have hy:nameOk s.data.toList=false:=by simp[nameOk,HL.out];omega
   have HYY:=Lib.hid hy
   clear hy
   go_enter Tryd.func90,Tryd.ntmps90
   go_wp2
   go_ret
   exact⟨ret_bool (by rw[HY.out,HYY.out]),rfl⟩
end Go.Proofs.YtcbllelkgniogaaDoor
