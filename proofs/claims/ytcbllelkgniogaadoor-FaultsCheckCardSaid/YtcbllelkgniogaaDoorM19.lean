/- The texts Fq9. -/
import Derived.Test.YtcbllelkgniogaaDoorM15
import Derived.Laws.MakeOwn
import Derived.Laws.BitsAllLaws
import Derived.Test.YtcbllelkgniogaaDoorM18
namespace Go.Proofs.YtcbllelkgniogaaDoor
open Go.RowKit
attribute [local go_sem] Oper.semAt_some
theorem mkF_run{t e:TypeId}{ti:TypeInfo}{z:Value}(h1: Tryd.prog.underlying t=some (.slice e))(h2: Tryd.prog.info? e=some ti)(h3:ti.zero=some z)(n:Nat)(hb:ti.bytes*n≤281474976710656)(hn:n≤1000000)(w:World):
 (Instr.makeSlice t (.int .i64 (n:Int)) (.int .i64 (n:Int))).run Tryd.prog w=.ok (.slice (some ⟨w.heap.size,0,none⟩) n n) (w.alloc (.cells (madeCells z.cells (n*ti.size)) e)):=by
 have key:=run_make (P:=Tryd.prog) w t e ti z h1 h2 h3 .i64 .i64 (n:Int) (n:Int) (by omega) (by omega) (by have:=Int.ofNat_le.2 hb;rwa [Int.natCast_mul]at this) (by omega)
 simpa using key
theorem infoF_u64:(Tryd.prog.info? 97).map (fun i=>(i.zero,i.size,i.bytes))=some (some (.int .u64 0),1,8):=by kernel_rfl
theorem infoF_parts{o:Option TypeInfo}{z:Option Value}{s b:Nat}(h:o.map (fun i=>(i.zero,i.size,i.bytes))=some (z,s,b)):∃i,o=some i∧i.zero=z∧i.size=s∧i.bytes=b:=by
 cases o with
 |none=>simp at h
 |some i=>
  simp only[Option.map_some,Option.some.injEq,Prod.mk.injEq]at h
  exact⟨i,rfl,h.1,h.2.1,h.2.2⟩
def zU(n:Nat):List Value:=(madeCells (Value.int .u64 0).cells n).toList
def U64(l:List Nat):List Value:=l.map fun x:Nat=>.int .u64 (x:Int)
theorem U64_set(l:List Nat)(i x:Nat):U64 (l.set i x)=(U64 l).set i (.int .u64 (x:Int)):=by simp[U64,List.map_set]
theorem zU_eq(n:Nat):zU n=U64 (unitF n 0 0):=by
 have e1:(Value.int .u64 0).cells= #[.int .u64 0]:=rfl
 apply List.ext_getElem
 ·simp[zU,U64,unitF,madeCells]
 ·intro i h1 h2
  simp[zU,U64,unitF,madeCells,e1,Nat.mod_one]
structure RelF(w0:World)(n g1 g2 g3:Nat)(us ud:List Value)(w:World):Prop where
 bel:BelW w0 w
 l1:w0.heap.size≤g1
 l2:w0.heap.size≤g2
 l3:w0.heap.size≤g3
 d12:g1≠g2
 d13:g1≠g3
 d23:g2≠g3
 r1:Fr w g1 97 us
 r2:Fr w g2 97 ud
 r3:Fr w g3 98 [.slice (some ⟨g2,0,none⟩) n n]
theorem RelF.set1{w0 w:World}{n g1 g2 g3:Nat}{us ud:List Nat}(h:RelF w0 n g1 g2 g3 (U64 us) (U64 ud) w)(p x:Nat):RelF w0 n g1 g2 g3 (U64 (us.set p x)) (U64 ud) (w.setCell ⟨g1,p,none⟩ (.int .u64 (x:Int))):=
 ⟨Below.setCell h.bel h.l1 _,h.l1,h.l2,h.l3,h.d12,h.d13,h.d23,by rw[U64_set];exact h.r1.set p _,h.r2.other h.d12 _,h.r3.other h.d13 _⟩
theorem RelF.set2{w0 w:World}{n g1 g2 g3:Nat}{us ud:List Nat}(h:RelF w0 n g1 g2 g3 (U64 us) (U64 ud) w)(p x:Nat):RelF w0 n g1 g2 g3 (U64 us) (U64 (ud.set p x)) (w.setCell ⟨g2,p,none⟩ (.int .u64 (x:Int))):=
 ⟨Below.setCell h.bel h.l2 _,h.l1,h.l2,h.l3,h.d12,h.d13,h.d23,h.r1.other h.d12.symm _,by rw[U64_set];exact h.r2.set p _,h.r3.other h.d23 _⟩
theorem RelF.drew{w0 w:World}{n g1 g2 g3:Nat}{us ud:List Value}(h:RelF w0 n g1 g2 g3 us ud w):RelF w0 n g1 g2 g3 us ud w.drew:=
 ⟨Below.drew h.bel,h.l1,h.l2,h.l3,h.d12,h.d13,h.d23,h.r1.drew,h.r2.drew,h.r3.drew⟩
theorem pow_u64(k:Nat)(h:k<64):IntKind.u64.wrap ((2:Int)^k)=((2^k:Nat):Int):=by
 have h1:2^k<2^64:=Nat.pow_lt_pow_right (by decide) h
 have h2:(2:Int)^k=((2^k:Nat):Int):=by simp
 have key:∀m:Nat,m<2^64→IntKind.u64.wrap (m:Int)=(m:Int):=fun m hm=>by rw[IntKind.wrap_u64];omega
 rw[h2]
 exact key _ h1
theorem fr3a(W:World)(o p:Obj)(cs:List Value)(t:TypeId):Fr (((W.alloc o).alloc p).alloc (.cells cs.toArray t)).drew (W.heap.size+1+1) t cs:=Fr.drew (Fr.made _ _ _ (by simp))
theorem fr3b(W:World)(o p:Obj)(cs:List Value)(t:TypeId):Fr (((W.alloc o).alloc (.cells cs.toArray t)).alloc p).drew (W.heap.size+1) t cs:=Fr.drew ((Fr.made _ _ _ (by simp)).alloc _)
theorem fr3c(W:World)(o p:Obj)(cs:List Value)(t:TypeId):Fr (((W.alloc (.cells cs.toArray t)).alloc o).alloc p).drew W.heap.size t cs:=Fr.drew (((Fr.made _ _ _ rfl).alloc _).alloc _)
structure L64(n:Nat)(us:List Nat):Prop where
 len:us.length=n
 lt:∀i,us.getD i 0<18446744073709551616
theorem L64.set{n:Nat}{us:List Nat}(h:L64 n us)(i x:Nat)(hx:x<18446744073709551616):L64 n (us.set i x):=by
 refine⟨by simp[h.len],fun j=>?_⟩
 have:=h.lt j
 rw[List.getD_eq_getElem?_getD]at*
 rw[List.getElem?_set]
 by_cases h1:i=j
 ·subst h1
  by_cases h2:i<us.length
  ·simp[h2,hx]
  ·simp[h2]
 ·simpa [h1]using this
theorem L64.usN{n:Nat}{us:List Nat}(h:L64 n us)(i x:Nat):L64 n (usN us i x):=
 h.set _ _ (Nat.or_lt_two_pow (n:=64) (h.lt i) (h.lt x))
theorem L64.usI{n:Nat}{us:List Nat}{rd:Nat→List Nat}(h:L64 n us)(i m:Nat):L64 n (usI rd us i m):=by
 induction m with
 |zero=>exact h
 |succ m ih=>exact ih.usN _ _
theorem L64.usO{n:Nat}{us:List Nat}{rd:Nat→List Nat}{ord:List Nat}(h:L64 n us)(j:Nat):L64 n (usO rd us ord j):=by
 induction j with
 |zero=>exact h
 |succ j ih=>exact ih.usI _ _
theorem unitF_64(n a k:Nat)(hk:k≤64):L64 n (unitF n a k):=by
 induction k with
 |zero=>exact⟨unitF_len _ _ _,fun i=>by simp[unitF,List.getD_eq_getElem?_getD,List.getElem?_replicate];split<;>simp⟩
 |succ k ih=>exact (ih (by omega)).set _ _ (Nat.pow_lt_pow_right (by decide) hk)
theorem U64_at{us:List Nat}{p:Nat}(h:p<us.length):(U64 us)[p]? =some (.int .u64 ((us.getD p 0:Nat):Int)):=by
 simp[U64,List.getD_eq_getElem?_getD,List.getElem?_eq_getElem h]
theorem L64.udI{n:Nat}{us:List Nat}{rd:Nat→List Nat}(h:L64 n us)(i m:Nat):L64 n (udI rd us i m):=by
 induction m with
 |zero=>exact h
 |succ m ih=>exact ih.usN _ _
theorem L64.udO{n:Nat}{us:List Nat}{rd:Nat→List Nat}{ord:List Nat}(h:L64 n us)(j:Nat):L64 n (udO rd us ord n j):=by
 induction j with
 |zero=>exact h
 |succ j ih=>exact ih.udI _ _
theorem RelF.next{w0 w w':World}{n g1 g2 g3:Nat}{us ud:List Value}(h:RelF w0 n g1 g2 g3 us ud w)(hb:BelW w w'):RelF w0 n g1 g2 g3 us ud w':=
 ⟨joinB h.bel hb,h.l1,h.l2,h.l3,h.d12,h.d13,h.d23,h.r1.below hb,h.r2.below hb,h.r3.below hb⟩
theorem RelF.kept{w0 w w':World}{n g1 g2 g3 B:Nat}{row:Option Nat}{us ud:List Value}(h:RelF w0 n g1 g2 g3 us ud w)(hg:w.grownBy w' row)(hr:∀r,row=some r→B≤r)(hB:w0.heap.size≤B∧g1<B∧g2<B∧g3<B):RelF w0 n g1 g2 g3 us ud w':=by
 have hne:∀g,g<B→some g≠row:=fun g hgB e=>by have:=hr g e.symm;omega
 exact⟨Below.grown h.bel hg (Below.size h.bel) (fun r e=>Nat.le_trans hB.1 (hr r e)),h.l1,h.l2,h.l3,h.d12,h.d13,h.d23,h.r1.kept hg (hne _ hB.2.1),h.r2.kept hg (hne _ hB.2.2.1),h.r3.kept hg (hne _ hB.2.2.2)⟩
theorem reads_inF(F:Fence)(u:Nat)(kd mm bt:Int)(A:Option Addr)(m c:Nat)(w:World)(hf:F.fn 61)(hro:F.round=none):
 CallsIn F u Tryd.prog 61 #[.agg #[.int .u8 kd,.slice A m c,.int .i64 mm,.int .i64 bt]] w fun e w'=>e=.returned (if kd=14 then .slice none 0 0 else .slice A m c)∧BelW w w':=by
 by_cases h:kd=14
 ·have t0:(kd==14)=true:=by simpa using h
  have H:=Lib.hid h
  clear h
  refine callsIn_of_wp Tryd.func61 rfl hf ?_ hro
  simp only[Tryd.ntmps61,List.size_toArray,List.length_cons,List.length_nil,Nat.reduceAdd,Nat.reduceSub,Array.replicate_succ,Array.replicate_zero,List.push_toArray,List.append_toArray,List.nil_append,List.cons_append]
  gi_wp2
  go_ret
  exact⟨by first|rfl|(rw[if_pos H.out];rfl),below_new (Below.refl _ _) _⟩
 ·have t0:(kd==14)=false:=by simpa using h
  have H:=Lib.hid h
  clear h
  refine callsIn_of_wp Tryd.func61 rfl hf ?_ hro
  simp only[Tryd.ntmps61,List.size_toArray,List.length_cons,List.length_nil,Nat.reduceAdd,Nat.reduceSub,Array.replicate_succ,Array.replicate_zero,List.push_toArray,List.append_toArray,List.nil_append,List.cons_append]
  gi_wp2
  go_ret
  exact⟨by first|rfl|(rw[if_neg H.out];rfl),below_new (Below.refl _ _) _⟩
end Go.Proofs.YtcbllelkgniogaaDoor
