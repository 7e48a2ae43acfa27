/- The texts Lx5. -/
import Derived.Test.YtjdjcaobkmpoeaaDoorM32
import Derived.Test.YtjdjcaobkmpoeaaDoorM33
import Derived.Test.YtjdjcaobkmpoeaaDoorM19
namespace Go.Proofs.YtjdjcaobkmpoeaaDoor
open Go.RowKit
def e5N:List Nd:=[⟨0,[],0,0⟩,⟨4,[0],0,0⟩,⟨5,[0,1],0,0⟩,⟨4,[2],0,0⟩,⟨7,[3,1],0,0⟩]
def e5S:List ByteArray:=[⟨#[97]⟩,⟨#[110]⟩,⟨#[103]⟩,⟨#[109]⟩,⟨#[104]⟩]
def E5:Ck:=⟨e5N,e5S,[],[4]⟩
theorem e5_lvl:Lvl e5N [0,1,2,3,4]:=by
 refine⟨rfl,fun i hi=>?_⟩
 have:i=0∨i=1∨i=2∨i=3∨i=4:=by simp[e5N]at hi;omega
 rcases this with rfl|rfl|rfl|rfl|rfl<;>decide
theorem e5_shape:shapeErr E5=0:=by decide
theorem e5_ok:chkErr E5=0:=by
 unfold chkErr
 rw[if_neg (by rw[e5_shape];simp),if_pos ⟨_,e5_lvl⟩]
theorem g5_ex:G5 E5 5 [0,1,2,3,4]:=⟨e5_ok,e5_lvl,rfl,by decide⟩
theorem five_of{p:Nat→Prop}(h0:p 0)(h1:p 1)(h2:p 2)(h3:p 3)(h4:p 4)(i:Nat)(hi:i<5):p i:=by
 have:i=0∨i=1∨i=2∨i=3∨i=4:=by omega
 rcases this with rfl|rfl|rfl|rfl|rfl<;>assumption
theorem eight5(w W:World)(o0 o1 o2 o3 o4 o5 o6 o7:Obj)(h:W=(((((((w.alloc o0).alloc o1).alloc o2).alloc o3).alloc o4).alloc o5).alloc o6).alloc o7):
 W.heap.size=w.heap.size+8∧W.heap[w.heap.size]? =some o0∧W.heap[w.heap.size+1]? =some o1∧W.heap[w.heap.size+1+1]? =some o2∧W.heap[w.heap.size+1+1+1]? =some o3∧W.heap[w.heap.size+1+1+1+1]? =some o4∧W.heap[w.heap.size+1+1+1+1+1]? =some o5∧W.heap[w.heap.size+1+1+1+1+1+1]? =some o6∧W.heap[w.heap.size+1+1+1+1+1+1+1]? =some o7∧Below w.heap.size w W:=by
 subst h
 refine⟨by simp,?_,?_,?_,?_,?_,?_,?_,?_,?_⟩
 any_goals (simp only[World.alloc,Array.getElem?_push,Array.size_push,if_true]<;>(repeat' split)<;>first|rfl|omega)
 exact below_new (below_new (below_new (below_new (below_new (below_new (below_new (below_new (Below.refl _ _) _) _) _) _) _) _) _) _
set_option maxHeartbeats 4000000 in
theorem example5_any(w:World):Calls Tryd.prog 22 #[] w fun e w'=>(∃A0 A1 A3 c0 c1 c3,e=.returned (.agg #[.slice A0 5 c0,.slice A1 5 c1,.slice none 0 0,.slice A3 1 c3])∧Cir w' w'.heap.size (.agg #[.slice A0 5 c0,.slice A1 5 c1,.slice none 0 0,.slice A3 1 c3]) E5)∧Below w.heap.size w w':=by
 go_enter Tryd.func22,Tryd.ntmps22
 go_wp2
 generalize hW:World.alloc _ _=W
 obtain⟨hz,h0,h1,h2,h3,h4,h5,h6,h7,hb⟩:=eight5 w W _ _ _ _ _ _ _ _ hW.symm
 clear hW
 (try simp only[Exit.inBlock,Exit.then])
 refine bodyPost_ret (results_cell_row rfl _ _ _ _ _ _ _ rfl h0 Tryd.underlying27 rfl (by kernel_rfl)) rfl ?_
 refine⟨⟨_,_,_,_,_,_,rfl,_,_,_,_,rfl,?_,?_,Arr.nil _ _ _ _ _,?_⟩,hb⟩
 ·refine⟨_,w.heap.size+1+1+1+1+1,0,5,rfl,fun _=>rfl,Nat.le_refl _,by simp[E5,e5N,maxLen],fun k hk=>⟨by omega,?_⟩⟩
  have hk6:k=0∨k=1∨k=2∨k=3∨k=4:=by simp[E5,e5N]at hk;omega
  unfold NdAt
  simp only[cell_of_row W _ _ _ _ _ h5]
  rcases hk6 with rfl|rfl|rfl|rfl|rfl
  ·exact⟨_,rfl,rfl,rfl,rfl,Arr.nil _ _ _ _ _,by decide,by decide⟩
  ·exact⟨_,rfl,rfl,rfl,rfl,is_of (l:=[0]) _ h1 (by simp[maxLen]) (by omega),by decide,by decide⟩
  ·exact⟨_,rfl,rfl,rfl,rfl,is_of (l:=[0,1]) _ h2 (by simp[maxLen]) (by omega),by decide,by decide⟩
  ·exact⟨_,rfl,rfl,rfl,rfl,is_of (l:=[2]) _ h3 (by simp[maxLen]) (by omega),by decide,by decide⟩
  ·exact⟨_,rfl,rfl,rfl,rfl,is_of (l:=[3,1]) _ h4 (by simp[maxLen]) (by omega),by decide,by decide⟩
 ·refine⟨_,w.heap.size+1+1+1+1+1+1,0,5,rfl,fun _=>rfl,Nat.le_refl _,by simp[E5,e5S,maxLen],fun k hk=>⟨by omega,?_⟩⟩
  have hk6:k=0∨k=1∨k=2∨k=3∨k=4:=by simp[E5,e5S]at hk;omega
  unfold StrAt
  simp only[cell_of_row W _ _ _ _ _ h6]
  rcases hk6 with rfl|rfl|rfl|rfl|rfl<;>exact⟨rfl,by decide⟩
 ·exact is_of (l:=[4]) _ h7 (by simp[maxLen]) (by omega)
theorem e5_inr(l:List Int)(h:l.all (fun x=>decide (0≤x)&&decide (x<5))=true):Inr 5 l:=fun x hx=>by
 have:=List.all_eq_true.1 h x hx
 simp at this
 exact this
theorem e5_vis{l:List Int}{R:List Bool}(nx:Nat→List Int)(h:Vis nx 5 (List.replicate 5 false) l R)(hl:Inr 5 l)(hn:∀j,Inr 5 (nx j)){S:List Bool}(hS:cloN nx 5 l 5=S)(h1:cloS nx 5 S=S)(h0:(l.all fun x=>bat S x.toNat)=true):R=S:=
 h.lit hl hn hS h1 fun x hx=>List.all_eq_true.1 h0 x hx
def dm5:Nat→List Int:=fun k=>[[4],[4],[3,4],[4],[]].getD k []
def mt5:Nat→List Int:=fun k=>[[2,4],[4],[],[],[]].getD k []
theorem e5_stem:stemL E5=[0,1,4,4,4]:=by decide
theorem e5_stems:nwL (fun i=>(stemL E5).getD i 0==(i:Int)) 5=[0,1,4]:=by rw[e5_stem];decide
theorem e5_pts:memB (ptB E5) 5=[4]:=by decide
theorem e5_dom(x:Nat)(hx:x<5)(T:List Int)(h:DomL 5 (fun x:Int=>rdL E5.nodes x.toNat) (fun x:Int=>bat (ptB E5) x.toNat=true) [0,1,2,3,4] (x:Int) T):T=dm5 x:=by
 have hs:∀(nt y:Int),Nod 5 y→(snF (fun x:Int=>rdL E5.nodes x.toNat) (fun x:Int=>bat (ptB E5) x.toNat) nt 5 y=true↔Sn (fun x:Int=>rdL E5.nodes x.toNat) (fun x:Int=>bat (ptB E5) x.toNat=true) nt y):=fun nt y hy=>snF_iff g5_ex.inr g5_ex.up g5_ex.top 5 y hy (by have:=g5_ex.bot y hy;omega)
 have key:∀x:Nat,x<5→∀d:Nat,d<5→(((d:Int)∈dm5 x)↔(d:Int)≠(x:Int)∧snF (fun x:Int=>rdL E5.nodes x.toNat) (fun x:Int=>bat (ptB E5) x.toNat) (-1) 5 (x:Int)=true∧¬snF (fun x:Int=>rdL E5.nodes x.toNat) (fun x:Int=>bat (ptB E5) x.toNat) (d:Int) 5 (x:Int)=true):=by decide
 have hnd:∀d∈dm5 x,Nod 5 d:=fun d hd=>e5_inr (dm5 x) (five_of (p:=fun x=>(dm5 x).all (fun x=>decide (0≤x)&&decide (x<5))=true) (by decide) (by decide) (by decide) (by decide) (by decide) x hx) d hd
 refine asc_eq T (dm5 x) h.up (five_of (p:=fun x=>(dm5 x).Pairwise (fun a b=>lat [0,1,2,3,4] a<lat [0,1,2,3,4] b)) (by decide) (by decide) (by decide) (by decide) (by decide) x hx) fun d=>?_
 by_cases hd:Nod 5 d
 ·obtain⟨d0,d1⟩:=hd
  obtain⟨dn,rfl⟩:∃dn:Nat,d=(dn:Int):=⟨d.toNat,by omega⟩
  have hxn:Nod 5 (x:Int):=⟨by omega,by omega⟩
  rw[h.mem _ ⟨d0,d1⟩,key x hx dn (by omega),hs _ _ hxn,hs _ _ hxn]
 ·exact⟨fun g=>absurd (h.nod d g) hd,fun g=>absurd (hnd d g) hd⟩
theorem e5_meet(x:Nat)(hx:x<5)(R:List Bool)(h:Vis (rdL E5.nodes) 5 (List.replicate 5 false) [(x:Int)] R):nwL (fun i=>decide (1<pinB R (dep E5.nodes (i:Int)))) 5=mt5 x:=by
 have hl:∀x:Nat,x<5→Inr 5 [(x:Int)]:=fun x hx y hy=>by
  have:y=(x:Int):=(by simpa using hy)
  omega
 have h5:x=0∨x=1∨x=2∨x=3∨x=4:=by omega
 rcases h5 with rfl|rfl|rfl|rfl|rfl
 ·rw[e5_vis _ h (hl 0 (by decide)) g5_ex.inr' (S:=[true,true,true,true,true]) (by decide) (by decide) (by decide)];decide
 ·rw[e5_vis _ h (hl 1 (by decide)) g5_ex.inr' (S:=[false,true,true,true,true]) (by decide) (by decide) (by decide)];decide
 ·rw[e5_vis _ h (hl 2 (by decide)) g5_ex.inr' (S:=[false,false,true,true,true]) (by decide) (by decide) (by decide)];decide
 ·rw[e5_vis _ h (hl 3 (by decide)) g5_ex.inr' (S:=[false,false,false,true,true]) (by decide) (by decide) (by decide)];decide
 ·rw[e5_vis _ h (hl 4 (by decide)) g5_ex.inr' (S:=[false,false,false,false,true]) (by decide) (by decide) (by decide)];decide
end Go.Proofs.YtjdjcaobkmpoeaaDoor
