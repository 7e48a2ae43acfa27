import Derived.Test.YtcbllelkgniogaaDoorM42
import Derived.Test.YtcbllelkgniogaaDoorFol
namespace Go.Proofs.YtcbllelkgniogaaDoor.lawFaultsOrder
open Go.ChangeShapes Go.WideShapes Go.ChangeAt Go.RowKit Go.WideMaps Go.WideElems
open Go.ChangeMaps (open_string shut_string)
theorem params_read:∀t∈ Tryd.f5.params.toList,Tryd.prog.readableRec t=true∧t< Tryd.prog.types.size:=by
 rw[Tryd.params5]
 have hall:([33,33,33].all fun u=>Tryd.prog.readableRec u&&decide (u< Tryd.prog.types.size))=true:=by kernel_rfl
 intro t ht
 have h:=List.all_eq_true.1 hall t (by simpa using ht)
 rw[Bool.and_eq_true]at h
 exact⟨h.1,of_decide_eq_true h.2⟩
set_option maxRecDepth 100000 in
theorem contract(H:Type)(enc:TypeId×Value→H)(W:World)(base:Nat)(args:Array Value)(ds gs:List (DataW H))(before:List MemPlace)
 (hval:∀(j:Nat) t v,Tryd.f5.params[j]? =some t→args[j]? =some v→Value.okWide Tryd.prog W .any base t v)
 (hW:DataW.Whole enc Tryd.prog Tryd.f5.params.toList Rows.faultsOrderSpec.vars false W args.toList ds gs before) (hL:laidMetH Tryd.prog Rows.faultsOrderRow.laid W):
 Calls Tryd.prog 5 args W fun e W'=>∃v,e=.returned v∧Rows.faultsOrderSpec.post enc Tryd.prog Tryd.f5 false true false false W args v W':=by
 have hW':=hW
 obtain⟨p,q,hA0,hV,rfl,hfz,hnd⟩:=hW
 have hA:DataW.TrodAll enc Tryd.prog W 0 (fun _=>true) true Tryd.f5.params.toList args.toList ds p:=hA0
 rw[Tryd.params5]at hA hval
 obtain⟨v0,vs0,d0,ds0,p0,q0,hargs,rfl,rfl,h0,r0⟩:=trodAll_cons hA
 obtain⟨v1,vs1,d1,ds1,p1,q1,rfl,rfl,rfl,h1,r1⟩:=trodAll_cons r0
 obtain⟨v2,vs2,d2,ds2,p2,q2,rfl,rfl,rfl,h2,r2⟩:=trodAll_cons r1
 obtain⟨rfl,rfl,rfl⟩:=trodAll_nil r2
 obtain rfl:args= #[v0,v1,v2]:=by cases args;simp_all
 obtain⟨rfl,rfl⟩:=trodVars_none hV
 have hT:=tabs_of hL
 obtain⟨a,rfl⟩:=open_fault (hval 0 33 v0 rfl rfl) h0
 obtain⟨b,rfl⟩:=open_fault (hval 1 33 v1 rfl rfl) h1
 obtain⟨d,rfl⟩:=open_fault (hval 2 33 v2 rfl rfl) h2
 refine (ord12_law a b d W hT.1 hT.2).mono fun e W' ⟨he,hg⟩=>?_
 subst he
 exact⟨_,rfl,law_post rw_laidOut rfl hW' params_read rfl Tryd.underlying4 rfl hg⟩
theorem laid_met(os:Os):laidMet Tryd.prog Rows.faultsOrderRow.laid ((tabWorld os).forCall (fun _ _=>0) ⟨#[],#[.agg #[.int .u8 0,.int .i64 0,.int .i64 0,.int .u8 0,.int .i64 0],.agg #[.int .u8 0,.int .i64 0,.int .i64 0,.int .u8 0,.int .i64 0],.agg #[.int .u8 0,.int .i64 0,.int .i64 0,.int .u8 0,.int .i64 0]],[]⟩).memory:=
 laidMet_of_run' 8 (by kernel_rfl) (by kernel_rfl)
theorem reads(os:Os){H:Type}(enc:TypeId×Value→H):∃places,DataW.whole enc Tryd.prog ((tabWorld os).forCall (fun _ _=>0) ⟨#[],#[.agg #[.int .u8 0,.int .i64 0,.int .i64 0,.int .u8 0,.int .i64 0],.agg #[.int .u8 0,.int .i64 0,.int .i64 0,.int .u8 0,.int .i64 0],.agg #[.int .u8 0,.int .i64 0,.int .i64 0,.int .u8 0,.int .i64 0]],[]⟩).memory Tryd.f5.params.toList Rows.faultsOrderSpec.vars false (#[.agg #[.int .u8 0,.int .i64 0,.int .i64 0,.int .u8 0,.int .i64 0],.agg #[.int .u8 0,.int .i64 0,.int .i64 0,.int .u8 0,.int .i64 0],.agg #[.int .u8 0,.int .i64 0,.int .i64 0,.int .u8 0,.int .i64 0]]:Array Value).toList 8=
 some ([.agg [.lit (.int .u8 0),.agg [.lit (.int .i64 0),.lit (.int .i64 0)],.lit (.int .u8 0),.lit (.int .i64 0)],.agg [.lit (.int .u8 0),.agg [.lit (.int .i64 0),.lit (.int .i64 0)],.lit (.int .u8 0),.lit (.int .i64 0)],.agg [.lit (.int .u8 0),.agg [.lit (.int .i64 0),.lit (.int .i64 0)],.lit (.int .u8 0),.lit (.int .i64 0)]],[],places):=⟨[],by kernel_rfl⟩
set_option maxRecDepth 100000 in
theorem lifted(os:Os)(started:os.Started)(H:Type)(enc:TypeId×Value→H)(F:Stop.Interp):
 ReturnsInHanded {} Tryd.checked os 5 .any ((OpenSpec.ofChange Rows.faultsOrderSpec).preRow enc Tryd.prog Tryd.f5 Rows.faultsOrderRow.domain false Rows.faultsOrderRow.laid) (((OpenSpec.ofChange Rows.faultsOrderSpec).at F).post enc Tryd.prog Tryd.f5 false true false false):=by
 obtain⟨places,hx⟩:=reads os enc
 refine returnsInHanded_of_row (C:=Tryd.checked) (s:=OpenSpec.ofChange Rows.faultsOrderSpec) rw_own started (by kernel_rfl) Tryd.func5
  (witness_row_at (enc:=enc) (C:=Tryd.checked) false (tabWorld os) #[.agg #[.int .u8 0,.int .i64 0,.int .i64 0,.int .u8 0,.int .i64 0],.agg #[.int .u8 0,.int .i64 0,.int .i64 0,.int .u8 0,.int .i64 0],.agg #[.int .u8 0,.int .i64 0,.int .i64 0,.int .u8 0,.int .i64 0]] rfl (by kernel_rfl) (by kernel_rfl) (by kernel_rfl)
    (OpenSpec.preRow_of_cond 8 hx (by kernel_rfl) (fun k hk=>by cases hk) (by kernel_rfl) (laid_met os))) ?_
 intro W base args ds gs before hval hW _ _ _ hL _ _
 exact contract H enc W base args ds gs before hval hW hL
theorem said:Rows.FaultsOrderSaid:=
 OpenClaim.holds_of_cond 5 Tryd.f5 rfl rfl rfl rfl rfl rfl rfl ⟨rfl,rfl,rfl,rfl,rfl⟩ rfl rfl rfl rfl rfl (by kernel_rfl) Tryd.func5 (by kernel_rfl)
  (of_decide_eq_true (by kernel_rfl)) (by unfold Func.isWrapper;first|(rw[if_pos (by decide+kernel)];kernel_rfl)|(rw[if_neg (by decide+kernel)];exact⟨rfl,rfl⟩))
  (fun os started H enc _ F=>by rw[OpenClaim.pre_eq_preRow];exact lifted os started H enc F)
theorem plain(f:FuncId)(fn:Func)(hf: Tryd.pinned.checked.prog.funcNamed "probecard/probecardlaw12.FaultsOrder" =some f)(hfn: Tryd.pinned.checked.prog.funcs[f]? =some fn):
 false= Tryd.pinned.checked.prog.looks []∧∀(j:Nat) t,fn.params[j]? =some t→Tryd.pinned.checked.prog.wantsStandIn t=false:=by
 obtain rfl:f=5:=Option.some.inj ((show Tryd.prog.funcNamed "probecard/probecardlaw12.FaultsOrder" =some 5 by kernel_rfl).symm.trans hf) |>.symm
 obtain rfl:fn= Tryd.f5:=(Option.some.inj (Tryd.func5.symm.trans hfn)).symm
 refine⟨by kernel_rfl,fun j t ht=>?_⟩
 rw[Tryd.params5]at ht
 have hm:t∈[33,33,33]:=by simpa using Array.mem_of_getElem? ht
 have hall:([33,33,33].all fun u=> !Tryd.prog.wantsStandIn u)=true:=by kernel_rfl
 exact (show Tryd.prog.wantsStandIn t=false by simpa using List.all_eq_true.1 hall t hm)
theorem card:Rows.FaultsOrderCardSaid:=
 Claim7.holds_tied_plain_at .later [] _ _ _ _ said (fun _ h=>by cases h) (by kernel_rfl) (fun _ h=>by cases h) faultsOrder_row_tie rfl ⟨rfl,rfl⟩ (by kernel_rfl) rfl plain (by kernel_rfl)
end Go.Proofs.YtcbllelkgniogaaDoor.lawFaultsOrder
