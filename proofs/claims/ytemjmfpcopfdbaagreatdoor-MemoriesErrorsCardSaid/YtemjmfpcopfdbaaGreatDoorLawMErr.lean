import Derived.Test.YtemjmfpcopfdbaaGreatDoorM42
import Derived.Test.YtemjmfpcopfdbaaGreatDoorM41
namespace Go.Proofs.YtemjmfpcopfdbaaGreatDoor.lawMemoriesErrors
open Go.ChangeShapes Go.WideShapes Go.ChangeAt Go.RowKit Go.WideMaps Go.WideElems
open Go.ChangeMaps (open_string shut_string)
theorem params_read:∀t∈ Tryz.f4.params.toList,Tryz.prog.readableRec t=true∧t< Tryz.prog.types.size:=by
 rw[Tryz.params4]
 have hall:([39,45,41].all fun u=>Tryz.prog.readableRec u&&decide (u< Tryz.prog.types.size))=true:=by kernel_rfl
 intro t ht
 have h:=List.all_eq_true.1 hall t (by simpa using ht)
 rw[Bool.and_eq_true]at h
 exact⟨h.1,of_decide_eq_true h.2⟩
set_option maxRecDepth 100000 in
theorem contract(H:Type)(enc:TypeId×Value→H)(W:World)(base:Nat)(args:Array Value)(ds gs:List (DataW H))(before:List MemPlace)
 (hval:∀(j:Nat) t v,Tryz.f4.params[j]? =some t→args[j]? =some v→Value.okWide Tryz.prog W .any base t v)
 (hW:DataW.Whole enc Tryz.prog Tryz.f4.params.toList Rows.memoriesErrorsSpec.vars false W args.toList ds gs before) (hL:laidMetH Tryz.prog Rows.memoriesErrorsRow.laid W) (hZ:∃vt,(DataW.weightsEach Tryz.prog (Tryz.f4.params.toList++vt) (ds++gs)).all (·≤reachBytes)=true):
 Calls Tryz.prog 4 args W fun e W'=>∃v,e=.returned v∧Rows.memoriesErrorsSpec.post enc Tryz.prog Tryz.f4 false true false false W args v W':=by
 have hW':=hW
 obtain⟨p,q,hA0,hV,rfl,hfz,hnd⟩:=hW
 have hA:DataW.TrodAll enc Tryz.prog W 0 (fun _=>true) true Tryz.f4.params.toList args.toList ds p:=hA0
 rw[Tryz.params4]at hA hval
 obtain⟨vt,hZ⟩:=hZ
 rw[Tryz.params4]at hZ
 obtain⟨v0,vs0,d0,ds0,p0,q0,hargs,rfl,rfl,h0,r0⟩:=trodAll_cons hA
 obtain⟨v1,vs1,d1,ds1,p1,q1,rfl,rfl,rfl,h1,r1⟩:=trodAll_cons r0
 obtain⟨v2,vs2,d2,ds2,p2,q2,rfl,rfl,rfl,h2,r2⟩:=trodAll_cons r1
 obtain⟨rfl,rfl,rfl⟩:=trodAll_nil r2
 obtain rfl:args= #[v0,v1,v2]:=by cases args;simp_all
 obtain⟨rfl,rfl⟩:=trodVars_none hV
 have hT:=Lg.tabs_of hL
 have hw:∀j t d,([39,45,41]++vt)[j]? =some t→([d0,d1,d2]:List (DataW H))[j]? =some d→Wok t d:=fun j t d ht hd q hq=>by simpa using List.all_eq_true.1 hZ _ (weach_mem ht (by simpa using hd) hq)
 obtain⟨c,A0,A1,A2,A3,c0,c1,c2,c3,rfl,hc,z1,z2,z3⟩:=open_circuit_sz9 (hw 0 _ _ rfl rfl) (hval 0 39 v0 rfl rfl) h0
 obtain⟨B0,B1,B2,d0,d1,d2,s,rfl,hs,fs⟩:=open_state (hw 1 _ _ rfl rfl) (hval 1 45 v1 rfl rfl) h1
 obtain⟨Ai,l,ci,rfl,hi,fi⟩:=open_vs_sz (hw 2 _ _ rfl rfl) (hval 2 41 v2 rfl rfl) h2
 refine (merr_law c s l A0 A1 A2 A3 B0 B1 B2 Ai _ _ _ _ c0 c1 c2 c3 _ _ _ d0 d1 d2 _ ci W hT hc hs hi z1 z2 z3 fs.1.2 fi.2).mono fun e W' ⟨he,hg⟩=>?_
 subst he
 exact⟨_,rfl,law_post rw_laidOut rfl hW' params_read rfl Tryz.underlying4 rfl hg⟩
theorem laid_met(os:Os):laidMet Tryz.prog Rows.memoriesErrorsRow.laid ((Lg.tabWorld os).forCall (fun _ _=>0) ⟨#[],#[.agg #[.slice none 0 0,.slice none 0 0,.slice none 0 0,.slice none 0 0],.agg #[.slice none 0 0,.slice none 0 0,.slice none 0 0],.slice none 0 0],[]⟩).memory:=
 laidMet_of_run' 8 (by kernel_rfl) (by kernel_rfl)
theorem reads(os:Os){H:Type}(enc:TypeId×Value→H):∃places,DataW.whole enc Tryz.prog ((Lg.tabWorld os).forCall (fun _ _=>0) ⟨#[],#[.agg #[.slice none 0 0,.slice none 0 0,.slice none 0 0,.slice none 0 0],.agg #[.slice none 0 0,.slice none 0 0,.slice none 0 0],.slice none 0 0],[]⟩).memory Tryz.f4.params.toList Rows.memoriesErrorsSpec.vars false (#[.agg #[.slice none 0 0,.slice none 0 0,.slice none 0 0,.slice none 0 0],.agg #[.slice none 0 0,.slice none 0 0,.slice none 0 0],.slice none 0 0]:Array Value).toList 8=
 some ([.agg [.nil,.nil,.nil,.nil],.agg [.nil,.nil,.nil],.nil],[],places):=⟨[],by kernel_rfl⟩
set_option maxRecDepth 100000 in
theorem lifted(os:Os)(started:os.Started)(H:Type)(enc:TypeId×Value→H)(F:Stop.Interp):
 ReturnsInHanded {} Tryz.checked os 4 .any ((OpenSpec.ofChange Rows.memoriesErrorsSpec).preRow enc Tryz.prog Tryz.f4 Rows.memoriesErrorsRow.domain false Rows.memoriesErrorsRow.laid) (((OpenSpec.ofChange Rows.memoriesErrorsSpec).at F).post enc Tryz.prog Tryz.f4 false true false false):=by
 obtain⟨places,hx⟩:=reads os enc
 refine returnsInHanded_of_row (C:=Tryz.checked) (s:=OpenSpec.ofChange Rows.memoriesErrorsSpec) rw_own started (by kernel_rfl) Tryz.func4
  (witness_row_at (enc:=enc) (C:=Tryz.checked) false (Lg.tabWorld os) #[.agg #[.slice none 0 0,.slice none 0 0,.slice none 0 0,.slice none 0 0],.agg #[.slice none 0 0,.slice none 0 0,.slice none 0 0],.slice none 0 0] rfl (by kernel_rfl) (by kernel_rfl) (by kernel_rfl)
    (OpenSpec.preRow_of_cond 8 hx (by kernel_rfl) (fun k hk=>by cases hk) (by kernel_rfl) (laid_met os))) ?_
 intro W base args ds gs before hval hW _ _ hZ hL _ _
 exact contract H enc W base args ds gs before hval hW hL ⟨_,hZ⟩
theorem said:Rows.MemoriesErrorsSaid:=
 OpenClaim.holds_of_cond 4 Tryz.f4 rfl rfl rfl rfl rfl rfl rfl ⟨rfl,rfl,rfl,rfl,rfl⟩ rfl rfl rfl rfl rfl (by kernel_rfl) Tryz.func4 (by kernel_rfl)
  (of_decide_eq_true (by kernel_rfl)) (by unfold Func.isWrapper;first|(rw[if_pos (by decide+kernel)];kernel_rfl)|(rw[if_neg (by decide+kernel)];exact⟨rfl,rfl⟩))
  (fun os started H enc _ F=>by rw[OpenClaim.pre_eq_preRow];exact lifted os started H enc F)
theorem plain(f:FuncId)(fn:Func)(hf: Tryz.pinned.checked.prog.funcNamed "probecard/probecardlaw09.MemoriesErrors" =some f)(hfn: Tryz.pinned.checked.prog.funcs[f]? =some fn):
 false= Tryz.pinned.checked.prog.looks []∧∀(j:Nat) t,fn.params[j]? =some t→Tryz.pinned.checked.prog.wantsStandIn t=false:=by
 obtain rfl:f=4:=Option.some.inj ((show Tryz.prog.funcNamed "probecard/probecardlaw09.MemoriesErrors" =some 4 by kernel_rfl).symm.trans hf) |>.symm
 obtain rfl:fn= Tryz.f4:=(Option.some.inj (Tryz.func4.symm.trans hfn)).symm
 refine⟨by kernel_rfl,fun j t ht=>?_⟩
 rw[Tryz.params4]at ht
 have hm:t∈[39,45,41]:=by simpa using Array.mem_of_getElem? ht
 have hall:([39,45,41].all fun u=> !Tryz.prog.wantsStandIn u)=true:=by kernel_rfl
 exact (show Tryz.prog.wantsStandIn t=false by simpa using List.all_eq_true.1 hall t hm)
theorem card:Rows.MemoriesErrorsCardSaid:=
 Claim7.holds_tied_plain_at .later [] _ _ _ _ said (fun _ h=>by cases h) (by kernel_rfl) (fun _ h=>by cases h) memoriesErrors_row_tie rfl ⟨rfl,rfl⟩ (by kernel_rfl) rfl plain (by kernel_rfl)
end Go.Proofs.YtemjmfpcopfdbaaGreatDoor.lawMemoriesErrors
