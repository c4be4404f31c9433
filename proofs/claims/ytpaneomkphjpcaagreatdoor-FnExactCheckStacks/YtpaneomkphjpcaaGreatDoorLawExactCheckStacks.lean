/- FnExactCheckStacks: for every program and every number CheckStacks of the program answers as CheckStacks of the model does, in memory of its own, and changes no argument; the library's tables start as the program's text lays them. -/
import Derived.Test.YtpaneomkphjpcaaGreatDoorWalkExactCheckStacks
import Derived.Test.YtpaneomkphjpcaaGreatDoorPcTbl
import Derived.OpenVars
namespace Go.Proofs.YtpaneomkphjpcaaGreatDoor.fnExactCheckStacks
open Go.ChangeShapes Go.WideShapes Go.ChangeAt Go.RowKit Go.Joins
set_option linter.unusedVariables false
theorem cellsP:Tryz.prog.cellsOf 26=3:=by kernel_rfl
set_option maxRecDepth 100000 in
theorem contract (H:Type) (enc:TypeId×Value→H) (W:World) (base:Nat) (args:Array Value) (ds gs:List (DataW H)) (before:List MemPlace)
    (hval:∀(j:Nat) t v,Tryz.f4.params[j]?=some t→args[j]?=some v→Value.okWide Tryz.prog W .any base t v)
    (hW:DataW.Whole enc Tryz.prog Tryz.f4.params.toList Rows.fnExactCheckStacksSpec.vars false W args.toList ds gs before) (hL:laidMetH Tryz.prog Rows.fnExactCheckStacksRow.laid W) :
    Calls Tryz.prog 4 args W fun e W'=>∃v,e=.returned v∧Rows.fnExactCheckStacksSpec.post enc Tryz.prog Tryz.f4 false true false false W args v W':=by
  have hW':=hW
  obtain⟨p,q,hA0,hV,rfl,hfz,hnd⟩:=hW
  have hA:DataW.TrodAll enc Tryz.prog W 0 (fun _=>true) true Tryz.f4.params.toList args.toList ds p:=hA0
  rw[Tryz.params4] at hA hval
  obtain⟨v0,vs0,d0,ds0,p0,q0,hargs,rfl,rfl,h0,r0⟩:=trodAll_cons hA
  obtain⟨v1,vs1,d1,ds1,p1,q1,rfl,rfl,rfl,h1,r1⟩:=trodAll_cons r0
  obtain⟨rfl,rfl,rfl⟩:=trodAll_nil r1
  obtain rfl:args=#[v0,v1]:=by cases args;simp_all
  obtain⟨rfl,rfl⟩:=trodVars_none hV
  have k0:=h0
  have lt0:∀x∈p0,x.block<W.heap.size:=by obtain⟨m,hm⟩:=k0;exact DataW.trod_lt m _ _ _ hm
  obtain⟨c00,c01,c02,y00,y01,y02,nn0,rfl,rfl,rfl,hy00,hy01,hy02⟩:=open_agg3 Tryz.underlying26 (by kernel_rfl) cellsP (hval 0 26 v0 rfl rfl) h0
  obtain⟨ga0,gs0,gc0,rfl,hg0,bg0⟩:=groupsM_open hy00
  obtain⟨fa0,fs0,fc0,rfl,hf0,bf0⟩:=fieldsM_open hy01
  obtain⟨ua0,us0,uc0,rfl,hu0,bu0⟩:=funs_open hy02
  obtain⟨a1,rfl,rfl,rfl,w1⟩:=open_int Tryz.underlying3 (hval 1 3 v1 rfl rfl) h1
  clear hA0
  have hT0:=pow_of_head (laidMet.tail (laidMet.tail hL))
  refine(fnExactCheckStacks_walk ga0 fa0 ua0 gc0 fc0 uc0 ⟨gs0,fs0,us0⟩ a1 w1 W ⟨bg0,bf0,bu0⟩ ⟨hg0,hf0,hu0⟩ hT0).mono fun e W' ⟨he,bel⟩=>?_
  subst he
  exact⟨_,rfl,_,_,_,[],_,[],hW',trodAll_mk1 (shut_bool Tryz.underlying4 _),(trodAll_cons_mk (Below.trod Tryz.laidOut (by kernel_rfl) (of_decide_eq_true (by kernel_rfl)) k0 bel lt0) (trodAll_cons_mk (shut_int Tryz.underlying3 w1) trodAll_mk0)),rfl,bel.frame _,fun h=>by cases h⟩
theorem laid_met (os:Os):laidMet Tryz.prog Rows.fnExactCheckStacksRow.laid ((laidWorld os).forCall (fun _ _=>0) ⟨#[],#[.agg #[.slice none 0 0,.slice none 0 0,.slice none 0 0],.int .i64 0],[]⟩).memory :=
  laidMet_of_run' 8 (by kernel_rfl) (by kernel_rfl)
theorem reads (os:Os) {H:Type} (enc:TypeId×Value→H):∃places,DataW.whole enc Tryz.prog ((laidWorld os).forCall (fun _ _=>0) ⟨#[],#[.agg #[.slice none 0 0,.slice none 0 0,.slice none 0 0],.int .i64 0],[]⟩).memory Tryz.f4.params.toList Rows.fnExactCheckStacksSpec.vars false (#[Value.agg #[.slice none 0 0,.slice none 0 0,.slice none 0 0],Value.int .i64 0]:Array Value).toList 8=some ([.agg [.nil,.nil,.nil],.lit (.int .i64 0)],[],places) :=
  ⟨[],by kernel_rfl⟩
set_option maxRecDepth 100000 in
theorem lifted (os:Os) (started:os.Started) (H:Type) (enc:TypeId×Value→H) (F:Stop.Interp) :
    ReturnsInHanded {} Tryz.checked os 4 .any ((OpenSpec.ofChange Rows.fnExactCheckStacksSpec).preRow enc Tryz.prog Tryz.f4 Rows.fnExactCheckStacksRow.domain false Rows.fnExactCheckStacksRow.laid) (((OpenSpec.ofChange Rows.fnExactCheckStacksSpec).at F).post enc Tryz.prog Tryz.f4 false true false false):=by
  obtain⟨places,hx⟩:=reads os enc
  refine returnsInHanded_of_row (C:=Tryz.checked) (s:=OpenSpec.ofChange Rows.fnExactCheckStacksSpec) Tryz.own started (by kernel_rfl) Tryz.func4
    (witness_row_at (enc:=enc) (C:=Tryz.checked) false (laidWorld os) #[.agg #[.slice none 0 0,.slice none 0 0,.slice none 0 0],.int .i64 0] rfl (by kernel_rfl) (by kernel_rfl) (by kernel_rfl)
      (OpenSpec.preRow_of_cond 8 hx (by kernel_rfl) (fun k hk=>by cases hk) (by kernel_rfl) (laid_met os))) ?_
  intro W base args ds gs before hval hW _ _ _ hL _ _
  exact contract H enc W base args ds gs before hval hW hL
theorem said:Rows.FnExactCheckStacksSaid :=
  OpenClaim.holds_of_cond 4 Tryz.f4 rfl rfl rfl rfl rfl rfl rfl ⟨rfl,rfl,rfl,rfl,rfl⟩ rfl rfl rfl rfl rfl (by kernel_rfl) Tryz.func4 (by kernel_rfl)
    (of_decide_eq_true (by kernel_rfl)) (by unfold Func.isWrapper;first|(rw[if_pos (by decide +kernel)];kernel_rfl)|(rw[if_neg (by decide +kernel)];exact⟨rfl,rfl⟩))
    (fun os started H enc _ F=>by rw[OpenClaim.pre_eq_preRow];exact lifted os started H enc F)
theorem plain (f : FuncId) (fn : Func) (hf : Tryz.pinned.checked.prog.funcNamed "loop.example/lairage/laws.FnExactCheckStacks" = some f) (hfn : Tryz.pinned.checked.prog.funcs[f]? = some fn) :
    true=Tryz.pinned.checked.prog.looks []∧∀(j:Nat) t,fn.params[j]?=some t→Tryz.pinned.checked.prog.wantsStandIn t=false:=by
  obtain rfl : f = 4 := Option.some.inj ((show Tryz.prog.funcNamed "loop.example/lairage/laws.FnExactCheckStacks" = some 4 by kernel_rfl).symm.trans hf) |>.symm
  obtain rfl:fn=Tryz.f4:=(Option.some.inj (Tryz.func4.symm.trans hfn)).symm
  refine⟨by kernel_rfl,fun j t ht=>?_⟩
  rw[Tryz.params4] at ht
  have hm:t=26∨t=3:=by simpa using Array.mem_of_getElem? ht
  rcases hm with rfl|rfl
  · exact(show Tryz.prog.wantsStandIn 26=false by kernel_rfl)
  · exact(show Tryz.prog.wantsStandIn 3=false by kernel_rfl)
theorem card:Rows.FnExactCheckStacksCardSaid :=
  Claim7.holds_tied_plain_at .later [] _ _ _ _ said (fun _ h=>by cases h) (by kernel_rfl) (fun _ h=>by cases h) fnExactCheckStacks_row_tie rfl ⟨rfl,rfl⟩ (by kernel_rfl) rfl plain (by kernel_rfl)
end Go.Proofs.YtpaneomkphjpcaaGreatDoor.fnExactCheckStacks
namespace Go.Proofs.YtpaneomkphjpcaaGreatDoor
theorem fnExactCheckStacks_holds:Rows.FnExactCheckStacksCardSaid:=fnExactCheckStacks.card
end Go.Proofs.YtpaneomkphjpcaaGreatDoor
