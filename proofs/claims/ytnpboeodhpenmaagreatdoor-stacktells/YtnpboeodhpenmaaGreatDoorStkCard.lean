/-
  PROVED: the law StackTells: whatever state is told, May, Clashes and Turn answer as the reference tells it, or the error that the reference tells, and nothing with it; the law returns true.
  Conditions: the package-level variables that the row lists hold what start-up lays there; the card ties that to the program's text.
-/
import Derived.Test.YtnpboeodhpenmaaGreatDoorQlbf
import Derived.Test.YtnpboeodhpenmaaGreatDoorQlbg
set_option maxRecDepth 100000
set_option maxHeartbeats 40000000
namespace Go.Proofs.YtnpboeodhpenmaaGreatDoor
open Go.ChangeShapes Go.WideShapes Go.ChangeAt Go.WideMaps Go.WideElems Go.RowKit Go.Joins Go.Deep
theorem Ui (H:Type) (enc:TypeId×Value→H) (W:World) (base:Nat) (args:Array Value) (g B:List (DataW H)) (b:List MemPlace)
  (d:∀ (j:Nat) t v,Tryz.f3.params[j]?=some t→args[j]?=some v→Value.okWide Tryz.prog W .any base t v)
  (D:DataW.Whole enc Tryz.prog Tryz.f3.params.toList Rows.stackTellsSpec.vars false W args.toList g B b) (O:(DataW.weightsEach Tryz.prog (Tryz.f3.params.toList ++ (OpenSpec.ofChange Rows.stackTellsSpec).bare.plain.varTypes Tryz.prog) (g ++ B)).all (· ≤ reachBytes)=true) (J:laidMetH Tryz.prog Rows.stackTellsRow.laid W) :
  Cl 3 args W fun e A=>∃ v,e=.returned v∧Rows.stackTellsSpec.post enc Tryz.prog Tryz.f3 false true false false W args v A:=by
 have l:=D;obtain ⟨p,q,f,K,rfl,N,Q⟩:=D;have C:DataW.TrodAll enc Tryz.prog W 0 (fun _=>true) true Tryz.f3.params.toList args.toList g p:=f;rw [Tryz.params3] at C d;obtain ⟨v0,a2,d0,G,Z,q0,o,rfl,rfl,h0,r0⟩:=trodAll_cons C;obtain ⟨rfl,rfl,rfl⟩:=trodAll_nil r0;obtain rfl:args=#[v0]:=by cases args;simp_all
 obtain ⟨rfl,rfl⟩:=trodVars_none K;have z:∀ x∈Z,x.block<W.heap.size:=by obtain ⟨m,P⟩:=h0;exact DataW.trod_lt m _ _ _ P
 obtain ⟨X,Y,a,c,V,sp,E,F,n,U,T,sc,zs,R,M,S,rfl,rz,rk,y,s,r,rM,u,rS,k,i⟩:=state_of (d 0 29 v0 rfl rfl) h0 (fun n y=>by simpa using List.all_eq_true.1 O n (DataW.weights_mem_each (j:=0) (t:=29) (by rw [Tryz.params3];rfl) rfl n y));clear f;refine (stackTells_any X Y a c V sp E F n U T sc zs R M S W rz rk y s r rM u rS k i (steps_of J)).mono fun e A ⟨L,bel⟩=>?_;subst L;exact ⟨_,rfl,_,_,_,[],_,[],l,trodAll_mk1 (shut_bool Tryz.underlying4 _),(trodAll_cons_mk (Below.trod laidOut η (of_decide_eq_true η) h0 bel z) trodAll_mk0),rfl,bel.frame _,fun h=>by cases h⟩
theorem stackTells_met (os:Os):laidMet Tryz.prog Rows.stackTellsRow.laid ((World.doorLaid Tryz.prog 204 os).forCall (fun _ _=>0) ⟨#[],#[.agg #[I 0,I 0,SN,SN,SN,SN]],[]⟩).memory :=
 laidMet_of_run' 65 η η
theorem Gr (os:Os) {H:Type} (enc:TypeId×Value→H):∃ places,DataW.whole enc Tryz.prog ((World.doorLaid Tryz.prog 204 os).forCall (fun _ _=>0) ⟨#[],#[.agg #[I 0,I 0,SN,SN,SN,SN]],[]⟩).memory Tryz.f3.params.toList Rows.stackTellsSpec.vars false #[Value.agg #[I 0,I 0,SN,SN,SN,SN]].toList 8=some ([.agg [.agg [.lit (.int .i64 0),.lit (.int .i64 0),.nil,.nil],.nil,.nil]],[],places) :=
 ⟨[],η⟩
theorem Ki (os:Os) (a:os.Started) (H:Type) (enc:TypeId×Value→H) (F:Stop.Interp) :
  ReturnsInHanded {} Tryz.checked os 3 .any ((OpenSpec.ofChange Rows.stackTellsSpec).preRow enc Tryz.prog Tryz.f3 Rows.stackTellsRow.domain false Rows.stackTellsRow.laid) (((OpenSpec.ofChange Rows.stackTellsSpec).at F).post enc Tryz.prog Tryz.f3 false true false false):=by
 obtain ⟨d,l⟩:=Gr os enc
 refine returnsInHanded_of_row (C:=Tryz.checked) (s:=OpenSpec.ofChange Rows.stackTellsSpec) Tryz.own a η Tryz.func3
  (witness_row_at (enc:=enc) (C:=Tryz.checked) false (World.doorLaid Tryz.prog 204 os) #[.agg #[I 0,I 0,SN,SN,SN,SN]] rfl η η η
   (OpenSpec.preRow_of_cond 8 l η (fun k j=>by cases j) η (stackTells_met os))) ?_
 intro W base args f g b c i _ _ e h _ _;exact Ui H enc W base args f g b c i e h
theorem Qav:Rows.StackTellsSaid :=
 OpenClaim.holds_of_cond 3 Tryz.f3 rfl rfl rfl rfl rfl rfl rfl ⟨rfl,rfl,rfl,rfl,rfl⟩ rfl rfl rfl rfl rfl η Tryz.func3 Kj
  (of_decide_eq_true η) (by unfold Func.isWrapper;first | (rw [if_pos (by decide +kernel)];kernel_rfl) | (rw [if_neg (by decide +kernel)];exact ⟨rfl,rfl⟩))
  (fun os a H enc _ F=>by rw [OpenClaim.pre_eq_preRow];exact Ki os a H enc F)
theorem Gs (f:FuncId) (fn:Func) (c:Tryz.pinned.checked.prog.funcNamed "pleat/pleatlaw.StackTells" = some f) (a:Tryz.pinned.checked.prog.funcs[f]?=some fn) :
  false=Tryz.pinned.checked.prog.looks []∧∀ (j:Nat) t,fn.params[j]?=some t→Tryz.pinned.checked.prog.wantsStandIn t=false:=by
 obtain rfl:f=3:=Option.some.inj ((show Tryz.prog.funcNamed "pleat/pleatlaw.StackTells" = some 3 by kernel_rfl).symm.trans c) |>.symm;obtain rfl:fn=Tryz.f3:=(Option.some.inj (Tryz.func3.symm.trans a)).symm;refine ⟨η,fun j t b=>?_⟩;rw [Tryz.params3] at b;have d:t=29:=by simpa using Array.mem_of_getElem? b
 subst d;exact (show Tryz.prog.wantsStandIn 29=false by kernel_rfl)
theorem stackTells_holds:Rows.StackTellsCardSaid :=
 Claim7.holds_tied_plain_at .later [] _ _ _ _ Qav (fun _ h=>by cases h) η (fun _ h=>by cases h) stackTells_row_tie rfl ⟨rfl,rfl⟩ η rfl Gs η
#print axioms stackTells_holds
end Go.Proofs.YtnpboeodhpenmaaGreatDoor
