/-
  PROVED: the law TopDragon: whatever numbers the list holds and however long it is, a strip of cells that is folded in half again and again (three times at the most), over or under as the numbers tell, has the creases that the dragon's word tells, one at each edge between two cells, and lies as high as it has cells at four places; the law returns true, and the list reads as before.
  Condition: the package-level variable grid.steps holds what start-up lays there; the card ties that to the program's text.
-/
import Derived.Test.YtjkjpopghkeibaaGreatDoorCards
import Derived.Test.YtjkjpopghkeibaaGreatDoorTie
import Derived.Test.YtjkjpopghkeibaaGreatDoorQlac
import Derived.Test.YtjkjpopghkeibaaGreatDoorQlbm
import Derived.Deep.DeepHandedRow
set_option maxRecDepth 100000
set_option maxHeartbeats 40000000
namespace Go.Proofs.YtjkjpopghkeibaaGreatDoor
open Go.ChangeShapes Go.WideShapes Go.ChangeAt Go.WideMaps Go.WideElems Go.RowKit Go.Joins Go.Deep
theorem laidOut:laidOutB Tryz.prog=true:=η
theorem list_of {W:World} {x:Addr} {zs:List Int} {len:Nat} (hl:len≤zs.length) (hc:∀ i,i<zs.length→W.cell? (x.add i)=some (.int .i64 (zs.getD i 0))) (hw:∀ n∈zs,(Lit.int .i64 n).wf=true):Row W (some x) (zs.take len)∧∀ y∈zs.take len, -9223372036854775808≤y∧y≤9223372036854775807:=by
 refine ⟨fun i hi=>?_,fun y hy=>?_⟩
 ·have hi':i<zs.length:=by (try simp only [At,I,Fn,Az,Ad] at hi);rw [List.length_take] at hi;omega
  obtain ⟨b,off,rfl,hc'⟩:=ints_at hc (by omega)
  have:=hc' i hi'
  (try simp only [At,I,Fn,Az,Ad] at this);rw [Qz zs i hi'] at this
  exact ⟨b,off,rfl,by (try simp only [At,I]);rw [List.getElem_take];exact this⟩
 ·exact bounds_i64 (hw y (List.mem_of_mem_take hy))
theorem topDragon_contract (H:Type) (enc:TypeId×Value→H) (W:World) (base:Nat) (args:Array Value) (D L:List (DataW H)) (d:List MemPlace)
  (g:∀ (j:Nat) t v,Tryz.f3.params[j]?=some t→args[j]?=some v→Value.okWide Tryz.prog W .any base t v)
  (G:DataW.Whole enc Tryz.prog Tryz.f3.params.toList Rows.topDragonSpec.vars false W args.toList D L d) (M:laidMetH Tryz.prog Rows.topDragonRow.laid W) :
  Cl 3 args W fun e C=>∃ v,e=.returned v∧Rows.topDragonSpec.post enc Tryz.prog Tryz.f3 false true false false W args v C:=by
 have r:=G;obtain ⟨p,q,n,N,rfl,Q,R⟩:=G;have F:DataW.TrodAll enc Tryz.prog W 0 (fun _=>true) true Tryz.f3.params.toList args.toList D p:=n;rw [Tryz.params3] at F g;obtain ⟨v0,Y,d0,K,X,Z,s,rfl,rfl,h0,r0⟩:=trodAll_cons F;obtain ⟨rfl,rfl,rfl⟩:=trodAll_nil r0;obtain rfl:args=#[v0]:=by cases args;simp_all
 obtain ⟨rfl,rfl⟩:=trodVars_none N;obtain ⟨a0,b,f,rfl⟩:=okWide_slice Tryz.underlying22 (g 0 22 v0 rfl rfl);have k0:=h0;have B:∀ x∈X,x.block<W.heap.size:=by obtain ⟨m,J⟩:=k0;exact DataW.trod_lt m _ _ _ J
 obtain ⟨rs,z,o,u⟩:∃ rs:List Int,rs.length=b∧Row W a0 rs∧∀ y∈rs, -9223372036854775808≤y∧y≤9223372036854775807:=by
  obtain ⟨E,P⟩:=h0;rcases open_ints Tryz.underlying22 Tryz.underlying3 η P with ⟨a,_⟩ | ⟨x,l,c,zs,a,_,hl,J,U,_,k,A⟩
  ·simp [Value.cells] at a;obtain ⟨rfl,rfl,rfl⟩:=a;exact ⟨[],rfl,fun i hi=>by simp at hi,fun y T=>by simp at T⟩
  ·simp [Value.cells] at a;obtain ⟨rfl,rfl,rfl⟩:=a;have V:zs.length=f:=by simpa using U
   obtain ⟨h1,h2⟩:=list_of (len:=b) γ k A;exact ⟨zs.take b,γ6,h1,h2⟩
 clear n;subst z;refine (topDragon_any rs a0 f W (steps_of M) o u).mono fun e C ⟨O,bel⟩=>?_;subst O;exact ⟨_,rfl,_,_,_,[],_,[],r,trodAll_mk1 (shut_bool Tryz.underlying4 _),(trodAll_cons_mk (Below.trod laidOut η (of_decide_eq_true η) k0 bel B) trodAll_mk0),rfl,bel.frame _,fun h=>by cases h⟩
theorem topDragon_met (os:Os):laidMet Tryz.prog Rows.topDragonRow.laid ((World.doorLaid Tryz.prog 189 os).forCall (fun _ _=>0) ⟨#[],#[SN],[]⟩).memory :=
 laidMet_of_run' 8 η η
theorem topDragon_reads (os:Os) {H:Type} (enc:TypeId×Value→H):∃ places,DataW.whole enc Tryz.prog ((World.doorLaid Tryz.prog 189 os).forCall (fun _ _=>0) ⟨#[],#[SN],[]⟩).memory Tryz.f3.params.toList Rows.topDragonSpec.vars false #[SN].toList 8=some ([.nil],[],places) :=
 ⟨[],η⟩
theorem topDragon_lifted (os:Os) (a:os.Started) (H:Type) (enc:TypeId×Value→H) (F:Stop.Interp) :
  ReturnsInHanded {} Tryz.checked os 3 .any ((OpenSpec.ofChange Rows.topDragonSpec).preRow enc Tryz.prog Tryz.f3 Rows.topDragonRow.domain false Rows.topDragonRow.laid) (((OpenSpec.ofChange Rows.topDragonSpec).at F).post enc Tryz.prog Tryz.f3 false true false false):=by
 obtain ⟨d,j⟩:=topDragon_reads os enc
 refine returnsInHanded_of_row (C:=Tryz.checked) (s:=OpenSpec.ofChange Rows.topDragonSpec) Tryz.own a η Tryz.func3
  (witness_row_at (enc:=enc) (C:=Tryz.checked) false (World.doorLaid Tryz.prog 189 os) #[SN] rfl η η η
   (OpenSpec.preRow_of_cond 8 j η (fun k i=>by cases i) η (topDragon_met os))) ?_
 intro W base args e f b c h _ _ _ g _ _;exact topDragon_contract H enc W base args e f b c h g
theorem topDragon_said:Rows.TopDragonSaid :=
 OpenClaim.holds_of_cond 3 Tryz.f3 rfl rfl rfl rfl rfl rfl rfl ⟨rfl,rfl,rfl,rfl,rfl⟩ rfl rfl rfl rfl rfl η Tryz.func3 topDragon_closed
  (of_decide_eq_true η) (by unfold Func.isWrapper;first | (rw [if_pos (by decide +kernel)];kernel_rfl) | (rw [if_neg (by decide +kernel)];exact ⟨rfl,rfl⟩))
  (fun os a H enc _ F=>by rw [OpenClaim.pre_eq_preRow];exact topDragon_lifted os a H enc F)
theorem topDragon_plain (f:FuncId) (fn:Func) (c:Tryz.pinned.checked.prog.funcNamed "pleat/pleattop.TopDragon" = some f) (a:Tryz.pinned.checked.prog.funcs[f]?=some fn) :
  false=Tryz.pinned.checked.prog.looks []∧∀ (j:Nat) t,fn.params[j]?=some t→Tryz.pinned.checked.prog.wantsStandIn t=false:=by
 obtain rfl:f=3:=Option.some.inj ((show Tryz.prog.funcNamed "pleat/pleattop.TopDragon" = some 3 by kernel_rfl).symm.trans c) |>.symm;obtain rfl:fn=Tryz.f3:=(Option.some.inj (Tryz.func3.symm.trans a)).symm;refine ⟨η,fun j t b=>?_⟩;rw [Tryz.params3] at b;have d:t=22:=by simpa using Array.mem_of_getElem? b
 subst d;exact (show Tryz.prog.wantsStandIn 22=false by kernel_rfl)
theorem topDragon_holds:Rows.TopDragonCardSaid :=
 Claim7.holds_tied_plain_at .later [] _ _ _ _ topDragon_said (fun _ h=>by cases h) η (fun _ h=>by cases h) topDragon_row_tie rfl ⟨rfl,rfl⟩ η rfl topDragon_plain η
#print axioms topDragon_holds
end Go.Proofs.YtjkjpopghkeibaaGreatDoor
