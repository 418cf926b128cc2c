/-
  PROVED: the law TopCut: whatever the numbers are, a sheet of up to eight cells that is folded by up to four steps (each at the line, on the side, over or under, with all or some layers of a stack, as its numbers tell; steps that can't be done are left out), and is cut along any line of those that the numbers tell, falls into pieces; each triangle is in just one of them, each piece lies on one side of the line, and turned over it falls into as many pieces along the line's mirror image; the law returns true, and the list reads as before.
  Condition: the package-level variable grid.steps holds what start-up lays there; the card ties that to the program's text.
-/
import Derived.Test.YtbjmnlefkbhbdaaGreatDoorCards
import Derived.Test.YtbjmnlefkbhbdaaGreatDoorTie
import Derived.Test.YtbjmnlefkbhbdaaGreatDoorQlac
import Derived.Test.YtbjmnlefkbhbdaaGreatDoorQlbe
import Derived.Deep.DeepHandedRow
set_option maxRecDepth 100000
set_option maxHeartbeats 40000000
namespace Go.Proofs.YtbjmnlefkbhbdaaGreatDoor
open Go.ChangeShapes Go.WideShapes Go.ChangeAt Go.WideMaps Go.WideElems Go.RowKit Go.Joins Go.Deep
theorem laidOut:laidOutB Tryz.prog=true:=μ
theorem c60:Tryz.prog.cellsOf 60=6:=μ
theorem c4:Tryz.prog.cellsOf 4=1:=μ
theorem trod_struct6 {H:Type} {enc:TypeId×Value→H} {P:Program} {w:World} {base:Nat} {a:Nat→Bool} {b:Bool} {t:TypeId} {f0 f1 f2 f3 f4 d:Field} {e:Nat} {cs:List Value} {x:DataW H×List MemPlace} (g:P.underlying t=some (.struct #[f0,f1,f2,f3,f4,d])) (h:DataW.trod enc P w base a b e t cs=some x) :
  ∃ y0 y1 y2 y3 y4 y5 n,cs.length=P.cellsOf t∧DataW.trod enc P w base a b n f0.type ((cs.drop f0.offset).take (P.cellsOf f0.type))=some y0∧DataW.trod enc P w base a b n f1.type ((cs.drop f1.offset).take (P.cellsOf f1.type))=some y1∧DataW.trod enc P w base a b n f2.type ((cs.drop f2.offset).take (P.cellsOf f2.type))=some y2∧DataW.trod enc P w base a b n f3.type ((cs.drop f3.offset).take (P.cellsOf f3.type))=some y3∧DataW.trod enc P w base a b n f4.type ((cs.drop f4.offset).take (P.cellsOf f4.type))=some y4∧DataW.trod enc P w base a b n d.type ((cs.drop d.offset).take (P.cellsOf d.type))=some y5:=by
 obtain ⟨i,n,_,rfl,hl,f,c⟩:=DataW.trod_struct g h;match i,f with
 | [y0,y1,y2,y3,y4,y5],_=>exact ⟨y0,y1,y2,y3,y4,y5,n,hl,by simpa using c 0 f0 rfl,by simpa using c 1 f1 rfl,by simpa using c 2 f2 rfl,by simpa using c 3 f3 rfl,by simpa using c 4 f4 rfl,by simpa using c 5 d rfl⟩
theorem step_of {H:Type} {enc:TypeId×Value→H} {W:World} {base:Nat} {o:Nat→Bool} {l:Bool} {m:Nat} {cs:List Value} {y:DataW H×List MemPlace} (h:DataW.trod enc Tryz.prog W base o l m 60 cs=some y):∃ (a b c:Int) (f:Bool) (d e:Int),cs=[I a,I b,I c,.bool f,I d,I e]∧(-9223372036854775808≤a∧a≤9223372036854775807)∧(-9223372036854775808≤b∧b≤9223372036854775807)∧(-9223372036854775808≤c∧c≤9223372036854775807)∧(-9223372036854775808≤d∧d≤9223372036854775807)∧(-9223372036854775808≤e∧e≤9223372036854775807):=by
 obtain ⟨t,y1,y2,y3,u,v,n,hl,t0,j,k,t3,t4,t5⟩:=trod_struct6 Tryz.underlying60 h;rw [c60] at hl;match cs,hl with
 | [e0,e1,e2,e3,e4,e5],_ =>
  simp [c3,c4] at t0 j k t3 t4 t5;obtain ⟨a,r0,_,p⟩:=DataW.trod_int Tryz.underlying3 t0;obtain ⟨b,r1,_,w1⟩:=DataW.trod_int Tryz.underlying3 j;obtain ⟨c,r2,_,q⟩:=DataW.trod_int Tryz.underlying3 k;obtain ⟨f,r3,_⟩:=DataW.trod_bool Tryz.underlying4 t3;obtain ⟨d,g,_,r⟩:=DataW.trod_int Tryz.underlying3 t4;obtain ⟨e,i,_,s⟩:=DataW.trod_int Tryz.underlying3 t5;simp at r0 r1 r2 r3 g i;subst r0 r1 r2 r3 g i;exact ⟨a,b,c,f,d,e,rfl,bounds_i64 p,bounds_i64 w1,bounds_i64 q,bounds_i64 r,bounds_i64 s⟩
theorem steps_in {H:Type} {enc:TypeId×Value→H} {W:World} {base:Nat} {J:Nat→Bool} {D:Bool} {m:Nat} {cs:List Value} {y:DataW H×List MemPlace} (h:DataW.trod enc Tryz.prog W base J D m 22 cs=some y):∃ (c:Option Addr) (n d:Nat),cs=[.slice c n d]∧StepsR W c n:=by
 rcases DataW.trod_slice Tryz.underlying22 h with ⟨rfl,_⟩ | ⟨a,len,d,r,rest,n,_,rfl,rfl,hb,hl,t,s,g,G,F⟩
 ·exact ⟨none,0,0,rfl,fun i hi=>absurd hi ν⟩
 rw [c60] at g;refine ⟨_,len,d,rfl,fun i hi=>?_⟩;have e:=g i hi;rw [List.getElem?_eq_getElem γ,Option.bind_eq_some_iff] at e;obtain ⟨p,f,l⟩:=e;obtain ⟨u,v,x,z,A,B,rfl,t⟩:=step_of l;have C:=(World.cells?_some f).2.2;obtain ⟨b,off,o⟩:=a
 have k:o=none:=by
  have e:=g 0 γ;rw [List.getElem?_eq_getElem γ,Option.bind_eq_some_iff] at e;obtain ⟨p,f,l⟩:=e;obtain ⟨_,_,_,_,_,_,rfl,_⟩:=step_of l;have:=(World.cells?_some f).2.2 0 ν;simpa [Addr.add] using World.cell?_spot this
 subst k
 have q:∀ j,j<6→W.cell? ⟨b,off+i*6+j,none⟩=[I u,I v,I x,.bool z,I A,I B][j]?:=fun j E=>by
  have:=C j (by simpa using E);rw [add_plain,add_plain] at this;simpa [Nat.add_assoc] using this
 exact ⟨b,off,u,v,x,z,A,B,rfl,q 0 γ,q 1 γ,q 2 γ,q 3 γ,q 4 γ,q 5 γ,t⟩
theorem Kz (H:Type) (enc:TypeId×Value→H) (W:World) (base:Nat) (args:Array Value) (K X:List (DataW H)) (d:List MemPlace)
  (a:∀ (j:Nat) t v,Tryz.f3.params[j]?=some t→args[j]?=some v→Value.okWide Tryz.prog W .any base t v)
  (M:DataW.Whole enc Tryz.prog Tryz.f3.params.toList Rows.topCutSpec.vars false W args.toList K X d) (Y:laidMetH Tryz.prog Rows.topCutRow.laid W) :
  Cl 3 args W fun e G=>∃ v,e=.returned v∧Rows.topCutSpec.post enc Tryz.prog Tryz.f3 false true false false W args v G:=by
 have r:=M;obtain ⟨p,q,k,Z,rfl,a2,a6⟩:=M;have L:DataW.TrodAll enc Tryz.prog W 0 (fun _=>true) true Tryz.f3.params.toList args.toList K p:=k;rw [Tryz.params3] at L a;obtain ⟨v0,a7,d0,Q,p0,q0,s,rfl,rfl,h0,r0⟩:=trodAll_cons L;obtain ⟨E,a8,d1,R,p1,q1,rfl,rfl,rfl,h1,r1⟩:=trodAll_cons r0;obtain ⟨F,aa,d2,T,p2,q2,rfl,rfl,rfl,h2,r2⟩:=trodAll_cons r1;obtain ⟨v3,ab,d3,U,p3,q3,rfl,rfl,rfl,h3,r3⟩:=trodAll_cons r2;obtain ⟨v4,ac,d4,V,p4,q4,rfl,rfl,rfl,h4,r4⟩:=trodAll_cons r3;obtain ⟨rfl,rfl,rfl⟩:=trodAll_nil r4;obtain rfl:args=#[v0,E,F,v3,v4]:=by cases args;simp_all
 obtain ⟨rfl,rfl⟩:=trodVars_none Z;have k0:=h0;have k1:=h1;have k2:=h2;have k3:=h3;have N:=h4;have z:∀ x∈p0,x.block<W.heap.size:=by obtain ⟨m,g⟩:=k0;exact DataW.trod_lt m _ _ _ g
 have A:∀ x∈p1,x.block<W.heap.size:=by obtain ⟨m,g⟩:=k1;exact DataW.trod_lt m _ _ _ g
 have B:∀ x∈p2,x.block<W.heap.size:=by obtain ⟨m,g⟩:=k2;exact DataW.trod_lt m _ _ _ g
 have C:∀ x∈p3,x.block<W.heap.size:=by obtain ⟨m,g⟩:=k3;exact DataW.trod_lt m _ _ _ g
 have D:∀ x∈p4,x.block<W.heap.size:=by obtain ⟨m,g⟩:=N;exact DataW.trod_lt m _ _ _ g
 obtain ⟨n0,rfl,b0⟩:∃ n:Int,v0=I n∧(-9223372036854775808≤n∧n≤9223372036854775807):=by
  obtain ⟨b,f⟩:=h0;obtain ⟨n,e,_,i⟩:=DataW.trod_int Tryz.underlying3 f;obtain ⟨m,rfl⟩:=okWide_int Tryz.underlying3 (a 0 3 v0 rfl rfl);simp [Value.cells] at e;subst e;exact ⟨_,rfl,bounds_i64 i⟩
 obtain ⟨n1,rfl,b1⟩:∃ n:Int,E=I n∧(-9223372036854775808≤n∧n≤9223372036854775807):=by
  obtain ⟨b,f⟩:=h1;obtain ⟨n,e,_,i⟩:=DataW.trod_int Tryz.underlying3 f;obtain ⟨m,rfl⟩:=okWide_int Tryz.underlying3 (a 1 3 E rfl rfl);simp [Value.cells] at e;subst e;exact ⟨_,rfl,bounds_i64 i⟩
 obtain ⟨n3,rfl,b3⟩:∃ n:Int,v3=I n∧(-9223372036854775808≤n∧n≤9223372036854775807):=by
  obtain ⟨b,f⟩:=h3;obtain ⟨n,e,_,i⟩:=DataW.trod_int Tryz.underlying3 f;obtain ⟨m,rfl⟩:=okWide_int Tryz.underlying3 (a 3 3 v3 rfl rfl);simp [Value.cells] at e;subst e;exact ⟨_,rfl,bounds_i64 i⟩
 obtain ⟨n4,rfl,b4⟩:∃ n:Int,v4=I n∧(-9223372036854775808≤n∧n≤9223372036854775807):=by
  obtain ⟨b,f⟩:=h4;obtain ⟨n,e,_,i⟩:=DataW.trod_int Tryz.underlying3 f;obtain ⟨m,rfl⟩:=okWide_int Tryz.underlying3 (a 4 3 v4 rfl rfl);simp [Value.cells] at e;subst e;exact ⟨_,rfl,bounds_i64 i⟩
 obtain ⟨l,o,y,rfl,u⟩:∃ (l:Option Addr) (o y:Nat),F=.slice l o y∧StepsR W l o:=by
  obtain ⟨b,f⟩:=h2;obtain ⟨c,n,P,e,hr⟩:=steps_in f;obtain ⟨a0,O,J,rfl⟩:=okWide_slice Tryz.underlying22 (a 2 22 F rfl rfl);simp [Value.cells] at e;obtain ⟨rfl,rfl,rfl⟩:=e;exact ⟨_,_,_,rfl,hr⟩
 clear k;refine (topCut_any n0 n1 n3 n4 l o y W (steps_of Y) u b0 b1 b3 b4).mono fun e G ⟨he,bel⟩=>?_;subst he;have m3:Tryz.prog.cellsOf 3=1:=c3;exact ⟨_,rfl,_,_,_,[],_,[],r,trodAll_mk1 (shut_bool Tryz.underlying4 _),(trodAll_cons_mk (Below.trod laidOut μ (of_decide_eq_true μ) k0 bel z) (trodAll_cons_mk (Below.trod laidOut μ (of_decide_eq_true μ) k1 bel A) (trodAll_cons_mk (Below.trod laidOut μ (of_decide_eq_true μ) k2 bel B) (trodAll_cons_mk (Below.trod laidOut μ (of_decide_eq_true μ) k3 bel C) (trodAll_cons_mk (Below.trod laidOut μ (of_decide_eq_true μ) N bel D) trodAll_mk0))))),rfl,bel.frame _,fun h=>by cases h⟩
theorem topCut_met (os:Os):laidMet Tryz.prog Rows.topCutRow.laid ((World.doorLaid Tryz.prog 189 os).forCall (fun _ _=>0) ⟨#[],#[I 0,I 0,SN,I 0,I 0],[]⟩).memory :=
 laidMet_of_run' 8 μ μ
theorem topCut_reads (os:Os) {H:Type} (enc:TypeId×Value→H):∃ places,DataW.whole enc Tryz.prog ((World.doorLaid Tryz.prog 189 os).forCall (fun _ _=>0) ⟨#[],#[I 0,I 0,SN,I 0,I 0],[]⟩).memory Tryz.f3.params.toList Rows.topCutSpec.vars false #[I 0,I 0,SN,I 0,I 0].toList 8=some ([.lit (.int .i64 0),.lit (.int .i64 0),.nil,.lit (.int .i64 0),.lit (.int .i64 0)],[],places) :=
 ⟨[],μ⟩
theorem topCut_lifted (os:Os) (a:os.Started) (H:Type) (enc:TypeId×Value→H) (F:Stop.Interp) :
  ReturnsInHanded {} Tryz.checked os 3 .any ((OpenSpec.ofChange Rows.topCutSpec).preRow enc Tryz.prog Tryz.f3 Rows.topCutRow.domain false Rows.topCutRow.laid) (((OpenSpec.ofChange Rows.topCutSpec).at F).post enc Tryz.prog Tryz.f3 false true false false):=by
 obtain ⟨d,j⟩:=topCut_reads os enc
 refine returnsInHanded_of_row (C:=Tryz.checked) (s:=OpenSpec.ofChange Rows.topCutSpec) Tryz.own a μ Tryz.func3
  (witness_row_at (enc:=enc) (C:=Tryz.checked) false (World.doorLaid Tryz.prog 189 os) #[I 0,I 0,SN,I 0,I 0] rfl μ μ μ
   (OpenSpec.preRow_of_cond 8 j μ (fun k i=>by cases i) μ (topCut_met os))) ?_
 intro W base args e f b c h _ _ _ g _ _;exact Kz H enc W base args e f b c h g
theorem topCut_said:Rows.TopCutSaid :=
 OpenClaim.holds_of_cond 3 Tryz.f3 rfl rfl rfl rfl rfl rfl rfl ⟨rfl,rfl,rfl,rfl,rfl⟩ rfl rfl rfl rfl rfl μ Tryz.func3 topCut_closed
  (of_decide_eq_true μ) (by unfold Func.isWrapper;first | (rw [if_pos (by decide +kernel)];kernel_rfl) | (rw [if_neg (by decide +kernel)];exact ⟨rfl,rfl⟩))
  (fun os a H enc _ F=>by rw [OpenClaim.pre_eq_preRow];exact topCut_lifted os a H enc F)
theorem topCut_plain (f:FuncId) (fn:Func) (c:Tryz.pinned.checked.prog.funcNamed "pleat/pleattop.TopCut" = some f) (a:Tryz.pinned.checked.prog.funcs[f]?=some fn) :
  false=Tryz.pinned.checked.prog.looks []∧∀ (j:Nat) t,fn.params[j]?=some t→Tryz.pinned.checked.prog.wantsStandIn t=false:=by
 obtain rfl:f=3:=Option.some.inj ((show Tryz.prog.funcNamed "pleat/pleattop.TopCut" = some 3 by kernel_rfl).symm.trans c) |>.symm;obtain rfl:fn=Tryz.f3:=(Option.some.inj (Tryz.func3.symm.trans a)).symm;refine ⟨μ,fun j t b=>?_⟩;rw [Tryz.params3] at b;have d:t=3∨t=22∨t=3:=by simpa using Array.mem_of_getElem? b
 rcases d with rfl | rfl | rfl
 ·exact (show Tryz.prog.wantsStandIn 3=false by kernel_rfl)
 ·exact (show Tryz.prog.wantsStandIn 22=false by kernel_rfl)
 ·exact (show Tryz.prog.wantsStandIn 3=false by kernel_rfl)
theorem topCut_holds:Rows.TopCutCardSaid :=
 Claim7.holds_tied_plain_at .later [] _ _ _ _ topCut_said (fun _ h=>by cases h) μ (fun _ h=>by cases h) topCut_row_tie rfl ⟨rfl,rfl⟩ μ rfl topCut_plain μ
#print axioms topCut_holds
end Go.Proofs.YtbjmnlefkbhbdaaGreatDoor
