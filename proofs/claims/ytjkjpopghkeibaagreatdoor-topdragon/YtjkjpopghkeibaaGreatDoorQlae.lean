/- A part of it. -/
import Derived.Test.YtjkjpopghkeibaaGreatDoorRows
import Derived.Test.YtjkjpopghkeibaaGreatDoorQlab
import Derived.LaidMore
import Derived.Stop.Joined
import Derived.Lib.SmallJoins
import Derived.BigQuiet
import Derived.Test.YtjkjpopghkeibaaGreatDoorQlad
import Derived.Shelf.Slices.Turned
set_option maxRecDepth 100000
set_option maxHeartbeats 40000000
namespace Go.Proofs.YtjkjpopghkeibaaGreatDoor
open Go.ChangeShapes Go.WideShapes Go.ChangeAt Go.WideMaps Go.WideElems Go.RowKit Go.Joins
theorem Tryz.own:ownKnob Tryz.prog.godebug=none:=η
theorem gSteps:Tryz.prog.globalNamed "pleat/grid.steps" = some 0:=η
theorem tSteps:(Tryz.prog.globals[0]?).map (·.type)=some 203:=η
theorem c3:Tryz.prog.cellsOf 3=1:=η
theorem c25:Tryz.prog.cellsOf 45=2:=η
theorem c119:Tryz.prog.cellsOf 203=8:=η
theorem Kp {H:Type} {enc:TypeId×Value→H} {W:World} {base:Nat} {k:Nat→Bool} {i:Bool} {m:Nat} {u v:Value} {d0 d1:Int} {j:List MemPlace}
  (h:DataW.trod enc Tryz.prog W base k i m 45 [u,v]=some (.agg [.lit (.int .i64 d0),.lit (.int .i64 d1)],j)):u=I d0∧v=I d1:=by
 obtain ⟨l,y1,n,g,_,h0,h1⟩:=trod_struct2 Tryz.underlying45 h;simp only [Prod.mk.injEq,DataW.agg.injEq,List.cons.injEq,and_true] at g;obtain ⟨⟨e0,e1⟩,_⟩:=g;simp [c3] at h0 h1;obtain ⟨a,e,c,_⟩:=DataW.trod_int Tryz.underlying3 h0;obtain ⟨b,f,d,_⟩:=DataW.trod_int Tryz.underlying3 h1;subst c d;simp at e0 e1 e f;subst e0 e1 e f;exact ⟨rfl,rfl⟩
theorem steps_of {W:World} (h:laidMetH Tryz.prog [("pleat/grid.steps",Rows.laid_pleat_grid_steps)] W):Steps W:=by
 rw [MakeChecks.laidMetH_plain _ _ _ η] at h;obtain ⟨D,⟨A,t0,f,f0,C,E,e,j,k,g,_,_⟩,_,_⟩:=h;obtain rfl:=Option.some.inj (gSteps.symm.trans e);obtain rfl:=Option.some.inj (tSteps.symm.trans j);have c:=World.var?_cell e k;obtain ⟨z,B,rfl,a,d,i,b⟩:=DataW.trod_array Tryz.underlying203 g;rw [c119] at d;simp only [Prod.mk.injEq,Rows.laid_pleat_grid_steps,DataW.agg.injEq] at a;obtain ⟨a,_⟩:=a;obtain ⟨l⟩:=f;match z,i with
 | [x0,x1,x2,x3],_ =>
  match l,d with
  | [a0,a1,a2,a3,a4,a5,a6,a7],_ =>
   simp only [List.map_cons,List.map_nil,List.cons.injEq,and_true] at a;obtain ⟨e0,e1,e2,e3⟩:=a;have k0:=b 0 ψ;have k1:=b 1 ψ;have k2:=b 2 ψ;have k3:=b 3 ψ;obtain ⟨q,r⟩:=x0;obtain ⟨s,t⟩:=x1;obtain ⟨u,v⟩:=x2;obtain ⟨x,y⟩:=x3;simp at e0 e1 e2 e3;subst e0 e1 e2 e3;simp [c25] at k0 k1 k2 k3;obtain ⟨r0,r1⟩:=Kp k0;obtain ⟨r2,r3⟩:=Kp k1;obtain ⟨m,n⟩:=Kp k2;obtain ⟨o,p⟩:=Kp k3;subst r0 r1 r2 r3 m n o p;exact ⟨by simpa using c 0,by simpa using c 1,by simpa using c 2,by simpa using c 3,by simpa using c 4,by simpa using c 5,by simpa using c 6,by simpa using c 7⟩
theorem Below.drewN {B:Nat} {a w:World} (h:Below B a w) (n:Nat):Below B a (w.drewN n):=⟨h.os,h.tape,h.output,h.size,h.block⟩
theorem Ju {a b c d e f:Int} (h:mapB a b c d e f=true):Sm a b c d∧Ef e f∧e % 2=0∧f % 2=0:=by
 simp [mapB,unitB,evenB] at h;unfold Sm Ef;omega
theorem answerMap_55_0 (a b c d e f:Int) (pa j:Nat) (w:World) (i:∀ W:World,Bl w W→Rt 195 #[.pointer (Az pa),.pointer (Az j)] W (.tuple #[.agg #[I a,I b,I c,I d,I e,I f],I 0])) :
  Rt 191 #[.bool true,.func (.func 195) #[] #[.pointer (Az pa),.pointer (Az j)]] w (.tuple #[.agg #[I a,I b,I c,I d,I e,I f],I 0]):=by
 have l:=Hd i;clear i;go_enter Tryz.func191,Tryz.ntmps191;go_wp2_with (go_at_call 195;refine (l.out _ β2).mono ?_;rintro r h ⟨rfl,g⟩;have r0:At h w.heap.size 0 (I 0):=Qa g ε;have m:=Fk w.heap.size 0 g;have r1:At h w.heap.size 1 (I 0):=Qa g ε;have n:=Fk w.heap.size 1 g;have r2:At h w.heap.size 2 (I 0):=Qa g ε;have o:=Fk w.heap.size 2 g;have r3:At h w.heap.size 3 (I 0):=Qa g ε;have p:=Fk w.heap.size 3 g;have B:At h w.heap.size 4 (I 0):=Qa g ε;have q:=Fk w.heap.size 4 g;have C:At h w.heap.size 5 (I 0):=Qa g ε;have s:=Fk w.heap.size 5 g;have t:w.heap.size<h.heap.size:=World.block_lt_of_cell? (w:=h) (a:=⟨w.heap.size,0,none⟩) r0;have u:w.heap.size<h.heap.size+1:=γ;have x:w.heap.size<h.heap.size+1+1:=γ;have y:w.heap.size<h.heap.size+1+1+1:=γ;have z:w.heap.size<h.heap.size+1+1+1+1:=γ;have A:w.heap.size<h.heap.size+1+1+1+1+1:=γ;have k:=Hd (Qc β2 g);clear g)
 refine bodyPost_ret (v:=.tuple #[.agg #[I a,I b,I c,I d,I e,I f],I 0]) ?_ rfl ⟨rfl, ?_⟩
 ·first | (simp [results,Tryz.results191,go_sem, *];done) | (simp [results,Tryz.results191,go_sem,Ca, *];done)
 ·with_reducible repeat' (first | exact k.out | refine Qh ?_ ?_ | refine Qb ?_ | refine Qg ?_)
  all_goals (first | (simp;done) | (simp;omega))
theorem answerMap_55_2 (pa e:Nat) (w:World) (d:∀ W:World,Bl w W→Rt 195 #[.pointer (Az pa),.pointer (Az e)] W (.tuple #[.agg #[I 0,I 0,I 0,I 0,I 0,I 0],I 2])) :
  Rt 191 #[.bool true,.func (.func 195) #[] #[.pointer (Az pa),.pointer (Az e)]] w (.tuple #[.agg #[I 0,I 0,I 0,I 0,I 0,I 0],I 2]):=by
 have g:=Hd d;clear d;go_enter Tryz.func191,Tryz.ntmps191;go_wp2_with (go_at_call 195;refine (g.out _ β2).mono ?_;rintro r c ⟨rfl,b⟩;have r0:At c w.heap.size 0 (I 0):=Qa b ε;have h:=Fk w.heap.size 0 b;have r1:At c w.heap.size 1 (I 0):=Qa b ε;have i:=Fk w.heap.size 1 b;have r2:At c w.heap.size 2 (I 0):=Qa b ε;have j:=Fk w.heap.size 2 b;have r3:At c w.heap.size 3 (I 0):=Qa b ε;have k:=Fk w.heap.size 3 b;have L:At c w.heap.size 4 (I 0):=Qa b ε;have l:=Fk w.heap.size 4 b;have M:At c w.heap.size 5 (I 0):=Qa b ε;have m:=Fk w.heap.size 5 b;have C:w.heap.size<c.heap.size:=World.block_lt_of_cell? (w:=c) (a:=⟨w.heap.size,0,none⟩) r0;have D:w.heap.size<c.heap.size+1:=γ;have E:w.heap.size<c.heap.size+1+1:=γ;have F:w.heap.size<c.heap.size+1+1+1:=γ;have G:w.heap.size<c.heap.size+1+1+1+1:=γ;have H:w.heap.size<c.heap.size+1+1+1+1+1:=γ;have k0:At c (w.heap.size+1) 0 (I 0):=Qa b ε;have n:=Fk (w.heap.size+1) 0 b;have k1:At c (w.heap.size+1) 1 (I 0):=Qa b ε;have o:=Fk (w.heap.size+1) 1 b;have k2:At c (w.heap.size+1) 2 (I 0):=Qa b ε;have p:=Fk (w.heap.size+1) 2 b;have k3:At c (w.heap.size+1) 3 (I 0):=Qa b ε;have q:=Fk (w.heap.size+1) 3 b;have J:At c (w.heap.size+1) 4 (I 0):=Qa b ε;have s:=Fk (w.heap.size+1) 4 b;have K:At c (w.heap.size+1) 5 (I 0):=Qa b ε;have t:=Fk (w.heap.size+1) 5 b;have u:w.heap.size+1<c.heap.size:=World.block_lt_of_cell? (w:=c) (a:=⟨w.heap.size+1,0,none⟩) k0;have x:w.heap.size+1<c.heap.size+1:=γ;have y:w.heap.size+1<c.heap.size+1+1:=γ;have z:w.heap.size+1<c.heap.size+1+1+1:=γ;have A:w.heap.size+1<c.heap.size+1+1+1+1:=γ;have B:w.heap.size+1<c.heap.size+1+1+1+1+1:=γ;have f:=Hd (Qc β2 b);clear b)
 refine bodyPost_ret (v:=.tuple #[.agg #[I 0,I 0,I 0,I 0,I 0,I 0],I 2]) ?_ rfl ⟨rfl, ?_⟩
 ·first | (simp [results,Tryz.results191,go_sem, *];done) | (simp [results,Tryz.results191,go_sem,Ca, *];done)
 ·with_reducible repeat' (first | exact f.out | refine Qh ?_ ?_ | refine Qb ?_ | refine Qg ?_)
  all_goals (first | (simp;done) | (simp;omega))
theorem after1_yes (a b c d e f A B C D E F:Int) (pa l:Nat) (w:World) (h1:mapB a b c d e f=true) (h2:mapB A B C D E F=true) (k:mapB (dot A B a c) (dot A B b d) (dot C D a c) (dot C D b d) (dot A B e f+E) (dot C D e f+F)=true) (j:Mp w pa a b c d e f) (g:Mp w l A B C D E F) :
  Rt 195 #[.pointer (Az pa),.pointer (Az l)] w (.tuple #[.agg #[I (dot A B a c),I (dot A B b d),I (dot C D a c),I (dot C D b d),I (dot A B e f+E),I (dot C D e f+F)],I 0]):=by
 obtain ⟨m,e1,_,_⟩:=Ju h1;obtain ⟨n,e2,_,_⟩:=Ju h2;have R:=j.lt;have T:=g.lt;obtain ⟨a0,a1,M,a3,a4,a5⟩:=j;obtain ⟨b0,b1,b2,b3,b4,N⟩:=g;have i:=Hd (fun (W:World)=>after_any a b c d e f A B C D E F W m n e1 e2);have p:=Hd k;clear m e1 n e2 h1 h2 k;go_enter Tryz.func195,Tryz.ntmps195;go_wp2_with (first | (go_at_call 196;refine (i.out _).mono ?_;rintro r h ⟨rfl,g⟩;have r0:At h w.heap.size 0 (I 0):=Qa g ε;have q:=Fk w.heap.size 0 g;have r1:At h w.heap.size 1 (I 0):=Qa g ε;have s:=Fk w.heap.size 1 g;have r2:At h w.heap.size 2 (I 0):=Qa g ε;have t:=Fk w.heap.size 2 g;have r3:At h w.heap.size 3 (I 0):=Qa g ε;have u:=Fk w.heap.size 3 g;have O:At h w.heap.size 4 (I 0):=Qa g ε;have x:=Fk w.heap.size 4 g;have P:At h w.heap.size 5 (I 0):=Qa g ε;have y:=Fk w.heap.size 5 g;have z:w.heap.size<h.heap.size:=World.block_lt_of_cell? (w:=h) (a:=⟨w.heap.size,0,none⟩) r0;have G:w.heap.size<h.heap.size+1:=γ;have H:w.heap.size<h.heap.size+1+1:=γ;have J:w.heap.size<h.heap.size+1+1+1:=γ;have K:w.heap.size<h.heap.size+1+1+1+1:=γ;have L:w.heap.size<h.heap.size+1+1+1+1+1:=γ;have o:=Hd (Qc β1 g);clear g) | (go_at_call 193;refine (sized_yes _ _ _ _ _ _ _ p.out).mono ?_;rintro r Q ⟨rfl,o1,o2,o3,rfl⟩))
 refine bodyPost_ret (v:=.tuple #[.agg #[I (dot A B a c),I (dot A B b d),I (dot C D a c),I (dot C D b d),I (dot A B e f+E),I (dot C D e f+F)],I 0]) ?_ rfl ⟨rfl, ?_⟩
 ·first | (simp [results,Tryz.results195,go_sem, *];done) | (simp [results,Tryz.results195,go_sem,Ca, *];done)
 ·with_reducible repeat' (first | exact o.out | refine Qh ?_ ?_ | refine Qb ?_ | refine Qg ?_)
  all_goals (first | (simp;done) | (simp;omega))
theorem After_yes (a b c d e f A B C D E F:Int) (w:World) (h1:mapB a b c d e f=true) (h2:mapB A B C D E F=true) (j:mapB (dot A B a c) (dot A B b d) (dot C D a c) (dot C D b d) (dot A B e f+E) (dot C D e f+F)=true) :
  Rt 134 #[.agg #[I a,I b,I c,I d,I e,I f],.agg #[I A,I B,I C,I D,I E,I F]] w (.tuple #[.agg #[I (dot A B a c),I (dot A B b d),I (dot C D a c),I (dot C D b d),I (dot A B e f+E),I (dot C D e f+F)],I 0]):=by
 have t:=Jf;have l:=Hd j;clear j;go_enter Tryz.func134,Tryz.ntmps134;go_wp2_with (first | (go_at_call 129;refine (Xe _ _ _ _ _ _ _).mono ?_;rintro r h ⟨rfl,o1,rfl⟩) | (go_at_call 191;refine (answerMap_55_0 _ _ _ _ _ _ _ _ _ (fun W i=>after1_yes a b c d e f A B C D E F _ _ W h1 h2 l.out (Mp.kept δ3 i) (Mp.kept δ3 i))).mono ?_;rintro r h ⟨rfl,g⟩;have r0:At h (w.heap.size+1+1) 0 (I 0):=Qa g ε;have m:=Fk (w.heap.size+1+1) 0 g;have r1:At h (w.heap.size+1+1) 1 (I 0):=Qa g ε;have n:=Fk (w.heap.size+1+1) 1 g;have r2:At h (w.heap.size+1+1) 2 (I 0):=Qa g ε;have o:=Fk (w.heap.size+1+1) 2 g;have r3:At h (w.heap.size+1+1) 3 (I 0):=Qa g ε;have p:=Fk (w.heap.size+1+1) 3 g;have J:At h (w.heap.size+1+1) 4 (I 0):=Qa g ε;have q:=Fk (w.heap.size+1+1) 4 g;have K:At h (w.heap.size+1+1) 5 (I 0):=Qa g ε;have s:=Fk (w.heap.size+1+1) 5 g;have u:w.heap.size+1+1<h.heap.size:=World.block_lt_of_cell? (w:=h) (a:=⟨w.heap.size+1+1,0,none⟩) r0;have x:w.heap.size+1+1<h.heap.size+1:=γ;have y:w.heap.size+1+1<h.heap.size+1+1:=γ;have z:w.heap.size+1+1<h.heap.size+1+1+1:=γ;have G:w.heap.size+1+1<h.heap.size+1+1+1+1:=γ;have H:w.heap.size+1+1<h.heap.size+1+1+1+1+1:=γ;have k:=Hd (Qc β5 g);clear g))
 refine bodyPost_ret (v:=.tuple #[.agg #[I (dot A B a c),I (dot A B b d),I (dot C D a c),I (dot C D b d),I (dot A B e f+E),I (dot C D e f+F)],I 0]) ?_ rfl ⟨rfl, ?_⟩
 ·first | (simp [results,Tryz.results134,go_sem, *];done) | (simp [results,Tryz.results134,go_sem,Ca, *];done)
 ·with_reducible repeat' (first | exact k.out | refine Qh ?_ ?_ | refine Qb ?_ | refine Qg ?_)
  all_goals (first | (simp;done) | (simp;omega))
theorem after1_no (a b c d e f A B C D E F:Int) (pa l:Nat) (w:World) (h1:mapB a b c d e f=true) (h2:mapB A B C D E F=true) (k:mapB (dot A B a c) (dot A B b d) (dot C D a c) (dot C D b d) (dot A B e f+E) (dot C D e f+F)=false) (j:Mp w pa a b c d e f) (g:Mp w l A B C D E F) :
  Rt 195 #[.pointer (Az pa),.pointer (Az l)] w (.tuple #[.agg #[I 0,I 0,I 0,I 0,I 0,I 0],I 2]):=by
 obtain ⟨m,e1,_,_⟩:=Ju h1;obtain ⟨n,e2,_,_⟩:=Ju h2;have R:=j.lt;have T:=g.lt;obtain ⟨a0,a1,M,a3,a4,a5⟩:=j;obtain ⟨b0,b1,b2,b3,b4,N⟩:=g;have i:=Hd (fun (W:World)=>after_any a b c d e f A B C D E F W m n e1 e2);have p:=Hd k;clear m e1 n e2 h1 h2 k;go_enter Tryz.func195,Tryz.ntmps195;go_wp2_with (first | (go_at_call 196;refine (i.out _).mono ?_;rintro r h ⟨rfl,g⟩;have r0:At h w.heap.size 0 (I 0):=Qa g ε;have q:=Fk w.heap.size 0 g;have r1:At h w.heap.size 1 (I 0):=Qa g ε;have s:=Fk w.heap.size 1 g;have r2:At h w.heap.size 2 (I 0):=Qa g ε;have t:=Fk w.heap.size 2 g;have r3:At h w.heap.size 3 (I 0):=Qa g ε;have u:=Fk w.heap.size 3 g;have O:At h w.heap.size 4 (I 0):=Qa g ε;have x:=Fk w.heap.size 4 g;have P:At h w.heap.size 5 (I 0):=Qa g ε;have y:=Fk w.heap.size 5 g;have z:w.heap.size<h.heap.size:=World.block_lt_of_cell? (w:=h) (a:=⟨w.heap.size,0,none⟩) r0;have G:w.heap.size<h.heap.size+1:=γ;have H:w.heap.size<h.heap.size+1+1:=γ;have J:w.heap.size<h.heap.size+1+1+1:=γ;have K:w.heap.size<h.heap.size+1+1+1+1:=γ;have L:w.heap.size<h.heap.size+1+1+1+1+1:=γ;have o:=Hd (Qc β1 g);clear g) | (go_at_call 193;refine (sized_no _ _ _ _ _ _ _ p.out).mono ?_;rintro r Q ⟨rfl,o1,o2,o3,rfl⟩))
 refine bodyPost_ret (v:=.tuple #[.agg #[I 0,I 0,I 0,I 0,I 0,I 0],I 2]) ?_ rfl ⟨rfl, ?_⟩
 ·first | (simp [results,Tryz.results195,go_sem, *];done) | (simp [results,Tryz.results195,go_sem,Ca, *];done)
 ·with_reducible repeat' (first | exact o.out | refine Qh ?_ ?_ | refine Qb ?_ | refine Qg ?_)
  all_goals (first | (simp;done) | (simp;omega))
theorem After_no (a b c d e f A B C D E F:Int) (w:World) (h1:mapB a b c d e f=true) (h2:mapB A B C D E F=true) (j:mapB (dot A B a c) (dot A B b d) (dot C D a c) (dot C D b d) (dot A B e f+E) (dot C D e f+F)=false) :
  Rt 134 #[.agg #[I a,I b,I c,I d,I e,I f],.agg #[I A,I B,I C,I D,I E,I F]] w (.tuple #[.agg #[I 0,I 0,I 0,I 0,I 0,I 0],I 2]):=by
 have t:=Jf;have l:=Hd j;clear j;go_enter Tryz.func134,Tryz.ntmps134;go_wp2_with (first | (go_at_call 129;refine (Xe _ _ _ _ _ _ _).mono ?_;rintro r h ⟨rfl,o1,rfl⟩) | (go_at_call 191;refine (answerMap_55_2 _ _ _ (fun W i=>after1_no a b c d e f A B C D E F _ _ W h1 h2 l.out (Mp.kept δ3 i) (Mp.kept δ3 i))).mono ?_;rintro r h ⟨rfl,g⟩;have r0:At h (w.heap.size+1+1) 0 (I 0):=Qa g ε;have m:=Fk (w.heap.size+1+1) 0 g;have r1:At h (w.heap.size+1+1) 1 (I 0):=Qa g ε;have n:=Fk (w.heap.size+1+1) 1 g;have r2:At h (w.heap.size+1+1) 2 (I 0):=Qa g ε;have o:=Fk (w.heap.size+1+1) 2 g;have r3:At h (w.heap.size+1+1) 3 (I 0):=Qa g ε;have p:=Fk (w.heap.size+1+1) 3 g;have J:At h (w.heap.size+1+1) 4 (I 0):=Qa g ε;have q:=Fk (w.heap.size+1+1) 4 g;have K:At h (w.heap.size+1+1) 5 (I 0):=Qa g ε;have s:=Fk (w.heap.size+1+1) 5 g;have u:w.heap.size+1+1<h.heap.size:=World.block_lt_of_cell? (w:=h) (a:=⟨w.heap.size+1+1,0,none⟩) r0;have x:w.heap.size+1+1<h.heap.size+1:=γ;have y:w.heap.size+1+1<h.heap.size+1+1:=γ;have z:w.heap.size+1+1<h.heap.size+1+1+1:=γ;have G:w.heap.size+1+1<h.heap.size+1+1+1+1:=γ;have H:w.heap.size+1+1<h.heap.size+1+1+1+1+1:=γ;have k:=Hd (Qc β5 g);clear g))
 refine bodyPost_ret (v:=.tuple #[.agg #[I 0,I 0,I 0,I 0,I 0,I 0],I 2]) ?_ rfl ⟨rfl, ?_⟩
 ·first | (simp [results,Tryz.results134,go_sem, *];done) | (simp [results,Tryz.results134,go_sem,Ca, *];done)
 ·with_reducible repeat' (first | exact k.out | refine Qh ?_ ?_ | refine Qb ?_ | refine Qg ?_)
  all_goals (first | (simp;done) | (simp;omega))
end Go.Proofs.YtjkjpopghkeibaaGreatDoor
namespace Go.Proofs
open Go.Shelf
def Tryz.lays113_ren:Go.Shelf.Ren:=⟨fun | 113=>20 | n=>n,fun | 28=>22 | 3=>3 | 4=>4 | 9=>9 | 20=>20 | 0=>0 | n=>n,fun | n=>n⟩
theorem Tryz.lays113:Go.Proofs.Lays.n113 Tryz.prog Tryz.lays113_ren:={
 mixed:=by kernel_rfl
 f113:=Tryz.func20.trans (congrArg some (by kernel_rfl))
 t0:=Tryz.underlying0
 a0:=Tryz.isAgg0
 z0:=Tryz.sizeOf0
 v0:=Tryz.zeroValue0
 t3:=Tryz.underlying3
 a3:=Tryz.isAgg3
 z3:=Tryz.sizeOf3
 v3:=Tryz.zeroValue3
 t4:=Tryz.underlying4
 a4:=Tryz.isAgg4
 z4:=Tryz.sizeOf4
 v4:=Tryz.zeroValue4
 t9:=Tryz.underlying9
 a9:=Tryz.isAgg9
 z9:=Tryz.sizeOf9
 v9:=Tryz.zeroValue9
 t20:=Tryz.underlying20
 a20:=Tryz.isAgg20
 z20:=Tryz.sizeOf20
 v20:=Tryz.zeroValue20
 t28:=Tryz.underlying22
 a28:=Tryz.isAgg22
 z28:=Tryz.sizeOf22
 v28:=Tryz.zeroValue22 }
open Go.Lib in
theorem Tryz.slices_Max_int (b off n c:Nat) (zs:List Int) (w:World) (hn:0<n) (hz:n≤zs.length) (hbig:n≤9223372036854775807) (hc:∀ j,j<zs.length→w.cell? ⟨b,off+j,none⟩=some (.int .i64 (zs.getD j 0))) :
  Calls Tryz.prog 20 #[.slice (some ⟨b,off,none⟩) n c] w fun e w'=>e=.returned (.int .i64 (Lib.maxOf (zs.take n)))∧w'=w:=Any.slices_Max_int Tryz.lays113 b off n c zs w hn hz hbig hc
end Go.Proofs
namespace Go.Proofs.YtjkjpopghkeibaaGreatDoor
open Go.RowKit
attribute [local go_sem ↓] Go.wp_at_zero Go.wp_at_succ
theorem tri_bd {x y k:Int} (h:triB x y k=true):0≤k∧k≤3∧-1000000≤x∧x≤1000000∧-1000000≤y∧y≤1000000:=by simpa [triB] using h
theorem c1x_bd (x k:Int):2*x≤c1x x k∧c1x x k≤2*x+2:=by have:=stX_bd k;unfold c1x;omega
theorem c1y_bd (x k:Int):2*x≤c1y x k∧c1y x k≤2*x+2:=by have:=stY_bd k;unfold c1y;omega
theorem c2x_bd (x k:Int):2*x≤c2x x k∧c2x x k≤2*x+2:=by have:=stX_bd ((k+1) % 4);unfold c2x;omega
theorem c2y_bd (x k:Int):2*x≤c2y x k∧c2y x k≤2*x+2:=by have:=stY_bd ((k+1) % 4);unfold c2y;omega
theorem below_via {w a w1:World} (h0:Bl w a) (b:Bl a w1):Bl w w1:=h0.trans (b.mono h0.size)
def sideN (v c x y k:Int):Int:=if c<alongOf v (2*x+1) (2*y+1)∨c<alongOf v (c1x x k) (c1y y k)∨c<alongOf v (c2x x k) (c2y y k) then 1 else -1
theorem along_any (y a b:Int) (w:World) (h1 : -10000000≤a) (h2:a≤10000000) (h3 : -10000000≤b) (h4:b≤10000000) :
  Cl 119 #[I y,.agg #[I a,I b]] w fun e w'=>e=.returned (I (alongOf y a b))∧∃ o,w'=w.alloc o:=by
 go_enter Tryz.func119,Tryz.ntmps119;go_wp2
 all_goals
  go_ret;exact ⟨Jp (by simp_all [alongOf]),_,rfl⟩
theorem index3 (a b c d e f:Value) (w:World):(Instr.index 181 (.agg #[a,b,c,d,e,f]) (I 0)).run Tryz.prog w=.ok (.agg #[a,b]) w∧(Instr.index 181 (.agg #[a,b,c,d,e,f]) (I 1)).run Tryz.prog w=.ok (.agg #[c,d]) w∧(Instr.index 181 (.agg #[a,b,c,d,e,f]) (I 2)).run Tryz.prog w=.ok (.agg #[e,f]) w :=
 ⟨η,η,η⟩
def sumN (v x y k:Int):Int:=alongOf v (2*x+1) (2*y+1)+alongOf v (c1x x k) (c1y y k)+alongOf v (c2x x k) (c2y y k)
theorem along_bd (v a b:Int) (h1 : -10000000≤a) (h2:a≤10000000) (h3 : -10000000≤b) (h4:b≤10000000) : -20000000≤alongOf v a b∧alongOf v a b≤20000000:=by
 unfold alongOf;split <;> (try split) <;> (try split) <;> omega
theorem side1_t (v c x y k:Int) (d pl:Nat) (w:World) (h:triB x y k=true) (t:lineB v c=true) (hs:Steps w)
  (t0:At w d 0 (I x)) (G:At w d 1 (I y)) (H:At w d 2 (I k))
  (l0:At w pl 0 (I v)) (l1:At w pl 1 (I c)) (b:3*c<sumN v x y k) :
  Rt 117 #[.pointer (Az d),.pointer (Az pl)] w (.tuple #[I 1,I 0]):=by
 obtain ⟨_,_,b1,b2,b3,b4⟩:=tri_bd h
 have n : -1000000≤c∧c≤1000000:=by
  have:0≤v∧v≤3∧-1000000≤c∧c≤1000000∧c % 2=0:=by simpa [lineB] using t
  omega
 obtain ⟨o,p⟩:=n;have i:=c1x_bd x k;have l:=c1y_bd y k;have j:=c2x_bd x k;have m:=c2y_bd y k;have v0:=along_bd v (2*x+1) (2*y+1) γ γ γ γ;have N:=along_bd v (c1x x k) (c1y y k) γ γ γ γ;have O:=along_bd v (c2x x k) (c2y y k) γ γ γ γ;have hi:=fun w=>index3 (I (2*x+1)) (I (2*y+1)) (I (c1x x k)) (I (c1y y k)) (I (c2x x k)) (I (c2y y k)) w;have q:=fun w=>(hi w).1;have r:=fun w=>(hi w).2.1;have s:=fun w=>(hi w).2.2;clear hi;unfold sumN at b;go_enter Tryz.func117,Tryz.ntmps117;go_wp2_with (go_at_call 118;refine (Qar _ _ _ _ h hs).mono ?_;rintro e w1 ⟨rfl,a⟩)
 have K:At w1 pl 0 (I v):=Jd a l0;have L:At w1 pl 1 (I c):=Jd a l1;have J:pl<w.heap.size:=Jw l0;have E:w.heap.size≤w1.heap.size:=a.size;have F:pl<w1.heap.size:=γ;have u:pl<w1.heap.size+1:=γ;have z:pl<w1.heap.size+1+1:=γ;have A:pl<w1.heap.size+1+1+1:=γ;have B:pl<w1.heap.size+1+1+1+1:=γ;have C:pl<w1.heap.size+1+1+1+1+1:=γ;have D:pl<w1.heap.size+1+1+1+1+1+1:=γ;have g:=Hd a;clear a t0 G H l0 l1 hs;refine wp_loop_rounds 4 ?_;rw [rounds_succ];go_wp2_with (go_at_call 119;refine (along_any _ _ _ _ γ γ γ γ).mono ?_;rintro e f ⟨rfl,o2,rfl⟩)
 rw [rounds_succ];go_wp2_with (go_at_call 119;refine (along_any _ _ _ _ γ γ γ γ).mono ?_;rintro e f ⟨rfl,o3,rfl⟩)
 rw [rounds_succ];go_wp2_with (go_at_call 119;refine (along_any _ _ _ _ γ γ γ γ).mono ?_;rintro e f ⟨rfl,M,rfl⟩)
 rw [rounds_succ];go_wp2;go_ret2
 refine ⟨rfl, ?_⟩;repeat (first | exact g.out | refine Below.alloc ?_ (by first | omega | (simp;omega) | (simp;done)) _)
theorem side1_f (v c x y k:Int) (d pl:Nat) (w:World) (h:triB x y k=true) (t:lineB v c=true) (hs:Steps w)
  (t0:At w d 0 (I x)) (G:At w d 1 (I y)) (H:At w d 2 (I k))
  (l0:At w pl 0 (I v)) (l1:At w pl 1 (I c)) (b:sumN v x y k≤3*c) :
  Rt 117 #[.pointer (Az d),.pointer (Az pl)] w (.tuple #[I (-1),I 0]):=by
 obtain ⟨_,_,b1,b2,b3,b4⟩:=tri_bd h
 have n : -1000000≤c∧c≤1000000:=by
  have:0≤v∧v≤3∧-1000000≤c∧c≤1000000∧c % 2=0:=by simpa [lineB] using t
  omega
 obtain ⟨o,p⟩:=n;have i:=c1x_bd x k;have l:=c1y_bd y k;have j:=c2x_bd x k;have m:=c2y_bd y k;have v0:=along_bd v (2*x+1) (2*y+1) γ γ γ γ;have N:=along_bd v (c1x x k) (c1y y k) γ γ γ γ;have O:=along_bd v (c2x x k) (c2y y k) γ γ γ γ;have hi:=fun w=>index3 (I (2*x+1)) (I (2*y+1)) (I (c1x x k)) (I (c1y y k)) (I (c2x x k)) (I (c2y y k)) w;have q:=fun w=>(hi w).1;have r:=fun w=>(hi w).2.1;have s:=fun w=>(hi w).2.2;clear hi;unfold sumN at b;go_enter Tryz.func117,Tryz.ntmps117;go_wp2_with (go_at_call 118;refine (Qar _ _ _ _ h hs).mono ?_;rintro e w1 ⟨rfl,a⟩)
 have K:At w1 pl 0 (I v):=Jd a l0;have L:At w1 pl 1 (I c):=Jd a l1;have J:pl<w.heap.size:=Jw l0;have E:w.heap.size≤w1.heap.size:=a.size;have F:pl<w1.heap.size:=γ;have u:pl<w1.heap.size+1:=γ;have z:pl<w1.heap.size+1+1:=γ;have A:pl<w1.heap.size+1+1+1:=γ;have B:pl<w1.heap.size+1+1+1+1:=γ;have C:pl<w1.heap.size+1+1+1+1+1:=γ;have D:pl<w1.heap.size+1+1+1+1+1+1:=γ;have g:=Hd a;clear a t0 G H l0 l1 hs;refine wp_loop_rounds 4 ?_;rw [rounds_succ];go_wp2_with (go_at_call 119;refine (along_any _ _ _ _ γ γ γ γ).mono ?_;rintro e f ⟨rfl,o2,rfl⟩)
 rw [rounds_succ];go_wp2_with (go_at_call 119;refine (along_any _ _ _ _ γ γ γ γ).mono ?_;rintro e f ⟨rfl,o3,rfl⟩)
 rw [rounds_succ];go_wp2_with (go_at_call 119;refine (along_any _ _ _ _ γ γ γ γ).mono ?_;rintro e f ⟨rfl,M,rfl⟩)
 rw [rounds_succ];go_wp2;go_ret2
 refine ⟨rfl, ?_⟩;repeat (first | exact g.out | refine Below.alloc ?_ (by first | omega | (simp;omega) | (simp;done)) _)
theorem sum_side (v c x y k:Int) (h:triB x y k=true) (a:lineB v c=true):sideN v c x y k=if 3*c<sumN v x y k then 1 else -1:=by
 obtain ⟨_,_,b1,b2,b3,b4⟩:=tri_bd h;have b:0≤v∧v≤3∧-1000000≤c∧c≤1000000∧c % 2=0:=by simpa [lineB] using a
 obtain ⟨_,_,_,_,e⟩:=b;have hv:v=0∨v=1∨v=2∨v=3:=γ;have d:k=0∨k=1∨k=2∨k=3:=γ;clear h a;rcases hv with rfl | rfl | rfl | rfl <;> rcases d with rfl | rfl | rfl | rfl <;> simp [sideN,sumN,alongOf,c1x,c1y,c2x,c2y,stX,stY] <;> split <;> split <;> omega
theorem side1_any (v c x y k:Int) (a pl:Nat) (w:World) (h:triB x y k=true) (b:lineB v c=true) (hs:Steps w)
  (t0:At w a 0 (I x)) (d:At w a 1 (I y)) (e:At w a 2 (I k))
  (l0:At w pl 0 (I v)) (l1:At w pl 1 (I c)) :
  Rt 117 #[.pointer (Az a),.pointer (Az pl)] w (.tuple #[I (sideN v c x y k),I 0]):=by
 rw [sum_side v c x y k h b];by_cases hsum:3*c<sumN v x y k
 ·rw [if_pos hsum];exact side1_t v c x y k a pl w h b hs t0 d e l0 l1 hsum
 ·rw [if_neg hsum];exact side1_f v c x y k a pl w h b hs t0 d e l0 l1 γ
theorem answerSide (v c x y k:Int) (b pl:Nat) (w:World) (h:triB x y k=true) (f:lineB v c=true) (hs:Steps w)
  (t0:At w b 0 (I x)) (g:At w b 1 (I y)) (i:At w b 2 (I k))
  (l0:At w pl 0 (I v)) (l1:At w pl 1 (I c)) :
  Rt 114 #[.bool true,.func (.func 117) #[] #[.pointer (Az b),.pointer (Az pl)]] w (.tuple #[I (sideN v c x y k),I 0]):=by
 have a:=side1_any v c x y k b pl w h f hs t0 g i l0 l1;clear t0 g i l0 l1 hs h f;go_enter Tryz.func114,Tryz.ntmps114;go_wp2_with (go_at_call 117;refine a.mono ?_;rintro e w1 ⟨rfl,d⟩)
 go_ret2
 exact ⟨rfl,d⟩
theorem make_fun (fn:Go.Fn) (first a:Array Value) (w:World):(Instr.makeFunc fn first a).run Tryz.prog w=.ok (.func fn first a) w:=rfl
theorem Side_in (v c x y k:Int) (w:World) (h:triB x y k=true) (d:lineB v c=true) (hs:Steps w) :
  Rt 62 #[.agg #[I v,I c],.agg #[I x,I y,I k]] w (.tuple #[I (sideN v c x y k),I 0]):=by
 have f:=make_fun;have b:=Hd hs;clear hs;go_enter Tryz.func62,Tryz.ntmps62;go_wp2_with (first | (go_at_call 115;refine (mayLine_any _ _ _).mono ?_;rintro e w1 ⟨rfl,o0,rfl⟩) | (go_at_call 116;refine (Xd _ _ _ _).mono ?_;rintro e w1 ⟨rfl,o1,rfl⟩) | (go_at_call 114;refine (answerSide v c x y k _ _ _ h d (b.out.kept (by repeat (first | exact Below.refl _ _ | refine Below.alloc ?_ (by first | omega | (simp;omega) | (simp;done)) _))) δ δ δ δ δ).mono ?_;rintro e g ⟨rfl,a⟩))
 go_ret2
 refine ⟨rfl,below_via ?_ a⟩;repeat (first | exact Below.refl _ _ | refine Below.alloc ?_ (by first | omega | (simp;omega) | (simp;done)) _)
end Go.Proofs.YtjkjpopghkeibaaGreatDoor
