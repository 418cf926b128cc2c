/- A part of it. -/
import Derived.Test.YtbjmnlefkbhbdaaGreatDoorRows
import Derived.Test.YtbjmnlefkbhbdaaGreatDoorQlaa
import Derived.LaidMore
import Derived.Stop.Joined
import Derived.Lib.SmallJoins
import Derived.WideKeyEntry
set_option maxRecDepth 100000
set_option maxHeartbeats 40000000
namespace Go.Proofs.YtbjmnlefkbhbdaaGreatDoor
open Go.ChangeShapes Go.WideShapes Go.ChangeAt Go.WideMaps Go.WideElems Go.RowKit Go.Joins
theorem Tryz.own:ownKnob Tryz.prog.godebug=none:=μ
theorem gSteps:Tryz.prog.globalNamed "pleat/grid.steps" = some 0:=μ
theorem tSteps:(Tryz.prog.globals[0]?).map (·.type)=some 128:=μ
theorem c3:Tryz.prog.cellsOf 3=1:=μ
theorem c25:Tryz.prog.cellsOf 75=2:=μ
theorem c119:Tryz.prog.cellsOf 128=8:=μ
theorem Vz {H:Type} {enc:TypeId×Value→H} {W:World} {base:Nat} {j:Nat→Bool} {g:Bool} {m:Nat} {u v:Value} {d0 d1:Int} {i:List MemPlace}
  (h:DataW.trod enc Tryz.prog W base j g m 75 [u,v]=some (.agg [.lit (.int .i64 d0),.lit (.int .i64 d1)],i)):u=I d0∧v=I d1:=by
 obtain ⟨k,y1,n,f,_,h0,h1⟩:=trod_struct2 Tryz.underlying75 h;simp only [Prod.mk.injEq,DataW.agg.injEq,List.cons.injEq,and_true] at f;obtain ⟨⟨e0,e1⟩,_⟩:=f;simp [c3] at h0 h1;obtain ⟨a,e,c,_⟩:=DataW.trod_int Tryz.underlying3 h0;obtain ⟨b,hb,d,_⟩:=DataW.trod_int Tryz.underlying3 h1;subst c d;simp at e0 e1 e hb;subst e0 e1 e hb;exact ⟨rfl,rfl⟩
theorem steps_of {W:World} (h:laidMetH Tryz.prog [("pleat/grid.steps",Rows.laid_pleat_grid_steps)] W):Steps W:=by
 rw [MakeChecks.laidMetH_plain _ _ _ μ] at h;obtain ⟨D,⟨g0,t0,f,f0,C,E,e,j,k,g,_,_⟩,_,_⟩:=h;obtain rfl:=Option.some.inj (gSteps.symm.trans e);obtain rfl:=Option.some.inj (tSteps.symm.trans j);have c:=World.var?_cell e k;obtain ⟨A,B,rfl,a,d,i,b⟩:=DataW.trod_array Tryz.underlying128 g;rw [c119] at d;simp only [Prod.mk.injEq,Rows.laid_pleat_grid_steps,DataW.agg.injEq] at a;obtain ⟨a,_⟩:=a;obtain ⟨l⟩:=f;match A,i with
 | [x0,x1,x2,x3],_ =>
  match l,d with
  | [a0,a1,a2,a3,a4,a5,a6,a7],_ =>
   simp only [List.map_cons,List.map_nil,List.cons.injEq,and_true] at a;obtain ⟨e0,e1,e2,m⟩:=a;have k0:=b 0 τ;have k1:=b 1 τ;have k2:=b 2 τ;have k3:=b 3 τ;obtain ⟨r,s⟩:=x0;obtain ⟨t,u⟩:=x1;obtain ⟨v,x⟩:=x2;obtain ⟨y,z⟩:=x3;simp at e0 e1 e2 m;subst e0 e1 e2 m;simp [c25] at k0 k1 k2 k3;obtain ⟨r0,r1⟩:=Vz k0;obtain ⟨r2,r3⟩:=Vz k1;obtain ⟨n,o⟩:=Vz k2;obtain ⟨p,q⟩:=Vz k3;subst r0 r1 r2 r3 n o p q;exact ⟨by simpa using c 0,by simpa using c 1,by simpa using c 2,by simpa using c 3,by simpa using c 4,by simpa using c 5,by simpa using c 6,by simpa using c 7⟩
def lessB (a b c d:Int):Bool:=decide (a<c∨(a=c∧b<d))
theorem edge_any (a b c d:Int) (w:World) :
  Cl 230 #[.agg #[I a,I b],.agg #[I c,I d]] w fun r w'=>r=.returned (if lessB c d a b=true then .agg #[I c,I d,I a,I b] else .agg #[I a,I b,I c,I d])∧∃ o1 o2 o3,w'=((w.alloc o1).alloc o2).alloc o3:=by
 by_cases h1:c<a
 ·have e:lessB c d a b=true:=by simp [lessB,h1]
  rw [if_pos e];clear e;go_enter Tryz.func230,Tryz.ntmps230;go_wp2;exact bodyPost_ret (v:=.agg #[I c,I d,I a,I b]) (by simp [results,Tryz.results230,go_sem]) rfl ⟨rfl,_,_,_,rfl⟩
 by_cases h2:c=a
 ·subst h2;by_cases h3:d<b
  ·have e:lessB c d c b=true:=by simp [lessB,h3]
   rw [if_pos e];clear e;go_enter Tryz.func230,Tryz.ntmps230;go_wp2;exact bodyPost_ret (v:=.agg #[I c,I d,I c,I b]) (by simp [results,Tryz.results230,go_sem]) rfl ⟨rfl,_,_,_,rfl⟩
  ·have e:¬ lessB c d c b=true:=by simp [lessB,h3]
   rw [if_neg e];clear e;go_enter Tryz.func230,Tryz.ntmps230;go_wp2;exact bodyPost_ret (v:=.agg #[I c,I b,I c,I d]) (by simp [results,Tryz.results230,go_sem]) rfl ⟨rfl,_,_,_,rfl⟩
 ·have e:¬ lessB c d a b=true:=by simp [lessB,h1,h2]
  rw [if_neg e];clear e;go_enter Tryz.func230,Tryz.ntmps230;go_wp2;exact bodyPost_ret (v:=.agg #[I a,I b,I c,I d]) (by simp [results,Tryz.results230,go_sem]) rfl ⟨rfl,_,_,_,rfl⟩
def eA (a b c d:Int):Int:=if lessB c d a b=true then c else a
def eB (a b c d:Int):Int:=if lessB c d a b=true then d else b
def eC (a b c d:Int):Int:=if lessB c d a b=true then a else c
def eD (a b c d:Int):Int:=if lessB c d a b=true then b else d
theorem edge_num (a b c d:Int) (w:World) :
  Cl 230 #[.agg #[I a,I b],.agg #[I c,I d]] w fun r w'=>r=.returned (.agg #[I (eA a b c d),I (eB a b c d),I (eC a b c d),I (eD a b c d)])∧∃ o1 o2 o3,w'=((w.alloc o1).alloc o2).alloc o3:=by
 refine (edge_any a b c d w).mono ?_;rintro r w' ⟨rfl,h⟩;refine ⟨?_,h⟩
 cases e:lessB c d a b <;> simp [eA,eB,eC,eD,e]
attribute [local go_sem ↓] Go.wp_at_zero Go.wp_at_succ
theorem edges_any (x y k:Int) (w:World) (h:triB x y k=true) (hs:Steps w) :
  Cl 205 #[.agg #[I x,I y,I k]] w fun r w'=>r=.returned (.agg #[
   I (eA (2*x+1) (2*y+1) (c1x x k) (c1y y k)),I (eB (2*x+1) (2*y+1) (c1x x k) (c1y y k)),I (eC (2*x+1) (2*y+1) (c1x x k) (c1y y k)),I (eD (2*x+1) (2*y+1) (c1x x k) (c1y y k)),
   I (eA (c1x x k) (c1y y k) (c2x x k) (c2y y k)),I (eB (c1x x k) (c1y y k) (c2x x k) (c2y y k)),I (eC (c1x x k) (c1y y k) (c2x x k) (c2y y k)),I (eD (c1x x k) (c1y y k) (c2x x k) (c2y y k)),
   I (eA (c2x x k) (c2y y k) (2*x+1) (2*y+1)),I (eB (c2x x k) (c2y y k) (2*x+1) (2*y+1)),I (eC (c2x x k) (c2y y k) (2*x+1) (2*y+1)),I (eD (c2x x k) (c2y y k) (2*x+1) (2*y+1))])∧Bl w w':=by
 have c:=Hd hs;clear hs;go_enter Tryz.func205,Tryz.ntmps205;go_wp2_with (go_at_call 29;refine (Yn _ _ _ _ h (c.out.kept β2)).mono ?_;rintro r w1 ⟨rfl,hb⟩;have r0:At w1 (w.heap.size+1) 0 (I 0):=Qr hb ζ;have f0:Fn w1 (w.heap.size+1) 0:=(hb.frozen (p:=⟨w.heap.size+1,0,none⟩) ν).trans ζ;have r1:At w1 (w.heap.size+1) 1 (I 0):=Qr hb ζ;have f1:Fn w1 (w.heap.size+1) 1:=(hb.frozen (p:=⟨w.heap.size+1,1,none⟩) ν).trans ζ;have r2:At w1 (w.heap.size+1) 2 (I 0):=Qr hb ζ;have f2:Fn w1 (w.heap.size+1) 2:=(hb.frozen (p:=⟨w.heap.size+1,2,none⟩) ν).trans ζ;have r3:At w1 (w.heap.size+1) 3 (I 0):=Qr hb ζ;have f3:Fn w1 (w.heap.size+1) 3:=(hb.frozen (p:=⟨w.heap.size+1,3,none⟩) ν).trans ζ;have t:At w1 (w.heap.size+1) 4 (I 0):=Qr hb ζ;have f4:Fn w1 (w.heap.size+1) 4:=(hb.frozen (p:=⟨w.heap.size+1,4,none⟩) ν).trans ζ;have u:At w1 (w.heap.size+1) 5 (I 0):=Qr hb ζ;have l:Fn w1 (w.heap.size+1) 5:=(hb.frozen (p:=⟨w.heap.size+1,5,none⟩) ν).trans ζ;have z:At w1 (w.heap.size+1) 6 (I 0):=Qr hb ζ;have f6:Fn w1 (w.heap.size+1) 6:=(hb.frozen (p:=⟨w.heap.size+1,6,none⟩) ν).trans ζ;have A:At w1 (w.heap.size+1) 7 (I 0):=Qr hb ζ;have m:Fn w1 (w.heap.size+1) 7:=(hb.frozen (p:=⟨w.heap.size+1,7,none⟩) ν).trans ζ;have B:At w1 (w.heap.size+1) 8 (I 0):=Qr hb ζ;have n:Fn w1 (w.heap.size+1) 8:=(hb.frozen (p:=⟨w.heap.size+1,8,none⟩) ν).trans ζ;have C:At w1 (w.heap.size+1) 9 (I 0):=Qr hb ζ;have o:Fn w1 (w.heap.size+1) 9:=(hb.frozen (p:=⟨w.heap.size+1,9,none⟩) ν).trans ζ;have f:At w1 (w.heap.size+1) 10 (I 0):=Qr hb ζ;have d:Fn w1 (w.heap.size+1) 10:=(hb.frozen (p:=⟨w.heap.size+1,10,none⟩) ν).trans ζ;have g:At w1 (w.heap.size+1) 11 (I 0):=Qr hb ζ;have e:Fn w1 (w.heap.size+1) 11:=(hb.frozen (p:=⟨w.heap.size+1,11,none⟩) ν).trans ζ;have z0:w.heap.size+1<w1.heap.size:=World.block_lt_of_cell? (w:=w1) (a:=⟨w.heap.size+1,0,none⟩) r0;have z1:w.heap.size+1<w1.heap.size+1:=γ;have z2:w.heap.size+1<w1.heap.size+1+1:=γ;have z3:w.heap.size+1<w1.heap.size+1+1+1:=γ;have z4:w.heap.size+1<w1.heap.size+1+1+1+1:=γ;have z5:w.heap.size+1<w1.heap.size+1+1+1+1+1:=γ;have E:w.heap.size+1<w1.heap.size+1+1+1+1+1+1:=γ;have F:w.heap.size+1<w1.heap.size+1+1+1+1+1+1+1:=γ;have G:w.heap.size+1<w1.heap.size+1+1+1+1+1+1+1+1:=γ;have z9:w.heap.size+1<w1.heap.size+1+1+1+1+1+1+1+1+1:=γ;have i:w.heap.size+1<w1.heap.size+1+1+1+1+1+1+1+1+1+1:=γ;have j:w.heap.size+1<w1.heap.size+1+1+1+1+1+1+1+1+1+1+1:=γ;have b:=Hd (Qb β2 hb);clear hb)
 go_region_held3 (fun w'=>At w' w1.heap.size 0 (I (2*x+1))∧At w' w1.heap.size 1 (I (2*y+1))∧At w' w1.heap.size 2 (I (c1x x k))∧At w' w1.heap.size 3 (I (c1y y k))∧At w' w1.heap.size 4 (I (c2x x k))∧At w' w1.heap.size 5 (I (c2y y k)))
  ((refine ⟨?_, ?_, ?_, ?_, ?_, ?_⟩ <;> (first | (simp [go_sem];done) | (simp [go_sem,Ca];done) | (repeat' (first | (with_reducible refine Xc ?_ ?_) | (dsimp only;omega) | (simp [go_sem,Ca];done))))))
  (first | (go_at_call 230;refine (edge_num _ _ _ _ _).mono ?_;rintro r D ⟨rfl,o3,q,s,rfl⟩))
 go_wp2;refine bodyPost_ret (v:=.agg #[ I (eA (2*x+1) (2*y+1) (c1x x k) (c1y y k)),I (eB (2*x+1) (2*y+1) (c1x x k) (c1y y k)),I (eC (2*x+1) (2*y+1) (c1x x k) (c1y y k)),I (eD (2*x+1) (2*y+1) (c1x x k) (c1y y k)),I (eA (c1x x k) (c1y y k) (c2x x k) (c2y y k)),I (eB (c1x x k) (c1y y k) (c2x x k) (c2y y k)),I (eC (c1x x k) (c1y y k) (c2x x k) (c2y y k)),I (eD (c1x x k) (c1y y k) (c2x x k) (c2y y k)),I (eA (c2x x k) (c2y y k) (2*x+1) (2*y+1)),I (eB (c2x x k) (c2y y k) (2*x+1) (2*y+1)),I (eC (c2x x k) (c2y y k) (2*x+1) (2*y+1)),I (eD (c2x x k) (c2y y k) (2*x+1) (2*y+1))]) ?_ rfl ⟨rfl, ?_⟩
 ·simp [results,Tryz.results205,go_sem,Ca, *]
 ·with_reducible repeat' (first | exact b.out | refine Qk ?_ ?_ | refine Qc ?_ | refine Qe ?_)
  all_goals (dsimp only;omega)
def ue0 (x y k:Int):Int:=eA (2*x+1) (2*y+1) (c1x x k) (c1y y k)
def ue1 (x y k:Int):Int:=eB (2*x+1) (2*y+1) (c1x x k) (c1y y k)
def ue2 (x y k:Int):Int:=eC (2*x+1) (2*y+1) (c1x x k) (c1y y k)
def ue3 (x y k:Int):Int:=eD (2*x+1) (2*y+1) (c1x x k) (c1y y k)
def ue4 (x y k:Int):Int:=eA (c1x x k) (c1y y k) (c2x x k) (c2y y k)
def ue5 (x y k:Int):Int:=eB (c1x x k) (c1y y k) (c2x x k) (c2y y k)
def ue6 (x y k:Int):Int:=eC (c1x x k) (c1y y k) (c2x x k) (c2y y k)
def ue7 (x y k:Int):Int:=eD (c1x x k) (c1y y k) (c2x x k) (c2y y k)
def ue8 (x y k:Int):Int:=eA (c2x x k) (c2y y k) (2*x+1) (2*y+1)
def ue9 (x y k:Int):Int:=eB (c2x x k) (c2y y k) (2*x+1) (2*y+1)
def ue10 (x y k:Int):Int:=eC (c2x x k) (c2y y k) (2*x+1) (2*y+1)
def ue11 (x y k:Int):Int:=eD (c2x x k) (c2y y k) (2*x+1) (2*y+1)
def sameB (a b c d p q r s:Int):Bool:=decide (a=p∧b=q∧c=r∧d=s)
def e0 (x y k p q r s:Int):Bool:=sameB (ue0 x y k) (ue1 x y k) (ue2 x y k) (ue3 x y k) p q r s
def e1 (x y k p q r s:Int):Bool:=sameB (ue4 x y k) (ue5 x y k) (ue6 x y k) (ue7 x y k) p q r s
def e2 (x y k p q r s:Int):Bool:=sameB (ue8 x y k) (ue9 x y k) (ue10 x y k) (ue11 x y k) p q r s
theorem Km (x y p q r s:Int):e0 x y 0 p q r s=true↔(2*x=p∧2*y=q∧2*x+1=r∧2*y+1=s):=by
 simp [e0,sameB,ue0,ue1,ue2,ue3,eA,eB,eC,eD,lessB,c1x,c1y,stX,stY] <;> omega
theorem Ki (x y p q r s:Int):e1 x y 0 p q r s=true↔(2*x=p∧2*y=q∧2*x+2=r∧2*y=s):=by
 simp [e1,sameB,ue4,ue5,ue6,ue7,eA,eB,eC,eD,lessB,c1x,c1y,c2x,c2y,stX,stY] <;> omega
theorem Ke (x y p q r s:Int):e2 x y 0 p q r s=true↔(2*x+1=p∧2*y+1=q∧2*x+2=r∧2*y=s):=by
 simp [e2,sameB,ue8,ue9,ue10,ue11,eA,eB,eC,eD,lessB,c2x,c2y,stX,stY] <;> omega
theorem Kl (x y p q r s:Int):e0 x y 1 p q r s=true↔(2*x+1=p∧2*y+1=q∧2*x+2=r∧2*y=s):=by
 simp [e0,sameB,ue0,ue1,ue2,ue3,eA,eB,eC,eD,lessB,c1x,c1y,stX,stY] <;> omega
theorem Kh (x y p q r s:Int):e1 x y 1 p q r s=true↔(2*x+2=p∧2*y=q∧2*x+2=r∧2*y+2=s):=by
 simp [e1,sameB,ue4,ue5,ue6,ue7,eA,eB,eC,eD,lessB,c1x,c1y,c2x,c2y,stX,stY] <;> omega
theorem Kc (x y p q r s:Int):e2 x y 1 p q r s=true↔(2*x+1=p∧2*y+1=q∧2*x+2=r∧2*y+2=s):=by
 simp [e2,sameB,ue8,ue9,ue10,ue11,eA,eB,eC,eD,lessB,c2x,c2y,stX,stY] <;> omega
theorem Kk (x y p q r s:Int):e0 x y 2 p q r s=true↔(2*x+1=p∧2*y+1=q∧2*x+2=r∧2*y+2=s):=by
 simp [e0,sameB,ue0,ue1,ue2,ue3,eA,eB,eC,eD,lessB,c1x,c1y,stX,stY] <;> omega
theorem Kg (x y p q r s:Int):e1 x y 2 p q r s=true↔(2*x=p∧2*y+2=q∧2*x+2=r∧2*y+2=s):=by
 simp [e1,sameB,ue4,ue5,ue6,ue7,eA,eB,eC,eD,lessB,c1x,c1y,c2x,c2y,stX,stY] <;> omega
theorem Kb (x y p q r s:Int):e2 x y 2 p q r s=true↔(2*x=p∧2*y+2=q∧2*x+1=r∧2*y+1=s):=by
 simp [e2,sameB,ue8,ue9,ue10,ue11,eA,eB,eC,eD,lessB,c2x,c2y,stX,stY] <;> omega
theorem Kj (x y p q r s:Int):e0 x y 3 p q r s=true↔(2*x=p∧2*y+2=q∧2*x+1=r∧2*y+1=s):=by
 simp [e0,sameB,ue0,ue1,ue2,ue3,eA,eB,eC,eD,lessB,c1x,c1y,stX,stY] <;> omega
theorem Kf (x y p q r s:Int):e1 x y 3 p q r s=true↔(2*x=p∧2*y=q∧2*x=r∧2*y+2=s):=by
 simp [e1,sameB,ue4,ue5,ue6,ue7,eA,eB,eC,eD,lessB,c1x,c1y,c2x,c2y,stX,stY] <;> omega
theorem Ka (x y p q r s:Int):e2 x y 3 p q r s=true↔(2*x=p∧2*y=q∧2*x+1=r∧2*y+1=s):=by
 simp [e2,sameB,ue8,ue9,ue10,ue11,eA,eB,eC,eD,lessB,c2x,c2y,stX,stY] <;> omega
def hasB (x y k p q r s:Int):Bool:=e0 x y k p q r s || e1 x y k p q r s || e2 x y k p q r s
def acX (x y k p q r s:Int):Int:=if e0 x y k p q r s=true then x else if e1 x y k p q r s=true then x+outX k else if e2 x y k p q r s=true then x else 0
def acY (x y k p q r s:Int):Int:=if e0 x y k p q r s=true then y else if e1 x y k p q r s=true then y+outY k else if e2 x y k p q r s=true then y else 0
def acK (x y k p q r s:Int):Int:=if e0 x y k p q r s=true then (k+3) % 4 else if e1 x y k p q r s=true then (k+2) % 4 else if e2 x y k p q r s=true then (k+1) % 4 else 0
theorem Jb (x y k p q r s:Int):hasB x y k p q r s=true↔(e0 x y k p q r s=true∨e1 x y k p q r s=true∨e2 x y k p q r s=true):=by
 simp [hasB,or_assoc]
def Oth (x y k p q r s dx dy l:Int):Prop:=hasB (x+dx) (y+dy) l p q r s=true∧¬ (x+dx=x∧y+dy=y∧l=k)
theorem across_is (x y k p q r s a b l:Int) (k0:0≤k) (k3:k≤3) (l0:0≤l) (l3:l≤3) (h:hasB x y k p q r s=true) (d:Oth x y k p q r s a b l) :
  x+a=acX x y k p q r s∧y+b=acY x y k p q r s∧l=acK x y k p q r s:=by
 have c:k=0∨k=1∨k=2∨k=3:=γ;have hl:l=0∨l=1∨l=2∨l=3:=γ;obtain ⟨h2,h3⟩:=d;rw [Jb] at h h2;rcases c with rfl | rfl | rfl | rfl <;> simp only [acX,acY,acK,outX,outY,Km,Kl,Kk,Kj,Ki,Kh,Kg,Kf,Ke,Kc,Kb,Ka] at h ⊢ <;> rcases h with ⟨rfl,rfl,rfl,rfl⟩ | ⟨rfl,rfl,rfl,rfl⟩ | ⟨rfl,rfl,rfl,rfl⟩ <;> simp <;> rcases hl with rfl | rfl | rfl | rfl <;> simp only [Km,Kl,Kk,Kj,Ki,Kh,Kg,Kf,Ke,Kc,Kb,Ka] at h2 <;> omega
theorem eql27 (a b c d p q r s:Int) (w:World) :
  (binOp .eql 77 (.agg #[I a,I b,I c,I d]) (.agg #[I p,I q,I r,I s])).run Tryz.prog w=.ok (.bool (sameB a b c d p q r s)) w:=by
 by_cases h1:a=p
 ·subst h1;by_cases h2:b=q
  ·subst h2;by_cases h3:c=r
   ·subst h3;by_cases h4:d=s
    ·subst h4;simp [go_sem,sameB]
    ·have e:(d == s)=false:=by simpa using h4
     simp [go_sem,sameB,e,h4]
   ·have e:(c == r)=false:=by simpa using h3
    simp [go_sem,sameB,e,h3]
  ·have e:(b == q)=false:=by simpa using h2
   simp [go_sem,sameB,e,h2]
 ·have e:(a == p)=false:=by simpa using h1
  simp [go_sem,sameB,e,h1]
def sameT (x y k X Y K:Int):Bool:=decide (x=X∧y=Y∧k=K)
theorem neq23 (x y k X Y K:Int) (w:World) :
  (binOp .neq 44 (.agg #[I x,I y,I k]) (.agg #[I X,I Y,I K])).run Tryz.prog w=.ok (.bool (!sameT x y k X Y K)) w:=by
 by_cases h1:x=X
 ·subst h1;by_cases h2:y=Y
  ·subst h2;by_cases h3:k=K
   ·subst h3;simp [go_sem,sameT]
   ·have e:(k == K)=false:=by simpa using h3
    simp [go_sem,sameT,e,h3]
  ·have e:(y == Y)=false:=by simpa using h2
   simp [go_sem,sameT,e,h2]
 ·have e:(x == X)=false:=by simpa using h1
  simp [go_sem,sameT,e,h1]
theorem eql23 (x y k X Y K:Int) (w:World) :
  (binOp .eql 44 (.agg #[I x,I y,I k]) (.agg #[I X,I Y,I K])).run Tryz.prog w=.ok (.bool (sameT x y k X Y K)) w:=by
 by_cases h1:x=X
 ·subst h1;by_cases h2:y=Y
  ·subst h2;by_cases h3:k=K
   ·subst h3;simp [go_sem,sameT]
   ·have e:(k == K)=false:=by simpa using h3
    simp [go_sem,sameT,e,h3]
  ·have e:(y == Y)=false:=by simpa using h2
   simp [go_sem,sameT,e,h2]
 ·have e:(x == X)=false:=by simpa using h1
  simp [go_sem,sameT,e,h1]
end Go.Proofs.YtbjmnlefkbhbdaaGreatDoor
namespace Go.Proofs.YtbjmnlefkbhbdaaGreatDoor
open Go.RowKit Go.ChangeMaps
variable {a c i r:Nat} {k:E4} {v z:Value} {w:World} {E T:TypeId}
def ek (e:E4):Value:=.agg #[I e.1,I e.2.1,I e.2.2.1,I e.2.2.2]
def toE (x:E4×Value×Nat):MapEntry:=⟨ek x.1,x.2.1,x.2.2⟩
theorem equal27 (a b:E4) (w:World):(Op.equal 77 (ek a) (ek b)).run Tryz.prog w=.ok (decide (a=b)) w:=by
 obtain ⟨a0,a1,c,a3⟩:=a;obtain ⟨b0,b1,b2,b3⟩:=b;have h:=eql27 a0 a1 c a3 b0 b1 b2 b3 w;have e:sameB a0 a1 c a3 b0 b1 b2 b3=decide ((a0,a1,c,a3)=(b0,b1,b2,b3)):=by simp [sameB]
 rw [e] at h;unfold ek;simp only [binOp,Sem.run_bind,Sem.run_pure] at h
 cases hr:(Op.equal 77 (.agg #[I a0,I a1,I c,I a3]) (.agg #[I b0,I b1,I b2,I b3])).run Tryz.prog w with
 | ok r w1 =>
  rw [hr] at h;simpa [Result.andThen] using h
 | halt x w1 =>
  rw [hr] at h;simp [Result.andThen] at h
theorem checkInt (em:Bool) (n:Nat) (a:Int) (w:World):(Instr.checkKey em (n+1) 3 (I a)).run Tryz.prog w=.ok () w:=by
 simp [Instr.checkKey,run_underlying Tryz.underlying3,Result.andThen]
theorem check25 (em:Bool) (n:Nat) (a b:Int) (w:World):(Instr.checkKey em (n+2) 75 (.agg #[I a,I b])).run Tryz.prog w=.ok () w:=by
 rw [show n+2=(n+1)+1 by omega];unfold Instr.checkKey;simp [run_underlying Tryz.underlying75,go_sem,checkInt]
theorem check27a (em:Bool) (n:Nat) (a b c d:Int) (w:World):(Instr.checkKey em (n+3) 77 (.agg #[I a,I b,I c,I d])).run Tryz.prog w=.ok () w:=by
 rw [show n+3=(n+2)+1 by omega];unfold Instr.checkKey;simp [run_underlying Tryz.underlying77,go_sem,check25]
theorem check27 (em:Bool) (a:E4) (w:World):(Instr.checkKey em 10000 77 (ek a)).run Tryz.prog w=.ok () w:=check27a em 9997 _ _ _ _ w
theorem stays27 (a:E4) (w:World):(Instr.keyThatStays (ek a) (ek a)).run Tryz.prog w=.ok (ek a) w:=by
 have:Instr.sameBits 10000 (ek a) (ek a)=true:=by
  unfold ek;show Instr.sameBits (9999+1) _ _=true
  simp [Instr.sameBits]
 simp [Instr.keyThatStays,this]
theorem find27 (k:E4) (w:World):∀ (ls:List (E4×Value×Nat)) (i:Nat),
  ((Instr.findAsking 77 (ek k) (ls.map toE) i).run Tryz.prog w=.ok none w∧∀ x∈ls,x.1≠k) ∨
  ∃ j x,(Instr.findAsking 77 (ek k) (ls.map toE) i).run Tryz.prog w=.ok (some (i+j,x.2.1)) w∧ls[j]?=some x∧x.1=k
 | [],i=>Or.inl ⟨by simp [Instr.findAsking],ν⟩
 | x :: r,i=>by
  by_cases h:k=x.1
  ·refine Or.inr ⟨0,x, ?_,rfl,h.symm⟩;have hq:=equal27 k x.1 w;rw [decide_eq_true h] at hq;rw [List.map_cons];simp only [Instr.findAsking,toE,Sem.run_bind,hq,Result.andThen];rfl
  ·have hq:=equal27 k x.1 w;rw [decide_eq_false h] at hq;rcases find27 k w r (i+1) with ⟨h1,h2⟩ | ⟨j,y,h1,h2,h3⟩
   ·refine Or.inl ⟨?_, ?_⟩
    ·rw [List.map_cons];simp only [Instr.findAsking,toE,Sem.run_bind,hq,Result.andThen];exact h1
    ·intro y a;rcases List.mem_cons.1 a with rfl | a
     ·exact fun e=>h e.symm
     ·exact h2 y a
   ·refine Or.inr ⟨j+1,y, ?_,by simpa using h2,h3⟩;rw [List.map_cons];simp only [Instr.findAsking,toE,Sem.run_bind,hq,Result.andThen];rw [show i+(j+1)=i+1+j by omega];exact h1
def EM (w:World) (r:Nat) (ls:List (E4×Value×Nat)) (clock:Nat):Prop:=w.heap[r]?=some (.map (ls.map toE).toArray clock)
def Good (ls:List (E4×Value×Nat)) (clock:Nat):Prop:=(ls.map (fun x=>x.1)).Nodup∧(ls.map (fun x=>x.2.2)).Nodup∧∀ x∈ls,x.2.2<clock
def lk:List (E4×Value×Nat)→Int×Int×Int×Int→Option Value
 | [],_=>none
 | x :: r,k=>if x.1=k then some x.2.1 else lk r k
theorem lk_not:∀ {ls:List (E4×Value×Nat)},(∀ x∈ls,x.1≠k)→lk ls k=none
 | [],_=>rfl
 | x :: r,h=>by simp [lk,h x ν,lk_not (ls:=r) (fun y a=>h y (by simp [a]))]
theorem lk_at:∀ {ls:List (E4×Value×Nat)} {j:Nat} {x:E4×Value×Nat},(ls.map (fun x=>x.1)).Nodup→ls[j]?=some x→x.1=k→lk ls k=some x.2.1
 | [],_,_,_,h,_=>by simp at h
 | y :: r,0,x,_,h,hk=>by
  simp at h;subst h;simp [lk,hk]
 | y :: r,j+1,x,hn,h,hk=>by
  simp only [List.getElem?_cons_succ] at h;simp only [List.map_cons,List.nodup_cons] at hn;have a:y.1≠k:=fun e=>hn.1 (List.mem_map.2 ⟨x,List.mem_of_getElem? h,hk.trans e.symm⟩);simp [lk,a,lk_at hn.2 h hk]
theorem lk_mem:∀ {ls:List (E4×Value×Nat)},lk ls k=some v→∃ b,(k,v,b)∈ls
 | [],h=>by simp [lk] at h
 | y :: r,h=>by
  unfold lk at h;split at h
  ·rename_i e
   simp at h;subst h;subst e;exact ⟨y.2.2,ν⟩
  ·obtain ⟨b,hb⟩:=lk_mem h;exact ⟨b,by simp [hb]⟩
theorem lk_push {ls:List (E4×Value×Nat)} {j:E4} (h:∀ x∈ls,x.1≠k):lk (ls ++ [(k,v,c)]) j=if j=k then some v else lk ls j:=by
 induction ls with
 | nil =>
  by_cases e:j=k
  ·simp [lk,e]
  ·have b:¬ k=j:=fun h=>e h.symm;simp [lk,e,b]
 | cons y r a =>
  have a:=a (fun x d=>h x (by simp [d]));simp only [List.cons_append,lk,a];by_cases e:j=k
  ·subst e;simp [h y ν]
  ·simp [e]
theorem lk_set:∀ {ls:List (E4×Value×Nat)} {i:Nat} {x:E4×Value×Nat} {k j:E4} {v:Value},(ls.map (fun x=>x.1)).Nodup→ls[i]?=some x→x.1=k→lk (ls.set i (k,v,x.2.2)) j=if j=k then some v else lk ls j
 | [],_,_,_,_,_,_,h,_=>by simp at h
 | y :: r,0,x,k,j,v,_,h,hk=>by
  simp at h;subst h;by_cases e:j=k
  ·simp [lk,e]
  ·have b:¬ k=j:=fun h=>e h.symm;simp [lk,e,hk,b]
 | y :: r,i+1,x,k,j,v,hn,h,hk=>by
  simp only [List.getElem?_cons_succ] at h;simp only [List.map_cons,List.nodup_cons] at hn;have a:y.1≠k:=fun e=>hn.1 (List.mem_map.2 ⟨x,List.mem_of_getElem? h,hk.trans e.symm⟩);have c:=lk_set (j:=j) (v:=v) hn.2 h hk;simp only [List.set_cons_succ,lk,c];by_cases e:j=k
  ·subst e;simp [a]
  ·simp [e]
theorem set_keys {ls:List (E4×Value×Nat)} {x:E4×Value×Nat} (h:ls[i]?=some x) (v:Value):(ls.set i (x.1,v,x.2.2)).map (fun x=>x.1)=ls.map (fun x=>x.1)∧(ls.set i (x.1,v,x.2.2)).map (fun x=>x.2.2)=ls.map (fun x=>x.2.2):=by
 constructor
 ·rw [List.map_set];exact WideElems.set_self _ _ _ (by simp [h])
 ·rw [List.map_set];exact WideElems.set_self _ _ _ (by simp [h])
theorem Ux {ls:List (E4×Value×Nat)} (hg:Good ls c) (h:∀ x∈ls,x.1≠k):Good (ls ++ [(k,v,c)]) (c+1):=by
 obtain ⟨g1,g2,g3⟩:=hg;refine ⟨?_, ?_, ?_⟩
 ·rw [List.map_append,List.nodup_append];refine ⟨g1,ν,fun a e b hb=>?_⟩;obtain ⟨x,d,rfl⟩:=List.mem_map.1 e;simp at hb;subst hb;exact h x d
 ·rw [List.map_append,List.nodup_append];refine ⟨g2,ν,fun a e b hb=>?_⟩;obtain ⟨x,d,rfl⟩:=List.mem_map.1 e;simp at hb;subst hb;have:=g3 x d;omega
 ·intro x d;rcases List.mem_append.1 d with d | d
  ·have:=g3 x d;omega
  ·simp at d;subst d;simp
theorem good_set {ls:List (E4×Value×Nat)} {x:E4×Value×Nat} (hg:Good ls a) (h:ls[i]?=some x) (v:Value):Good (ls.set i (x.1,v,x.2.2)) a:=by
 obtain ⟨g1,g2,g3⟩:=hg;have b:=set_keys h v;refine ⟨b.1 ▸ g1,b.2 ▸ g2,fun y c=>?_⟩;have:y.2.2∈(ls.set i (x.1,v,x.2.2)).map (fun x=>x.2.2):=List.mem_map.2 ⟨y,c,rfl⟩;rw [b.2] at this;obtain ⟨z,d,e⟩:=List.mem_map.1 this;have:=g3 z d;omega
theorem findKey27 (x:Value) (a:List MapEntry) (w:World):(Instr.findKey 77 x a).run Tryz.prog w=(Instr.findAsking 77 x a).run Tryz.prog w:=by
 cases a with
 | nil=>simp [Instr.findKey,run_underlying Tryz.underlying77,Instr.findNow,Instr.findAsking]
 | cons e a=>simp [Instr.findKey,run_underlying Tryz.underlying77,Instr.findNow,Instr.sameNow]
theorem lookup27 (d:Tryz.prog.underlying T=some (.map 77 E)) (e:∀ u:World,(zeroValue E).run Tryz.prog u=.ok z u) {ls:List (E4×Value×Nat)} (h:EM w r ls a) (hg:Good ls a) (k:E4) :
  (Instr.lookup T (.map (some r)) (ek k) false).run Tryz.prog w=.ok ((lk ls k).getD z) w:=by
 unfold EM at h;have c:=fun em=>check27 em k w;rcases find27 k w ls 0 with ⟨h1,h2⟩ | ⟨j,x,h1,h2,h3⟩
 ·rw [lk_not h2];have b:(Instr.findKey 77 (ek k) (ls.map toE)).run Tryz.prog w=.ok none w:=(findKey27 _ _ _).trans h1;simp [Instr.lookup,run_underlying d,MapKept.run_getObj_map h,c,b,e,Result.andThen]
 ·rw [lk_at hg.1 h2 h3];have b:(Instr.findKey 77 (ek k) (ls.map toE)).run Tryz.prog w=.ok (some (j,x.2.1)) w:=(findKey27 _ _ _).trans (by simpa using h1);simp [Instr.lookup,run_underlying d,MapKept.run_getObj_map h,c,b,Result.andThen]
theorem Yc {a:Array MapEntry} (h:w.heap[r]?=some (.map a c)) (o:Obj):w.grownBy (setBlock w r o) (some r) :=
 ⟨rfl,rfl,rfl,by simp [setBlock],fun _ _ hi=>heap_setBlock_other h _ (fun e1=>hi (by rw [e1]))⟩
theorem entry27 (t:Tryz.prog.underlying T=some (.map 77 E)) (A:∀ u:World,(zeroValue E).run Tryz.prog u=.ok z u) {ls:List (E4×Value×Nat)} (h:EM w r ls a) (hg:Good ls a) (k:E4) :
  ∃ st ls1 clock1,(Instr.mapEntry T (.map (some r)) (ek k)).run Tryz.prog w=.ok (.tuple #[(lk ls k).getD z,goInt st]) (setBlock w r (.map (ls1.map toE).toArray clock1)) ∧
   ∀ val,∃ ls' clock',Good ls' clock'∧(∀ j,lk ls' j=if j=k then some val else lk ls j)∧(ls'.length=ls.length+if lk ls k=none then 1 else 0) ∧
    ∀ n,EM n r ls1 clock1→(Instr.entryStore T (.map (some r)) (goInt st) val).run Tryz.prog n=.ok () (setBlock n r (.map (ls'.map toE).toArray clock')):=by
 have hb:=h;unfold EM at hb;have s:=fun em=>check27 em k w;rcases find27 k w ls 0 with ⟨h1,h2⟩ | ⟨j,x,h1,h2,h3⟩
 ·have g:(Instr.findKey 77 (ek k) (ls.map toE)).run Tryz.prog w=.ok none w:=(findKey27 _ _ _).trans h1;refine ⟨a,ls ++ [(k,z,a)],a+1, ?_,fun val=>⟨ls ++ [(k,val,a)],a+1,Ux hg h2,fun j=>lk_push h2,by simp [lk_not h2],fun n b=>?_⟩⟩
  ·rw [lk_not h2];simp [Instr.mapEntry,run_underlying t,MapKept.run_getObj_map hb,s,g,A,MapKept.run_setObj_map _ hb,Result.andThen,setBlock,toE]
  ·unfold EM at b
   have c:((ls ++ [(k,z,a)]).map toE).toArray.findIdx? (fun e=>((e.born:Nat):Int) == ((a:Nat):Int))=some ls.length:=by
    rw [WideElems.findIdx_arr]
    have p:(((ls ++ [(k,z,a)]).map toE).map (fun e=>e.born)).Nodup:=by
     have:=(Ux (v:=z) hg h2).2.1;rw [List.map_map];exact this
    exact WideElems.findIdx_born p (j:=ls.length) (e0:=toE (k,z,a)) ν
   have d:((ls ++ [(k,z,a)]).map toE).toArray.modify ls.length (fun e=>{ e with val:=val })=((ls ++ [(k,val,a)]).map toE).toArray:=by
    apply Array.ext';rw [Array.toList_modify];have:=WideElems.modify_last (fun e:MapEntry=>{ e with val:=val }) (toE (k,z,a)) (ls.map toE);rw [List.length_map] at this;simpa [toE] using this
   simp only [Instr.entryStore,Sem.run_bind,MapKept.run_getObj_map b,Result.andThen,asInt,asIntOf,goInt,Sem.run_pure,c,d,MapKept.run_setObj_map _ b,setBlock]
 ·have g:(Instr.findKey 77 (ek k) (ls.map toE)).run Tryz.prog w=.ok (some (j,x.2.1)) w:=(findKey27 _ _ _).trans (by simpa using h1);have y:((ls.map toE).toArray)[j]?=some (toE x):=by simp [h2]
  have f:(ls.map toE)[j]?=some (toE x):=by simp [h2]
  have m:(toE x).key=ek k:=by simp [toE,h3]
  have l:(ls.map toE).toArray.modify j (fun e=>{ e with key:=ek k })=(ls.map toE).toArray:=by
   apply Array.ext';rw [Array.toList_modify];show (ls.map toE).modify j _=ls.map toE
   rw [modify_eq_set _ _ _ _ f];have:({ toE x with key:=ek k }:MapEntry)=toE x:=by rw [← m]
   rw [this];exact WideElems.set_self _ _ _ f
  have q:=stays27 k w;have e1:lk ls k=some x.2.1:=lk_at hg.1 h2 h3;refine ⟨x.2.2,ls,a, ?_,fun val=>⟨ls.set j (x.1,val,x.2.2),a,good_set hg h2 val,fun i=>by have:=lk_set (j:=i) (v:=val) hg.1 h2 h3;rwa [← h3] at this ⊢,by simp [e1],fun n b=>?_⟩⟩
  ·rw [e1];have o:(toE x).born=x.2.2:=rfl;simp only [Instr.mapEntry,Sem.run_bind,run_underlying t,MapKept.run_getObj_map hb,s,g,Result.andThen,y,Option.map_some,Option.getD_some,m,q,l,MapKept.run_setObj_map _ hb,Sem.run_pure,o,setBlock]
  ·unfold EM at b
   have c:(ls.map toE).toArray.findIdx? (fun e=>((e.born:Nat):Int) == ((x.2.2:Nat):Int))=some j:=by
    rw [WideElems.findIdx_arr]
    have p:((ls.map toE).map (fun e=>e.born)).Nodup:=by
     rw [List.map_map];exact hg.2.1
    exact WideElems.findIdx_born p (j:=j) (e0:=toE x) f
   have d:(ls.map toE).toArray.modify j (fun e=>{ e with val:=val })=((ls.set j (x.1,val,x.2.2)).map toE).toArray:=by
    apply Array.ext';rw [Array.toList_modify];show (ls.map toE).modify j _=(ls.set j (x.1,val,x.2.2)).map toE
    rw [modify_eq_set _ _ _ _ f,List.map_set];rfl
   simp only [Instr.entryStore,Sem.run_bind,MapKept.run_getObj_map b,Result.andThen,asInt,asIntOf,goInt,Sem.run_pure,c,d,MapKept.run_setObj_map _ b,setBlock]
theorem update27 (m:Tryz.prog.underlying T=some (.map 77 E)) {ls:List (E4×Value×Nat)} (h:EM w r ls a) (hg:Good ls a) (k:E4) (val:Value) :
  ∃ ls' clock',(Instr.mapUpdate T (.map (some r)) (ek k) val).run Tryz.prog w=.ok () (setBlock w r (.map (ls'.map toE).toArray clock'))∧Good ls' clock'∧(∀ j,lk ls' j=if j=k then some val else lk ls j)∧(ls'.length=ls.length+if lk ls k=none then 1 else 0):=by
 have hb:=h;unfold EM at hb;have l:=fun em=>check27 em k w;rcases find27 k w ls 0 with ⟨h1,h2⟩ | ⟨j,x,h1,h2,h3⟩
 ·have b:(Instr.findKey 77 (ek k) (ls.map toE)).run Tryz.prog w=.ok none w:=(findKey27 _ _ _).trans h1;refine ⟨ls ++ [(k,val,a)],a+1, ?_,Ux hg h2,fun j=>lk_push h2,by simp [lk_not h2]⟩;simp [Instr.mapUpdate,run_underlying m,MapKept.run_getObj_map hb,l,b,MapKept.run_setObj_map _ hb,Result.andThen,setBlock,toE]
 ·have b:(Instr.findKey 77 (ek k) (ls.map toE)).run Tryz.prog w=.ok (some (j,x.2.1)) w:=(findKey27 _ _ _).trans (by simpa using h1);have n:((ls.map toE).toArray)[j]?=some (toE x):=by simp [h2]
  have f:(ls.map toE)[j]?=some (toE x):=by simp [h2]
  have c:(toE x).key=ek k:=by simp [toE,h3]
  have e1:lk ls k=some x.2.1:=lk_at hg.1 h2 h3
  have d:(ls.map toE).toArray.modify j (fun e=>{ e with key:=ek k,val:=val })=((ls.set j (x.1,val,x.2.2)).map toE).toArray:=by
   apply Array.ext';rw [Array.toList_modify];show (ls.map toE).modify j _=(ls.set j (x.1,val,x.2.2)).map toE
   rw [modify_eq_set _ _ _ _ f,List.map_set,← c];rfl
  have g:=stays27 k w;refine ⟨ls.set j (x.1,val,x.2.2),a, ?_,good_set hg h2 val,fun i=>by have:=lk_set (j:=i) (v:=val) hg.1 h2 h3;rwa [← h3] at this ⊢,by simp [e1]⟩;simp only [Instr.mapUpdate,Sem.run_bind,run_underlying m,MapKept.run_getObj_map hb,l,b,Result.andThen,n,Option.map_some,Option.getD_some,c,g,d,MapKept.run_setObj_map _ hb,setBlock]
theorem em_made (w:World):EM (w.alloc (.map #[] 0)) w.heap.size [] 0:=(MapKept.heap_alloc w _).1
theorem good_nil:Good [] 0:=⟨ν,ν,ν⟩
def Tek (e:T3):Value:=.agg #[I e.1,I e.2.1,I e.2.2]
def TtoE (x:T3×Value×Nat):MapEntry:=⟨Tek x.1,x.2.1,x.2.2⟩
theorem Tequal27 (a b:T3) (w:World):(Op.equal 44 (Tek a) (Tek b)).run Tryz.prog w=.ok (decide (a=b)) w:=by
 obtain ⟨a0,a1,c⟩:=a;obtain ⟨b0,b1,b2⟩:=b;have h:=eql23 a0 a1 c b0 b1 b2 w;have e:sameT a0 a1 c b0 b1 b2=decide ((a0,a1,c)=(b0,b1,b2)):=by simp [sameT]
 rw [e] at h;unfold Tek;simp only [binOp,Sem.run_bind,Sem.run_pure] at h
 cases hr:(Op.equal 44 (.agg #[I a0,I a1,I c]) (.agg #[I b0,I b1,I b2])).run Tryz.prog w with
 | ok r w1 =>
  rw [hr] at h;simpa [Result.andThen] using h
 | halt x w1 =>
  rw [hr] at h;simp [Result.andThen] at h
theorem Tcheck27a (em:Bool) (n:Nat) (a b c:Int) (w:World):(Instr.checkKey em (n+2) 44 (.agg #[I a,I b,I c])).run Tryz.prog w=.ok () w:=by
 rw [show n+2=(n+1)+1 by omega];unfold Instr.checkKey;simp [run_underlying Tryz.underlying44,go_sem,checkInt]
theorem Tcheck27 (em:Bool) (a:T3) (w:World):(Instr.checkKey em 10000 44 (Tek a)).run Tryz.prog w=.ok () w:=Tcheck27a em 9998 _ _ _ w
theorem Tstays27 (a:T3) (w:World):(Instr.keyThatStays (Tek a) (Tek a)).run Tryz.prog w=.ok (Tek a) w:=by
 have:Instr.sameBits 10000 (Tek a) (Tek a)=true:=by
  unfold Tek;show Instr.sameBits (9999+1) _ _=true
  simp [Instr.sameBits]
 simp [Instr.keyThatStays,this]
theorem Tfind27 (k:T3) (w:World):∀ (ls:List (T3×Value×Nat)) (i:Nat),
  ((Instr.findAsking 44 (Tek k) (ls.map TtoE) i).run Tryz.prog w=.ok none w∧∀ x∈ls,x.1≠k) ∨
  ∃ j x,(Instr.findAsking 44 (Tek k) (ls.map TtoE) i).run Tryz.prog w=.ok (some (i+j,x.2.1)) w∧ls[j]?=some x∧x.1=k
 | [],i=>Or.inl ⟨by simp [Instr.findAsking],ν⟩
 | x :: r,i=>by
  by_cases h:k=x.1
  ·refine Or.inr ⟨0,x, ?_,rfl,h.symm⟩;have hq:=Tequal27 k x.1 w;rw [decide_eq_true h] at hq;rw [List.map_cons];simp only [Instr.findAsking,TtoE,Sem.run_bind,hq,Result.andThen];rfl
  ·have hq:=Tequal27 k x.1 w;rw [decide_eq_false h] at hq;rcases Tfind27 k w r (i+1) with ⟨h1,h2⟩ | ⟨j,y,h1,h2,h3⟩
   ·refine Or.inl ⟨?_, ?_⟩
    ·rw [List.map_cons];simp only [Instr.findAsking,TtoE,Sem.run_bind,hq,Result.andThen];exact h1
    ·intro y a;rcases List.mem_cons.1 a with rfl | a
     ·exact fun e=>h e.symm
     ·exact h2 y a
   ·refine Or.inr ⟨j+1,y, ?_,by simpa using h2,h3⟩;rw [List.map_cons];simp only [Instr.findAsking,TtoE,Sem.run_bind,hq,Result.andThen];rw [show i+(j+1)=i+1+j by omega];exact h1
def TEM (w:World) (r:Nat) (ls:List (T3×Value×Nat)) (clock:Nat):Prop:=w.heap[r]?=some (.map (ls.map TtoE).toArray clock)
def TGood (ls:List (T3×Value×Nat)) (clock:Nat):Prop:=(ls.map (fun x=>x.1)).Nodup∧(ls.map (fun x=>x.2.2)).Nodup∧∀ x∈ls,x.2.2<clock
def Tlk:List (T3×Value×Nat)→Int×Int×Int→Option Value
 | [],_=>none
 | x :: r,k=>if x.1=k then some x.2.1 else Tlk r k
theorem Tlk_not {k:T3}:∀ {ls:List (T3×Value×Nat)},(∀ x∈ls,x.1≠k)→Tlk ls k=none
 | [],_=>rfl
 | x :: r,h=>by simp [Tlk,h x ν,Tlk_not (ls:=r) (fun y a=>h y (by simp [a]))]
theorem Tlk_at {k:T3}:∀ {ls:List (T3×Value×Nat)} {j:Nat} {x:T3×Value×Nat},(ls.map (fun x=>x.1)).Nodup→ls[j]?=some x→x.1=k→Tlk ls k=some x.2.1
 | [],_,_,_,h,_=>by simp at h
 | y :: r,0,x,_,h,hk=>by
  simp at h;subst h;simp [Tlk,hk]
 | y :: r,j+1,x,hn,h,hk=>by
  simp only [List.getElem?_cons_succ] at h;simp only [List.map_cons,List.nodup_cons] at hn;have a:y.1≠k:=fun e=>hn.1 (List.mem_map.2 ⟨x,List.mem_of_getElem? h,hk.trans e.symm⟩);simp [Tlk,a,Tlk_at hn.2 h hk]
theorem Tlk_push {ls:List (T3×Value×Nat)} {k j:T3} (h:∀ x∈ls,x.1≠k):Tlk (ls ++ [(k,v,c)]) j=if j=k then some v else Tlk ls j:=by
 induction ls with
 | nil =>
  by_cases e:j=k
  ·simp [Tlk,e]
  ·have b:¬ k=j:=fun h=>e h.symm;simp [Tlk,e,b]
 | cons y r a =>
  have a:=a (fun x d=>h x (by simp [d]));simp only [List.cons_append,Tlk,a];by_cases e:j=k
  ·subst e;simp [h y ν]
  ·simp [e]
theorem Tlk_set:∀ {ls:List (T3×Value×Nat)} {i:Nat} {x:T3×Value×Nat} {k j:T3} {v:Value},(ls.map (fun x=>x.1)).Nodup→ls[i]?=some x→x.1=k→Tlk (ls.set i (k,v,x.2.2)) j=if j=k then some v else Tlk ls j
 | [],_,_,_,_,_,_,h,_=>by simp at h
 | y :: r,0,x,k,j,v,_,h,hk=>by
  simp at h;subst h;by_cases e:j=k
  ·simp [Tlk,e]
  ·have b:¬ k=j:=fun h=>e h.symm;simp [Tlk,e,hk,b]
 | y :: r,i+1,x,k,j,v,hn,h,hk=>by
  simp only [List.getElem?_cons_succ] at h;simp only [List.map_cons,List.nodup_cons] at hn;have a:y.1≠k:=fun e=>hn.1 (List.mem_map.2 ⟨x,List.mem_of_getElem? h,hk.trans e.symm⟩);have c:=Tlk_set (j:=j) (v:=v) hn.2 h hk;simp only [List.set_cons_succ,Tlk,c];by_cases e:j=k
  ·subst e;simp [a]
  ·simp [e]
theorem Tset_keys {ls:List (T3×Value×Nat)} {x:T3×Value×Nat} (h:ls[i]?=some x) (v:Value):(ls.set i (x.1,v,x.2.2)).map (fun x=>x.1)=ls.map (fun x=>x.1)∧(ls.set i (x.1,v,x.2.2)).map (fun x=>x.2.2)=ls.map (fun x=>x.2.2):=by
 constructor
 ·rw [List.map_set];exact WideElems.set_self _ _ _ (by simp [h])
 ·rw [List.map_set];exact WideElems.set_self _ _ _ (by simp [h])
theorem Tgood_push {ls:List (T3×Value×Nat)} {k:T3} (hg:TGood ls c) (h:∀ x∈ls,x.1≠k):TGood (ls ++ [(k,v,c)]) (c+1):=by
 obtain ⟨g1,g2,g3⟩:=hg;refine ⟨?_, ?_, ?_⟩
 ·rw [List.map_append,List.nodup_append];refine ⟨g1,ν,fun a e b hb=>?_⟩;obtain ⟨x,d,rfl⟩:=List.mem_map.1 e;simp at hb;subst hb;exact h x d
 ·rw [List.map_append,List.nodup_append];refine ⟨g2,ν,fun a e b hb=>?_⟩;obtain ⟨x,d,rfl⟩:=List.mem_map.1 e;simp at hb;subst hb;have:=g3 x d;omega
 ·intro x d;rcases List.mem_append.1 d with d | d
  ·have:=g3 x d;omega
  ·simp at d;subst d;simp
theorem Tgood_set {ls:List (T3×Value×Nat)} {x:T3×Value×Nat} (hg:TGood ls a) (h:ls[i]?=some x) (v:Value):TGood (ls.set i (x.1,v,x.2.2)) a:=by
 obtain ⟨g1,g2,g3⟩:=hg;have b:=Tset_keys h v;refine ⟨b.1 ▸ g1,b.2 ▸ g2,fun y c=>?_⟩;have:y.2.2∈(ls.set i (x.1,v,x.2.2)).map (fun x=>x.2.2):=List.mem_map.2 ⟨y,c,rfl⟩;rw [b.2] at this;obtain ⟨z,d,e⟩:=List.mem_map.1 this;have:=g3 z d;omega
theorem TfindKey27 (x:Value) (a:List MapEntry) (w:World):(Instr.findKey 44 x a).run Tryz.prog w=(Instr.findAsking 44 x a).run Tryz.prog w:=by
 cases a with
 | nil=>simp [Instr.findKey,Instr.findNow,Instr.findAsking]
 | cons e a=>simp [Instr.findKey,Instr.findNow,Instr.sameNow]
theorem Tentry27 (t:Tryz.prog.underlying T=some (.map 44 E)) (A:∀ u:World,(zeroValue E).run Tryz.prog u=.ok z u) {ls:List (T3×Value×Nat)} (h:TEM w r ls a) (hg:TGood ls a) (k:T3) :
  ∃ st ls1 clock1,(Instr.mapEntry T (.map (some r)) (Tek k)).run Tryz.prog w=.ok (.tuple #[(Tlk ls k).getD z,goInt st]) (setBlock w r (.map (ls1.map TtoE).toArray clock1)) ∧
   ∀ val,∃ ls' clock',TGood ls' clock'∧(∀ j,Tlk ls' j=if j=k then some val else Tlk ls j)∧(ls'.length=ls.length+if Tlk ls k=none then 1 else 0) ∧
    ∀ n,TEM n r ls1 clock1→(Instr.entryStore T (.map (some r)) (goInt st) val).run Tryz.prog n=.ok () (setBlock n r (.map (ls'.map TtoE).toArray clock')):=by
 have hb:=h;unfold TEM at hb;have s:=fun em=>Tcheck27 em k w;rcases Tfind27 k w ls 0 with ⟨h1,h2⟩ | ⟨j,x,h1,h2,h3⟩
 ·have g:(Instr.findKey 44 (Tek k) (ls.map TtoE)).run Tryz.prog w=.ok none w:=(TfindKey27 _ _ _).trans h1;refine ⟨a,ls ++ [(k,z,a)],a+1, ?_,fun val=>⟨ls ++ [(k,val,a)],a+1,Tgood_push hg h2,fun j=>Tlk_push h2,by simp [Tlk_not h2],fun n b=>?_⟩⟩
  ·rw [Tlk_not h2];simp [Instr.mapEntry,run_underlying t,MapKept.run_getObj_map hb,s,g,A,MapKept.run_setObj_map _ hb,Result.andThen,setBlock,TtoE]
  ·unfold TEM at b
   have c:((ls ++ [(k,z,a)]).map TtoE).toArray.findIdx? (fun e=>((e.born:Nat):Int) == ((a:Nat):Int))=some ls.length:=by
    rw [WideElems.findIdx_arr]
    have p:(((ls ++ [(k,z,a)]).map TtoE).map (fun e=>e.born)).Nodup:=by
     have:=(Tgood_push (v:=z) hg h2).2.1;rw [List.map_map];exact this
    exact WideElems.findIdx_born p (j:=ls.length) (e0:=TtoE (k,z,a)) ν
   have d:((ls ++ [(k,z,a)]).map TtoE).toArray.modify ls.length (fun e=>{ e with val:=val })=((ls ++ [(k,val,a)]).map TtoE).toArray:=by
    apply Array.ext';rw [Array.toList_modify];have:=WideElems.modify_last (fun e:MapEntry=>{ e with val:=val }) (TtoE (k,z,a)) (ls.map TtoE);rw [List.length_map] at this;simpa [TtoE] using this
   simp only [Instr.entryStore,Sem.run_bind,MapKept.run_getObj_map b,Result.andThen,asInt,asIntOf,goInt,Sem.run_pure,c,d,MapKept.run_setObj_map _ b,setBlock]
 ·have g:(Instr.findKey 44 (Tek k) (ls.map TtoE)).run Tryz.prog w=.ok (some (j,x.2.1)) w:=(TfindKey27 _ _ _).trans (by simpa using h1);have y:((ls.map TtoE).toArray)[j]?=some (TtoE x):=by simp [h2]
  have f:(ls.map TtoE)[j]?=some (TtoE x):=by simp [h2]
  have m:(TtoE x).key=Tek k:=by simp [TtoE,h3]
  have l:(ls.map TtoE).toArray.modify j (fun e=>{ e with key:=Tek k })=(ls.map TtoE).toArray:=by
   apply Array.ext';rw [Array.toList_modify];show (ls.map TtoE).modify j _=ls.map TtoE
   rw [modify_eq_set _ _ _ _ f];have:({ TtoE x with key:=Tek k }:MapEntry)=TtoE x:=by rw [← m]
   rw [this];exact WideElems.set_self _ _ _ f
  have q:=Tstays27 k w;have e1:Tlk ls k=some x.2.1:=Tlk_at hg.1 h2 h3;refine ⟨x.2.2,ls,a, ?_,fun val=>⟨ls.set j (x.1,val,x.2.2),a,Tgood_set hg h2 val,fun i=>by have:=Tlk_set (j:=i) (v:=val) hg.1 h2 h3;rwa [← h3] at this ⊢,by simp [e1],fun n b=>?_⟩⟩
  ·rw [e1];have o:(TtoE x).born=x.2.2:=rfl;simp only [Instr.mapEntry,Sem.run_bind,run_underlying t,MapKept.run_getObj_map hb,s,g,Result.andThen,y,Option.map_some,Option.getD_some,m,q,l,MapKept.run_setObj_map _ hb,Sem.run_pure,o,setBlock]
  ·unfold TEM at b
   have c:(ls.map TtoE).toArray.findIdx? (fun e=>((e.born:Nat):Int) == ((x.2.2:Nat):Int))=some j:=by
    rw [WideElems.findIdx_arr]
    have p:((ls.map TtoE).map (fun e=>e.born)).Nodup:=by
     rw [List.map_map];exact hg.2.1
    exact WideElems.findIdx_born p (j:=j) (e0:=TtoE x) f
   have d:(ls.map TtoE).toArray.modify j (fun e=>{ e with val:=val })=((ls.set j (x.1,val,x.2.2)).map TtoE).toArray:=by
    apply Array.ext';rw [Array.toList_modify];show (ls.map TtoE).modify j _=(ls.set j (x.1,val,x.2.2)).map TtoE
    rw [modify_eq_set _ _ _ _ f,List.map_set];rfl
   simp only [Instr.entryStore,Sem.run_bind,MapKept.run_getObj_map b,Result.andThen,asInt,asIntOf,goInt,Sem.run_pure,c,d,MapKept.run_setObj_map _ b,setBlock]
end Go.Proofs.YtbjmnlefkbhbdaaGreatDoor
