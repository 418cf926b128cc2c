/- A part of it. -/
import Derived.Test.YtnpboeodhpenmaaGreatDoorQlab
import Derived.Test.YtnpboeodhpenmaaGreatDoorQlac
set_option maxRecDepth 100000
set_option maxHeartbeats 40000000
namespace Go.Proofs.YtnpboeodhpenmaaGreatDoor
open Go.RowKit
variable {w:World} {a p:Addr} {v:Value}
attribute [local go_sem ↓] Go.wp_at_zero Go.wp_at_succ
def Twl (w:World) (g:Nat) (v0 v1 v2 v3 v4 v5 v6 v7 v8 v9 v10 v11:Int):Prop :=
 At w g 0 (I v0)∧At w g 1 (I v1)∧At w g 2 (I v2)∧At w g 3 (I v3)∧At w g 4 (I v4)∧At w g 5 (I v5)∧At w g 6 (I v6)∧At w g 7 (I v7)∧At w g 8 (I v8)∧At w g 9 (I v9)∧At w g 10 (I v10)∧At w g 11 (I v11)
theorem Twl.kept {m:World} {g:Nat} {v0 f i v3 v4 v5 j k l v9 b c:Int} (h:Twl w g v0 f i v3 v4 v5 j k l v9 b c) (a:Bl w m):Twl m g v0 f i v3 v4 v5 j k l v9 b c:=by
 obtain ⟨h0,h1,h2,h3,h4,h5,h6,n,o,p,d,e⟩:=h;exact ⟨Qa a h0,Qa a h1,Qa a h2,Qa a h3,Qa a h4,Qa a h5,Qa a h6,Qa a n,Qa a o,Qa a p,Qa a d,Qa a e⟩
theorem cornersOfW_any (x y k:Int) (w:World) (b1 : -4000000≤x) (b2:x≤4000000) (b3 : -4000000≤y) (b4:y≤4000000) (k0:0≤k) (k3:k≤3) :
  Cl 129 #[.agg #[I x,I y,I k]] w fun e w'=>∃ g,e=.returned (.slice (Az g) 3 3)∧w.heap.size≤g∧Mp w' g (2*x+1) (2*y+1) (c1x x k) (c1y y k) (c2x x k) (c2y y k)∧Bl w w':=by
 have b:k=0∨k=1∨k=2∨k=3:=γ;rcases b with rfl | rfl | rfl | rfl
 ·have e1:c1x x 0=2*x:=by simp [c1x,stX] <;> omega
  have e2:c1y y 0=2*y:=by simp [c1y,stY] <;> omega
  have e3:c2x x 0=2*x+2:=by simp [c2x,stX] <;> omega
  have a:c2y y 0=2*y:=by simp [c2y,stY] <;> omega
  rw [e1,e2,e3,a];exact Jl x y w b1 b2 b3 b4
 ·have e1:c1x x 1=2*x+2:=by simp [c1x,stX] <;> omega
  have e2:c1y y 1=2*y:=by simp [c1y,stY] <;> omega
  have e3:c2x x 1=2*x+2:=by simp [c2x,stX] <;> omega
  have a:c2y y 1=2*y+2:=by simp [c2y,stY] <;> omega
  rw [e1,e2,e3,a];exact Jx x y w b1 b2 b3 b4
 ·have e1:c1x x 2=2*x+2:=by simp [c1x,stX] <;> omega
  have e2:c1y y 2=2*y+2:=by simp [c1y,stY] <;> omega
  have e3:c2x x 2=2*x:=by simp [c2x,stX] <;> omega
  have a:c2y y 2=2*y+2:=by simp [c2y,stY] <;> omega
  rw [e1,e2,e3,a];exact Yb x y w b1 b2 b3 b4
 ·have e1:c1x x 3=2*x:=by simp [c1x,stX] <;> omega
  have e2:c1y y 3=2*y+2:=by simp [c1y,stY] <;> omega
  have e3:c2x x 3=2*x:=by simp [c2x,stX] <;> omega
  have a:c2y y 3=2*y:=by simp [c2y,stY] <;> omega
  rw [e1,e2,e3,a];exact Vl x y w b1 b2 b3 b4
theorem Xs (x y k:Int) (w:World) (b1 : -4000000≤x) (b2:x≤4000000) (b3 : -4000000≤y) (b4:y≤4000000) (k0:0≤k) (k3:k≤3) :
  Cl 123 #[.agg #[I x,I y,I k]] w fun e w'=>∃ g,e=.returned (.slice (Az g) 3 3)∧w.heap.size≤g∧Twl w' g (ue0 x y k) (ue1 x y k) (ue2 x y k) (ue3 x y k) (ue4 x y k) (ue5 x y k) (ue6 x y k) (ue7 x y k) (ue8 x y k) (ue9 x y k) (ue10 x y k) (ue11 x y k)∧Bl w w':=by
 have a:=Hd (fun (W:World)=>cornersOfW_any x y k W b1 b2 b3 b4 k0 k3);clear b1 b2 b3 b4 k0 k3;go_enter Tryz.func123,Tryz.ntmps123;go_wp2_with (go_at_call 129;refine (a.out _).mono ?_;rintro r w1 ⟨g,rfl,hg,d,b⟩;have c:Hid (w.heap.size≤w1.heap.size∧Bl w w1):=⟨(Qc β1 b).size,Qc β1 b⟩;clear b hg;have t:=d.lt;obtain ⟨f,h,i,j,l,m⟩:=d)
 go_region_held3 (fun w'=>At w' g 0 (I (2*x+1))∧At w' g 1 (I (2*y+1))∧At w' g 2 (I (c1x x k))∧At w' g 3 (I (c1y y k))∧At w' g 4 (I (c2x x k))∧At w' g 5 (I (c2y y k)))
  ((refine ⟨?_, ?_, ?_, ?_, ?_, ?_⟩ <;> (with_reducible (repeat (first | assumption | refine Qk ?_ | refine Qq ?_)))))
  (first | (go_at_call 131;refine (edgeOf_num _ _ _ _ _).mono ?_;rintro r s ⟨rfl,o3,n,o,p,q,rfl⟩))
 all_goals
  go_wp2;go_ret;refine ⟨_,rfl, ?_, ?_, ?_⟩
  ·have:=c.out.1;simp;try omega
  ·simp [Twl,go_sem,ue0,ue1,ue2,ue3,ue4,ue5,ue6,ue7,ue8,ue9,ue10,ue11]
  ·with_reducible repeat' (first | exact c.out.2 | refine Qb ?_ | refine Qg ?_)
theorem eql27 (a b c d p q r s:Int) (w:World) :
  (binOp .eql 42 (.agg #[I a,I b,I c,I d]) (.agg #[I p,I q,I r,I s])).run Tryz.prog w=.ok (.bool (sameB a b c d p q r s)) w:=by
 by_cases h1:a=p
 ·subst h1;by_cases h2:b=q
  ·subst h2;by_cases h3:c=r
   ·subst h3;by_cases h4:d=s
    ·subst h4;simp [go_sem,sameB]
    ·have e:(d == s)=false:=by simpa using h4
     simp [go_sem,sameB,e,h4]
   ·have e:(c == r)=false:=by simpa using h3
    simp [go_sem,sameB,e,h3]
  ·have e:(b == q)=false:=by simpa using h2
   simp [go_sem,sameB,e,h2]
 ·have e:(a == p)=false:=by simpa using h1
  simp [go_sem,sameB,e,h1]
def sameT (x y k X Y K:Int):Bool:=decide (x=X∧y=Y∧k=K)
theorem neq23 (x y k X Y K:Int) (w:World) :
  (binOp .neq 51 (.agg #[I x,I y,I k]) (.agg #[I X,I Y,I K])).run Tryz.prog w=.ok (.bool (!sameT x y k X Y K)) w:=by
 by_cases h1:x=X
 ·subst h1;by_cases h2:y=Y
  ·subst h2;by_cases h3:k=K
   ·subst h3;simp [go_sem,sameT]
   ·have e:(k == K)=false:=by simpa using h3
    simp [go_sem,sameT,e,h3]
  ·have e:(y == Y)=false:=by simpa using h2
   simp [go_sem,sameT,e,h2]
 ·have e:(x == X)=false:=by simpa using h1
  simp [go_sem,sameT,e,h1]
theorem eql23 (x y k X Y K:Int) (w:World) :
  (binOp .eql 51 (.agg #[I x,I y,I k]) (.agg #[I X,I Y,I K])).run Tryz.prog w=.ok (.bool (sameT x y k X Y K)) w:=by
 by_cases h1:x=X
 ·subst h1;by_cases h2:y=Y
  ·subst h2;by_cases h3:k=K
   ·subst h3;simp [go_sem,sameT]
   ·have e:(k == K)=false:=by simpa using h3
    simp [go_sem,sameT,e,h3]
  ·have e:(y == Y)=false:=by simpa using h2
   simp [go_sem,sameT,e,h2]
 ·have e:(x == X)=false:=by simpa using h1
  simp [go_sem,sameT,e,h1]
theorem hasEdge_a (x y k p q r s:Int) (w:World) (b1 : -4000000≤x) (b2:x≤4000000) (b3 : -4000000≤y) (b4:y≤4000000) (k0:0≤k) (k3:k≤3) (h0:sameB (ue0 x y k) (ue1 x y k) (ue2 x y k) (ue3 x y k) p q r s=true) :
  Rt 219 #[.agg #[I x,I y,I k],.agg #[I p,I q,I r,I s]] w (.bool true):=by
 have b:=Hd (fun (W:World)=>Xs x y k W b1 b2 b3 b4 k0 k3);clear b1 b2 b3 b4 k0 k3;have h:=eql27;go_enter Tryz.func219,Tryz.ntmps219;go_wp2_with (go_at_call 123;refine (b.out _).mono ?_;rintro r w1 ⟨g,rfl,hg,d,a⟩;have c0:At w1 (w.heap.size+1) 0 (I p):=Qa a δ;have c1:At w1 (w.heap.size+1) 1 (I q):=Qa a δ;have c2:At w1 (w.heap.size+1) 2 (I r):=Qa a δ;have c3:At w1 (w.heap.size+1) 3 (I s):=Qa a δ;have c:=Hd (Qc β2 a);clear a hg;obtain ⟨i,j,l,m,n,o,t,u,v,z,e,f⟩:=d)
 go_quiet (fail)
 go_wp2;go_ret;refine ⟨rfl, ?_⟩;with_reducible repeat' (first | exact c.out | refine Qb ?_ | refine Qr ?_ | refine Qg ?_)
theorem hasEdge_b (x y k p q r s:Int) (w:World) (b1 : -4000000≤x) (b2:x≤4000000) (b3 : -4000000≤y) (b4:y≤4000000) (k0:0≤k) (k3:k≤3) (h0:sameB (ue0 x y k) (ue1 x y k) (ue2 x y k) (ue3 x y k) p q r s=false) (h1:sameB (ue4 x y k) (ue5 x y k) (ue6 x y k) (ue7 x y k) p q r s=true) :
  Rt 219 #[.agg #[I x,I y,I k],.agg #[I p,I q,I r,I s]] w (.bool true):=by
 have b:=Hd (fun (W:World)=>Xs x y k W b1 b2 b3 b4 k0 k3);clear b1 b2 b3 b4 k0 k3;have h:=eql27;go_enter Tryz.func219,Tryz.ntmps219;go_wp2_with (go_at_call 123;refine (b.out _).mono ?_;rintro r w1 ⟨g,rfl,hg,d,a⟩;have c0:At w1 (w.heap.size+1) 0 (I p):=Qa a δ;have c1:At w1 (w.heap.size+1) 1 (I q):=Qa a δ;have c2:At w1 (w.heap.size+1) 2 (I r):=Qa a δ;have c3:At w1 (w.heap.size+1) 3 (I s):=Qa a δ;have c:=Hd (Qc β2 a);clear a hg;obtain ⟨i,j,l,m,n,o,t,u,v,z,e,f⟩:=d)
 go_quiet (fail)
 go_wp2;go_ret;refine ⟨rfl, ?_⟩;with_reducible repeat' (first | exact c.out | refine Qb ?_ | refine Qr ?_ | refine Qg ?_)
theorem hasEdge_c (x y k p q r s:Int) (w:World) (b1 : -4000000≤x) (b2:x≤4000000) (b3 : -4000000≤y) (b4:y≤4000000) (k0:0≤k) (k3:k≤3) (h0:sameB (ue0 x y k) (ue1 x y k) (ue2 x y k) (ue3 x y k) p q r s=false) (h1:sameB (ue4 x y k) (ue5 x y k) (ue6 x y k) (ue7 x y k) p q r s=false) :
  Rt 219 #[.agg #[I x,I y,I k],.agg #[I p,I q,I r,I s]] w (.bool (sameB (ue8 x y k) (ue9 x y k) (ue10 x y k) (ue11 x y k) p q r s)):=by
 have b:=Hd (fun (W:World)=>Xs x y k W b1 b2 b3 b4 k0 k3);clear b1 b2 b3 b4 k0 k3;have h:=eql27;go_enter Tryz.func219,Tryz.ntmps219;go_wp2_with (go_at_call 123;refine (b.out _).mono ?_;rintro r w1 ⟨g,rfl,hg,d,a⟩;have c0:At w1 (w.heap.size+1) 0 (I p):=Qa a δ;have c1:At w1 (w.heap.size+1) 1 (I q):=Qa a δ;have c2:At w1 (w.heap.size+1) 2 (I r):=Qa a δ;have c3:At w1 (w.heap.size+1) 3 (I s):=Qa a δ;have c:=Hd (Qc β2 a);clear a hg;obtain ⟨i,j,l,m,n,o,t,u,v,z,e,f⟩:=d)
 go_quiet (fail)
 go_wp2;go_ret;refine ⟨rfl, ?_⟩;with_reducible repeat' (first | exact c.out | refine Qb ?_ | refine Qr ?_ | refine Qg ?_)
theorem Vx (x y k p q r s:Int) (w:World) (b1 : -4000000≤x) (b2:x≤4000000) (b3 : -4000000≤y) (b4:y≤4000000) (k0:0≤k) (k3:k≤3) :
  Rt 219 #[.agg #[I x,I y,I k],.agg #[I p,I q,I r,I s]] w (.bool (hasB x y k p q r s)):=by
 have a:e0 x y k p q r s=sameB (ue0 x y k) (ue1 x y k) (ue2 x y k) (ue3 x y k) p q r s:=rfl;have b:e1 x y k p q r s=sameB (ue4 x y k) (ue5 x y k) (ue6 x y k) (ue7 x y k) p q r s:=rfl;have c:e2 x y k p q r s=sameB (ue8 x y k) (ue9 x y k) (ue10 x y k) (ue11 x y k) p q r s:=rfl;unfold hasB;rw [a,b,c]
 cases h0:sameB (ue0 x y k) (ue1 x y k) (ue2 x y k) (ue3 x y k) p q r s
 ·cases h1:sameB (ue4 x y k) (ue5 x y k) (ue6 x y k) (ue7 x y k) p q r s
  ·exact hasEdge_c x y k p q r s w b1 b2 b3 b4 k0 k3 h0 h1
  ·exact hasEdge_b x y k p q r s w b1 b2 b3 b4 k0 k3 h0 h1
 ·exact hasEdge_a x y k p q r s w b1 b2 b3 b4 k0 k3 h0
theorem Gm (v0 e f v3 v4 v5:Int) (g:Nat) (w:World) (d:∀ W:World,Bl w W→Rt 282 #[.pointer (Az g)] W (.tuple #[.agg #[I v0,I e,I f,I v3,I v4,I v5],I 0])) :
  Rt 281 #[.bool true,.func (.func 282) #[] #[.pointer (Az g)]] w (.tuple #[.agg #[I v0,I e,I f,I v3,I v4,I v5],I 0]):=by
 have i:=Hd d;clear d;go_enter Tryz.func281,Tryz.ntmps281;go_wp2_with (go_at_call 282;refine (i.out _ β2).mono ?_;rintro r c ⟨rfl,b⟩;have r0:At c w.heap.size 0 (I 0):=Qa b ε;have j:=Fk w.heap.size 0 b;have r1:At c w.heap.size 1 (I 0):=Qa b ε;have k:=Fk w.heap.size 1 b;have r2:At c w.heap.size 2 (I 0):=Qa b ε;have l:=Fk w.heap.size 2 b;have r3:At c w.heap.size 3 (I 0):=Qa b ε;have m:=Fk w.heap.size 3 b;have y:At c w.heap.size 4 (I 0):=Qa b ε;have n:=Fk w.heap.size 4 b;have z:At c w.heap.size 5 (I 0):=Qa b ε;have o:=Fk w.heap.size 5 b;have p:w.heap.size<c.heap.size:=World.block_lt_of_cell? (w:=c) (a:=⟨w.heap.size,0,none⟩) r0;have q:w.heap.size<c.heap.size+1:=γ;have s:w.heap.size<c.heap.size+1+1:=γ;have t:w.heap.size<c.heap.size+1+1+1:=γ;have u:w.heap.size<c.heap.size+1+1+1+1:=γ;have x:w.heap.size<c.heap.size+1+1+1+1+1:=γ;have h:=Hd (Qc β2 b);clear b)
 refine bodyPost_ret (v:=.tuple #[.agg #[I v0,I e,I f,I v3,I v4,I v5],I 0]) ?_ rfl ⟨rfl, ?_⟩
 ·first | (simp [results,Tryz.results281,go_sem, *];done) | (simp [results,Tryz.results281,go_sem,Ca, *];done)
 ·with_reducible repeat' (first | exact h.out | refine Qh ?_ ?_ | refine Qb ?_ | refine Qg ?_)
  all_goals (first | (simp;done) | (simp;omega))
theorem Corners1_yes (x y k:Int) (e:Nat) (w:World) (h:triB x y k=true) (hs:Steps w) (d:Tr w e x y k) :
  Rt 282 #[.pointer (Az e)] w (.tuple #[.agg #[I (2*x+1),I (2*y+1),I (c1x x k),I (c1y y k),I (c2x x k),I (c2y y k)],I 0]):=by
 have C:=d.lt;obtain ⟨b0,b1,b2⟩:=d;have g:=Hd hs;clear hs;go_enter Tryz.func282,Tryz.ntmps282;go_wp2_with (go_at_call 94;refine (Qar _ _ _ _ h (g.out.kept β1)).mono ?_;rintro r c ⟨rfl,b⟩;have r0:At c w.heap.size 0 (I 0):=Qa b ε;have i:=Fk w.heap.size 0 b;have r1:At c w.heap.size 1 (I 0):=Qa b ε;have j:=Fk w.heap.size 1 b;have r2:At c w.heap.size 2 (I 0):=Qa b ε;have l:=Fk w.heap.size 2 b;have r3:At c w.heap.size 3 (I 0):=Qa b ε;have m:=Fk w.heap.size 3 b;have A:At c w.heap.size 4 (I 0):=Qa b ε;have n:=Fk w.heap.size 4 b;have B:At c w.heap.size 5 (I 0):=Qa b ε;have o:=Fk w.heap.size 5 b;have p:w.heap.size<c.heap.size:=World.block_lt_of_cell? (w:=c) (a:=⟨w.heap.size,0,none⟩) r0;have q:w.heap.size<c.heap.size+1:=γ;have s:w.heap.size<c.heap.size+1+1:=γ;have t:w.heap.size<c.heap.size+1+1+1:=γ;have u:w.heap.size<c.heap.size+1+1+1+1:=γ;have z:w.heap.size<c.heap.size+1+1+1+1+1:=γ;have f:=Hd (Qc β1 b);clear b)
 refine bodyPost_ret (v:=.tuple #[.agg #[I (2*x+1),I (2*y+1),I (c1x x k),I (c1y y k),I (c2x x k),I (c2y y k)],I 0]) ?_ rfl ⟨rfl, ?_⟩
 ·first | (simp [results,Tryz.results282,go_sem, *];done) | (simp [results,Tryz.results282,go_sem,Ca, *];done)
 ·with_reducible repeat' (first | exact f.out | refine Qh ?_ ?_ | refine Qb ?_ | refine Qg ?_)
  all_goals (first | (simp;done) | (simp;omega))
theorem Corners_yes (x y k:Int) (w:World) (h:triB x y k=true) (hs:Steps w) :
  Rt 255 #[.agg #[I x,I y,I k]] w (.tuple #[.agg #[I (2*x+1),I (2*y+1),I (c1x x k),I (c1y y k),I (c2x x k),I (c2y y k)],I 0]):=by
 have p:=Jf;have g:Hid (∀ (e:Nat) (W:World),Bl w W→Tr W e x y k→Rt 282 #[.pointer (Az e)] W (.tuple #[.agg #[I (2*x+1),I (2*y+1),I (c1x x k),I (c1y y k),I (c2x x k),I (c2y y k)],I 0])):=fun e W d q=>Corners1_yes x y k e W h (hs.kept d) q;clear hs;go_enter Tryz.func255,Tryz.ntmps255;go_wp2_with (first | (go_at_call 88;refine (Xd _ _ _ _).mono ?_;rintro r E ⟨rfl,o2,rfl⟩) | (go_at_call 281;refine (Gm _ _ _ _ _ _ _ _ (fun W d=>g.out _ W (Qc β3 d) (Tr.kept γ8 d))).mono ?_;rintro r c ⟨rfl,b⟩;have r0:At c (w.heap.size+1) 0 (I 0):=Qa b ε;have i:=Fk (w.heap.size+1) 0 b;have r1:At c (w.heap.size+1) 1 (I 0):=Qa b ε;have j:=Fk (w.heap.size+1) 1 b;have r2:At c (w.heap.size+1) 2 (I 0):=Qa b ε;have l:=Fk (w.heap.size+1) 2 b;have r3:At c (w.heap.size+1) 3 (I 0):=Qa b ε;have m:=Fk (w.heap.size+1) 3 b;have C:At c (w.heap.size+1) 4 (I 0):=Qa b ε;have n:=Fk (w.heap.size+1) 4 b;have D:At c (w.heap.size+1) 5 (I 0):=Qa b ε;have o:=Fk (w.heap.size+1) 5 b;have s:w.heap.size+1<c.heap.size:=World.block_lt_of_cell? (w:=c) (a:=⟨w.heap.size+1,0,none⟩) r0;have t:w.heap.size+1<c.heap.size+1:=γ;have u:w.heap.size+1<c.heap.size+1+1:=γ;have z:w.heap.size+1<c.heap.size+1+1+1:=γ;have A:w.heap.size+1<c.heap.size+1+1+1+1:=γ;have B:w.heap.size+1<c.heap.size+1+1+1+1+1:=γ;have f:=Hd (Qc β3 b);clear b))
 refine bodyPost_ret (v:=.tuple #[.agg #[I (2*x+1),I (2*y+1),I (c1x x k),I (c1y y k),I (c2x x k),I (c2y y k)],I 0]) ?_ rfl ⟨rfl, ?_⟩
 ·first | (simp [results,Tryz.results255,go_sem, *];done) | (simp [results,Tryz.results255,go_sem,Ca, *];done)
 ·with_reducible repeat' (first | exact f.out | refine Qh ?_ ?_ | refine Qb ?_ | refine Qg ?_)
  all_goals (first | (simp;done) | (simp;omega))
theorem edges_num (x y k:Int) (w:World) (h:triB x y k=true) (hs:Steps w) :
  Rt 280 #[.agg #[I x,I y,I k]] w (.agg #[I (ue0 x y k),I (ue1 x y k),I (ue2 x y k),I (ue3 x y k),I (ue4 x y k),I (ue5 x y k),I (ue6 x y k),I (ue7 x y k),I (ue8 x y k),I (ue9 x y k),I (ue10 x y k),I (ue11 x y k)]):=edges_any x y k w h hs
theorem Qbh (v0 g h v3 v4 v5 i j k v9 e f:Int) (n:Nat) (w:World) (d:∀ W:World,Bl w W→Rt 279 #[.pointer (Az n)] W (.tuple #[.agg #[I v0,I g,I h,I v3,I v4,I v5,I i,I j,I k,I v9,I e,I f],I 0])) :
  Rt 278 #[.bool true,.func (.func 279) #[] #[.pointer (Az n)]] w (.tuple #[.agg #[I v0,I g,I h,I v3,I v4,I v5,I i,I j,I k,I v9,I e,I f],I 0]):=by
 have p:=Hd d;clear d;go_enter Tryz.func278,Tryz.ntmps278;go_wp2_with (go_at_call 279;refine (p.out _ β2).mono ?_;rintro r c ⟨rfl,b⟩;have r0:At c w.heap.size 0 (I 0):=Qa b ε;have q:=Fk w.heap.size 0 b;have r1:At c w.heap.size 1 (I 0):=Qa b ε;have s:=Fk w.heap.size 1 b;have r2:At c w.heap.size 2 (I 0):=Qa b ε;have t:=Fk w.heap.size 2 b;have r3:At c w.heap.size 3 (I 0):=Qa b ε;have u:=Fk w.heap.size 3 b;have M:At c w.heap.size 4 (I 0):=Qa b ε;have x:=Fk w.heap.size 4 b;have N:At c w.heap.size 5 (I 0):=Qa b ε;have y:=Fk w.heap.size 5 b;have O:At c w.heap.size 6 (I 0):=Qa b ε;have z:=Fk w.heap.size 6 b;have P:At c w.heap.size 7 (I 0):=Qa b ε;have A:=Fk w.heap.size 7 b;have Q:At c w.heap.size 8 (I 0):=Qa b ε;have B:=Fk w.heap.size 8 b;have R:At c w.heap.size 9 (I 0):=Qa b ε;have C:=Fk w.heap.size 9 b;have D:At c w.heap.size 10 (I 0):=Qa b ε;have l:=Fk w.heap.size 10 b;have E:At c w.heap.size 11 (I 0):=Qa b ε;have m:=Fk w.heap.size 11 b;have F:w.heap.size<c.heap.size:=World.block_lt_of_cell? (w:=c) (a:=⟨w.heap.size,0,none⟩) r0;have G:w.heap.size<c.heap.size+1:=γ;have H:w.heap.size<c.heap.size+1+1:=γ;have J:w.heap.size<c.heap.size+1+1+1:=γ;have K:w.heap.size<c.heap.size+1+1+1+1:=γ;have L:w.heap.size<c.heap.size+1+1+1+1+1:=γ;have o:=Hd (Qc β2 b);clear b)
 refine bodyPost_ret (v:=.tuple #[.agg #[I v0,I g,I h,I v3,I v4,I v5,I i,I j,I k,I v9,I e,I f],I 0]) ?_ rfl ⟨rfl, ?_⟩
 ·first | (simp [results,Tryz.results278,go_sem, *];done) | (simp [results,Tryz.results278,go_sem,Ca, *];done)
 ·with_reducible repeat' (first | exact o.out | refine Qh ?_ ?_ | refine Qb ?_ | refine Qg ?_)
  all_goals (first | (simp;done) | (simp;omega))
theorem Edges1_yes (x y k:Int) (g:Nat) (w:World) (h:triB x y k=true) (hs:Steps w) (f:Tr w g x y k) :
  Rt 279 #[.pointer (Az g)] w (.tuple #[.agg #[I (ue0 x y k),I (ue1 x y k),I (ue2 x y k),I (ue3 x y k),I (ue4 x y k),I (ue5 x y k),I (ue6 x y k),I (ue7 x y k),I (ue8 x y k),I (ue9 x y k),I (ue10 x y k),I (ue11 x y k)],I 0]):=by
 have P:=f.lt;obtain ⟨b0,b1,b2⟩:=f;have j:=Hd hs;clear hs;go_enter Tryz.func279,Tryz.ntmps279;go_wp2_with (go_at_call 280;refine (edges_num _ _ _ _ h (j.out.kept β1)).mono ?_;rintro r c ⟨rfl,b⟩;have r0:At c w.heap.size 0 (I 0):=Qa b ε;have l:=Fk w.heap.size 0 b;have r1:At c w.heap.size 1 (I 0):=Qa b ε;have m:=Fk w.heap.size 1 b;have r2:At c w.heap.size 2 (I 0):=Qa b ε;have n:=Fk w.heap.size 2 b;have r3:At c w.heap.size 3 (I 0):=Qa b ε;have o:=Fk w.heap.size 3 b;have J:At c w.heap.size 4 (I 0):=Qa b ε;have p:=Fk w.heap.size 4 b;have K:At c w.heap.size 5 (I 0):=Qa b ε;have q:=Fk w.heap.size 5 b;have L:At c w.heap.size 6 (I 0):=Qa b ε;have s:=Fk w.heap.size 6 b;have M:At c w.heap.size 7 (I 0):=Qa b ε;have t:=Fk w.heap.size 7 b;have N:At c w.heap.size 8 (I 0):=Qa b ε;have u:=Fk w.heap.size 8 b;have O:At c w.heap.size 9 (I 0):=Qa b ε;have z:=Fk w.heap.size 9 b;have A:At c w.heap.size 10 (I 0):=Qa b ε;have d:=Fk w.heap.size 10 b;have B:At c w.heap.size 11 (I 0):=Qa b ε;have e:=Fk w.heap.size 11 b;have C:w.heap.size<c.heap.size:=World.block_lt_of_cell? (w:=c) (a:=⟨w.heap.size,0,none⟩) r0;have D:w.heap.size<c.heap.size+1:=γ;have E:w.heap.size<c.heap.size+1+1:=γ;have F:w.heap.size<c.heap.size+1+1+1:=γ;have G:w.heap.size<c.heap.size+1+1+1+1:=γ;have H:w.heap.size<c.heap.size+1+1+1+1+1:=γ;have i:=Hd (Qc β1 b);clear b)
 refine bodyPost_ret (v:=.tuple #[.agg #[I (ue0 x y k),I (ue1 x y k),I (ue2 x y k),I (ue3 x y k),I (ue4 x y k),I (ue5 x y k),I (ue6 x y k),I (ue7 x y k),I (ue8 x y k),I (ue9 x y k),I (ue10 x y k),I (ue11 x y k)],I 0]) ?_ rfl ⟨rfl, ?_⟩
 ·first | (simp [results,Tryz.results279,go_sem, *];done) | (simp [results,Tryz.results279,go_sem,Ca, *];done)
 ·with_reducible repeat' (first | exact i.out | refine Qh ?_ ?_ | refine Qb ?_ | refine Qg ?_)
  all_goals (first | (simp;done) | (simp;omega))
theorem Edges_yes (x y k:Int) (w:World) (h:triB x y k=true) (hs:Steps w) :
  Rt 254 #[.agg #[I x,I y,I k]] w (.tuple #[.agg #[I (ue0 x y k),I (ue1 x y k),I (ue2 x y k),I (ue3 x y k),I (ue4 x y k),I (ue5 x y k),I (ue6 x y k),I (ue7 x y k),I (ue8 x y k),I (ue9 x y k),I (ue10 x y k),I (ue11 x y k)],I 0]):=by
 have A:=Jf;have j:Hid (∀ (e:Nat) (W:World),Bl w W→Tr W e x y k→Rt 279 #[.pointer (Az e)] W (.tuple #[.agg #[I (ue0 x y k),I (ue1 x y k),I (ue2 x y k),I (ue3 x y k),I (ue4 x y k),I (ue5 x y k),I (ue6 x y k),I (ue7 x y k),I (ue8 x y k),I (ue9 x y k),I (ue10 x y k),I (ue11 x y k)],I 0])):=fun e W d B=>Edges1_yes x y k e W h (hs.kept d) B;clear hs;go_enter Tryz.func254,Tryz.ntmps254;go_wp2_with (first | (go_at_call 88;refine (Xd _ _ _ _).mono ?_;rintro r R ⟨rfl,o2,rfl⟩) | (go_at_call 278;refine (Qbh _ _ _ _ _ _ _ _ _ _ _ _ _ _ (fun W d=>j.out _ W (Qc β3 d) (Tr.kept γ8 d))).mono ?_;rintro r c ⟨rfl,b⟩;have r0:At c (w.heap.size+1) 0 (I 0):=Qa b ε;have l:=Fk (w.heap.size+1) 0 b;have r1:At c (w.heap.size+1) 1 (I 0):=Qa b ε;have m:=Fk (w.heap.size+1) 1 b;have r2:At c (w.heap.size+1) 2 (I 0):=Qa b ε;have n:=Fk (w.heap.size+1) 2 b;have r3:At c (w.heap.size+1) 3 (I 0):=Qa b ε;have o:=Fk (w.heap.size+1) 3 b;have L:At c (w.heap.size+1) 4 (I 0):=Qa b ε;have p:=Fk (w.heap.size+1) 4 b;have M:At c (w.heap.size+1) 5 (I 0):=Qa b ε;have q:=Fk (w.heap.size+1) 5 b;have N:At c (w.heap.size+1) 6 (I 0):=Qa b ε;have s:=Fk (w.heap.size+1) 6 b;have O:At c (w.heap.size+1) 7 (I 0):=Qa b ε;have t:=Fk (w.heap.size+1) 7 b;have P:At c (w.heap.size+1) 8 (I 0):=Qa b ε;have u:=Fk (w.heap.size+1) 8 b;have Q:At c (w.heap.size+1) 9 (I 0):=Qa b ε;have z:=Fk (w.heap.size+1) 9 b;have C:At c (w.heap.size+1) 10 (I 0):=Qa b ε;have f:=Fk (w.heap.size+1) 10 b;have D:At c (w.heap.size+1) 11 (I 0):=Qa b ε;have g:=Fk (w.heap.size+1) 11 b;have E:w.heap.size+1<c.heap.size:=World.block_lt_of_cell? (w:=c) (a:=⟨w.heap.size+1,0,none⟩) r0;have F:w.heap.size+1<c.heap.size+1:=γ;have G:w.heap.size+1<c.heap.size+1+1:=γ;have H:w.heap.size+1<c.heap.size+1+1+1:=γ;have J:w.heap.size+1<c.heap.size+1+1+1+1:=γ;have K:w.heap.size+1<c.heap.size+1+1+1+1+1:=γ;have i:=Hd (Qc β3 b);clear b))
 refine bodyPost_ret (v:=.tuple #[.agg #[I (ue0 x y k),I (ue1 x y k),I (ue2 x y k),I (ue3 x y k),I (ue4 x y k),I (ue5 x y k),I (ue6 x y k),I (ue7 x y k),I (ue8 x y k),I (ue9 x y k),I (ue10 x y k),I (ue11 x y k)],I 0]) ?_ rfl ⟨rfl, ?_⟩
 ·first | (simp [results,Tryz.results254,go_sem, *];done) | (simp [results,Tryz.results254,go_sem,Ca, *];done)
 ·with_reducible repeat' (first | exact i.out | refine Qh ?_ ?_ | refine Qb ?_ | refine Qg ?_)
  all_goals (first | (simp;done) | (simp;omega))
theorem Ju {a b c d e f:Int} (h:mapB a b c d e f=true):Sm a b c d∧Ef e f∧e % 2=0∧f % 2=0:=by
 simp [mapB,unitB,evenB] at h;unfold Sm Ef;omega
theorem answerMap_55_0 (a b c d e f:Int) (pa j:Nat) (w:World) (i:∀ W:World,Bl w W→Rt 210 #[.pointer (Az pa),.pointer (Az j)] W (.tuple #[.agg #[I a,I b,I c,I d,I e,I f],I 0])) :
  Rt 111 #[.bool true,.func (.func 210) #[] #[.pointer (Az pa),.pointer (Az j)]] w (.tuple #[.agg #[I a,I b,I c,I d,I e,I f],I 0]):=by
 have l:=Hd i;clear i;go_enter Tryz.func111,Tryz.ntmps111;go_wp2_with (go_at_call 210;refine (l.out _ β2).mono ?_;rintro r h ⟨rfl,g⟩;have r0:At h w.heap.size 0 (I 0):=Qa g ε;have m:=Fk w.heap.size 0 g;have r1:At h w.heap.size 1 (I 0):=Qa g ε;have n:=Fk w.heap.size 1 g;have r2:At h w.heap.size 2 (I 0):=Qa g ε;have o:=Fk w.heap.size 2 g;have r3:At h w.heap.size 3 (I 0):=Qa g ε;have p:=Fk w.heap.size 3 g;have B:At h w.heap.size 4 (I 0):=Qa g ε;have q:=Fk w.heap.size 4 g;have C:At h w.heap.size 5 (I 0):=Qa g ε;have s:=Fk w.heap.size 5 g;have t:w.heap.size<h.heap.size:=World.block_lt_of_cell? (w:=h) (a:=⟨w.heap.size,0,none⟩) r0;have u:w.heap.size<h.heap.size+1:=γ;have x:w.heap.size<h.heap.size+1+1:=γ;have y:w.heap.size<h.heap.size+1+1+1:=γ;have z:w.heap.size<h.heap.size+1+1+1+1:=γ;have A:w.heap.size<h.heap.size+1+1+1+1+1:=γ;have k:=Hd (Qc β2 g);clear g)
 refine bodyPost_ret (v:=.tuple #[.agg #[I a,I b,I c,I d,I e,I f],I 0]) ?_ rfl ⟨rfl, ?_⟩
 ·first | (simp [results,Tryz.results111,go_sem, *];done) | (simp [results,Tryz.results111,go_sem,Ca, *];done)
 ·with_reducible repeat' (first | exact k.out | refine Qh ?_ ?_ | refine Qb ?_ | refine Qg ?_)
  all_goals (first | (simp;done) | (simp;omega))
theorem answerMap_55_2 (pa e:Nat) (w:World) (d:∀ W:World,Bl w W→Rt 210 #[.pointer (Az pa),.pointer (Az e)] W (.tuple #[.agg #[I 0,I 0,I 0,I 0,I 0,I 0],I 2])) :
  Rt 111 #[.bool true,.func (.func 210) #[] #[.pointer (Az pa),.pointer (Az e)]] w (.tuple #[.agg #[I 0,I 0,I 0,I 0,I 0,I 0],I 2]):=by
 have g:=Hd d;clear d;go_enter Tryz.func111,Tryz.ntmps111;go_wp2_with (go_at_call 210;refine (g.out _ β2).mono ?_;rintro r c ⟨rfl,b⟩;have r0:At c w.heap.size 0 (I 0):=Qa b ε;have h:=Fk w.heap.size 0 b;have r1:At c w.heap.size 1 (I 0):=Qa b ε;have i:=Fk w.heap.size 1 b;have r2:At c w.heap.size 2 (I 0):=Qa b ε;have j:=Fk w.heap.size 2 b;have r3:At c w.heap.size 3 (I 0):=Qa b ε;have k:=Fk w.heap.size 3 b;have L:At c w.heap.size 4 (I 0):=Qa b ε;have l:=Fk w.heap.size 4 b;have M:At c w.heap.size 5 (I 0):=Qa b ε;have m:=Fk w.heap.size 5 b;have C:w.heap.size<c.heap.size:=World.block_lt_of_cell? (w:=c) (a:=⟨w.heap.size,0,none⟩) r0;have D:w.heap.size<c.heap.size+1:=γ;have E:w.heap.size<c.heap.size+1+1:=γ;have F:w.heap.size<c.heap.size+1+1+1:=γ;have G:w.heap.size<c.heap.size+1+1+1+1:=γ;have H:w.heap.size<c.heap.size+1+1+1+1+1:=γ;have k0:At c (w.heap.size+1) 0 (I 0):=Qa b ε;have n:=Fk (w.heap.size+1) 0 b;have k1:At c (w.heap.size+1) 1 (I 0):=Qa b ε;have o:=Fk (w.heap.size+1) 1 b;have k2:At c (w.heap.size+1) 2 (I 0):=Qa b ε;have p:=Fk (w.heap.size+1) 2 b;have k3:At c (w.heap.size+1) 3 (I 0):=Qa b ε;have q:=Fk (w.heap.size+1) 3 b;have J:At c (w.heap.size+1) 4 (I 0):=Qa b ε;have s:=Fk (w.heap.size+1) 4 b;have K:At c (w.heap.size+1) 5 (I 0):=Qa b ε;have t:=Fk (w.heap.size+1) 5 b;have u:w.heap.size+1<c.heap.size:=World.block_lt_of_cell? (w:=c) (a:=⟨w.heap.size+1,0,none⟩) k0;have x:w.heap.size+1<c.heap.size+1:=γ;have y:w.heap.size+1<c.heap.size+1+1:=γ;have z:w.heap.size+1<c.heap.size+1+1+1:=γ;have A:w.heap.size+1<c.heap.size+1+1+1+1:=γ;have B:w.heap.size+1<c.heap.size+1+1+1+1+1:=γ;have f:=Hd (Qc β2 b);clear b)
 refine bodyPost_ret (v:=.tuple #[.agg #[I 0,I 0,I 0,I 0,I 0,I 0],I 2]) ?_ rfl ⟨rfl, ?_⟩
 ·first | (simp [results,Tryz.results111,go_sem, *];done) | (simp [results,Tryz.results111,go_sem,Ca, *];done)
 ·with_reducible repeat' (first | exact f.out | refine Qh ?_ ?_ | refine Qb ?_ | refine Qg ?_)
  all_goals (first | (simp;done) | (simp;omega))
theorem after1_yes (a b c d e f A B C D E F:Int) (pa l:Nat) (w:World) (h1:mapB a b c d e f=true) (h2:mapB A B C D E F=true) (k:mapB (dot A B a c) (dot A B b d) (dot C D a c) (dot C D b d) (dot A B e f+E) (dot C D e f+F)=true) (j:Mp w pa a b c d e f) (g:Mp w l A B C D E F) :
  Rt 210 #[.pointer (Az pa),.pointer (Az l)] w (.tuple #[.agg #[I (dot A B a c),I (dot A B b d),I (dot C D a c),I (dot C D b d),I (dot A B e f+E),I (dot C D e f+F)],I 0]):=by
 obtain ⟨m,e1,_,_⟩:=Ju h1;obtain ⟨n,e2,_,_⟩:=Ju h2;have R:=j.lt;have T:=g.lt;obtain ⟨a0,a1,M,a3,a4,a5⟩:=j;obtain ⟨b0,b1,b2,b3,b4,N⟩:=g;have i:=Hd (fun (W:World)=>after_any a b c d e f A B C D E F W m n e1 e2);have p:=Hd k;clear m e1 n e2 h1 h2 k;go_enter Tryz.func210,Tryz.ntmps210;go_wp2_with (first | (go_at_call 211;refine (i.out _).mono ?_;rintro r h ⟨rfl,g⟩;have r0:At h w.heap.size 0 (I 0):=Qa g ε;have q:=Fk w.heap.size 0 g;have r1:At h w.heap.size 1 (I 0):=Qa g ε;have s:=Fk w.heap.size 1 g;have r2:At h w.heap.size 2 (I 0):=Qa g ε;have t:=Fk w.heap.size 2 g;have r3:At h w.heap.size 3 (I 0):=Qa g ε;have u:=Fk w.heap.size 3 g;have O:At h w.heap.size 4 (I 0):=Qa g ε;have x:=Fk w.heap.size 4 g;have P:At h w.heap.size 5 (I 0):=Qa g ε;have y:=Fk w.heap.size 5 g;have z:w.heap.size<h.heap.size:=World.block_lt_of_cell? (w:=h) (a:=⟨w.heap.size,0,none⟩) r0;have G:w.heap.size<h.heap.size+1:=γ;have H:w.heap.size<h.heap.size+1+1:=γ;have J:w.heap.size<h.heap.size+1+1+1:=γ;have K:w.heap.size<h.heap.size+1+1+1+1:=γ;have L:w.heap.size<h.heap.size+1+1+1+1+1:=γ;have o:=Hd (Qc β1 g);clear g) | (go_at_call 113;refine (sized_yes _ _ _ _ _ _ _ p.out).mono ?_;rintro r Q ⟨rfl,o1,o2,o3,rfl⟩))
 refine bodyPost_ret (v:=.tuple #[.agg #[I (dot A B a c),I (dot A B b d),I (dot C D a c),I (dot C D b d),I (dot A B e f+E),I (dot C D e f+F)],I 0]) ?_ rfl ⟨rfl, ?_⟩
 ·first | (simp [results,Tryz.results210,go_sem, *];done) | (simp [results,Tryz.results210,go_sem,Ca, *];done)
 ·with_reducible repeat' (first | exact o.out | refine Qh ?_ ?_ | refine Qb ?_ | refine Qg ?_)
  all_goals (first | (simp;done) | (simp;omega))
theorem After_yes (a b c d e f A B C D E F:Int) (w:World) (h1:mapB a b c d e f=true) (h2:mapB A B C D E F=true) (j:mapB (dot A B a c) (dot A B b d) (dot C D a c) (dot C D b d) (dot A B e f+E) (dot C D e f+F)=true) :
  Rt 115 #[.agg #[I a,I b,I c,I d,I e,I f],.agg #[I A,I B,I C,I D,I E,I F]] w (.tuple #[.agg #[I (dot A B a c),I (dot A B b d),I (dot C D a c),I (dot C D b d),I (dot A B e f+E),I (dot C D e f+F)],I 0]):=by
 have t:=Jf;have l:=Hd j;clear j;go_enter Tryz.func115,Tryz.ntmps115;go_wp2_with (first | (go_at_call 87;refine (Xe _ _ _ _ _ _ _).mono ?_;rintro r h ⟨rfl,o1,rfl⟩) | (go_at_call 111;refine (answerMap_55_0 _ _ _ _ _ _ _ _ _ (fun W i=>after1_yes a b c d e f A B C D E F _ _ W h1 h2 l.out (Mp.kept δ3 i) (Mp.kept δ3 i))).mono ?_;rintro r h ⟨rfl,g⟩;have r0:At h (w.heap.size+1+1) 0 (I 0):=Qa g ε;have m:=Fk (w.heap.size+1+1) 0 g;have r1:At h (w.heap.size+1+1) 1 (I 0):=Qa g ε;have n:=Fk (w.heap.size+1+1) 1 g;have r2:At h (w.heap.size+1+1) 2 (I 0):=Qa g ε;have o:=Fk (w.heap.size+1+1) 2 g;have r3:At h (w.heap.size+1+1) 3 (I 0):=Qa g ε;have p:=Fk (w.heap.size+1+1) 3 g;have J:At h (w.heap.size+1+1) 4 (I 0):=Qa g ε;have q:=Fk (w.heap.size+1+1) 4 g;have K:At h (w.heap.size+1+1) 5 (I 0):=Qa g ε;have s:=Fk (w.heap.size+1+1) 5 g;have u:w.heap.size+1+1<h.heap.size:=World.block_lt_of_cell? (w:=h) (a:=⟨w.heap.size+1+1,0,none⟩) r0;have x:w.heap.size+1+1<h.heap.size+1:=γ;have y:w.heap.size+1+1<h.heap.size+1+1:=γ;have z:w.heap.size+1+1<h.heap.size+1+1+1:=γ;have G:w.heap.size+1+1<h.heap.size+1+1+1+1:=γ;have H:w.heap.size+1+1<h.heap.size+1+1+1+1+1:=γ;have k:=Hd (Qc β5 g);clear g))
 refine bodyPost_ret (v:=.tuple #[.agg #[I (dot A B a c),I (dot A B b d),I (dot C D a c),I (dot C D b d),I (dot A B e f+E),I (dot C D e f+F)],I 0]) ?_ rfl ⟨rfl, ?_⟩
 ·first | (simp [results,Tryz.results115,go_sem, *];done) | (simp [results,Tryz.results115,go_sem,Ca, *];done)
 ·with_reducible repeat' (first | exact k.out | refine Qh ?_ ?_ | refine Qb ?_ | refine Qg ?_)
  all_goals (first | (simp;done) | (simp;omega))
theorem after1_no (a b c d e f A B C D E F:Int) (pa l:Nat) (w:World) (h1:mapB a b c d e f=true) (h2:mapB A B C D E F=true) (k:mapB (dot A B a c) (dot A B b d) (dot C D a c) (dot C D b d) (dot A B e f+E) (dot C D e f+F)=false) (j:Mp w pa a b c d e f) (g:Mp w l A B C D E F) :
  Rt 210 #[.pointer (Az pa),.pointer (Az l)] w (.tuple #[.agg #[I 0,I 0,I 0,I 0,I 0,I 0],I 2]):=by
 obtain ⟨m,e1,_,_⟩:=Ju h1;obtain ⟨n,e2,_,_⟩:=Ju h2;have R:=j.lt;have T:=g.lt;obtain ⟨a0,a1,M,a3,a4,a5⟩:=j;obtain ⟨b0,b1,b2,b3,b4,N⟩:=g;have i:=Hd (fun (W:World)=>after_any a b c d e f A B C D E F W m n e1 e2);have p:=Hd k;clear m e1 n e2 h1 h2 k;go_enter Tryz.func210,Tryz.ntmps210;go_wp2_with (first | (go_at_call 211;refine (i.out _).mono ?_;rintro r h ⟨rfl,g⟩;have r0:At h w.heap.size 0 (I 0):=Qa g ε;have q:=Fk w.heap.size 0 g;have r1:At h w.heap.size 1 (I 0):=Qa g ε;have s:=Fk w.heap.size 1 g;have r2:At h w.heap.size 2 (I 0):=Qa g ε;have t:=Fk w.heap.size 2 g;have r3:At h w.heap.size 3 (I 0):=Qa g ε;have u:=Fk w.heap.size 3 g;have O:At h w.heap.size 4 (I 0):=Qa g ε;have x:=Fk w.heap.size 4 g;have P:At h w.heap.size 5 (I 0):=Qa g ε;have y:=Fk w.heap.size 5 g;have z:w.heap.size<h.heap.size:=World.block_lt_of_cell? (w:=h) (a:=⟨w.heap.size,0,none⟩) r0;have G:w.heap.size<h.heap.size+1:=γ;have H:w.heap.size<h.heap.size+1+1:=γ;have J:w.heap.size<h.heap.size+1+1+1:=γ;have K:w.heap.size<h.heap.size+1+1+1+1:=γ;have L:w.heap.size<h.heap.size+1+1+1+1+1:=γ;have o:=Hd (Qc β1 g);clear g) | (go_at_call 113;refine (sized_no _ _ _ _ _ _ _ p.out).mono ?_;rintro r Q ⟨rfl,o1,o2,o3,rfl⟩))
 refine bodyPost_ret (v:=.tuple #[.agg #[I 0,I 0,I 0,I 0,I 0,I 0],I 2]) ?_ rfl ⟨rfl, ?_⟩
 ·first | (simp [results,Tryz.results210,go_sem, *];done) | (simp [results,Tryz.results210,go_sem,Ca, *];done)
 ·with_reducible repeat' (first | exact o.out | refine Qh ?_ ?_ | refine Qb ?_ | refine Qg ?_)
  all_goals (first | (simp;done) | (simp;omega))
theorem After_no (a b c d e f A B C D E F:Int) (w:World) (h1:mapB a b c d e f=true) (h2:mapB A B C D E F=true) (j:mapB (dot A B a c) (dot A B b d) (dot C D a c) (dot C D b d) (dot A B e f+E) (dot C D e f+F)=false) :
  Rt 115 #[.agg #[I a,I b,I c,I d,I e,I f],.agg #[I A,I B,I C,I D,I E,I F]] w (.tuple #[.agg #[I 0,I 0,I 0,I 0,I 0,I 0],I 2]):=by
 have t:=Jf;have l:=Hd j;clear j;go_enter Tryz.func115,Tryz.ntmps115;go_wp2_with (first | (go_at_call 87;refine (Xe _ _ _ _ _ _ _).mono ?_;rintro r h ⟨rfl,o1,rfl⟩) | (go_at_call 111;refine (answerMap_55_2 _ _ _ (fun W i=>after1_no a b c d e f A B C D E F _ _ W h1 h2 l.out (Mp.kept δ3 i) (Mp.kept δ3 i))).mono ?_;rintro r h ⟨rfl,g⟩;have r0:At h (w.heap.size+1+1) 0 (I 0):=Qa g ε;have m:=Fk (w.heap.size+1+1) 0 g;have r1:At h (w.heap.size+1+1) 1 (I 0):=Qa g ε;have n:=Fk (w.heap.size+1+1) 1 g;have r2:At h (w.heap.size+1+1) 2 (I 0):=Qa g ε;have o:=Fk (w.heap.size+1+1) 2 g;have r3:At h (w.heap.size+1+1) 3 (I 0):=Qa g ε;have p:=Fk (w.heap.size+1+1) 3 g;have J:At h (w.heap.size+1+1) 4 (I 0):=Qa g ε;have q:=Fk (w.heap.size+1+1) 4 g;have K:At h (w.heap.size+1+1) 5 (I 0):=Qa g ε;have s:=Fk (w.heap.size+1+1) 5 g;have u:w.heap.size+1+1<h.heap.size:=World.block_lt_of_cell? (w:=h) (a:=⟨w.heap.size+1+1,0,none⟩) r0;have x:w.heap.size+1+1<h.heap.size+1:=γ;have y:w.heap.size+1+1<h.heap.size+1+1:=γ;have z:w.heap.size+1+1<h.heap.size+1+1+1:=γ;have G:w.heap.size+1+1<h.heap.size+1+1+1+1:=γ;have H:w.heap.size+1+1<h.heap.size+1+1+1+1+1:=γ;have k:=Hd (Qc β5 g);clear g))
 refine bodyPost_ret (v:=.tuple #[.agg #[I 0,I 0,I 0,I 0,I 0,I 0],I 2]) ?_ rfl ⟨rfl, ?_⟩
 ·first | (simp [results,Tryz.results115,go_sem, *];done) | (simp [results,Tryz.results115,go_sem,Ca, *];done)
 ·with_reducible repeat' (first | exact k.out | refine Qh ?_ ?_ | refine Qb ?_ | refine Qg ?_)
  all_goals (first | (simp;done) | (simp;omega))
attribute [local go_sem ↓] Go.wp_at_zero Go.wp_at_succ
theorem half (X:Int):(2*X).tdiv 2=X:=by rw [Int.mul_comm];exact Int.mul_tdiv_cancel _ ψ
theorem Yr {c:World} {b:Bool} (d:Bl w c) (e:w.cell? a=some v) (h:w.frozen? a=b):c.frozen? a=b:=(d.frozen (bk e)).trans h
theorem st_old {u:Value} (h:w.cell? a=some v) (b:a.block≠p.block):(w.setCell p u).cell? a=some v:=by
 have:=World.cell?_of_block (w:=w) (w':=w.setCell p u) (a:=a) (Below.heap_setCell w p u a.block b);exact this.trans h
theorem Yp {q r:Addr} {c d e:Value} (h:w.cell? a=some v) (b:a.block≠p.block∧a.block≠q.block∧a.block≠r.block):(((w.setCell p c).setCell q d).setCell r e).cell? a=some v :=
 st_old (st_old (st_old h b.1) b.2.1) b.2.2
theorem Steps.set3 {q r:Addr} {k l m:Value} (h:Steps w) (a:0≠p.block∧0≠q.block∧0≠r.block):Steps (((w.setCell p k).setCell q l).setCell r m):=by
 obtain ⟨b,c,d,e,f,g,i,j⟩:=h;exact ⟨Yp b a,Yp c a,Yp d a,Yp e a,Yp f a,Yp g a,Yp i a,Yp j a⟩
theorem dr_fz {b:Bool} (h:w.frozen? a=b):w.drew.frozen? a=b:=h
theorem Yi {n:Int} (h1 : -9000000000000000000≤n) (h2:n≤9000000000000000000):IntKind.i64.wrap n=n:=υ
theorem turn_to (a b c d e f x y p q:Int) (w:World) (hs:Sm a b c d) (h1 : -4000000≤x) (h2:x≤4000000) (h3 : -4000000≤y) (h4:y≤4000000) (hp:dot a b x y=p) (hq:dot c d x y=q) :
  Rt 181 #[.agg #[I a,I b,I c,I d,I e,I f],.agg #[I x,I y]] w (.agg #[I p,I q]):=by
 subst hp hq;refine (turn_any a b c d e f x y w hs h1 h2 h3 h4).mono ?_;rintro r w' ⟨rfl,o1,o2,o3,rfl⟩;exact ⟨rfl,Qb β2⟩
attribute [local go_sem ↓] Go.wp_at_zero Go.wp_at_succ
theorem Qas (a b c d e f A B C D E F:Int) (w:World) (hs:Sm a b c d) (g:Sm A B C D) (y:Ef e f) (hE:Ef E F) :
  Cl 60 #[.agg #[I a,I b,I c,I d,I e,I f],.agg #[I A,I B,I C,I D,I E,I F]] w fun r w' =>
   r=.returned (.agg #[I (dot A B a c),I (dot A B b d),I (dot C D a c),I (dot C D b d),I (dot A B e f+E),I (dot C D e f+F)])∧Bl w w':=by
 have q:=Hd hs;have m:=Hd y;have HS:=Hd g;have u:=Hd hE;have q0:(-1000010≤dot a b 0 0+e∧dot a b 0 0+e≤1000010)∧(-1000010≤dot c d 0 0+f∧dot c d 0 0+f≤1000010):=by obtain ⟨⟨_,_⟩,⟨_,_⟩⟩:=y;simp [dot];omega
 have q1:(-1000010≤dot a b 1 0+e∧dot a b 1 0+e≤1000010)∧(-1000010≤dot c d 1 0+f∧dot c d 1 0+f≤1000010):=by obtain ⟨⟨_,_⟩,⟨_,_⟩⟩:=y;obtain ⟨⟨_,_⟩,⟨_,_⟩,⟨_,_⟩,⟨_,_⟩⟩:=hs;simp [dot];omega
 have q2:(-1000010≤dot a b 0 1+e∧dot a b 0 1+e≤1000010)∧(-1000010≤dot c d 0 1+f∧dot c d 0 1+f≤1000010):=by obtain ⟨⟨_,_⟩,⟨_,_⟩⟩:=y;obtain ⟨⟨_,_⟩,⟨_,_⟩,⟨_,_⟩,⟨_,_⟩⟩:=hs;simp [dot];omega
 obtain ⟨⟨M,N⟩,⟨O,P⟩⟩:=q0;obtain ⟨⟨Q,R⟩,⟨T,U⟩⟩:=q1;obtain ⟨⟨V,W⟩,⟨X,Y⟩⟩:=q2;have r1:=Zu g.1.1 g.1.2 g.2.1.1 g.2.1.2 M N O P;have r2:=Zu g.2.2.1.1 g.2.2.1.2 g.2.2.2.1 g.2.2.2.2 M N O P;have r3:=Zu g.1.1 g.1.2 g.2.1.1 g.2.1.2 Q R T U;have r4:=Zu g.2.2.1.1 g.2.2.1.2 g.2.2.2.1 g.2.2.2.2 Q R T U;have r5:=Zu g.1.1 g.1.2 g.2.1.1 g.2.1.2 V W X Y;have r6:=Zu g.2.2.1.1 g.2.2.1.2 g.2.2.2.1 g.2.2.2.2 V W X Y;obtain ⟨⟨E1,E2⟩,⟨F1,F2⟩⟩:=hE;clear hs g y;go_enter Tryz.func60,Tryz.ntmps60;go_wp2;go_cut [5] (fun Z h=>∃ p:Nat,Z=.pointer (Az p)∧Pt h p (dot A B (dot a b 0 0+e) (dot c d 0 0+f)+E) (dot C D (dot a b 0 0+e) (dot c d 0 0+f)+F)∧Bl w h∧Mp h w.heap.size a b c d e f∧Mp h (w.heap.size+1) A B C D E F∧Mp h (w.heap.size+1+1) 0 0 0 0 0 0∧Fr h (w.heap.size+1+1))
 case first =>
  go_region_held3 (fun w'=>(At w' w.heap.size 0 (I a)∧At w' w.heap.size 1 (I b)∧At w' w.heap.size 2 (I c)∧At w' w.heap.size 3 (I d)∧At w' w.heap.size 4 (I e)∧At w' w.heap.size 5 (I f))∧(At w' (w.heap.size+1) 0 (I A)∧At w' (w.heap.size+1) 1 (I B)∧At w' (w.heap.size+1) 2 (I C)∧At w' (w.heap.size+1) 3 (I D)∧At w' (w.heap.size+1) 4 (I E)∧At w' (w.heap.size+1) 5 (I F)))
   ((refine ⟨⟨?_, ?_, ?_, ?_, ?_, ?_⟩, ?_, ?_, ?_, ?_, ?_, ?_⟩ <;> (first | (with_reducible (repeat (first | assumption | refine Qk ?_ | refine Qq ?_));done) | (simp [go_sem];done))))
   (first | (go_at_call 130;refine (Xo _ _ _ _ _ _ _ _ _ (by first | exact q.out | exact HS.out) (by first | exact m.out.1 | exact u.out.1) (by first | exact m.out.2 | exact u.out.2) γ γ γ γ).mono ?_;rintro e w2 ⟨rfl,o3,o4,o5,rfl⟩))
  all_goals
   go_wp2;go_meet
   case rel =>
    refine ⟨_,rfl, ?_, ?_, ?_, ?_, ?_, ?_⟩
    ·simp [Pt,go_sem,Ca]
    ·with_reducible repeat (first | refine Qb ?_ | refine Qg ?_ | exact Qe _)
    ·simp [Mp,go_sem,Ca]
    ·simp [Mp,go_sem,Ca]
    ·simp [Mp,go_sem,Ca]
    ·simp [Fr,go_sem]
 case rest =>
  obtain ⟨p,rfl,o,i,j,k,l,n⟩:=hcut;have hz:w.heap.size≤wc.heap.size:=i.size;obtain ⟨z,G,H,J,K,L⟩:=id j;obtain ⟨n0,n1,n2,n3,n4,n5⟩:=id k;have x:=H6 o i j k l n;clear i j k l n o;go_wp2;go_cut [5,6] (fun Z s6 h=>∃ p s:Nat,Z=.pointer (Az p)∧s6=.pointer (Az s)∧Pt h p (dot A B (dot a b 0 0+e) (dot c d 0 0+f)+E) (dot C D (dot a b 0 0+e) (dot c d 0 0+f)+F)∧Pt h s (dot A B (dot a b 1 0+e) (dot c d 1 0+f)+E) (dot C D (dot a b 1 0+e) (dot c d 1 0+f)+F)∧Bl w h∧Mp h w.heap.size a b c d e f∧Mp h (w.heap.size+1) A B C D E F∧Mp h (w.heap.size+1+1) 0 0 0 0 0 0∧Fr h (w.heap.size+1+1))
  case first =>
   go_region_held3 (fun w'=>(At w' w.heap.size 0 (I a)∧At w' w.heap.size 1 (I b)∧At w' w.heap.size 2 (I c)∧At w' w.heap.size 3 (I d)∧At w' w.heap.size 4 (I e)∧At w' w.heap.size 5 (I f))∧(At w' (w.heap.size+1) 0 (I A)∧At w' (w.heap.size+1) 1 (I B)∧At w' (w.heap.size+1) 2 (I C)∧At w' (w.heap.size+1) 3 (I D)∧At w' (w.heap.size+1) 4 (I E)∧At w' (w.heap.size+1) 5 (I F)))
    ((refine ⟨⟨?_, ?_, ?_, ?_, ?_, ?_⟩, ?_, ?_, ?_, ?_, ?_, ?_⟩ <;> (first | (with_reducible (repeat (first | assumption | refine Qk ?_ | refine Qq ?_));done) | (simp [go_sem];done))))
    (first | (go_at_call 130;refine (Xo _ _ _ _ _ _ _ _ _ (by first | exact q.out | exact HS.out) (by first | exact m.out.1 | exact u.out.1) (by first | exact m.out.2 | exact u.out.2) γ γ γ γ).mono ?_;rintro e w2 ⟨rfl,o3,o4,o5,rfl⟩))
   all_goals
    go_wp2;go_meet
    case rel =>
     obtain ⟨o,i,j,k,l,n⟩:=x.out;refine ⟨_,_,rfl,rfl,o.kept τ, ?_,Qc i τ,j.kept τ,k.kept τ,l.kept τ,n.kept l.lt τ⟩;simp [Pt,go_sem,Ca]
  case rest =>
   clear x hz z G H J K L n0 n1 n2 n3 n4 n5;obtain ⟨p,s,rfl,rfl,o,t,i,j,k,l,n⟩:=hcut;have hz:w.heap.size≤wc.heap.size:=i.size;obtain ⟨z,G,H,J,K,L⟩:=id j;obtain ⟨n0,n1,n2,n3,n4,n5⟩:=id k;have x:=H7 o t i j k l n;clear i j k l n o t;go_wp2;go_cut [5,6,7] (fun Z s6 s7 h=>∃ p s g7:Nat,Z=.pointer (Az p)∧s6=.pointer (Az s)∧s7=.pointer (Az g7)∧Pt h p (dot A B (dot a b 0 0+e) (dot c d 0 0+f)+E) (dot C D (dot a b 0 0+e) (dot c d 0 0+f)+F)∧Pt h s (dot A B (dot a b 1 0+e) (dot c d 1 0+f)+E) (dot C D (dot a b 1 0+e) (dot c d 1 0+f)+F)∧Pt h g7 (dot A B (dot a b 0 1+e) (dot c d 0 1+f)+E) (dot C D (dot a b 0 1+e) (dot c d 0 1+f)+F)∧Bl w h∧Mp h w.heap.size a b c d e f∧Mp h (w.heap.size+1) A B C D E F∧Mp h (w.heap.size+1+1) 0 0 0 0 0 0∧Fr h (w.heap.size+1+1))
   case first =>
    go_region_held3 (fun w'=>(At w' w.heap.size 0 (I a)∧At w' w.heap.size 1 (I b)∧At w' w.heap.size 2 (I c)∧At w' w.heap.size 3 (I d)∧At w' w.heap.size 4 (I e)∧At w' w.heap.size 5 (I f))∧(At w' (w.heap.size+1) 0 (I A)∧At w' (w.heap.size+1) 1 (I B)∧At w' (w.heap.size+1) 2 (I C)∧At w' (w.heap.size+1) 3 (I D)∧At w' (w.heap.size+1) 4 (I E)∧At w' (w.heap.size+1) 5 (I F)))
     ((refine ⟨⟨?_, ?_, ?_, ?_, ?_, ?_⟩, ?_, ?_, ?_, ?_, ?_, ?_⟩ <;> (first | (with_reducible (repeat (first | assumption | refine Qk ?_ | refine Qq ?_));done) | (simp [go_sem];done))))
     (first | (go_at_call 130;refine (Xo _ _ _ _ _ _ _ _ _ (by first | exact q.out | exact HS.out) (by first | exact m.out.1 | exact u.out.1) (by first | exact m.out.2 | exact u.out.2) γ γ γ γ).mono ?_;rintro e w2 ⟨rfl,o3,o4,o5,rfl⟩))
    all_goals
     go_wp2;go_meet
     case rel =>
      obtain ⟨o,t,i,j,k,l,n⟩:=x.out;refine ⟨_,_,_,rfl,rfl,rfl,o.kept τ,t.kept τ, ?_,Qc i τ,j.kept τ,k.kept τ,l.kept τ,n.kept l.lt τ⟩;simp [Pt,go_sem,Ca]
   case rest =>
    clear x hz z G H J K L n0 n1 n2 n3 n4 n5;obtain ⟨p,s,g7,rfl,rfl,rfl,o,t,p7,i,j,k,l,n⟩:=hcut;have hz:w.heap.size≤wc.heap.size:=i.size;obtain ⟨z,G,H,J,K,L⟩:=id j;obtain ⟨n0,n1,n2,n3,n4,n5⟩:=id k;obtain ⟨r0,r1,r2,r3,r4,r5⟩:=id l;obtain ⟨f0,a2,a6,f3,f4,f5⟩:=id n;obtain ⟨x5,y5⟩:=id o;obtain ⟨x6,y6⟩:=id t;obtain ⟨x7,y7⟩:=id p7;have HB:=Hd i;clear i j k l n o t p7 z G H J K L n0 n1 n2 n3 n4 n5;go_wp2;refine bodyPost_ret (v:=.agg #[I (dot A B (dot a b 1 0+e) (dot c d 1 0+f)+E - (dot A B (dot a b 0 0+e) (dot c d 0 0+f)+E)),I (dot A B (dot a b 0 1+e) (dot c d 0 1+f)+E - (dot A B (dot a b 0 0+e) (dot c d 0 0+f)+E)),I (dot C D (dot a b 1 0+e) (dot c d 1 0+f)+F - (dot C D (dot a b 0 0+e) (dot c d 0 0+f)+F)),I (dot C D (dot a b 0 1+e) (dot c d 0 1+f)+F - (dot C D (dot a b 0 0+e) (dot c d 0 0+f)+F)),I (dot A B (dot a b 0 0+e) (dot c d 0 0+f)+E),I (dot C D (dot a b 0 0+e) (dot c d 0 0+f)+F)]) ?_ rfl ⟨?_, ?_⟩
    ·simp [results,Tryz.results60,go_sem,r0,r1,r2,r3,r4,r5]
    ·exact ret6 (dot_one _ _ _ _ _ _ _ _ _ _ _ rfl rfl) (dot_two _ _ _ _ _ _ _ _ _ _ _ rfl rfl) (dot_one _ _ _ _ _ _ _ _ _ _ _ rfl rfl) (dot_two _ _ _ _ _ _ _ _ _ _ _ rfl rfl) (dot_nought _ _ _ _ _ _ _ _ _) (dot_nought _ _ _ _ _ _ _ _ _)
    ·exact Qh (Qh (Qh (Qh (Qh (Qh HB.out ω) ω) ω) ω) ω) ω
end Go.Proofs.YtnpboeodhpenmaaGreatDoor
