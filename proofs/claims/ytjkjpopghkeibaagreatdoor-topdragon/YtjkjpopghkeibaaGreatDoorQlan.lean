/- A part of it. -/
import Derived.Test.YtjkjpopghkeibaaGreatDoorQlae
set_option maxRecDepth 100000
set_option maxHeartbeats 40000000
namespace Go.Proofs.YtjkjpopghkeibaaGreatDoor
open Go.RowKit
attribute [local go_sem ↓] Go.wp_at_zero Go.wp_at_succ
theorem Va (w:World) (hs:Steps w) :
  Rt 190 #[I 0] w (.agg #[I 0,I (-1)]):=by
 obtain ⟨b,h,i,j,k,l,m,n⟩:=hs;have d:0<w.heap.size:=Jw b;have a:¬ w.heap.size=0:=γ;go_enter Tryz.func190,Tryz.ntmps190;go_wp2
 go_region_held3 (fun w'=>At w' 0 0 (I (-1))∧At w' 0 1 (I (-1))∧At w' 0 2 (I 1)∧At w' 0 3 (I (-1)))
  ((refine ⟨?_, ?_, ?_, ?_⟩ <;> (first | (with_reducible (repeat (first | assumption | refine Qk ?_ | refine Qq ?_));done) | (simp [go_sem,Ca, *];done))))
  (first | (go_at_call 165;refine (Xw _ _ _ _ _ γ γ γ γ γ γ γ γ).mono ?_;rintro e c ⟨rfl,o3,f,g,rfl⟩) | (go_at_call 166;refine (Xb _ _ _ γ γ γ γ).mono ?_;rintro e c ⟨rfl,rfl⟩))
 all_goals
  go_wp2;refine bodyPost_ret (v:=.agg #[I 0,I (-1)]) (by simp [results,Tryz.results190,go_sem,Ca]) rfl ⟨rfl, ?_⟩;with_reducible repeat (first | refine Qb ?_ | refine Qg ?_ | exact Qe _)
theorem Ub (w:World) (hs:Steps w) :
  Rt 190 #[I 1] w (.agg #[I 1,I 0]):=by
 obtain ⟨b,h,i,j,k,l,m,n⟩:=hs;have d:0<w.heap.size:=Jw b;have a:¬ w.heap.size=0:=γ;go_enter Tryz.func190,Tryz.ntmps190;go_wp2
 go_region_held3 (fun w'=>At w' 0 2 (I 1)∧At w' 0 3 (I (-1))∧At w' 0 4 (I 1)∧At w' 0 5 (I 1))
  ((refine ⟨?_, ?_, ?_, ?_⟩ <;> (first | (with_reducible (repeat (first | assumption | refine Qk ?_ | refine Qq ?_));done) | (simp [go_sem,Ca, *];done))))
  (first | (go_at_call 165;refine (Xw _ _ _ _ _ γ γ γ γ γ γ γ γ).mono ?_;rintro e c ⟨rfl,o3,f,g,rfl⟩) | (go_at_call 166;refine (Xb _ _ _ γ γ γ γ).mono ?_;rintro e c ⟨rfl,rfl⟩))
 all_goals
  go_wp2;refine bodyPost_ret (v:=.agg #[I 1,I 0]) (by simp [results,Tryz.results190,go_sem,Ca]) rfl ⟨rfl, ?_⟩;with_reducible repeat (first | refine Qb ?_ | refine Qg ?_ | exact Qe _)
theorem Gy (w:World) (hs:Steps w) :
  Rt 190 #[I 2] w (.agg #[I 0,I 1]):=by
 obtain ⟨b,h,i,j,k,l,m,n⟩:=hs;have d:0<w.heap.size:=Jw b;have a:¬ w.heap.size=0:=γ;go_enter Tryz.func190,Tryz.ntmps190;go_wp2
 go_region_held3 (fun w'=>At w' 0 4 (I 1)∧At w' 0 5 (I 1)∧At w' 0 6 (I (-1))∧At w' 0 7 (I 1))
  ((refine ⟨?_, ?_, ?_, ?_⟩ <;> (first | (with_reducible (repeat (first | assumption | refine Qk ?_ | refine Qq ?_));done) | (simp [go_sem,Ca, *];done))))
  (first | (go_at_call 165;refine (Xw _ _ _ _ _ γ γ γ γ γ γ γ γ).mono ?_;rintro e c ⟨rfl,o3,f,g,rfl⟩) | (go_at_call 166;refine (Xb _ _ _ γ γ γ γ).mono ?_;rintro e c ⟨rfl,rfl⟩))
 all_goals
  go_wp2;refine bodyPost_ret (v:=.agg #[I 0,I 1]) (by simp [results,Tryz.results190,go_sem,Ca]) rfl ⟨rfl, ?_⟩;with_reducible repeat (first | refine Qb ?_ | refine Qg ?_ | exact Qe _)
theorem outward_3 (w:World) (hs:Steps w) :
  Rt 190 #[I 3] w (.agg #[I (-1),I 0]):=by
 obtain ⟨b,h,i,j,k,l,m,n⟩:=hs;have d:0<w.heap.size:=Jw b;have a:¬ w.heap.size=0:=γ;go_enter Tryz.func190,Tryz.ntmps190;go_wp2
 go_region_held3 (fun w'=>At w' 0 6 (I (-1))∧At w' 0 7 (I 1)∧At w' 0 0 (I (-1))∧At w' 0 1 (I (-1)))
  ((refine ⟨?_, ?_, ?_, ?_⟩ <;> (first | (with_reducible (repeat (first | assumption | refine Qk ?_ | refine Qq ?_));done) | (simp [go_sem,Ca, *];done))))
  (first | (go_at_call 165;refine (Xw _ _ _ _ _ γ γ γ γ γ γ γ γ).mono ?_;rintro e c ⟨rfl,o3,f,g,rfl⟩) | (go_at_call 166;refine (Xb _ _ _ γ γ γ γ).mono ?_;rintro e c ⟨rfl,rfl⟩))
 all_goals
  go_wp2;refine bodyPost_ret (v:=.agg #[I (-1),I 0]) (by simp [results,Tryz.results190,go_sem,Ca]) rfl ⟨rfl, ?_⟩;with_reducible repeat (first | refine Qb ?_ | refine Qg ?_ | exact Qe _)
theorem outward_any (k:Int) (w:World) (h0:0≤k) (h3:k≤3) (hs:Steps w) :
  Rt 190 #[I k] w (.agg #[I (outX k),I (outY k)]):=by
 have a:k=0∨k=1∨k=2∨k=3:=γ;rcases a with rfl | rfl | rfl | rfl
 ·exact Va w hs
 ·exact Ub w hs
 ·exact Gy w hs
 ·exact outward_3 w hs
theorem kindToward_0 (w:World) (hs:Steps w) :
  Rt 188 #[.agg #[I 0,I (-1)]] w (I 0):=by
 have b:Steps (w.alloc (.cells #[I 0,I (-1)] 45)):=hs.kept β1;have c:Pt (w.alloc (.cells #[I 0,I (-1)] 45)) w.heap.size 0 (-1):=by simp [Pt,go_sem]
 obtain ⟨f,g⟩:=c;clear hs;go_enter Tryz.func188,Tryz.ntmps188;go_wp2;refine wp_loop_rounds 5 ?_;rw [rounds_succ];go_wp2
 go_region_held3 (fun w'=>At w' w.heap.size 0 (I 0)∧At w' w.heap.size 1 (I (-1))∧Steps w')
  ((go_split_ands;refine ⟨?_, ?_, ?_⟩ <;> (first | assumption | (refine Qq ?_;assumption) | (exact Qa χ χ) | (exact Steps.kept χ χ) | (exact Steps.kept (w:=_) χ (Qg (Qe _))))))
  (first | (go_at_call 190;refine (Va _ Δ).mono ?_;rintro e d ⟨rfl,a⟩))
 go_wp2;go_ret;exact ⟨rfl,Qc (Qg β1) a⟩
theorem kindToward_1 (w:World) (hs:Steps w) :
  Rt 188 #[.agg #[I 1,I 0]] w (I 1):=by
 have c:Steps (w.alloc (.cells #[I 1,I 0] 45)):=hs.kept β1;have d:Pt (w.alloc (.cells #[I 1,I 0] 45)) w.heap.size 1 0:=by simp [Pt,go_sem]
 obtain ⟨h,i⟩:=d;clear hs;go_enter Tryz.func188,Tryz.ntmps188;go_wp2;refine wp_loop_rounds 5 ?_;rw [rounds_succ];go_wp2
 go_region_held3 (fun w'=>At w' w.heap.size 0 (I 1)∧At w' w.heap.size 1 (I 0)∧Steps w')
  ((go_split_ands;refine ⟨?_, ?_, ?_⟩ <;> (first | assumption | (refine Qq ?_;assumption) | (exact Qa χ χ) | (exact Steps.kept χ χ) | (exact Steps.kept (w:=_) χ (Qg (Qe _))))))
  (first | (go_at_call 190;refine (Va _ Δ).mono ?_;rintro e f ⟨rfl,a⟩))
 go_wp2;rw [rounds_succ];go_wp2
 go_region_held3 (fun w'=>At w' w.heap.size 0 (I 1)∧At w' w.heap.size 1 (I 0)∧Steps w')
  ((go_split_ands;refine ⟨?_, ?_, ?_⟩ <;> (first | assumption | (refine Qq ?_;assumption) | (exact Qa χ χ) | (exact Steps.kept χ χ) | (exact Steps.kept (w:=_) χ (Qg (Qe _))))))
  (first | (go_at_call 190;refine (Ub _ Δ).mono ?_;rintro e g ⟨rfl,b⟩))
 go_wp2;go_ret;exact ⟨rfl,Qc (Qg (Qc (Qg β1) a)) b⟩
theorem kindToward_2 (w:World) (hs:Steps w) :
  Rt 188 #[.agg #[I 0,I 1]] w (I 2):=by
 have d:Steps (w.alloc (.cells #[I 0,I 1] 45)):=hs.kept β1;have f:Pt (w.alloc (.cells #[I 0,I 1] 45)) w.heap.size 0 1:=by simp [Pt,go_sem]
 obtain ⟨j,k⟩:=f;clear hs;go_enter Tryz.func188,Tryz.ntmps188;go_wp2;refine wp_loop_rounds 5 ?_;rw [rounds_succ];go_wp2
 go_region_held3 (fun w'=>At w' w.heap.size 0 (I 0)∧At w' w.heap.size 1 (I 1)∧Steps w')
  ((go_split_ands;refine ⟨?_, ?_, ?_⟩ <;> (first | assumption | (refine Qq ?_;assumption) | (exact Qa χ χ) | (exact Steps.kept χ χ) | (exact Steps.kept (w:=_) χ (Qg (Qe _))))))
  (first | (go_at_call 190;refine (Va _ Δ).mono ?_;rintro e g ⟨rfl,a⟩))
 go_wp2;rw [rounds_succ];go_wp2
 go_region_held3 (fun w'=>At w' w.heap.size 0 (I 0)∧At w' w.heap.size 1 (I 1)∧Steps w')
  ((go_split_ands;refine ⟨?_, ?_, ?_⟩ <;> (first | assumption | (refine Qq ?_;assumption) | (exact Qa χ χ) | (exact Steps.kept χ χ) | (exact Steps.kept (w:=_) χ (Qg (Qe _))))))
  (first | (go_at_call 190;refine (Ub _ Δ).mono ?_;rintro e h ⟨rfl,b⟩))
 go_wp2;rw [rounds_succ];go_wp2
 go_region_held3 (fun w'=>At w' w.heap.size 0 (I 0)∧At w' w.heap.size 1 (I 1)∧Steps w')
  ((go_split_ands;refine ⟨?_, ?_, ?_⟩ <;> (first | assumption | (refine Qq ?_;assumption) | (exact Qa χ χ) | (exact Steps.kept χ χ) | (exact Steps.kept (w:=_) χ (Qg (Qe _))))))
  (first | (go_at_call 190;refine (Gy _ Δ).mono ?_;rintro e i ⟨rfl,c⟩))
 go_wp2;go_ret;exact ⟨rfl,Qc (Qg (Qc (Qg (Qc (Qg β1) a)) b)) c⟩
theorem kindToward_3 (w:World) (hs:Steps w) :
  Rt 188 #[.agg #[I (-1),I 0]] w (I 3):=by
 have f:Steps (w.alloc (.cells #[I (-1),I 0] 45)):=hs.kept β1;have g:Pt (w.alloc (.cells #[I (-1),I 0] 45)) w.heap.size (-1) 0:=by simp [Pt,go_sem]
 obtain ⟨l,m⟩:=g;clear hs;go_enter Tryz.func188,Tryz.ntmps188;go_wp2;refine wp_loop_rounds 5 ?_;rw [rounds_succ];go_wp2
 go_region_held3 (fun w'=>At w' w.heap.size 0 (I (-1))∧At w' w.heap.size 1 (I 0)∧Steps w')
  ((go_split_ands;refine ⟨?_, ?_, ?_⟩ <;> (first | assumption | (refine Qq ?_;assumption) | (exact Qa χ χ) | (exact Steps.kept χ χ) | (exact Steps.kept (w:=_) χ (Qg (Qe _))))))
  (first | (go_at_call 190;refine (Va _ Δ).mono ?_;rintro e h ⟨rfl,a⟩))
 go_wp2;rw [rounds_succ];go_wp2
 go_region_held3 (fun w'=>At w' w.heap.size 0 (I (-1))∧At w' w.heap.size 1 (I 0)∧Steps w')
  ((go_split_ands;refine ⟨?_, ?_, ?_⟩ <;> (first | assumption | (refine Qq ?_;assumption) | (exact Qa χ χ) | (exact Steps.kept χ χ) | (exact Steps.kept (w:=_) χ (Qg (Qe _))))))
  (first | (go_at_call 190;refine (Ub _ Δ).mono ?_;rintro e i ⟨rfl,b⟩))
 go_wp2;rw [rounds_succ];go_wp2
 go_region_held3 (fun w'=>At w' w.heap.size 0 (I (-1))∧At w' w.heap.size 1 (I 0)∧Steps w')
  ((go_split_ands;refine ⟨?_, ?_, ?_⟩ <;> (first | assumption | (refine Qq ?_;assumption) | (exact Qa χ χ) | (exact Steps.kept χ χ) | (exact Steps.kept (w:=_) χ (Qg (Qe _))))))
  (first | (go_at_call 190;refine (Gy _ Δ).mono ?_;rintro e j ⟨rfl,c⟩))
 go_wp2;rw [rounds_succ];go_wp2
 go_region_held3 (fun w'=>At w' w.heap.size 0 (I (-1))∧At w' w.heap.size 1 (I 0)∧Steps w')
  ((go_split_ands;refine ⟨?_, ?_, ?_⟩ <;> (first | assumption | (refine Qq ?_;assumption) | (exact Qa χ χ) | (exact Steps.kept χ χ) | (exact Steps.kept (w:=_) χ (Qg (Qe _))))))
  (first | (go_at_call 190;refine (outward_3 _ Δ).mono ?_;rintro e k ⟨rfl,d⟩))
 go_wp2;go_ret;exact ⟨rfl,Qc (Qg (Qc (Qg (Qc (Qg (Qc (Qg β1) a)) b)) c)) d⟩
theorem kindToward_any (K:Int) (w:World) (h0:0≤K) (h3:K≤3) (hs:Steps w) :
  Rt 188 #[.agg #[I (outX K),I (outY K)]] w (I K):=by
 have a:K=0∨K=1∨K=2∨K=3:=γ;rcases a with rfl | rfl | rfl | rfl
 ·exact kindToward_0 w hs
 ·exact kindToward_1 w hs
 ·exact kindToward_2 w hs
 ·exact kindToward_3 w hs
theorem move_any (a b c d e f x y k X Y K:Int) (w:World) (hs:Sm a b c d) (J:(-1000000≤e∧e≤1000000)∧(-1000000≤f∧f≤1000000)) (u:triB x y k=true) (o:Steps w)
  (G:dot a b (2*x+1) (2*y+1)+e=2*X+1) (H:dot c d (2*x+1) (2*y+1)+f=2*Y+1) (C:0≤K∧K≤3)
  (m:dot a b (outX k) (outY k)=outX K) (n:dot c d (outX k) (outY k)=outY K) :
  Cl 131 #[.agg #[I a,I b,I c,I d,I e,I f],.agg #[I x,I y,I k]] w fun r w' =>
   r=.returned (.agg #[I X,I Y,I K])∧Bl w w':=by
 have V:0≤k∧k≤3∧-1000000≤x∧x≤1000000∧-1000000≤y∧y≤1000000:=by simpa [triB] using u
 obtain ⟨k0,k3,x1,x2,y1,y2⟩:=V;have d1:=Zu (M:=2000001) hs.1.1 hs.1.2 hs.2.1.1 hs.2.1.2 (show -2000001≤2*x+1 by omega) γ (show -2000001≤2*y+1 by omega) γ;have d2:=Zu (M:=2000001) hs.2.2.1.1 hs.2.2.1.2 hs.2.2.2.1 hs.2.2.2.2 (show -2000001≤2*x+1 by omega) γ (show -2000001≤2*y+1 by omega) γ;have X1 : -3000000≤X∧X≤3000000:=γ;have Y1 : -3000000≤Y∧Y≤3000000:=γ;have A:=Hd hs;have z:=Hd J;have HX:=Hd G;have Q:=Hd H;have q:=Hd m;have s:=Hd n;have P:=Hd o;have t:=Hd u;have hx:=half X;have hy:=half Y;clear hs J G H m n o u d1 d2;go_enter Tryz.func131,Tryz.ntmps131;go_wp2;go_cut [5] (fun s5 l=>∃ j:Nat,s5=.pointer (Az j)∧w.heap.size+1+1<j∧Pt l j (2*X+1) (2*Y+1)∧Bl w l∧Mp l w.heap.size a b c d e f∧Tr l (w.heap.size+1) x y k∧Tr l (w.heap.size+1+1) 0 0 0∧Fr l (w.heap.size+1+1))
 case first =>
  go_region_held3 (fun w'=>(At w' w.heap.size 0 (I a)∧At w' w.heap.size 1 (I b)∧At w' w.heap.size 2 (I c)∧At w' w.heap.size 3 (I d)∧At w' w.heap.size 4 (I e)∧At w' w.heap.size 5 (I f))∧At w' (w.heap.size+1) 0 (I x)∧At w' (w.heap.size+1) 1 (I y)∧At w' (w.heap.size+1) 2 (I k))
   ((refine ⟨⟨?_, ?_, ?_, ?_, ?_, ?_⟩, ?_, ?_, ?_⟩ <;> (first | (with_reducible (repeat (first | assumption | refine Qk ?_ | refine Qq ?_));done) | (simp [go_sem];done))))
   (first | (go_at_call 164;refine (Yx _ _ _ _ t.out).mono ?_;rintro e N ⟨rfl,o3,o4,rfl⟩) | (go_at_call 187;refine (image_any _ _ _ _ _ _ _ _ _ A.out z.out.1 z.out.2 γ γ γ γ).mono ?_;rintro e N ⟨rfl,o5,o6,o7,o8,o9,a2,a6,a7,a8,rfl⟩))
  all_goals
   go_wp2;go_meet
   case rel =>
    refine ⟨_,rfl,γ, ?_, ?_, ?_, ?_, ?_, ?_⟩
    ·simp [Pt,go_sem,Ca,HX.out,Q.out]
    ·with_reducible repeat (first | refine Qb ?_ | refine Qg ?_ | exact Qe _)
    ·simp [Mp,go_sem,Ca]
    ·simp [Tr,go_sem,Ca]
    ·simp [Tr,go_sem,Ca]
    ·simp [Fr,go_sem]
 case rest =>
  obtain ⟨j,rfl,W,L,p,D,E,F,B⟩:=hcut;have hz:w.heap.size≤wc.heap.size:=p.size;have Z:Steps wc:=P.out.kept p;obtain ⟨m0,m1,m2,m3,m4,m5⟩:=id D;obtain ⟨n0,n1,n2⟩:=id E;obtain ⟨r0,r1,r2⟩:=id F;obtain ⟨f0,f1,f2,_,_,_⟩:=id B;obtain ⟨q0,q1⟩:=id L;have O:=Hd p;clear p D E F B L;have ox:=outX_bd k;have oy:=outY_bd k;have wX:IntKind.i64.wrap (2*X)=2*X:=Yi γ γ;have wY:IntKind.i64.wrap (2*Y)=2*Y:=Yi γ γ;have ad:IntKind.i64.wrap X=X:=Yi γ γ;have ae:IntKind.i64.wrap Y=Y:=Yi γ γ;go_wp2
  go_region_held3 (fun w'=>At w' w.heap.size 0 (I a)∧At w' w.heap.size 1 (I b)∧At w' w.heap.size 2 (I c)∧At w' w.heap.size 3 (I d)∧At w' w.heap.size 4 (I e)∧At w' w.heap.size 5 (I f)∧At w' (w.heap.size+1) 2 (I k)∧At w' j 0 (I (2*X+1))∧At w' j 1 (I (2*Y+1))∧Steps w')
   ((go_split_ands;refine ⟨?_, ?_, ?_, ?_, ?_, ?_, ?_, ?_, ?_, ?_⟩ <;> (first | (with_reducible assumption) | (with_reducible exact Qa χ χ) | (with_reducible exact Steps.kept χ χ) | (with_reducible exact Qq χ) | (with_reducible exact Steps.kept χ (Qg (Qe _))) | (refine Yp Γ θ) | (refine Steps.set3 Γ θ))))
   (first | (go_at_call 190;refine (outward_any _ _ k0 k3 γ7).mono ?_;rintro e N ⟨rfl,g⟩) | (go_at_call 189;refine (turn_to _ _ _ _ _ _ _ _ _ _ _ A.out γ γ γ γ q.out s.out).mono ?_;rintro e w3 ⟨rfl,h⟩) | (go_at_call 188;refine (kindToward_any K _ C.1 C.2 γ7).mono ?_;rintro e w4 ⟨rfl,i⟩;have aa:=Qa i (Qa h (Qa g (Qq r0)));have ab:=Qa i (Qa h (Qa g (Qq r1)));have ac:=Qa i (Qa h (Qa g (Qq r2)));have R:=Yr i (Qa h (Qa g (Qq r0))) (Yr h (Qa g (Qq r0)) (Yr g (Qq r0) (dr_fz f0)));have T:=Yr i (Qa h (Qa g (Qq r1))) (Yr h (Qa g (Qq r1)) (Yr g (Qq r1) (dr_fz f1)));have U:=Yr i (Qa h (Qa g (Qq r2))) (Yr h (Qa g (Qq r2)) (Yr g (Qq r2) (dr_fz f2)))))
  go_wp2;refine bodyPost_ret (v:=.agg #[I X,I Y,I K]) ?_ rfl ⟨rfl, ?_⟩
  ·simp [results,Tryz.results131,go_sem, *]
  ·exact Qh (Qh (Qh (Qc (Qc (Qc (Qg O.out) g) h) i) ω) ω) ω
theorem Gl (f:Value) (w:World) :
  Cl 128 #[.bool false,f] w fun r w'=>r=.returned (.tuple #[.agg #[I 0,I 0,I 0],I 3])∧∃ o1 o2,w'=(w.alloc o1).alloc o2:=by
 go_enter Tryz.func128,Tryz.ntmps128;go_wp2;exact bodyPost_ret (v:=.tuple #[.agg #[I 0,I 0,I 0],I 3]) (by simp [results,Tryz.results128,go_sem]) rfl ⟨rfl,_,_,rfl⟩
theorem answerTri_59_0 (x y k:Int) (pa e:Nat) (w:World) (b:∀ W:World,Bl w W→Rt 130 #[.pointer (Az pa),.pointer (Az e)] W (.tuple #[.agg #[I x,I y,I k],I 0])) :
  Rt 128 #[.bool true,.func (.func 130) #[] #[.pointer (Az pa),.pointer (Az e)]] w (.tuple #[.agg #[I x,I y,I k],I 0]):=by
 have g:=Hd b;clear b;go_enter Tryz.func128,Tryz.ntmps128;go_wp2_with (go_at_call 130;refine (g.out _ β2).mono ?_;rintro r c ⟨rfl,d⟩;have r0:At c w.heap.size 0 (I 0):=Qa d ε;have h:=Fk w.heap.size 0 d;have r1:At c w.heap.size 1 (I 0):=Qa d ε;have i:=Fk w.heap.size 1 d;have r2:At c w.heap.size 2 (I 0):=Qa d ε;have j:=Fk w.heap.size 2 d;have l:w.heap.size<c.heap.size:=World.block_lt_of_cell? (w:=c) (a:=⟨w.heap.size,0,none⟩) r0;have m:w.heap.size<c.heap.size+1:=γ;have n:w.heap.size<c.heap.size+1+1:=γ;have o:w.heap.size<c.heap.size+1+1+1:=γ;have p:w.heap.size<c.heap.size+1+1+1+1:=γ;have q:w.heap.size<c.heap.size+1+1+1+1+1:=γ;have f:=Hd (Qc β2 d);clear d)
 refine bodyPost_ret (v:=.tuple #[.agg #[I x,I y,I k],I 0]) ?_ rfl ⟨rfl, ?_⟩
 ·first | (simp [results,Tryz.results128,go_sem, *];done) | (simp [results,Tryz.results128,go_sem,Ca, *];done)
 ·with_reducible repeat' (first | exact f.out | refine Qh ?_ ?_ | refine Qb ?_ | refine Qg ?_)
  all_goals (first | (simp;done) | (simp;omega))
theorem answerTri_59_2 (pa e:Nat) (w:World) (d:∀ W:World,Bl w W→Rt 130 #[.pointer (Az pa),.pointer (Az e)] W (.tuple #[.agg #[I 0,I 0,I 0],I 2])) :
  Rt 128 #[.bool true,.func (.func 130) #[] #[.pointer (Az pa),.pointer (Az e)]] w (.tuple #[.agg #[I 0,I 0,I 0],I 2]):=by
 have g:=Hd d;clear d;go_enter Tryz.func128,Tryz.ntmps128;go_wp2_with (go_at_call 130;refine (g.out _ β2).mono ?_;rintro r b ⟨rfl,c⟩;have r0:At b w.heap.size 0 (I 0):=Qa c ε;have h:=Fk w.heap.size 0 c;have r1:At b w.heap.size 1 (I 0):=Qa c ε;have i:=Fk w.heap.size 1 c;have r2:At b w.heap.size 2 (I 0):=Qa c ε;have j:=Fk w.heap.size 2 c;have u:w.heap.size<b.heap.size:=World.block_lt_of_cell? (w:=b) (a:=⟨w.heap.size,0,none⟩) r0;have x:w.heap.size<b.heap.size+1:=γ;have y:w.heap.size<b.heap.size+1+1:=γ;have z:w.heap.size<b.heap.size+1+1+1:=γ;have A:w.heap.size<b.heap.size+1+1+1+1:=γ;have B:w.heap.size<b.heap.size+1+1+1+1+1:=γ;have k0:At b (w.heap.size+1) 0 (I 0):=Qa c ε;have k:=Fk (w.heap.size+1) 0 c;have k1:At b (w.heap.size+1) 1 (I 0):=Qa c ε;have l:=Fk (w.heap.size+1) 1 c;have k2:At b (w.heap.size+1) 2 (I 0):=Qa c ε;have m:=Fk (w.heap.size+1) 2 c;have n:w.heap.size+1<b.heap.size:=World.block_lt_of_cell? (w:=b) (a:=⟨w.heap.size+1,0,none⟩) k0;have o:w.heap.size+1<b.heap.size+1:=γ;have p:w.heap.size+1<b.heap.size+1+1:=γ;have q:w.heap.size+1<b.heap.size+1+1+1:=γ;have s:w.heap.size+1<b.heap.size+1+1+1+1:=γ;have t:w.heap.size+1<b.heap.size+1+1+1+1+1:=γ;have f:=Hd (Qc β2 c);clear c)
 refine bodyPost_ret (v:=.tuple #[.agg #[I 0,I 0,I 0],I 2]) ?_ rfl ⟨rfl, ?_⟩
 ·first | (simp [results,Tryz.results128,go_sem, *];done) | (simp [results,Tryz.results128,go_sem,Ca, *];done)
 ·with_reducible repeat' (first | exact f.out | refine Qh ?_ ?_ | refine Qb ?_ | refine Qg ?_)
  all_goals (first | (simp;done) | (simp;omega))
theorem move1_yes (a b c d e f x y k X Y K:Int) (pa s:Nat) (w:World) (h1:mapB a b c d e f=true) (h2:triB x y k=true) (n:dot a b (2*x+1) (2*y+1)+e=2*X+1) (o:dot c d (2*x+1) (2*y+1)+f=2*Y+1) (m:0≤K∧K≤3) (i:dot a b (outX k) (outY k)=outX K) (j:dot c d (outX k) (outY k)=outY K) (M:triB X Y K=true) (hs:Steps w) (p:Mp w pa a b c d e f) (q:Tr w s x y k) :
  Rt 130 #[.pointer (Az pa),.pointer (Az s)] w (.tuple #[.agg #[I X,I Y,I K],I 0]):=by
 obtain ⟨t,e1,_,_⟩:=Ju h1;have O:=p.lt;have P:=q.lt;obtain ⟨a0,a1,L,a3,a4,a5⟩:=p;obtain ⟨b0,b1,b2⟩:=q;have l:=Hd (fun (W:World) hW=>move_any a b c d e f x y k X Y K W t e1 h2 hW n o m i j);have z:=Hd hs;clear t e1 h1 h2 n o m i j hs;go_enter Tryz.func130,Tryz.ntmps130;go_wp2_with (first | (go_at_call 131;refine (l.out _ (z.out.kept β1)).mono ?_;rintro r g ⟨rfl,h⟩;have r0:At g w.heap.size 0 (I 0):=Qa h ε;have A:=Fk w.heap.size 0 h;have r1:At g w.heap.size 1 (I 0):=Qa h ε;have B:=Fk w.heap.size 1 h;have r2:At g w.heap.size 2 (I 0):=Qa h ε;have C:=Fk w.heap.size 2 h;have D:w.heap.size<g.heap.size:=World.block_lt_of_cell? (w:=g) (a:=⟨w.heap.size,0,none⟩) r0;have E:w.heap.size<g.heap.size+1:=γ;have F:w.heap.size<g.heap.size+1+1:=γ;have G:w.heap.size<g.heap.size+1+1+1:=γ;have H:w.heap.size<g.heap.size+1+1+1+1:=γ;have J:w.heap.size<g.heap.size+1+1+1+1+1:=γ;have u:=Hd (Qc β1 h);clear h) | (go_at_call 116;refine (Xd _ _ _ _).mono ?_;rintro r N ⟨rfl,o1,rfl⟩))
 refine bodyPost_ret (v:=.tuple #[.agg #[I X,I Y,I K],I 0]) ?_ rfl ⟨rfl, ?_⟩
 ·first | (simp [results,Tryz.results130,go_sem, *];done) | (simp [results,Tryz.results130,go_sem,Ca, *];done)
 ·with_reducible repeat' (first | exact u.out | refine Qh ?_ ?_ | refine Qb ?_ | refine Qg ?_)
  all_goals (first | (simp;done) | (simp;omega))
theorem Move_yes (a b c d e f x y k X Y K:Int) (w:World) (h1:mapB a b c d e f=true) (h2:triB x y k=true) (o:dot a b (2*x+1) (2*y+1)+e=2*X+1) (p:dot c d (2*x+1) (2*y+1)+f=2*Y+1) (n:0≤K∧K≤3) (i:dot a b (outX k) (outY k)=outX K) (j:dot c d (outX k) (outY k)=outY K) (q:triB X Y K=true) (hs:Steps w) :
  Rt 80 #[.agg #[I a,I b,I c,I d,I e,I f],.agg #[I x,I y,I k]] w (.tuple #[.agg #[I X,I Y,I K],I 0]):=by
 have B:=Jf;have t:Hid (∀ (pa m:Nat) (W:World),Bl w W→Mp W pa a b c d e f→Tr W m x y k→Rt 130 #[.pointer (Az pa),.pointer (Az m)] W (.tuple #[.agg #[I X,I Y,I K],I 0])):=fun pa m W l hp C=>move1_yes a b c d e f x y k X Y K pa m W h1 h2 o p n i j q (hs.kept l) hp C;clear o p n i j q hs;go_enter Tryz.func80,Tryz.ntmps80;go_wp2_with (first | (go_at_call 129;refine (Xe _ _ _ _ _ _ _).mono ?_;rintro r g ⟨rfl,o1,rfl⟩) | (go_at_call 116;refine (Xd _ _ _ _).mono ?_;rintro r L ⟨rfl,o2,rfl⟩) | (go_at_call 128;refine (answerTri_59_0 _ _ _ _ _ _ (fun W l=>t.out _ _ W (Qc β5 l) (Mp.kept δ3 l) (Tr.kept γ8 l))).mono ?_;rintro r g ⟨rfl,h⟩;have r0:At g (w.heap.size+1+1) 0 (I 0):=Qa h ε;have u:=Fk (w.heap.size+1+1) 0 h;have r1:At g (w.heap.size+1+1) 1 (I 0):=Qa h ε;have z:=Fk (w.heap.size+1+1) 1 h;have r2:At g (w.heap.size+1+1) 2 (I 0):=Qa h ε;have A:=Fk (w.heap.size+1+1) 2 h;have D:w.heap.size+1+1<g.heap.size:=World.block_lt_of_cell? (w:=g) (a:=⟨w.heap.size+1+1,0,none⟩) r0;have E:w.heap.size+1+1<g.heap.size+1:=γ;have F:w.heap.size+1+1<g.heap.size+1+1:=γ;have G:w.heap.size+1+1<g.heap.size+1+1+1:=γ;have H:w.heap.size+1+1<g.heap.size+1+1+1+1:=γ;have J:w.heap.size+1+1<g.heap.size+1+1+1+1+1:=γ;have s:=Hd (Qc β5 h);clear h))
 refine bodyPost_ret (v:=.tuple #[.agg #[I X,I Y,I K],I 0]) ?_ rfl ⟨rfl, ?_⟩
 ·first | (simp [results,Tryz.results80,go_sem, *];done) | (simp [results,Tryz.results80,go_sem,Ca, *];done)
 ·with_reducible repeat' (first | exact s.out | refine Qh ?_ ?_ | refine Qb ?_ | refine Qg ?_)
  all_goals (first | (simp;done) | (simp;omega))
theorem move1_no (a b c d e f x y k X Y K:Int) (pa s:Nat) (w:World) (h1:mapB a b c d e f=true) (h2:triB x y k=true) (n:dot a b (2*x+1) (2*y+1)+e=2*X+1) (o:dot c d (2*x+1) (2*y+1)+f=2*Y+1) (m:0≤K∧K≤3) (i:dot a b (outX k) (outY k)=outX K) (j:dot c d (outX k) (outY k)=outY K) (M:triB X Y K=false) (hs:Steps w) (p:Mp w pa a b c d e f) (q:Tr w s x y k) :
  Rt 130 #[.pointer (Az pa),.pointer (Az s)] w (.tuple #[.agg #[I 0,I 0,I 0],I 2]):=by
 obtain ⟨t,e1,_,_⟩:=Ju h1;have O:=p.lt;have P:=q.lt;obtain ⟨a0,a1,L,a3,a4,a5⟩:=p;obtain ⟨b0,b1,b2⟩:=q;have l:=Hd (fun (W:World) hW=>move_any a b c d e f x y k X Y K W t e1 h2 hW n o m i j);have z:=Hd hs;clear t e1 h1 h2 n o m i j hs;go_enter Tryz.func130,Tryz.ntmps130;go_wp2_with (first | (go_at_call 131;refine (l.out _ (z.out.kept β1)).mono ?_;rintro r g ⟨rfl,h⟩;have r0:At g w.heap.size 0 (I 0):=Qa h ε;have A:=Fk w.heap.size 0 h;have r1:At g w.heap.size 1 (I 0):=Qa h ε;have B:=Fk w.heap.size 1 h;have r2:At g w.heap.size 2 (I 0):=Qa h ε;have C:=Fk w.heap.size 2 h;have D:w.heap.size<g.heap.size:=World.block_lt_of_cell? (w:=g) (a:=⟨w.heap.size,0,none⟩) r0;have E:w.heap.size<g.heap.size+1:=γ;have F:w.heap.size<g.heap.size+1+1:=γ;have G:w.heap.size<g.heap.size+1+1+1:=γ;have H:w.heap.size<g.heap.size+1+1+1+1:=γ;have J:w.heap.size<g.heap.size+1+1+1+1+1:=γ;have u:=Hd (Qc β1 h);clear h) | (go_at_call 116;refine (Xd _ _ _ _).mono ?_;rintro r N ⟨rfl,o1,rfl⟩))
 refine bodyPost_ret (v:=.tuple #[.agg #[I 0,I 0,I 0],I 2]) ?_ rfl ⟨rfl, ?_⟩
 ·first | (simp [results,Tryz.results130,go_sem, *];done) | (simp [results,Tryz.results130,go_sem,Ca, *];done)
 ·with_reducible repeat' (first | exact u.out | refine Qh ?_ ?_ | refine Qb ?_ | refine Qg ?_)
  all_goals (first | (simp;done) | (simp;omega))
theorem Move_no (a b c d e f x y k X Y K:Int) (w:World) (h1:mapB a b c d e f=true) (h2:triB x y k=true) (o:dot a b (2*x+1) (2*y+1)+e=2*X+1) (p:dot c d (2*x+1) (2*y+1)+f=2*Y+1) (n:0≤K∧K≤3) (i:dot a b (outX k) (outY k)=outX K) (j:dot c d (outX k) (outY k)=outY K) (q:triB X Y K=false) (hs:Steps w) :
  Rt 80 #[.agg #[I a,I b,I c,I d,I e,I f],.agg #[I x,I y,I k]] w (.tuple #[.agg #[I 0,I 0,I 0],I 2]):=by
 have B:=Jf;have t:Hid (∀ (pa m:Nat) (W:World),Bl w W→Mp W pa a b c d e f→Tr W m x y k→Rt 130 #[.pointer (Az pa),.pointer (Az m)] W (.tuple #[.agg #[I 0,I 0,I 0],I 2])):=fun pa m W l hp C=>move1_no a b c d e f x y k X Y K pa m W h1 h2 o p n i j q (hs.kept l) hp C;clear o p n i j q hs;go_enter Tryz.func80,Tryz.ntmps80;go_wp2_with (first | (go_at_call 129;refine (Xe _ _ _ _ _ _ _).mono ?_;rintro r g ⟨rfl,o1,rfl⟩) | (go_at_call 116;refine (Xd _ _ _ _).mono ?_;rintro r L ⟨rfl,o2,rfl⟩) | (go_at_call 128;refine (answerTri_59_2 _ _ _ (fun W l=>t.out _ _ W (Qc β5 l) (Mp.kept δ3 l) (Tr.kept γ8 l))).mono ?_;rintro r g ⟨rfl,h⟩;have r0:At g (w.heap.size+1+1) 0 (I 0):=Qa h ε;have u:=Fk (w.heap.size+1+1) 0 h;have r1:At g (w.heap.size+1+1) 1 (I 0):=Qa h ε;have z:=Fk (w.heap.size+1+1) 1 h;have r2:At g (w.heap.size+1+1) 2 (I 0):=Qa h ε;have A:=Fk (w.heap.size+1+1) 2 h;have D:w.heap.size+1+1<g.heap.size:=World.block_lt_of_cell? (w:=g) (a:=⟨w.heap.size+1+1,0,none⟩) r0;have E:w.heap.size+1+1<g.heap.size+1:=γ;have F:w.heap.size+1+1<g.heap.size+1+1:=γ;have G:w.heap.size+1+1<g.heap.size+1+1+1:=γ;have H:w.heap.size+1+1<g.heap.size+1+1+1+1:=γ;have J:w.heap.size+1+1<g.heap.size+1+1+1+1+1:=γ;have s:=Hd (Qc β5 h);clear h))
 refine bodyPost_ret (v:=.tuple #[.agg #[I 0,I 0,I 0],I 2]) ?_ rfl ⟨rfl, ?_⟩
 ·first | (simp [results,Tryz.results80,go_sem, *];done) | (simp [results,Tryz.results80,go_sem,Ca, *];done)
 ·with_reducible repeat' (first | exact s.out | refine Qh ?_ ?_ | refine Qb ?_ | refine Qg ?_)
  all_goals (first | (simp;done) | (simp;omega))
theorem Move_out (a b c d e f x y k:Int) (w:World) (h:mapB a b c d e f=false∨triB x y k=false) :
  Rt 80 #[.agg #[I a,I b,I c,I d,I e,I f],.agg #[I x,I y,I k]] w (.tuple #[.agg #[I 0,I 0,I 0],I 3]):=by
 have i:=Jf;by_cases h1:mapB a b c d e f=true
 ·have h2:triB x y k=false:=h.resolve_left (by simp [h1]);clear h;go_enter Tryz.func80,Tryz.ntmps80;go_wp2_with (first | (go_at_call 129;refine (Xe _ _ _ _ _ _ _).mono ?_;rintro r g ⟨rfl,o1,rfl⟩) | (go_at_call 116;refine (Xd _ _ _ _).mono ?_;rintro r j ⟨rfl,o2,rfl⟩) | (go_at_call 128;refine (Gl _ _).mono ?_;rintro r g ⟨rfl,o2,o3,rfl⟩))
  refine bodyPost_ret (v:=.tuple #[.agg #[I 0,I 0,I 0],I 3]) (by simp [results,Tryz.results80,go_sem,Ca]) rfl ⟨rfl, ?_⟩;with_reducible repeat (first | refine Qb ?_ | exact Qe _)
 ·have h2:mapB a b c d e f=false:=by simpa using h1
  clear h h1;go_enter Tryz.func80,Tryz.ntmps80;go_wp2_with (first | (go_at_call 129;refine (Xe _ _ _ _ _ _ _).mono ?_;rintro r g ⟨rfl,o1,rfl⟩) | (go_at_call 116;refine (Xd _ _ _ _).mono ?_;rintro r j ⟨rfl,o2,rfl⟩) | (go_at_call 128;refine (Gl _ _).mono ?_;rintro r g ⟨rfl,o2,o3,rfl⟩))
  refine bodyPost_ret (v:=.tuple #[.agg #[I 0,I 0,I 0],I 3]) (by simp [results,Tryz.results80,go_sem,Ca]) rfl ⟨rfl, ?_⟩;with_reducible repeat (first | refine Qb ?_ | exact Qe _)
end Go.Proofs.YtjkjpopghkeibaaGreatDoor
