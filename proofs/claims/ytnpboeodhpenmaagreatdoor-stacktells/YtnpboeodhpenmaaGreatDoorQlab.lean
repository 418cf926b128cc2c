/- A part of it. -/
import Derived.Test.YtnpboeodhpenmaaGreatDoorQlaa
set_option maxRecDepth 100000
set_option maxHeartbeats 40000000
namespace Go.Proofs.YtnpboeodhpenmaaGreatDoor
open Go.RowKit
attribute [local go_sem ↓] Go.wp_at_zero Go.wp_at_succ
theorem edges_any (x y k:Int) (w:World) (h:triB x y k=true) (hs:Steps w) :
  Cl 280 #[.agg #[I x,I y,I k]] w fun r w'=>r=.returned (.agg #[
   I (eA (2*x+1) (2*y+1) (c1x x k) (c1y y k)),I (eB (2*x+1) (2*y+1) (c1x x k) (c1y y k)),I (eC (2*x+1) (2*y+1) (c1x x k) (c1y y k)),I (eD (2*x+1) (2*y+1) (c1x x k) (c1y y k)),
   I (eA (c1x x k) (c1y y k) (c2x x k) (c2y y k)),I (eB (c1x x k) (c1y y k) (c2x x k) (c2y y k)),I (eC (c1x x k) (c1y y k) (c2x x k) (c2y y k)),I (eD (c1x x k) (c1y y k) (c2x x k) (c2y y k)),
   I (eA (c2x x k) (c2y y k) (2*x+1) (2*y+1)),I (eB (c2x x k) (c2y y k) (2*x+1) (2*y+1)),I (eC (c2x x k) (c2y y k) (2*x+1) (2*y+1)),I (eD (c2x x k) (c2y y k) (2*x+1) (2*y+1))])∧Bl w w':=by
 have d:=Hd hs;clear hs;go_enter Tryz.func280,Tryz.ntmps280;go_wp2_with (go_at_call 94;refine (Qar _ _ _ _ h (d.out.kept β2)).mono ?_;rintro r w1 ⟨rfl,b⟩;have r0:At w1 (w.heap.size+1) 0 (I 0):=Jd b δ;have f0:Fn w1 (w.heap.size+1) 0:=(b.frozen (p:=⟨w.heap.size+1,0,none⟩) ξ).trans δ;have r1:At w1 (w.heap.size+1) 1 (I 0):=Jd b δ;have f1:Fn w1 (w.heap.size+1) 1:=(b.frozen (p:=⟨w.heap.size+1,1,none⟩) ξ).trans δ;have r2:At w1 (w.heap.size+1) 2 (I 0):=Jd b δ;have f2:Fn w1 (w.heap.size+1) 2:=(b.frozen (p:=⟨w.heap.size+1,2,none⟩) ξ).trans δ;have r3:At w1 (w.heap.size+1) 3 (I 0):=Jd b δ;have f3:Fn w1 (w.heap.size+1) 3:=(b.frozen (p:=⟨w.heap.size+1,3,none⟩) ξ).trans δ;have j:At w1 (w.heap.size+1) 4 (I 0):=Jd b δ;have f4:Fn w1 (w.heap.size+1) 4:=(b.frozen (p:=⟨w.heap.size+1,4,none⟩) ξ).trans δ;have l:At w1 (w.heap.size+1) 5 (I 0):=Jd b δ;have f5:Fn w1 (w.heap.size+1) 5:=(b.frozen (p:=⟨w.heap.size+1,5,none⟩) ξ).trans δ;have m:At w1 (w.heap.size+1) 6 (I 0):=Jd b δ;have f6:Fn w1 (w.heap.size+1) 6:=(b.frozen (p:=⟨w.heap.size+1,6,none⟩) ξ).trans δ;have n:At w1 (w.heap.size+1) 7 (I 0):=Jd b δ;have f7:Fn w1 (w.heap.size+1) 7:=(b.frozen (p:=⟨w.heap.size+1,7,none⟩) ξ).trans δ;have o:At w1 (w.heap.size+1) 8 (I 0):=Jd b δ;have f8:Fn w1 (w.heap.size+1) 8:=(b.frozen (p:=⟨w.heap.size+1,8,none⟩) ξ).trans δ;have q:At w1 (w.heap.size+1) 9 (I 0):=Jd b δ;have f9:Fn w1 (w.heap.size+1) 9:=(b.frozen (p:=⟨w.heap.size+1,9,none⟩) ξ).trans δ;have e:At w1 (w.heap.size+1) 10 (I 0):=Jd b δ;have f10:Fn w1 (w.heap.size+1) 10:=(b.frozen (p:=⟨w.heap.size+1,10,none⟩) ξ).trans δ;have f:At w1 (w.heap.size+1) 11 (I 0):=Jd b δ;have f11:Fn w1 (w.heap.size+1) 11:=(b.frozen (p:=⟨w.heap.size+1,11,none⟩) ξ).trans δ;have z0:w.heap.size+1<w1.heap.size:=World.block_lt_of_cell? (w:=w1) (a:=⟨w.heap.size+1,0,none⟩) r0;have z1:w.heap.size+1<w1.heap.size+1:=γ;have z2:w.heap.size+1<w1.heap.size+1+1:=γ;have z3:w.heap.size+1<w1.heap.size+1+1+1:=γ;have z4:w.heap.size+1<w1.heap.size+1+1+1+1:=γ;have z5:w.heap.size+1<w1.heap.size+1+1+1+1+1:=γ;have z6:w.heap.size+1<w1.heap.size+1+1+1+1+1+1:=γ;have z7:w.heap.size+1<w1.heap.size+1+1+1+1+1+1+1:=γ;have z8:w.heap.size+1<w1.heap.size+1+1+1+1+1+1+1+1:=γ;have z9:w.heap.size+1<w1.heap.size+1+1+1+1+1+1+1+1+1:=γ;have z10:w.heap.size+1<w1.heap.size+1+1+1+1+1+1+1+1+1+1:=γ;have z11:w.heap.size+1<w1.heap.size+1+1+1+1+1+1+1+1+1+1+1:=γ;have c:=Hd (Qc β2 b);clear b)
 go_region_held3 (fun w'=>At w' w1.heap.size 0 (I (2*x+1))∧At w' w1.heap.size 1 (I (2*y+1))∧At w' w1.heap.size 2 (I (c1x x k))∧At w' w1.heap.size 3 (I (c1y y k))∧At w' w1.heap.size 4 (I (c2x x k))∧At w' w1.heap.size 5 (I (c2y y k)))
  ((refine ⟨?_, ?_, ?_, ?_, ?_, ?_⟩ <;> (first | (simp [go_sem];done) | (simp [go_sem,Ca];done) | (repeat' (first | (with_reducible refine Qo ?_ ?_) | (dsimp only;omega) | (simp [go_sem,Ca];done))))))
  (first | (go_at_call 307;refine (edge_num _ _ _ _ _).mono ?_;rintro r s ⟨rfl,o3,g,i,rfl⟩))
 go_wp2;refine bodyPost_ret (v:=.agg #[ I (eA (2*x+1) (2*y+1) (c1x x k) (c1y y k)),I (eB (2*x+1) (2*y+1) (c1x x k) (c1y y k)),I (eC (2*x+1) (2*y+1) (c1x x k) (c1y y k)),I (eD (2*x+1) (2*y+1) (c1x x k) (c1y y k)),I (eA (c1x x k) (c1y y k) (c2x x k) (c2y y k)),I (eB (c1x x k) (c1y y k) (c2x x k) (c2y y k)),I (eC (c1x x k) (c1y y k) (c2x x k) (c2y y k)),I (eD (c1x x k) (c1y y k) (c2x x k) (c2y y k)),I (eA (c2x x k) (c2y y k) (2*x+1) (2*y+1)),I (eB (c2x x k) (c2y y k) (2*x+1) (2*y+1)),I (eC (c2x x k) (c2y y k) (2*x+1) (2*y+1)),I (eD (c2x x k) (c2y y k) (2*x+1) (2*y+1))]) ?_ rfl ⟨rfl, ?_⟩
 ·simp [results,Tryz.results280,go_sem,Ca, *]
 ·with_reducible repeat' (first | exact c.out | refine Qh ?_ ?_ | refine Qb ?_ | refine Qg ?_)
  all_goals (dsimp only;omega)
attribute [local go_sem ↓] Go.wp_at_zero Go.wp_at_succ
def dot (p q x y:Int):Int:=p*x+q*y
theorem Xy {u x M:Int} (h1 : -1≤u) (h2:u≤1) (h3 : -M≤x) (h4:x≤M) : -M≤u*x∧u*x≤M:=by
 have a:u=-1∨u=0∨u=1:=γ;rcases a with rfl | rfl | rfl <;> omega
theorem Zu {p q x y M:Int} (h1 : -1≤p) (h2:p≤1) (h3 : -1≤q) (h4:q≤1) (h5 : -M≤x) (h6:x≤M) (c : -M≤y) (d:y≤M) : -(2*M)≤dot p q x y∧dot p q x y≤2*M:=by
 have a:=Xy h1 h2 h5 h6;have b:=Xy h3 h4 c d;unfold dot;omega
def Sm (a b c d:Int):Prop:=(-1≤a∧a≤1)∧(-1≤b∧b≤1)∧(-1≤c∧c≤1)∧(-1≤d∧d≤1)
theorem turn_any (a b c d e f x y:Int) (w:World) (hs:Sm a b c d) (h1 : -4000000≤x) (h2:x≤4000000) (h3 : -4000000≤y) (h4:y≤4000000) :
  Cl 181 #[.agg #[I a,I b,I c,I d,I e,I f],.agg #[I x,I y]] w fun r w'=>r=.returned (.agg #[I (dot a b x y),I (dot c d x y)])∧∃ o1 o2 o3,w'=((w.alloc o1).alloc o2).alloc o3:=by
 obtain ⟨⟨a1,g⟩,⟨b1,b2⟩,⟨c1,c2⟩,⟨d1,d2⟩⟩:=hs;obtain ⟨h,i⟩:=Xy a1 g h1 h2;obtain ⟨j,k⟩:=Xy b1 b2 h3 h4;obtain ⟨l,m⟩:=Xy c1 c2 h1 h2;obtain ⟨n,o⟩:=Xy d1 d2 h3 h4;go_enter Tryz.func181,Tryz.ntmps181;go_wp2;exact bodyPost_ret (v:=.agg #[I (dot a b x y),I (dot c d x y)]) (by simp [results,Tryz.results181,go_sem,dot]) rfl ⟨rfl,_,_,_,rfl⟩
theorem Xo (a b c d e f x y:Int) (w:World) (hs:Sm a b c d) (h : -1000000≤e∧e≤1000000) (i : -1000000≤f∧f≤1000000) (h1 : -4000000≤x) (h2:x≤4000000) (h3 : -4000000≤y) (h4:y≤4000000) :
  Cl 130 #[.agg #[I a,I b,I c,I d,I e,I f],.agg #[I x,I y]] w fun r w'=>r=.returned (.agg #[I (dot a b x y+e),I (dot c d x y+f)])∧∃ o1 o2 o3,w'=((w.alloc o1).alloc o2).alloc o3:=by
 obtain ⟨⟨a1,g⟩,⟨b1,b2⟩,⟨c1,c2⟩,⟨d1,d2⟩⟩:=hs;obtain ⟨j,k⟩:=Xy a1 g h1 h2;obtain ⟨l,m⟩:=Xy b1 b2 h3 h4;obtain ⟨n,o⟩:=Xy c1 c2 h1 h2;obtain ⟨p,q⟩:=Xy d1 d2 h3 h4;obtain ⟨e1,e2⟩:=h;obtain ⟨f1,f2⟩:=i;go_enter Tryz.func130,Tryz.ntmps130;go_wp2;exact bodyPost_ret (v:=.agg #[I (dot a b x y+e),I (dot c d x y+f)]) (by simp [results,Tryz.results130,go_sem,dot]) rfl ⟨rfl,_,_,_,rfl⟩
theorem image_any (a b c d e f x y:Int) (w:World) (hs:Sm a b c d) (p : -1000000≤e∧e≤1000000) (q : -1000000≤f∧f≤1000000) (h1 : -4000000≤x) (h2:x≤4000000) (h3 : -4000000≤y) (h4:y≤4000000) :
  Cl 178 #[.agg #[I a,I b,I c,I d,I e,I f],.agg #[I x,I y]] w fun r w'=>r=.returned (.agg #[I (dot a b x y+e),I (dot c d x y+f)])∧∃ o1 o2 o3 g h i j k o9,w'=(((((((((w.alloc o1).alloc o2).alloc o3).alloc g).alloc h).alloc i).alloc j).alloc k).alloc o9).drew:=by
 have m:=Zu hs.1.1 hs.1.2 hs.2.1.1 hs.2.1.2 h1 h2 h3 h4;have n:=Zu hs.2.2.1.1 hs.2.2.1.2 hs.2.2.2.1 hs.2.2.2.2 h1 h2 h3 h4;have l:=Hd hs;clear hs;go_enter Tryz.func178,Tryz.ntmps178;go_wp2
 go_region_held3 (fun w'=>(At w' w.heap.size 0 (I a)∧At w' w.heap.size 1 (I b)∧At w' w.heap.size 2 (I c)∧At w' w.heap.size 3 (I d)∧At w' w.heap.size 4 (I e)∧At w' w.heap.size 5 (I f))
   ∧ At w' (w.heap.size+1) 0 (I x)∧At w' (w.heap.size+1) 1 (I y))
  (simp [go_sem,Ca])
  (first | (go_at_call 181;refine (turn_any _ _ _ _ _ _ _ _ _ l.out γ γ γ γ).mono ?_;rintro e o ⟨rfl,o3,g,h,rfl⟩) | (go_at_call 183;refine (Xw _ _ _ _ _ γ γ γ γ γ γ γ γ).mono ?_;rintro e o ⟨rfl,i,j,k,rfl⟩))
 go_wp2;exact bodyPost_ret (v:=.agg #[I (dot a b x y+e),I (dot c d x y+f)]) (by simp [results,Tryz.results178,go_sem,Ca]) rfl ⟨rfl,_,_,_,_,_,_,_,_,_,rfl⟩
attribute [local go_sem ↓] Go.wp_at_zero Go.wp_at_succ
def outX (k:Int):Int:=if k=1 then 1 else if k=3 then -1 else 0
def outY (k:Int):Int:=if k=0 then -1 else if k=2 then 1 else 0
theorem outX_bd (k:Int) : -1≤outX k∧outX k≤1:=by unfold outX;split <;> (try split) <;> omega
theorem outY_bd (k:Int) : -1≤outY k∧outY k≤1:=by unfold outY;split <;> (try split) <;> omega
def ue0 (x y k:Int):Int:=eA (2*x+1) (2*y+1) (c1x x k) (c1y y k)
def ue1 (x y k:Int):Int:=eB (2*x+1) (2*y+1) (c1x x k) (c1y y k)
def ue2 (x y k:Int):Int:=eC (2*x+1) (2*y+1) (c1x x k) (c1y y k)
def ue3 (x y k:Int):Int:=eD (2*x+1) (2*y+1) (c1x x k) (c1y y k)
def ue4 (x y k:Int):Int:=eA (c1x x k) (c1y y k) (c2x x k) (c2y y k)
def ue5 (x y k:Int):Int:=eB (c1x x k) (c1y y k) (c2x x k) (c2y y k)
def ue6 (x y k:Int):Int:=eC (c1x x k) (c1y y k) (c2x x k) (c2y y k)
def ue7 (x y k:Int):Int:=eD (c1x x k) (c1y y k) (c2x x k) (c2y y k)
def ue8 (x y k:Int):Int:=eA (c2x x k) (c2y y k) (2*x+1) (2*y+1)
def ue9 (x y k:Int):Int:=eB (c2x x k) (c2y y k) (2*x+1) (2*y+1)
def ue10 (x y k:Int):Int:=eC (c2x x k) (c2y y k) (2*x+1) (2*y+1)
def ue11 (x y k:Int):Int:=eD (c2x x k) (c2y y k) (2*x+1) (2*y+1)
def sameB (a b c d p q r s:Int):Bool:=decide (a=p∧b=q∧c=r∧d=s)
def e0 (x y k p q r s:Int):Bool:=sameB (ue0 x y k) (ue1 x y k) (ue2 x y k) (ue3 x y k) p q r s
def e1 (x y k p q r s:Int):Bool:=sameB (ue4 x y k) (ue5 x y k) (ue6 x y k) (ue7 x y k) p q r s
def e2 (x y k p q r s:Int):Bool:=sameB (ue8 x y k) (ue9 x y k) (ue10 x y k) (ue11 x y k) p q r s
theorem Zt (x y p q r s:Int):e0 x y 0 p q r s=true↔(2*x=p∧2*y=q∧2*x+1=r∧2*y+1=s):=by
 simp [e0,sameB,ue0,ue1,ue2,ue3,eA,eB,eC,eD,lessB,c1x,c1y,stX,stY] <;> omega
theorem Zn (x y p q r s:Int):e1 x y 0 p q r s=true↔(2*x=p∧2*y=q∧2*x+2=r∧2*y=s):=by
 simp [e1,sameB,ue4,ue5,ue6,ue7,eA,eB,eC,eD,lessB,c1x,c1y,c2x,c2y,stX,stY] <;> omega
theorem Zj (x y p q r s:Int):e2 x y 0 p q r s=true↔(2*x+1=p∧2*y+1=q∧2*x+2=r∧2*y=s):=by
 simp [e2,sameB,ue8,ue9,ue10,ue11,eA,eB,eC,eD,lessB,c2x,c2y,stX,stY] <;> omega
theorem Zs (x y p q r s:Int):e0 x y 1 p q r s=true↔(2*x+1=p∧2*y+1=q∧2*x+2=r∧2*y=s):=by
 simp [e0,sameB,ue0,ue1,ue2,ue3,eA,eB,eC,eD,lessB,c1x,c1y,stX,stY] <;> omega
theorem Zm (x y p q r s:Int):e1 x y 1 p q r s=true↔(2*x+2=p∧2*y=q∧2*x+2=r∧2*y+2=s):=by
 simp [e1,sameB,ue4,ue5,ue6,ue7,eA,eB,eC,eD,lessB,c1x,c1y,c2x,c2y,stX,stY] <;> omega
theorem Zi (x y p q r s:Int):e2 x y 1 p q r s=true↔(2*x+1=p∧2*y+1=q∧2*x+2=r∧2*y+2=s):=by
 simp [e2,sameB,ue8,ue9,ue10,ue11,eA,eB,eC,eD,lessB,c2x,c2y,stX,stY] <;> omega
theorem Zp (x y p q r s:Int):e0 x y 2 p q r s=true↔(2*x+1=p∧2*y+1=q∧2*x+2=r∧2*y+2=s):=by
 simp [e0,sameB,ue0,ue1,ue2,ue3,eA,eB,eC,eD,lessB,c1x,c1y,stX,stY] <;> omega
theorem Zl (x y p q r s:Int):e1 x y 2 p q r s=true↔(2*x=p∧2*y+2=q∧2*x+2=r∧2*y+2=s):=by
 simp [e1,sameB,ue4,ue5,ue6,ue7,eA,eB,eC,eD,lessB,c1x,c1y,c2x,c2y,stX,stY] <;> omega
theorem Zh (x y p q r s:Int):e2 x y 2 p q r s=true↔(2*x=p∧2*y+2=q∧2*x+1=r∧2*y+1=s):=by
 simp [e2,sameB,ue8,ue9,ue10,ue11,eA,eB,eC,eD,lessB,c2x,c2y,stX,stY] <;> omega
theorem Zo (x y p q r s:Int):e0 x y 3 p q r s=true↔(2*x=p∧2*y+2=q∧2*x+1=r∧2*y+1=s):=by
 simp [e0,sameB,ue0,ue1,ue2,ue3,eA,eB,eC,eD,lessB,c1x,c1y,stX,stY] <;> omega
theorem Zk (x y p q r s:Int):e1 x y 3 p q r s=true↔(2*x=p∧2*y=q∧2*x=r∧2*y+2=s):=by
 simp [e1,sameB,ue4,ue5,ue6,ue7,eA,eB,eC,eD,lessB,c1x,c1y,c2x,c2y,stX,stY] <;> omega
theorem Zg (x y p q r s:Int):e2 x y 3 p q r s=true↔(2*x=p∧2*y=q∧2*x+1=r∧2*y+1=s):=by
 simp [e2,sameB,ue8,ue9,ue10,ue11,eA,eB,eC,eD,lessB,c2x,c2y,stX,stY] <;> omega
def hasB (x y k p q r s:Int):Bool:=e0 x y k p q r s || e1 x y k p q r s || e2 x y k p q r s
def acX (x y k p q r s:Int):Int:=if e0 x y k p q r s=true then x else if e1 x y k p q r s=true then x+outX k else if e2 x y k p q r s=true then x else 0
def acY (x y k p q r s:Int):Int:=if e0 x y k p q r s=true then y else if e1 x y k p q r s=true then y+outY k else if e2 x y k p q r s=true then y else 0
def acK (x y k p q r s:Int):Int:=if e0 x y k p q r s=true then (k+3) % 4 else if e1 x y k p q r s=true then (k+2) % 4 else if e2 x y k p q r s=true then (k+1) % 4 else 0
theorem Qx (x y k p q r s:Int):hasB x y k p q r s=true↔(e0 x y k p q r s=true∨e1 x y k p q r s=true∨e2 x y k p q r s=true):=by
 simp [hasB,or_assoc]
def Oth (x y k p q r s dx dy l:Int):Prop:=hasB (x+dx) (y+dy) l p q r s=true∧¬ (x+dx=x∧y+dy=y∧l=k)
theorem Qaj (x y k p q r s a b l:Int) (k0:0≤k) (k3:k≤3) (l0:0≤l) (l3:l≤3) (h:hasB x y k p q r s=true) (e:Oth x y k p q r s a b l) :
  x+a=acX x y k p q r s∧y+b=acY x y k p q r s∧l=acK x y k p q r s:=by
 have c:k=0∨k=1∨k=2∨k=3:=γ;have d:l=0∨l=1∨l=2∨l=3:=γ;obtain ⟨h2,h3⟩:=e;rw [Qx] at h h2;rcases c with rfl | rfl | rfl | rfl <;> simp only [acX,acY,acK,outX,outY,Zt,Zs,Zp,Zo,Zn,Zm,Zl,Zk,Zj,Zi,Zh,Zg] at h ⊢ <;> rcases h with ⟨rfl,rfl,rfl,rfl⟩ | ⟨rfl,rfl,rfl,rfl⟩ | ⟨rfl,rfl,rfl,rfl⟩ <;> simp <;> rcases d with rfl | rfl | rfl | rfl <;> simp only [Zt,Zs,Zp,Zo,Zn,Zm,Zl,Zk,Zj,Zi,Zh,Zg] at h2 <;> omega
theorem across_has (x y k p q r s:Int) (k0:0≤k) (k3:k≤3) (h:hasB x y k p q r s=true) :
  ∃ dx dy l:Int,(-1≤dx∧dx≤1)∧(-1≤dy∧dy≤1)∧(0≤l∧l≤3)∧Oth x y k p q r s dx dy l:=by
 have a:k=0∨k=1∨k=2∨k=3:=γ;rw [Qx] at h;unfold Oth;simp only [Qx];rcases a with rfl | rfl | rfl | rfl <;> simp only [Zt,Zs,Zp,Zo,Zn,Zm,Zl,Zk,Zj,Zi,Zh,Zg] at h <;> rcases h with h | h | h
 ·exact ⟨0,0,3,γ,γ,γ,by simp only [Zo,Zk,Zg];omega,γ⟩
 ·exact ⟨0, -1,2,γ,γ,γ,by simp only [Zp,Zl,Zh];omega,γ⟩
 ·exact ⟨0,0,1,γ,γ,γ,by simp only [Zs,Zm,Zi];omega,γ⟩
 ·exact ⟨0,0,0,γ,γ,γ,by simp only [Zt,Zn,Zj];omega,γ⟩
 ·exact ⟨1,0,3,γ,γ,γ,by simp only [Zo,Zk,Zg];omega,γ⟩
 ·exact ⟨0,0,2,γ,γ,γ,by simp only [Zp,Zl,Zh];omega,γ⟩
 ·exact ⟨0,0,1,γ,γ,γ,by simp only [Zs,Zm,Zi];omega,γ⟩
 ·exact ⟨0,1,0,γ,γ,γ,by simp only [Zt,Zn,Zj];omega,γ⟩
 ·exact ⟨0,0,3,γ,γ,γ,by simp only [Zo,Zk,Zg];omega,γ⟩
 ·exact ⟨0,0,2,γ,γ,γ,by simp only [Zp,Zl,Zh];omega,γ⟩
 ·exact ⟨-1,0,1,γ,γ,γ,by simp only [Zs,Zm,Zi];omega,γ⟩
 ·exact ⟨0,0,0,γ,γ,γ,by simp only [Zt,Zn,Zj];omega,γ⟩
theorem Jl (x y:Int) (w:World) (b1 : -4000000≤x) (b2:x≤4000000) (b3 : -4000000≤y) (b4:y≤4000000) :
  Cl 129 #[.agg #[I x,I y,I 0]] w fun e w'=>∃ g,e=.returned (.slice (Az g) 3 3)∧w.heap.size≤g∧Mp w' g (2*x+1) (2*y+1) (2*x) (2*y) (2*x+2) (2*y)∧Bl w w':=by
 go_enter Tryz.func129,Tryz.ntmps129;go_wp2;go_quiet (fail)
 go_wp2;go_ret;refine ⟨_,rfl,γ, ?_, ?_⟩
 ·simp [Mp,go_sem]
 ·with_reducible repeat (first | refine Qb ?_ | refine Qr ?_ | exact Qe _)
theorem Jx (x y:Int) (w:World) (b1 : -4000000≤x) (b2:x≤4000000) (b3 : -4000000≤y) (b4:y≤4000000) :
  Cl 129 #[.agg #[I x,I y,I 1]] w fun e w'=>∃ g,e=.returned (.slice (Az g) 3 3)∧w.heap.size≤g∧Mp w' g (2*x+1) (2*y+1) (2*x+2) (2*y) (2*x+2) (2*y+2)∧Bl w w':=by
 go_enter Tryz.func129,Tryz.ntmps129;go_wp2;go_quiet (fail)
 go_wp2;go_ret;refine ⟨_,rfl,γ, ?_, ?_⟩
 ·simp [Mp,go_sem]
 ·with_reducible repeat (first | refine Qb ?_ | refine Qr ?_ | exact Qe _)
theorem Yb (x y:Int) (w:World) (b1 : -4000000≤x) (b2:x≤4000000) (b3 : -4000000≤y) (b4:y≤4000000) :
  Cl 129 #[.agg #[I x,I y,I 2]] w fun e w'=>∃ g,e=.returned (.slice (Az g) 3 3)∧w.heap.size≤g∧Mp w' g (2*x+1) (2*y+1) (2*x+2) (2*y+2) (2*x) (2*y+2)∧Bl w w':=by
 go_enter Tryz.func129,Tryz.ntmps129;go_wp2;go_quiet (fail)
 go_wp2;go_ret;refine ⟨_,rfl,γ, ?_, ?_⟩
 ·simp [Mp,go_sem]
 ·with_reducible repeat (first | refine Qb ?_ | refine Qr ?_ | exact Qe _)
theorem Vl (x y:Int) (w:World) (b1 : -4000000≤x) (b2:x≤4000000) (b3 : -4000000≤y) (b4:y≤4000000) :
  Cl 129 #[.agg #[I x,I y,I 3]] w fun e w'=>∃ g,e=.returned (.slice (Az g) 3 3)∧w.heap.size≤g∧Mp w' g (2*x+1) (2*y+1) (2*x) (2*y+2) (2*x) (2*y)∧Bl w w':=by
 go_enter Tryz.func129,Tryz.ntmps129;go_wp2;go_quiet (fail)
 go_wp2;go_ret;refine ⟨_,rfl,γ, ?_, ?_⟩
 ·simp [Mp,go_sem]
 ·with_reducible repeat (first | refine Qb ?_ | refine Qr ?_ | exact Qe _)
attribute [local go_sem ↓] Go.wp_at_zero Go.wp_at_succ
def Ef (e f:Int):Prop:=(-1000000≤e∧e≤1000000)∧(-1000000≤f∧f≤1000000)
theorem after_any (a b c d e f A B C D E F:Int) (w:World) (hs:Sm a b c d) (j:Sm A B C D) (k:Ef e f) (i:Ef E F) :
  Cl 211 #[.agg #[I a,I b,I c,I d,I e,I f],.agg #[I A,I B,I C,I D,I E,I F]] w fun r w' =>
   r=.returned (.agg #[I (dot A B a c),I (dot A B b d),I (dot C D a c),I (dot C D b d),I (dot A B e f+E),I (dot C D e f+F)])∧Bl w w':=by
 obtain ⟨⟨a1,p⟩,⟨b1,b2⟩,⟨c1,c2⟩,⟨d1,d2⟩⟩:=hs;obtain ⟨⟨e1,e2⟩,⟨f1,f2⟩⟩:=k;have h:=Hd j;have g:=Hd i;clear j i;go_enter Tryz.func211,Tryz.ntmps211;go_wp2_with (first | (go_at_call 181;refine (turn_any _ _ _ _ _ _ _ _ _ h.out γ γ γ γ).mono ?_;rintro e o ⟨rfl,o1,o2,o3,rfl⟩) | (go_at_call 178;refine (image_any _ _ _ _ _ _ _ _ _ h.out g.out.1 g.out.2 γ γ γ γ).mono ?_;rintro e o ⟨rfl,q,s,t,u,x,y,l,m,n,rfl⟩))
 refine bodyPost_ret (v:=.agg #[I (dot A B a c),I (dot A B b d),I (dot C D a c),I (dot C D b d),I (dot A B e f+E),I (dot C D e f+F)]) (by simp [results,Tryz.results211,go_sem,Ca]) rfl ⟨rfl, ?_⟩;with_reducible repeat (first | refine Qb ?_ | refine Qg ?_ | exact Qe _)
theorem dot_one (A B a b c d e f x y E:Int) (g:x=1) (h:y=0):dot A B (dot a b x y+e) (dot c d x y+f)+E - (dot A B (dot a b 0 0+e) (dot c d 0 0+f)+E)=dot A B a c:=by
 subst g h;simp [dot,Int.mul_add];omega
theorem dot_two (A B a b c d e f x y E:Int) (g:x=0) (h:y=1):dot A B (dot a b x y+e) (dot c d x y+f)+E - (dot A B (dot a b 0 0+e) (dot c d 0 0+f)+E)=dot A B b d:=by
 subst g h;simp [dot,Int.mul_add];omega
theorem dot_nought (A B a b c d e f E:Int):dot A B (dot a b 0 0+e) (dot c d 0 0+f)+E=dot A B e f+E:=by simp [dot]
theorem ret6 {a b c d e f g h i j k l:Int} (h1:a=g) (h2:b=h) (h3:c=i) (h4:d=j) (h5:e=k) (h6:f=l) :
  Ending.returned (.agg #[I a,I b,I c,I d,I e,I f])=.returned (.agg #[I g,I h,I i,I j,I k,I l]):=by subst h1 h2 h3 h4 h5 h6;rfl
attribute [local go_sem ↓] Go.wp_at_zero Go.wp_at_succ
theorem c1x_bd (x k:Int):2*x≤c1x x k∧c1x x k≤2*x+2:=by have:=stX_bd k;unfold c1x;omega
theorem c1y_bd (x k:Int):2*x≤c1y x k∧c1y x k≤2*x+2:=by have:=stY_bd k;unfold c1y;omega
theorem c2x_bd (x k:Int):2*x≤c2x x k∧c2x x k≤2*x+2:=by have:=stX_bd ((k+1) % 4);unfold c2x;omega
theorem c2y_bd (x k:Int):2*x≤c2y x k∧c2y x k≤2*x+2:=by have:=stY_bd ((k+1) % 4);unfold c2y;omega
theorem index3 (a b c d e f:Value) (w:World):(Instr.index 175 (.agg #[a,b,c,d,e,f]) (I 0)).run Tryz.prog w=.ok (.agg #[a,b]) w∧(Instr.index 175 (.agg #[a,b,c,d,e,f]) (I 1)).run Tryz.prog w=.ok (.agg #[c,d]) w∧(Instr.index 175 (.agg #[a,b,c,d,e,f]) (I 2)).run Tryz.prog w=.ok (.agg #[e,f]) w :=
 ⟨η,η,η⟩
end Go.Proofs.YtnpboeodhpenmaaGreatDoor
