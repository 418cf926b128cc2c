/- A part of it. -/
import Derived.Test.YtnpboeodhpenmaaGreatDoorQlai
import Derived.Test.YtnpboeodhpenmaaGreatDoorQlam
set_option maxRecDepth 100000
set_option maxHeartbeats 40000000
namespace Go.Proofs.YtnpboeodhpenmaaGreatDoor
open Go.RowKit
variable {t:T3} {m:M6} {a b c d k:Int} {e:E4}
def kdT (vx vy:Int):Int:=if vx=1 then 1 else if vx=-1 then 3 else if vy=-1 then 0 else 2
def mvt (m:M6) (t:T3):Int×Int×Int :=
 ((m.1*(2*t.1+1)+m.2.1*(2*t.2.1+1)+m.2.2.2.2.1 - 1) / 2,(m.2.2.1*(2*t.1+1)+m.2.2.2.1*(2*t.2.1+1)+m.2.2.2.2.2 - 1) / 2,
  kdT (m.1*outX t.2.2+m.2.1*outY t.2.2) (m.2.2.1*outX t.2.2+m.2.2.2.1*outY t.2.2))
theorem Kt {e f:Int} (h:mapB a b c d e f=true):e % 2=0∧f % 2=0:=by
 unfold mapB at h;simp only [Bool.and_eq_true,evenB,decide_eq_true_eq] at h;omega
theorem Xm (h:0≤k∧k≤3):k=0∨k=1∨k=2∨k=3:=γ
theorem mvt_inj (g:mapM m=true) {u:T3} (i:0≤t.2.2∧t.2.2≤3) (j:0≤u.2.2∧u.2.2≤3) (h:mvt m t=mvt m u):t=u:=by
 obtain ⟨a,b,c,d,e,f⟩:=m;obtain ⟨x,y,k⟩:=t;obtain ⟨p,q,r⟩:=u;have g:mapB a b c d e f=true:=g;have B:=Kt g;simp only [mvt,Prod.mk.injEq] at h;obtain ⟨z,A,l⟩:=h;dsimp only at i j;simp only [Prod.mk.injEq];rcases Xz g with ⟨n,rfl,rfl,v⟩ | ⟨rfl,o,s,rfl⟩
 ·rcases n with rfl | rfl <;> rcases v with rfl | rfl <;> refine ⟨γ,γ, ?_⟩ <;> rcases Xm i with rfl | rfl | rfl | rfl <;> rcases Xm j with rfl | rfl | rfl | rfl <;> simp [outX,outY,kdT] at l ⊢
 ·rcases o with rfl | rfl <;> rcases s with rfl | rfl <;> refine ⟨γ,γ, ?_⟩ <;> rcases Xm i with rfl | rfl | rfl | rfl <;> rcases Xm j with rfl | rfl | rfl | rfl <;> simp [outX,outY,kdT] at l ⊢
theorem out_one {K:Int} (h:0≤K∧K≤3) (b:0≤a∧a≤3) (c:outX K=outX a) (d:outY K=outY a):K=a:=by
 rcases Xm h with rfl | rfl | rfl | rfl <;> rcases Xm b with rfl | rfl | rfl | rfl <;> simp [outX,outY] at c d ⊢
theorem Vv (a b c p q r:Int) (w:World):Rt 52 #[.agg #[I a,I b,I c],.agg #[I p,I q,I r]] w (.bool (ltB (a,b,c) (p,q,r))):=by
 by_cases h1:b=q
 ·subst h1;have e:(b != b)=false:=ξ;by_cases h2:a=p
  ·subst h2;have f:(a != a)=false:=ξ;go_enter Tryz.func52,Tryz.ntmps52;go_wp2;go_ret;exact ⟨Qv (by simp [ltB]),Qb β1⟩
  ·have f:(a != p)=true:=by simpa using h2
   have d:Hid (ltB (a,b,c) (p,b,r)=decide (a<p)):=by
    have:ltB (a,b,c) (p,b,r)=decide (a<p):=by
     rw [Bool.eq_iff_iff];simp [ltB,h2]
    exact this
   clear h2;go_enter Tryz.func52,Tryz.ntmps52;go_wp2;go_ret;exact ⟨Qv d.out.symm,Qb β1⟩
 ·have e:(b != q)=true:=by simpa using h1
  have d:Hid (ltB (a,b,c) (p,q,r)=decide (b<q)):=by
   have:ltB (a,b,c) (p,q,r)=decide (b<q):=by
    rw [Bool.eq_iff_iff];simp [ltB,h1]
   exact this
  clear h1;go_enter Tryz.func52,Tryz.ntmps52;go_wp2;go_ret;exact ⟨Qv d.out.symm,Qb β1⟩
theorem mvt_gen {e f x y:Int} (h1:mapB a b c d e f=true) (r:0≤x∧x≤8) (s:0≤y∧y≤8) (i:0≤k∧k≤3) {X Y K:Int} (h:(X,Y,K)=mvt (a,b,c,d,e,f) (x,y,k)) :
  dot a b (2*x+1) (2*y+1)+e=2*X+1∧dot c d (2*x+1) (2*y+1)+f=2*Y+1∧(0≤K∧K≤3)∧dot a b (outX k) (outY k)=outX K∧dot c d (outX k) (outY k)=outY K∧triB x y k=true:=by
 have q:=Kt h1;simp only [mvt,Prod.mk.injEq] at h;obtain ⟨o,p,g⟩:=h;rcases Xz h1 with ⟨j,rfl,rfl,n⟩ | ⟨rfl,l,m,rfl⟩
 ·rcases j with rfl | rfl <;> rcases n with rfl | rfl <;> rcases Xm i with rfl | rfl | rfl | rfl <;> simp [outX,outY,kdT,dot,triB] at * <;> (subst g;simp;omega)
 ·rcases l with rfl | rfl <;> rcases m with rfl | rfl <;> rcases Xm i with rfl | rfl | rfl | rfl <;> simp [outX,outY,kdT,dot,triB] at * <;> (subst g;simp;omega)
def triT (t:T3):Bool:=triB t.1 t.2.1 t.2.2
theorem Move_in (m:M6) (t:T3) (w:World) (h:mapM m=true) (g:(0≤t.1∧t.1≤8)∧(0≤t.2.1∧t.2.1≤8)∧(0≤t.2.2∧t.2.2≤3)) (hs:Steps w) (j:triT (mvt m t)=true) :
  Rt 34 #[.agg #[I m.1,I m.2.1,I m.2.2.1,I m.2.2.2.1,I m.2.2.2.2.1,I m.2.2.2.2.2],.agg #[I t.1,I t.2.1,I t.2.2]] w (.tuple #[.agg #[I (mvt m t).1,I (mvt m t).2.1,I (mvt m t).2.2],I 0]):=by
 obtain ⟨a,b,c,d,e,f⟩:=m;obtain ⟨x,y,k⟩:=t;obtain ⟨h1,h2,h3,h4,h5,i⟩:=mvt_gen h g.1 g.2.1 g.2.2 (X:=(mvt (a,b,c,d,e,f) (x,y,k)).1) (Y:=(mvt (a,b,c,d,e,f) (x,y,k)).2.1) (K:=(mvt (a,b,c,d,e,f) (x,y,k)).2.2) rfl;exact Move_yes a b c d e f x y k _ _ _ w h i h1 h2 h3 h4 h5 j hs
theorem Yh (m:M6) (t:T3) (w:World) (j:mapM m=true) (g:(0≤t.1∧t.1≤8)∧(0≤t.2.1∧t.2.1≤8)∧(0≤t.2.2∧t.2.2≤3)) :
  Rt 54 #[.agg #[I m.1,I m.2.1,I m.2.2.1,I m.2.2.2.1,I m.2.2.2.2.1,I m.2.2.2.2.2],.agg #[I t.1,I t.2.1,I t.2.2]] w (.agg #[I (mvt m t).1,I (mvt m t).2.1,I (mvt m t).2.2]):=by
 obtain ⟨a,b,c,d,e,f⟩:=m;obtain ⟨x,y,k⟩:=t;obtain ⟨h1,h2,h3,h4,h5,p⟩:=mvt_gen j g.1 g.2.1 g.2.2 (X:=(mvt (a,b,c,d,e,f) (x,y,k)).1) (Y:=(mvt (a,b,c,d,e,f) (x,y,k)).2.1) (K:=(mvt (a,b,c,d,e,f) (x,y,k)).2.2) rfl;obtain ⟨X,Y,K,A,B,r1,r2,n,o,g3,q,r,s,u,v,z,h⟩:=move_data a b c d e f x y k j p;have e1:(mvt (a,b,c,d,e,f) (x,y,k)).1=X:=by have:=h1.symm.trans n;omega
 have e2:(mvt (a,b,c,d,e,f) (x,y,k)).2.1=Y:=by have:=h2.symm.trans o;omega
 have e3:(mvt (a,b,c,d,e,f) (x,y,k)).2.2=K:=out_one h3 g3 (h4.symm.trans q) (h5.symm.trans r);obtain ⟨l,i,_⟩:=Ju j;have:=moveOf_any a b c d e f x y k X Y K A B r1 r2 w l i p ⟨⟨n,o⟩,by have:=g.1;dsimp only at this;omega,by have:=g.2.1;dsimp only at this;omega⟩ s u v z h;rw [e1,e2,e3];exact this
def mpX (m:M6) (x y:Int):Int:=m.1*x+m.2.1*y+m.2.2.2.2.1
def mpY (m:M6) (x y:Int):Int:=m.2.2.1*x+m.2.2.2.1*y+m.2.2.2.2.2
def bro (m:M6) (e:E4):E4 :=
 if lessB (mpX m e.2.2.1 e.2.2.2) (mpY m e.2.2.1 e.2.2.2) (mpX m e.1 e.2.1) (mpY m e.1 e.2.1)=true then (mpX m e.2.2.1 e.2.2.2,mpY m e.2.2.1 e.2.2.2,mpX m e.1 e.2.1,mpY m e.1 e.2.1)
 else (mpX m e.1 e.2.1,mpY m e.1 e.2.1,mpX m e.2.2.1 e.2.2.2,mpY m e.2.2.1 e.2.2.2)
theorem bro_or (m:M6) (p q r s:Int):(lessB (mpX m r s) (mpY m r s) (mpX m p q) (mpY m p q)=true∧bro m (p,q,r,s)=(mpX m r s,mpY m r s,mpX m p q,mpY m p q))∨(lessB (mpX m r s) (mpY m r s) (mpX m p q) (mpY m p q)=false∧bro m (p,q,r,s)=(mpX m p q,mpY m p q,mpX m r s,mpY m r s)):=by
 unfold bro
 cases h:lessB (mpX m r s) (mpY m r s) (mpX m p q) (mpY m p q) <;> simp
theorem Qbs (j:mapM m=true) (o:Kd t) (h:hasT t e=true):hasT (mvt m t) (bro m e)=true:=by
 obtain ⟨a,b,c,d,u,v⟩:=m;obtain ⟨x,y,k⟩:=t;obtain ⟨p,q,r,s⟩:=e;have j:mapB a b c d u v=true:=j;obtain ⟨D,hv⟩:=Kt j;obtain ⟨U,rfl⟩:∃ U,u=2*U:=⟨u / 2,γ⟩;obtain ⟨V,rfl⟩:∃ V,v=2*V:=⟨v / 2,γ⟩;unfold hasT at h;rw [Qx] at h;dsimp only at h;have n:=Xm (show 0≤k∧k≤3 from o);have C:=Xz j;clear j o D hv;have i:=bro_or (a,b,c,d,2*U,2*V) p q r s;generalize bro (a,b,c,d,2*U,2*V) (p,q,r,s)=g at i;simp only [lessB,mpX,mpY] at i;simp only [mvt];rcases C with ⟨z,rfl,rfl,B⟩ | ⟨rfl,A,l,rfl⟩
 ·rcases z with rfl | rfl <;> rcases B with rfl | rfl <;> rcases n with rfl | rfl | rfl | rfl <;> simp only [Zt,Zs,Zp,Zo,Zn,Zm,Zl,Zk,Zj,Zi,Zh,Zg] at h <;> rcases h with ⟨rfl,rfl,rfl,rfl⟩ | ⟨rfl,rfl,rfl,rfl⟩ | ⟨rfl,rfl,rfl,rfl⟩ <;> rcases i with ⟨f,rfl⟩ | ⟨f,rfl⟩ <;> (first | replace f:=of_decide_eq_true f | replace f:=of_decide_eq_false f) <;> unfold hasT <;> rw [Qx] <;> simp [outX,outY,kdT] <;> simp only [Zt,Zs,Zp,Zo,Zn,Zm,Zl,Zk,Zj,Zi,Zh,Zg] <;> (first | exact Or.inl ⟨γ,γ,γ,γ⟩ | exact Or.inr (Or.inl ⟨γ,γ,γ,γ⟩) | exact Or.inr (Or.inr ⟨γ,γ,γ,γ⟩) | (exfalso;omega))
 ·rcases A with rfl | rfl <;> rcases l with rfl | rfl <;> rcases n with rfl | rfl | rfl | rfl <;> simp only [Zt,Zs,Zp,Zo,Zn,Zm,Zl,Zk,Zj,Zi,Zh,Zg] at h <;> rcases h with ⟨rfl,rfl,rfl,rfl⟩ | ⟨rfl,rfl,rfl,rfl⟩ | ⟨rfl,rfl,rfl,rfl⟩ <;> rcases i with ⟨f,rfl⟩ | ⟨f,rfl⟩ <;> (first | replace f:=of_decide_eq_true f | replace f:=of_decide_eq_false f) <;> unfold hasT <;> rw [Qx] <;> simp [outX,outY,kdT] <;> simp only [Zt,Zs,Zp,Zo,Zn,Zm,Zl,Zk,Zj,Zi,Zh,Zg] <;> (first | exact Or.inl ⟨γ,γ,γ,γ⟩ | exact Or.inr (Or.inl ⟨γ,γ,γ,γ⟩) | exact Or.inr (Or.inr ⟨γ,γ,γ,γ⟩) | (exfalso;omega))
theorem mvt_kd:Kd (mvt m t):=by
 unfold Kd mvt kdT;dsimp only;split
 ·omega
 ·split
  ·omega
  ·split <;> omega
theorem mvt_acr (b:mapM m=true) (c:Kd t) (h:hasT t e=true):mvt m (acr t e)=acr (mvt m t) (bro m e):=by
 have a:=Zf c h;exact Jh mvt_kd mvt_kd (Qbs b c h) (Qbs b a.2.2 a.1) fun q=>a.2.1 (mvt_inj b a.2.2 c q)
theorem kdT_out (h:(a=1∧b=0)∨(a=-1∧b=0)∨(a=0∧b=1)∨(a=0∧b=-1)):outX (kdT a b)=a∧outY (kdT a b)=b:=by
 rcases h with ⟨rfl,rfl⟩ | ⟨rfl,rfl⟩ | ⟨rfl,rfl⟩ | ⟨rfl,rfl⟩ <;> decide
theorem mvt_parts {u v x y:Int} (i:mapB a b c d u v=true) (j:0≤k∧k≤3):(2*((a*(2*x+1)+b*(2*y+1)+u - 1) / 2)+1=a*(2*x+1)+b*(2*y+1)+u∧2*((c*(2*x+1)+d*(2*y+1)+v - 1) / 2)+1=c*(2*x+1)+d*(2*y+1)+v)∧outX (kdT (a*outX k+b*outY k) (c*outX k+d*outY k))=a*outX k+b*outY k∧outY (kdT (a*outX k+b*outY k) (c*outX k+d*outY k))=c*outX k+d*outY k:=by
 have l:=Kt i;refine ⟨?_,kdT_out ?_⟩
 ·rcases Xz i with ⟨e,rfl,rfl,h⟩ | ⟨rfl,f,g,rfl⟩
  ·rcases e with rfl | rfl <;> rcases h with rfl | rfl <;> omega
  ·rcases f with rfl | rfl <;> rcases g with rfl | rfl <;> omega
 ·rcases Xz i with ⟨e,rfl,rfl,h⟩ | ⟨rfl,f,g,rfl⟩
  ·rcases e with rfl | rfl <;> rcases h with rfl | rfl <;> rcases Xm j with rfl | rfl | rfl | rfl <;> decide
  ·rcases f with rfl | rfl <;> rcases g with rfl | rfl <;> rcases Xm j with rfl | rfl | rfl | rfl <;> decide
theorem mvt_aft {n:M6} (h:mapM m=true) (i:Kd t):mvt (aft m n) t=mvt n (mvt m t):=by
 obtain ⟨a,b,c,d,u,v⟩:=m;obtain ⟨A,B,C,D,U,V⟩:=n;obtain ⟨x,y,k⟩:=t;obtain ⟨⟨h1,h2⟩,h3,h4⟩:=mvt_parts (x:=x) (y:=y) (show mapB a b c d u v=true from h) (show 0≤k∧k≤3 from i);simp only [mvt,aft,dot,h1,h2,h3,h4,Prod.mk.injEq];have e:(A*a+B*c)*(2*x+1)+(A*b+B*d)*(2*y+1)+(A*u+B*v+U) - 1=A*(a*(2*x+1)+b*(2*y+1)+u)+B*(c*(2*x+1)+d*(2*y+1)+v)+U - 1:=by grind
 have f:(C*a+D*c)*(2*x+1)+(C*b+D*d)*(2*y+1)+(C*u+D*v+V) - 1=C*(a*(2*x+1)+b*(2*y+1)+u)+D*(c*(2*x+1)+d*(2*y+1)+v)+V - 1:=by grind
 have g3:(A*a+B*c)*outX k+(A*b+B*d)*outY k=A*(a*outX k+b*outY k)+B*(c*outX k+d*outY k):=by grind
 have g:(C*a+D*c)*outX k+(C*b+D*d)*outY k=C*(a*outX k+b*outY k)+D*(c*outX k+d*outY k):=by grind
 rw [e,f,g3,g];exact ⟨rfl,rfl,rfl⟩
theorem mpt_aft (m n:M6) (x y:Int):mpX (aft m n) x y=mpX n (mpX m x y) (mpY m x y)∧mpY (aft m n) x y=mpY n (mpX m x y) (mpY m x y):=by
 obtain ⟨a,b,c,d,u,v⟩:=m;obtain ⟨A,B,C,D,U,V⟩:=n;simp only [mpX,mpY,aft,dot];constructor <;> grind
theorem mir_edge {p q r s:Int} (d:Kd t) (h:hasT t (p,q,r,s)=true):mvt (mir (lnW (p,q,r,s)) (lnC (p,q,r,s))) (acr t (p,q,r,s))=t∧(mpX (mir (lnW (p,q,r,s)) (lnC (p,q,r,s))) p q=p∧mpY (mir (lnW (p,q,r,s)) (lnC (p,q,r,s))) p q=q)∧mpX (mir (lnW (p,q,r,s)) (lnC (p,q,r,s))) r s=r∧mpY (mir (lnW (p,q,r,s)) (lnC (p,q,r,s))) r s=s:=by
 obtain ⟨x,y,k⟩:=t;have h0:=h;unfold hasT at h;rw [Qx] at h;dsimp only at h;have e:=Xm (show 0≤k∧k≤3 from d);rcases e with rfl | rfl | rfl | rfl <;> simp only [Zt,Zs,Zp,Zo,Zn,Zm,Zl,Zk,Zj,Zi,Zh,Zg] at h <;> rcases h with ⟨rfl,rfl,rfl,rfl⟩ | ⟨rfl,rfl,rfl,rfl⟩ | ⟨rfl,rfl,rfl,rfl⟩
 ·have b:lnW (2*x,2*y,2*x+1,2*y+1)=3:=by unfold lnW;dsimp only;(repeat' split) <;> omega
  have a:lnC (2*x,2*y,2*x+1,2*y+1)=2*x - (2*y):=by unfold lnC;dsimp only;(repeat' split) <;> omega
  have c:acr (x,y,0) (2*x,2*y,2*x+1,2*y+1)=(x,y,3):=(Jh (t:=(x,y,0)) (u:=(x,y,3)) d Φ h0 ((Qx _ _ _ _ _ _ _).2 (Or.inr (Or.inr ((Zg _ _ _ _ _ _).2 ⟨κ,κ,κ,κ⟩)))) (fun q=>by simp only [Prod.mk.injEq] at q;omega)).symm;rw [b,a,c];simp [mvt,mir,mpX,mpY,mA,mB,mD,mE,mF,outX,outY,kdT];omega
 ·have b:lnW (2*x,2*y,2*x+2,2*y)=1:=by unfold lnW;dsimp only;(repeat' split) <;> omega
  have a:lnC (2*x,2*y,2*x+2,2*y)=2*y:=by unfold lnC;dsimp only;(repeat' split) <;> omega
  have c:acr (x,y,0) (2*x,2*y,2*x+2,2*y)=(x,y - 1,2):=(Jh (t:=(x,y,0)) (u:=(x,y - 1,2)) d Φ h0 ((Qx _ _ _ _ _ _ _).2 (Or.inr (Or.inl ((Zl _ _ _ _ _ _).2 ⟨κ,κ,κ,κ⟩)))) (fun q=>by simp only [Prod.mk.injEq] at q;omega)).symm;rw [b,a,c];simp [mvt,mir,mpX,mpY,mA,mB,mD,mE,mF,outX,outY,kdT];omega
 ·have b:lnW (2*x+1,2*y+1,2*x+2,2*y)=2:=by unfold lnW;dsimp only;(repeat' split) <;> omega
  have a:lnC (2*x+1,2*y+1,2*x+2,2*y)=2*x+1+(2*y+1):=by unfold lnC;dsimp only;(repeat' split) <;> omega
  have c:acr (x,y,0) (2*x+1,2*y+1,2*x+2,2*y)=(x,y,1):=(Jh (t:=(x,y,0)) (u:=(x,y,1)) d Φ h0 ((Qx _ _ _ _ _ _ _).2 (Or.inl ((Zs _ _ _ _ _ _).2 ⟨κ,κ,κ,κ⟩))) (fun q=>by simp only [Prod.mk.injEq] at q;omega)).symm;rw [b,a,c];simp [mvt,mir,mpX,mpY,mA,mB,mD,mE,mF,outX,outY,kdT];omega
 ·have b:lnW (2*x+1,2*y+1,2*x+2,2*y)=2:=by unfold lnW;dsimp only;(repeat' split) <;> omega
  have a:lnC (2*x+1,2*y+1,2*x+2,2*y)=2*x+1+(2*y+1):=by unfold lnC;dsimp only;(repeat' split) <;> omega
  have c:acr (x,y,1) (2*x+1,2*y+1,2*x+2,2*y)=(x,y,0):=(Jh (t:=(x,y,1)) (u:=(x,y,0)) d Φ h0 ((Qx _ _ _ _ _ _ _).2 (Or.inr (Or.inr ((Zj _ _ _ _ _ _).2 ⟨κ,κ,κ,κ⟩)))) (fun q=>by simp only [Prod.mk.injEq] at q;omega)).symm;rw [b,a,c];simp [mvt,mir,mpX,mpY,mA,mB,mD,mE,mF,outX,outY,kdT];omega
 ·have b:lnW (2*x+2,2*y,2*x+2,2*y+2)=0:=by unfold lnW;dsimp only;(repeat' split) <;> omega
  have a:lnC (2*x+2,2*y,2*x+2,2*y+2)=2*x+2:=by unfold lnC;dsimp only;(repeat' split) <;> omega
  have c:acr (x,y,1) (2*x+2,2*y,2*x+2,2*y+2)=(x+1,y,3):=(Jh (t:=(x,y,1)) (u:=(x+1,y,3)) d Φ h0 ((Qx _ _ _ _ _ _ _).2 (Or.inr (Or.inl ((Zk _ _ _ _ _ _).2 ⟨κ,κ,κ,κ⟩)))) (fun q=>by simp only [Prod.mk.injEq] at q;omega)).symm;rw [b,a,c];simp [mvt,mir,mpX,mpY,mA,mB,mD,mE,mF,outX,outY,kdT];omega
 ·have b:lnW (2*x+1,2*y+1,2*x+2,2*y+2)=3:=by unfold lnW;dsimp only;(repeat' split) <;> omega
  have a:lnC (2*x+1,2*y+1,2*x+2,2*y+2)=2*x+1 - (2*y+1):=by unfold lnC;dsimp only;(repeat' split) <;> omega
  have c:acr (x,y,1) (2*x+1,2*y+1,2*x+2,2*y+2)=(x,y,2):=(Jh (t:=(x,y,1)) (u:=(x,y,2)) d Φ h0 ((Qx _ _ _ _ _ _ _).2 (Or.inl ((Zp _ _ _ _ _ _).2 ⟨κ,κ,κ,κ⟩))) (fun q=>by simp only [Prod.mk.injEq] at q;omega)).symm;rw [b,a,c];simp [mvt,mir,mpX,mpY,mA,mB,mD,mE,mF,outX,outY,kdT];omega
 ·have b:lnW (2*x+1,2*y+1,2*x+2,2*y+2)=3:=by unfold lnW;dsimp only;(repeat' split) <;> omega
  have a:lnC (2*x+1,2*y+1,2*x+2,2*y+2)=2*x+1 - (2*y+1):=by unfold lnC;dsimp only;(repeat' split) <;> omega
  have c:acr (x,y,2) (2*x+1,2*y+1,2*x+2,2*y+2)=(x,y,1):=(Jh (t:=(x,y,2)) (u:=(x,y,1)) d Φ h0 ((Qx _ _ _ _ _ _ _).2 (Or.inr (Or.inr ((Zi _ _ _ _ _ _).2 ⟨κ,κ,κ,κ⟩)))) (fun q=>by simp only [Prod.mk.injEq] at q;omega)).symm;rw [b,a,c];simp [mvt,mir,mpX,mpY,mA,mB,mD,mE,mF,outX,outY,kdT];omega
 ·have b:lnW (2*x,2*y+2,2*x+2,2*y+2)=1:=by unfold lnW;dsimp only;(repeat' split) <;> omega
  have a:lnC (2*x,2*y+2,2*x+2,2*y+2)=2*y+2:=by unfold lnC;dsimp only;(repeat' split) <;> omega
  have c:acr (x,y,2) (2*x,2*y+2,2*x+2,2*y+2)=(x,y+1,0):=(Jh (t:=(x,y,2)) (u:=(x,y+1,0)) d Φ h0 ((Qx _ _ _ _ _ _ _).2 (Or.inr (Or.inl ((Zn _ _ _ _ _ _).2 ⟨κ,κ,κ,κ⟩)))) (fun q=>by simp only [Prod.mk.injEq] at q;omega)).symm;rw [b,a,c];simp [mvt,mir,mpX,mpY,mA,mB,mD,mE,mF,outX,outY,kdT];omega
 ·have b:lnW (2*x,2*y+2,2*x+1,2*y+1)=2:=by unfold lnW;dsimp only;(repeat' split) <;> omega
  have a:lnC (2*x,2*y+2,2*x+1,2*y+1)=2*x+(2*y+2):=by unfold lnC;dsimp only;(repeat' split) <;> omega
  have c:acr (x,y,2) (2*x,2*y+2,2*x+1,2*y+1)=(x,y,3):=(Jh (t:=(x,y,2)) (u:=(x,y,3)) d Φ h0 ((Qx _ _ _ _ _ _ _).2 (Or.inl ((Zo _ _ _ _ _ _).2 ⟨κ,κ,κ,κ⟩))) (fun q=>by simp only [Prod.mk.injEq] at q;omega)).symm;rw [b,a,c];simp [mvt,mir,mpX,mpY,mA,mB,mD,mE,mF,outX,outY,kdT];omega
 ·have b:lnW (2*x,2*y+2,2*x+1,2*y+1)=2:=by unfold lnW;dsimp only;(repeat' split) <;> omega
  have a:lnC (2*x,2*y+2,2*x+1,2*y+1)=2*x+(2*y+2):=by unfold lnC;dsimp only;(repeat' split) <;> omega
  have c:acr (x,y,3) (2*x,2*y+2,2*x+1,2*y+1)=(x,y,2):=(Jh (t:=(x,y,3)) (u:=(x,y,2)) d Φ h0 ((Qx _ _ _ _ _ _ _).2 (Or.inr (Or.inr ((Zh _ _ _ _ _ _).2 ⟨κ,κ,κ,κ⟩)))) (fun q=>by simp only [Prod.mk.injEq] at q;omega)).symm;rw [b,a,c];simp [mvt,mir,mpX,mpY,mA,mB,mD,mE,mF,outX,outY,kdT];omega
 ·have b:lnW (2*x,2*y,2*x,2*y+2)=0:=by unfold lnW;dsimp only;(repeat' split) <;> omega
  have a:lnC (2*x,2*y,2*x,2*y+2)=2*x:=by unfold lnC;dsimp only;(repeat' split) <;> omega
  have c:acr (x,y,3) (2*x,2*y,2*x,2*y+2)=(x - 1,y,1):=(Jh (t:=(x,y,3)) (u:=(x - 1,y,1)) d Φ h0 ((Qx _ _ _ _ _ _ _).2 (Or.inr (Or.inl ((Zm _ _ _ _ _ _).2 ⟨κ,κ,κ,κ⟩)))) (fun q=>by simp only [Prod.mk.injEq] at q;omega)).symm;rw [b,a,c];simp [mvt,mir,mpX,mpY,mA,mB,mD,mE,mF,outX,outY,kdT];omega
 ·have b:lnW (2*x,2*y,2*x+1,2*y+1)=3:=by unfold lnW;dsimp only;(repeat' split) <;> omega
  have a:lnC (2*x,2*y,2*x+1,2*y+1)=2*x - (2*y):=by unfold lnC;dsimp only;(repeat' split) <;> omega
  have c:acr (x,y,3) (2*x,2*y,2*x+1,2*y+1)=(x,y,0):=(Jh (t:=(x,y,3)) (u:=(x,y,0)) d Φ h0 ((Qx _ _ _ _ _ _ _).2 (Or.inl ((Zt _ _ _ _ _ _).2 ⟨κ,κ,κ,κ⟩))) (fun q=>by simp only [Prod.mk.injEq] at q;omega)).symm;rw [b,a,c];simp [mvt,mir,mpX,mpY,mA,mB,mD,mE,mF,outX,outY,kdT];omega
theorem mvt_far (b:mapM (mir (lnW e) (lnC e))=true) (a:Kd t) (h:hasT t e=true):mvt (aft (mir (lnW e) (lnC e)) m) (acr t e)=mvt m t:=by
 obtain ⟨p,q,r,s⟩:=e;rw [mvt_aft b (Zf a h).2.2,(mir_edge a h).1]
theorem bro_far (b:Kd t) (h:hasT t e=true):bro (aft (mir (lnW e) (lnC e)) m) e=bro m e:=by
 obtain ⟨p,q,r,s⟩:=e;obtain ⟨_,⟨h1,h2⟩,h3,h4⟩:=mir_edge b h;have a1:=mpt_aft (mir (lnW (p,q,r,s)) (lnC (p,q,r,s))) m p q;have a:=mpt_aft (mir (lnW (p,q,r,s)) (lnC (p,q,r,s))) m r s;rw [h1,h2] at a1;rw [h3,h4] at a;unfold bro;simp only [a1.1,a1.2,a.1,a.2]
def crs (e:E4) (x y:Int):Int:=(e.2.2.1 - e.1)*(y - e.2.1) - (e.2.2.2 - e.2.1)*(x - e.1)
def sdS (e:E4) (t:T3):Int:=crs e (2*t.1+1) (2*t.2.1+1)+crs e (c1x t.1 t.2.2) (c1y t.2.1 t.2.2)+crs e (c2x t.1 t.2.2) (c2y t.2.1 t.2.2)
def sd (e:E4) (t:T3):Nat:=if 0<sdS e t then 1 else 0
theorem sd_acr {p q r s:Int} (b:Kd t) (h:hasT t (p,q,r,s)=true):sd (p,q,r,s) (acr t (p,q,r,s))=1 - sd (p,q,r,s) t:=by
 obtain ⟨x,y,k⟩:=t;have h0:=h;unfold hasT at h;rw [Qx] at h;dsimp only at h;have c:=Xm (show 0≤k∧k≤3 from b);rcases c with rfl | rfl | rfl | rfl <;> simp only [Zt,Zs,Zp,Zo,Zn,Zm,Zl,Zk,Zj,Zi,Zh,Zg] at h <;> rcases h with ⟨rfl,rfl,rfl,rfl⟩ | ⟨rfl,rfl,rfl,rfl⟩ | ⟨rfl,rfl,rfl,rfl⟩
 ·have a:acr (x,y,0) (2*x,2*y,2*x+1,2*y+1)=(x,y,3):=(Jh (t:=(x,y,0)) (u:=(x,y,3)) b Φ h0 ((Qx _ _ _ _ _ _ _).2 (Or.inr (Or.inr ((Zg _ _ _ _ _ _).2 ⟨κ,κ,κ,κ⟩)))) (fun q=>by simp only [Prod.mk.injEq] at q;omega)).symm;rw [a];simp only [sd,sdS,crs,c1x,c1y,c2x,c2y,stX,stY];simp;split <;> split <;> omega
 ·have a:acr (x,y,0) (2*x,2*y,2*x+2,2*y)=(x,y - 1,2):=(Jh (t:=(x,y,0)) (u:=(x,y - 1,2)) b Φ h0 ((Qx _ _ _ _ _ _ _).2 (Or.inr (Or.inl ((Zl _ _ _ _ _ _).2 ⟨κ,κ,κ,κ⟩)))) (fun q=>by simp only [Prod.mk.injEq] at q;omega)).symm;rw [a];simp only [sd,sdS,crs,c1x,c1y,c2x,c2y,stX,stY];simp;split <;> split <;> omega
 ·have a:acr (x,y,0) (2*x+1,2*y+1,2*x+2,2*y)=(x,y,1):=(Jh (t:=(x,y,0)) (u:=(x,y,1)) b Φ h0 ((Qx _ _ _ _ _ _ _).2 (Or.inl ((Zs _ _ _ _ _ _).2 ⟨κ,κ,κ,κ⟩))) (fun q=>by simp only [Prod.mk.injEq] at q;omega)).symm;rw [a];simp only [sd,sdS,crs,c1x,c1y,c2x,c2y,stX,stY];simp;split <;> split <;> omega
 ·have a:acr (x,y,1) (2*x+1,2*y+1,2*x+2,2*y)=(x,y,0):=(Jh (t:=(x,y,1)) (u:=(x,y,0)) b Φ h0 ((Qx _ _ _ _ _ _ _).2 (Or.inr (Or.inr ((Zj _ _ _ _ _ _).2 ⟨κ,κ,κ,κ⟩)))) (fun q=>by simp only [Prod.mk.injEq] at q;omega)).symm;rw [a];simp only [sd,sdS,crs,c1x,c1y,c2x,c2y,stX,stY];simp;split <;> split <;> omega
 ·have a:acr (x,y,1) (2*x+2,2*y,2*x+2,2*y+2)=(x+1,y,3):=(Jh (t:=(x,y,1)) (u:=(x+1,y,3)) b Φ h0 ((Qx _ _ _ _ _ _ _).2 (Or.inr (Or.inl ((Zk _ _ _ _ _ _).2 ⟨κ,κ,κ,κ⟩)))) (fun q=>by simp only [Prod.mk.injEq] at q;omega)).symm;rw [a];simp only [sd,sdS,crs,c1x,c1y,c2x,c2y,stX,stY];simp;split <;> split <;> omega
 ·have a:acr (x,y,1) (2*x+1,2*y+1,2*x+2,2*y+2)=(x,y,2):=(Jh (t:=(x,y,1)) (u:=(x,y,2)) b Φ h0 ((Qx _ _ _ _ _ _ _).2 (Or.inl ((Zp _ _ _ _ _ _).2 ⟨κ,κ,κ,κ⟩))) (fun q=>by simp only [Prod.mk.injEq] at q;omega)).symm;rw [a];simp only [sd,sdS,crs,c1x,c1y,c2x,c2y,stX,stY];simp;split <;> split <;> omega
 ·have a:acr (x,y,2) (2*x+1,2*y+1,2*x+2,2*y+2)=(x,y,1):=(Jh (t:=(x,y,2)) (u:=(x,y,1)) b Φ h0 ((Qx _ _ _ _ _ _ _).2 (Or.inr (Or.inr ((Zi _ _ _ _ _ _).2 ⟨κ,κ,κ,κ⟩)))) (fun q=>by simp only [Prod.mk.injEq] at q;omega)).symm;rw [a];simp only [sd,sdS,crs,c1x,c1y,c2x,c2y,stX,stY];simp;split <;> split <;> omega
 ·have a:acr (x,y,2) (2*x,2*y+2,2*x+2,2*y+2)=(x,y+1,0):=(Jh (t:=(x,y,2)) (u:=(x,y+1,0)) b Φ h0 ((Qx _ _ _ _ _ _ _).2 (Or.inr (Or.inl ((Zn _ _ _ _ _ _).2 ⟨κ,κ,κ,κ⟩)))) (fun q=>by simp only [Prod.mk.injEq] at q;omega)).symm;rw [a];simp only [sd,sdS,crs,c1x,c1y,c2x,c2y,stX,stY];simp;split <;> split <;> omega
 ·have a:acr (x,y,2) (2*x,2*y+2,2*x+1,2*y+1)=(x,y,3):=(Jh (t:=(x,y,2)) (u:=(x,y,3)) b Φ h0 ((Qx _ _ _ _ _ _ _).2 (Or.inl ((Zo _ _ _ _ _ _).2 ⟨κ,κ,κ,κ⟩))) (fun q=>by simp only [Prod.mk.injEq] at q;omega)).symm;rw [a];simp only [sd,sdS,crs,c1x,c1y,c2x,c2y,stX,stY];simp;split <;> split <;> omega
 ·have a:acr (x,y,3) (2*x,2*y+2,2*x+1,2*y+1)=(x,y,2):=(Jh (t:=(x,y,3)) (u:=(x,y,2)) b Φ h0 ((Qx _ _ _ _ _ _ _).2 (Or.inr (Or.inr ((Zh _ _ _ _ _ _).2 ⟨κ,κ,κ,κ⟩)))) (fun q=>by simp only [Prod.mk.injEq] at q;omega)).symm;rw [a];simp only [sd,sdS,crs,c1x,c1y,c2x,c2y,stX,stY];simp;split <;> split <;> omega
 ·have a:acr (x,y,3) (2*x,2*y,2*x,2*y+2)=(x - 1,y,1):=(Jh (t:=(x,y,3)) (u:=(x - 1,y,1)) b Φ h0 ((Qx _ _ _ _ _ _ _).2 (Or.inr (Or.inl ((Zm _ _ _ _ _ _).2 ⟨κ,κ,κ,κ⟩)))) (fun q=>by simp only [Prod.mk.injEq] at q;omega)).symm;rw [a];simp only [sd,sdS,crs,c1x,c1y,c2x,c2y,stX,stY];simp;split <;> split <;> omega
 ·have a:acr (x,y,3) (2*x,2*y,2*x+1,2*y+1)=(x,y,0):=(Jh (t:=(x,y,3)) (u:=(x,y,0)) b Φ h0 ((Qx _ _ _ _ _ _ _).2 (Or.inl ((Zt _ _ _ _ _ _).2 ⟨κ,κ,κ,κ⟩))) (fun q=>by simp only [Prod.mk.injEq] at q;omega)).symm;rw [a];simp only [sd,sdS,crs,c1x,c1y,c2x,c2y,stX,stY];simp;split <;> split <;> omega
theorem sd_le (e:E4) (t:T3):sd e t≤1:=by unfold sd;split <;> omega
theorem sd_same {u:T3} (b:Kd t) (c:Kd u) (h1:hasT t e=true) (h2:hasT u e=true):sd e t=sd e u↔t=u:=by
 refine ⟨fun h=>?_,fun h=>by rw [h]⟩;refine Classical.byContradiction fun a=>?_;have:=Jh b c h1 h2 fun q=>a q.symm;obtain ⟨p,q,r,s⟩:=e;have h3:=sd_acr b h1;rw [← this] at h3;have:=sd_le (p,q,r,s) t;omega
theorem moved_any (a b c d u v x y:Int) (w:World) (hs:Sm a b c d) (f : -1000000≤u∧u≤1000000) (g : -1000000≤v∧v≤1000000) (h1 : -4000000≤x) (h2:x≤4000000) (h3 : -4000000≤y) (h4:y≤4000000) :
  Cl 189 #[.agg #[I x,I y],.agg #[I a,I b,I c,I d,I u,I v]] w fun r w'=>r=.returned (.agg #[I (mpX (a,b,c,d,u,v) x y),I (mpY (a,b,c,d,u,v) x y)])∧∃ o1 o2 o3,w'=((w.alloc o1).alloc o2).alloc o3:=by
 obtain ⟨⟨a1,e⟩,⟨b1,b2⟩,⟨c1,c2⟩,⟨d1,d2⟩⟩:=hs;obtain ⟨h,i⟩:=Xy a1 e h1 h2;obtain ⟨j,k⟩:=Xy b1 b2 h3 h4;obtain ⟨l,m⟩:=Xy c1 c2 h1 h2;obtain ⟨n,o⟩:=Xy d1 d2 h3 h4;obtain ⟨e1,e2⟩:=f;obtain ⟨f1,f2⟩:=g;go_enter Tryz.func189,Tryz.ntmps189;go_wp2;exact bodyPost_ret (v:=.agg #[I (mpX (a,b,c,d,u,v) x y),I (mpY (a,b,c,d,u,v) x y)]) (by simp [results,Tryz.results189,go_sem,mpX,mpY]) rfl ⟨rfl,_,_,_,rfl⟩
theorem less_cmp (a b c d:Int):lessB c d a b=true↔0<cmpP a b c d:=by
 simp only [lessB,decide_eq_true_eq,cmpP,or2,cmp3];repeat' split
 all_goals omega
structure Br2 (w wx:World) (g b5 b6:Nat) (X Y Z T:Int):Prop where
 c0:At wx b5 0 (I X)
 c1:At wx b5 1 (I Y)
 d0:At wx b6 0 (I Z)
 d1:At wx b6 1 (I T)
 f0:Fn wx b5 0
 f1:Fn wx b5 1
 f2:Fn wx b6 0
 f3:Fn wx b6 1
 r0:At wx g 0 (I 0)
 r1:At wx g 1 (I 0)
 r2:At wx g 2 (I 0)
 r3:At wx g 3 (I 0)
 z0:Fn wx g 0
 z1:Fn wx g 1
 z2:Fn wx g 2
 z3:Fn wx g 3
 n1:b5≠b6
 n2:b5≠g
 n3:b6≠g
 h5:w.heap.size≤b5
 h6:w.heap.size≤b6
 hg:w.heap.size≤g
 bl:Bl w wx
theorem brought_any (p q r s a b c d u v:Int) (w:World) (hs:Sm a b c d) (G : -1000000≤u∧u≤1000000) (H : -1000000≤v∧v≤1000000) (h1 : -4000000≤p∧p≤4000000) (h2 : -4000000≤q∧q≤4000000) (h3 : -4000000≤r∧r≤4000000) (h4 : -4000000≤s∧s≤4000000) :
  Rt 100 #[.agg #[I p,I q,I r,I s],.agg #[I a,I b,I c,I d,I u,I v]] w (.agg #[I (bro (a,b,c,d,u,v) (p,q,r,s)).1,I (bro (a,b,c,d,u,v) (p,q,r,s)).2.1,I (bro (a,b,c,d,u,v) (p,q,r,s)).2.2.1,I (bro (a,b,c,d,u,v) (p,q,r,s)).2.2.2]):=by
 have B:=Hd (fun (V:World)=>moved_any a b c d u v p q V hs G H h1.1 h1.2 h2.1 h2.2);have C:=Hd (fun (V:World)=>moved_any a b c d u v r s V hs G H h3.1 h3.2 h4.1 h4.2);have t:=bro_or (a,b,c,d,u,v) p q r s;generalize bro (a,b,c,d,u,v) (p,q,r,s)=g at t ⊢;generalize mpX (a,b,c,d,u,v) p q=X at B t;generalize mpY (a,b,c,d,u,v) p q=Y at B t;generalize mpX (a,b,c,d,u,v) r s=Z at C t;generalize mpY (a,b,c,d,u,v) r s=T at C t;have E:=Hd t;clear t hs G H h1 h2 h3 h4;go_enter Tryz.func100,Tryz.ntmps100;go_upto_region 1 with fail
 go_cut [5,6] (fun s5 s6 wx=>∃ k l:Nat,s5=.pointer (Az k)∧s6=.pointer (Az l)∧Br2 w wx (w.heap.size+1+1) k l X Y Z T)
 case first =>
  go_region_held3 (fun w'=>(At w' w.heap.size 0 (I p)∧At w' w.heap.size 1 (I q)∧At w' w.heap.size 2 (I r)∧At w' w.heap.size 3 (I s))∧(At w' (w.heap.size+1) 0 (I a)∧At w' (w.heap.size+1) 1 (I b)∧At w' (w.heap.size+1) 2 (I c)∧At w' (w.heap.size+1) 3 (I d)∧At w' (w.heap.size+1) 4 (I u)∧At w' (w.heap.size+1) 5 (I v)))
   (simp [go_sem,Ca])
   (first | (go_at_call 189;(with_reducible refine (B.out _).mono ?_);rintro e w2 ⟨rfl,o3,o4,o5,rfl⟩) | (go_at_call 189;(with_reducible refine (C.out _).mono ?_);rintro e w2 ⟨rfl,o6,o7,o8,rfl⟩) | fail)
  all_goals
   go_wp2;go_meet
   case rel =>
    refine ⟨_,_,rfl,rfl, ?_⟩;constructor <;> first | (simp [go_sem,Ca];done) | (dsimp only;omega) | (simp;omega) | ((with_reducible repeat' (first | exact Qe _ | refine Qb ?_ | refine Qg ?_ | refine Qh ?_ ?_)) <;> (first | omega | (simp;done) | (simp;omega)))
 case rest =>
  obtain ⟨k,l,rfl,rfl,m⟩:=hcut;have i:=Hd m;have n1:=m.n1;have n2:=m.n2;have n3:=m.n3;have n4:w.heap.size+1+1≠k:=fun e=>n2 e.symm;have n5:w.heap.size+1+1≠l:=fun e=>n3 e.symm;have n6:l≠k:=fun e=>n1 e.symm;have m1:=Bt m.c0;have m2:=Bt m.d0;have m3:=Bt m.r0;have c0:=m.c0;have c1:=m.c1;have d0:=m.d0;have d1:=m.d1;have D:=Hd (fun (V:World)=>Ze X Y Z T V);clear m B C;rcases E.out with ⟨A,hg⟩ | ⟨A,hg⟩
  ·subst hg;have F:(0:Int)<cmpP X Y Z T:=(less_cmp _ _ _ _).1 A;clear E A;generalize cmpP X Y Z T=n at D F;go_wp2_with (go_at_call 109;(with_reducible refine (D.out _).mono ?_);rintro e j ⟨rfl,f⟩;have x:At j k 0 (I X):=Qa f i.out.c0;have J:At j k 1 (I Y):=Qa f i.out.c1;have y:At j l 0 (I Z):=Qa f i.out.d0;have K:At j l 1 (I T):=Qa f i.out.d1;have L:Fn j k 0:=(f.frozen θ).trans i.out.f0;have M:Fn j k 1:=(f.frozen θ).trans i.out.f1;have N:Fn j l 0:=(f.frozen θ).trans i.out.f2;have O:Fn j l 1:=(f.frozen θ).trans i.out.f3;have z:At j (w.heap.size+1+1) 0 (I 0):=Qa f i.out.r0;have P:At j (w.heap.size+1+1) 1 (I 0):=Qa f i.out.r1;have Q:At j (w.heap.size+1+1) 2 (I 0):=Qa f i.out.r2;have R:At j (w.heap.size+1+1) 3 (I 0):=Qa f i.out.r3;have U:Fn j (w.heap.size+1+1) 0:=(f.frozen θ).trans i.out.z0;have W:Fn j (w.heap.size+1+1) 1:=(f.frozen θ).trans i.out.z1;have a2:Fn j (w.heap.size+1+1) 2:=(f.frozen θ).trans i.out.z2;have a6:Fn j (w.heap.size+1+1) 3:=(f.frozen θ).trans i.out.z3;have l1:=Bt x;have l2:=Bt y;have l3:=Bt z;have o:=Hd (Qc i.out.bl f);clear f c0 c1 d0 d1)
   refine bodyPost_ret (v:=.agg #[I Z,I T,I X,I Y]) (by simp [results,Tryz.results100,go_sem, *]) rfl ⟨rfl, ?_⟩;have g1:=i.out.h5;have g2:=i.out.h6;have g3:=i.out.hg;with_reducible repeat' (first | exact o.out | refine Qb ?_ | refine Qh ?_ ?_)
   all_goals (first | assumption | (dsimp only;omega))
  ·subst hg;have F:¬ (0:Int)<cmpP X Y Z T:=fun h=>by rw [(less_cmp _ _ _ _).2 h] at A;cases A
   clear E A;generalize cmpP X Y Z T=n at D F;go_wp2_with (go_at_call 109;(with_reducible refine (D.out _).mono ?_);rintro e j ⟨rfl,f⟩;have x:At j k 0 (I X):=Qa f i.out.c0;have J:At j k 1 (I Y):=Qa f i.out.c1;have y:At j l 0 (I Z):=Qa f i.out.d0;have K:At j l 1 (I T):=Qa f i.out.d1;have L:Fn j k 0:=(f.frozen θ).trans i.out.f0;have M:Fn j k 1:=(f.frozen θ).trans i.out.f1;have N:Fn j l 0:=(f.frozen θ).trans i.out.f2;have O:Fn j l 1:=(f.frozen θ).trans i.out.f3;have z:At j (w.heap.size+1+1) 0 (I 0):=Qa f i.out.r0;have P:At j (w.heap.size+1+1) 1 (I 0):=Qa f i.out.r1;have Q:At j (w.heap.size+1+1) 2 (I 0):=Qa f i.out.r2;have R:At j (w.heap.size+1+1) 3 (I 0):=Qa f i.out.r3;have U:Fn j (w.heap.size+1+1) 0:=(f.frozen θ).trans i.out.z0;have W:Fn j (w.heap.size+1+1) 1:=(f.frozen θ).trans i.out.z1;have a2:Fn j (w.heap.size+1+1) 2:=(f.frozen θ).trans i.out.z2;have a6:Fn j (w.heap.size+1+1) 3:=(f.frozen θ).trans i.out.z3;have l1:=Bt x;have l2:=Bt y;have l3:=Bt z;have o:=Hd (Qc i.out.bl f);clear f c0 c1 d0 d1)
   refine bodyPost_ret (v:=.agg #[I X,I Y,I Z,I T]) (by simp [results,Tryz.results100,go_sem, *]) rfl ⟨rfl, ?_⟩;have g1:=i.out.h5;have g2:=i.out.h6;have g3:=i.out.hg;with_reducible repeat' (first | exact o.out | refine Qb ?_ | refine Qh ?_ ?_)
   all_goals (first | assumption | (dsimp only;omega))
end Go.Proofs.YtnpboeodhpenmaaGreatDoor
