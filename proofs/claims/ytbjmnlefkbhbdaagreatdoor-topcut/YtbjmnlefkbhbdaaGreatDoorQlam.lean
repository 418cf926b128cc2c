/- A part of it. -/
import Derived.Test.YtbjmnlefkbhbdaaGreatDoorQlah
import Derived.RangeFuncNested
import Derived.RangeFuncBound
import Derived.Shelf.RegionOpen
import Derived.LoopNIn
import Derived.Sort.LoopGhostIn
import Derived.Maps.OwnIn
import Derived.Test.YtbjmnlefkbhbdaaGreatDoorQlag
import Derived.Shelf.SlSortCmp.Whole1
set_option maxRecDepth 100000
set_option maxHeartbeats 40000000
namespace Go.Proofs.YtbjmnlefkbhbdaaGreatDoor
open Go.RowKit
variable {t:T3} {a b c d e f k x y:Int} {m:M6}
def kdT (vx vy:Int):Int:=if vx=1 then 1 else if vx=-1 then 3 else if vy=-1 then 0 else 2
def mvt (m:M6) (t:T3):Int×Int×Int :=
 ((m.1*(2*t.1+1)+m.2.1*(2*t.2.1+1)+m.2.2.2.2.1 - 1) / 2,(m.2.2.1*(2*t.1+1)+m.2.2.2.1*(2*t.2.1+1)+m.2.2.2.2.2 - 1) / 2,
  kdT (m.1*outX t.2.2+m.2.1*outY t.2.2) (m.2.2.1*outX t.2.2+m.2.2.2.1*outY t.2.2))
theorem Zn (h:mapB a b c d e f=true):e % 2=0∧f % 2=0:=by
 unfold mapB at h;simp only [Bool.and_eq_true,evenB,decide_eq_true_eq] at h;omega
theorem Jz (h:0≤k∧k≤3):k=0∨k=1∨k=2∨k=3:=γ
theorem mvt_facts (n:GoodM (a,b,c,d,e,f) 48000) (r:0≤x∧x≤8) (s:0≤y∧y≤8) (i:0≤k∧k≤3) {X Y K:Int} (h:(X,Y,K)=mvt (a,b,c,d,e,f) (x,y,k)) :
  dot a b (2*x+1) (2*y+1)+e=2*X+1∧dot c d (2*x+1) (2*y+1)+f=2*Y+1∧(0≤K∧K≤3)∧dot a b (outX k) (outY k)=outX K∧dot c d (outX k) (outY k)=outY K∧triB X Y K=true∧triB x y k=true∧mapB a b c d e f=true:=by
 obtain ⟨h1,h2,h3⟩:=n;have h1:mapB a b c d e f=true:=h1;have q:=Zn h1;simp only [mvt,Prod.mk.injEq] at h;obtain ⟨o,p,g⟩:=h;dsimp only at h2 h3;rcases Xh h1 with ⟨j,rfl,rfl,m⟩ | ⟨rfl,hb,l,rfl⟩
 ·rcases j with rfl | rfl <;> rcases m with rfl | rfl <;> rcases Jz i with rfl | rfl | rfl | rfl <;> simp [outX,outY,kdT,dot,triB,h1] at * <;> (subst g;simp;omega)
 ·rcases hb with rfl | rfl <;> rcases l with rfl | rfl <;> rcases Jz i with rfl | rfl | rfl | rfl <;> simp [outX,outY,kdT,dot,triB,h1] at * <;> (subst g;simp;omega)
theorem mvt_inj (g:mapM m=true) {u:T3} (i:0≤t.2.2∧t.2.2≤3) (j:0≤u.2.2∧u.2.2≤3) (h:mvt m t=mvt m u):t=u:=by
 obtain ⟨a,b,c,d,e,f⟩:=m;obtain ⟨x,y,k⟩:=t;obtain ⟨p,q,r⟩:=u;have g:mapB a b c d e f=true:=g;have A:=Zn g;simp only [mvt,Prod.mk.injEq] at h;obtain ⟨v,z,l⟩:=h;dsimp only at i j;simp only [Prod.mk.injEq];rcases Xh g with ⟨n,rfl,rfl,s⟩ | ⟨rfl,hb,o,rfl⟩
 ·rcases n with rfl | rfl <;> rcases s with rfl | rfl <;> refine ⟨γ,γ, ?_⟩ <;> rcases Jz i with rfl | rfl | rfl | rfl <;> rcases Jz j with rfl | rfl | rfl | rfl <;> simp [outX,outY,kdT] at l ⊢
 ·rcases hb with rfl | rfl <;> rcases o with rfl | rfl <;> refine ⟨γ,γ, ?_⟩ <;> rcases Jz i with rfl | rfl | rfl | rfl <;> rcases Jz j with rfl | rfl | rfl | rfl <;> simp [outX,outY,kdT] at l ⊢
theorem Move_small (m:M6) (t:T3) (w:World) (i:GoodM m 48000) (hb:(0≤t.1∧t.1≤8)∧(0≤t.2.1∧t.2.1≤8)∧(0≤t.2.2∧t.2.2≤3)) (hs:Steps w) :
  Rt 8 #[.agg #[I m.1,I m.2.1,I m.2.2.1,I m.2.2.2.1,I m.2.2.2.2.1,I m.2.2.2.2.2],.agg #[I t.1,I t.2.1,I t.2.2]] w (.tuple #[.agg #[I (mvt m t).1,I (mvt m t).2.1,I (mvt m t).2.2],I 0]):=by
 obtain ⟨a,b,c,d,e,f⟩:=m;obtain ⟨x,y,k⟩:=t;obtain ⟨h1,h2,h3,h4,h5,h6,g,h⟩:=mvt_facts i hb.1 hb.2.1 hb.2.2 (X:=(mvt (a,b,c,d,e,f) (x,y,k)).1) (Y:=(mvt (a,b,c,d,e,f) (x,y,k)).2.1) (K:=(mvt (a,b,c,d,e,f) (x,y,k)).2.2) rfl;exact Move_yes a b c d e f x y k _ _ _ w h g h1 h2 h3 h4 h5 h6 hs
theorem mvt_gen (h1:mapB a b c d e f=true) (q:0≤x∧x≤8) (r:0≤y∧y≤8) (i:0≤k∧k≤3) {X Y K:Int} (h:(X,Y,K)=mvt (a,b,c,d,e,f) (x,y,k)) :
  dot a b (2*x+1) (2*y+1)+e=2*X+1∧dot c d (2*x+1) (2*y+1)+f=2*Y+1∧(0≤K∧K≤3)∧dot a b (outX k) (outY k)=outX K∧dot c d (outX k) (outY k)=outY K∧triB x y k=true:=by
 have p:=Zn h1;simp only [mvt,Prod.mk.injEq] at h;obtain ⟨n,o,g⟩:=h;rcases Xh h1 with ⟨j,rfl,rfl,m⟩ | ⟨rfl,hb,l,rfl⟩
 ·rcases j with rfl | rfl <;> rcases m with rfl | rfl <;> rcases Jz i with rfl | rfl | rfl | rfl <;> simp [outX,outY,kdT,dot,triB] at * <;> (subst g;simp;omega)
 ·rcases hb with rfl | rfl <;> rcases l with rfl | rfl <;> rcases Jz i with rfl | rfl | rfl | rfl <;> simp [outX,outY,kdT,dot,triB] at * <;> (subst g;simp;omega)
def triT (t:T3):Bool:=triB t.1 t.2.1 t.2.2
theorem Move_in (m:M6) (t:T3) (w:World) (g:mapM m=true) (hb:(0≤t.1∧t.1≤8)∧(0≤t.2.1∧t.2.1≤8)∧(0≤t.2.2∧t.2.2≤3)) (hs:Steps w) (i:triT (mvt m t)=true) :
  Rt 8 #[.agg #[I m.1,I m.2.1,I m.2.2.1,I m.2.2.2.1,I m.2.2.2.2.1,I m.2.2.2.2.2],.agg #[I t.1,I t.2.1,I t.2.2]] w (.tuple #[.agg #[I (mvt m t).1,I (mvt m t).2.1,I (mvt m t).2.2],I 0]):=by
 obtain ⟨a,b,c,d,e,f⟩:=m;obtain ⟨x,y,k⟩:=t;obtain ⟨h1,h2,h3,h4,h5,h⟩:=mvt_gen g hb.1 hb.2.1 hb.2.2 (X:=(mvt (a,b,c,d,e,f) (x,y,k)).1) (Y:=(mvt (a,b,c,d,e,f) (x,y,k)).2.1) (K:=(mvt (a,b,c,d,e,f) (x,y,k)).2.2) rfl;exact Move_yes a b c d e f x y k _ _ _ w g h h1 h2 h3 h4 h5 i hs
def mpX (m:M6) (x y:Int):Int:=m.1*x+m.2.1*y+m.2.2.2.2.1
def mpY (m:M6) (x y:Int):Int:=m.2.2.1*x+m.2.2.2.1*y+m.2.2.2.2.2
def bro (m:M6) (e:E4):E4 :=
 if lessB (mpX m e.2.2.1 e.2.2.2) (mpY m e.2.2.1 e.2.2.2) (mpX m e.1 e.2.1) (mpY m e.1 e.2.1)=true then (mpX m e.2.2.1 e.2.2.2,mpY m e.2.2.1 e.2.2.2,mpX m e.1 e.2.1,mpY m e.1 e.2.1)
 else (mpX m e.1 e.2.1,mpY m e.1 e.2.1,mpX m e.2.2.1 e.2.2.2,mpY m e.2.2.1 e.2.2.2)
theorem bro_or (m:M6) (p q r s:Int):(lessB (mpX m r s) (mpY m r s) (mpX m p q) (mpY m p q)=true∧bro m (p,q,r,s)=(mpX m r s,mpY m r s,mpX m p q,mpY m p q))∨(lessB (mpX m r s) (mpY m r s) (mpX m p q) (mpY m p q)=false∧bro m (p,q,r,s)=(mpX m p q,mpY m p q,mpX m r s,mpY m r s)):=by
 unfold bro
 cases h:lessB (mpX m r s) (mpY m r s) (mpX m p q) (mpY m p q) <;> simp
theorem bro_has {e:E4} (j:mapM m=true) (o:Kd t) (h:hasT t e=true):hasT (mvt m t) (bro m e)=true:=by
 obtain ⟨a,b,c,d,u,v⟩:=m;obtain ⟨x,y,k⟩:=t;obtain ⟨p,q,r,s⟩:=e;have j:mapB a b c d u v=true:=j;obtain ⟨B,C⟩:=Zn j;obtain ⟨U,rfl⟩:∃ U,u=2*U:=⟨u / 2,γ⟩;obtain ⟨V,rfl⟩:∃ V,v=2*V:=⟨v / 2,γ⟩;unfold hasT at h;rw [Jb] at h;dsimp only at h;have n:=Jz (show 0≤k∧k≤3 from o);have hl:=Xh j;clear j o B C;have i:=bro_or (a,b,c,d,2*U,2*V) p q r s;generalize bro (a,b,c,d,2*U,2*V) (p,q,r,s)=g at i;simp only [lessB,mpX,mpY] at i;simp only [mvt];rcases hl with ⟨z,rfl,rfl,A⟩ | ⟨rfl,hb,l,rfl⟩
 ·rcases z with rfl | rfl <;> rcases A with rfl | rfl <;> rcases n with rfl | rfl | rfl | rfl <;> simp only [Km,Kl,Kk,Kj,Ki,Kh,Kg,Kf,Ke,Kc,Kb,Ka] at h <;> rcases h with ⟨rfl,rfl,rfl,rfl⟩ | ⟨rfl,rfl,rfl,rfl⟩ | ⟨rfl,rfl,rfl,rfl⟩ <;> rcases i with ⟨f,rfl⟩ | ⟨f,rfl⟩ <;> (first | replace f:=of_decide_eq_true f | replace f:=of_decide_eq_false f) <;> unfold hasT <;> rw [Jb] <;> simp [outX,outY,kdT] <;> simp only [Km,Kl,Kk,Kj,Ki,Kh,Kg,Kf,Ke,Kc,Kb,Ka] <;> (first | exact Or.inl ⟨γ,γ,γ,γ⟩ | exact Or.inr (Or.inl ⟨γ,γ,γ,γ⟩) | exact Or.inr (Or.inr ⟨γ,γ,γ,γ⟩) | (exfalso;omega))
 ·rcases hb with rfl | rfl <;> rcases l with rfl | rfl <;> rcases n with rfl | rfl | rfl | rfl <;> simp only [Km,Kl,Kk,Kj,Ki,Kh,Kg,Kf,Ke,Kc,Kb,Ka] at h <;> rcases h with ⟨rfl,rfl,rfl,rfl⟩ | ⟨rfl,rfl,rfl,rfl⟩ | ⟨rfl,rfl,rfl,rfl⟩ <;> rcases i with ⟨f,rfl⟩ | ⟨f,rfl⟩ <;> (first | replace f:=of_decide_eq_true f | replace f:=of_decide_eq_false f) <;> unfold hasT <;> rw [Jb] <;> simp [outX,outY,kdT] <;> simp only [Km,Kl,Kk,Kj,Ki,Kh,Kg,Kf,Ke,Kc,Kb,Ka] <;> (first | exact Or.inl ⟨γ,γ,γ,γ⟩ | exact Or.inr (Or.inl ⟨γ,γ,γ,γ⟩) | exact Or.inr (Or.inr ⟨γ,γ,γ,γ⟩) | (exfalso;omega))
theorem Vm:Kd (mvt m t):=by
 unfold Kd mvt kdT;dsimp only;split
 ·omega
 ·split
  ·omega
  ·split <;> omega
theorem kdT_out (h:(a=1∧b=0)∨(a=-1∧b=0)∨(a=0∧b=1)∨(a=0∧b=-1)):outX (kdT a b)=a∧outY (kdT a b)=b:=by
 rcases h with ⟨rfl,rfl⟩ | ⟨rfl,rfl⟩ | ⟨rfl,rfl⟩ | ⟨rfl,rfl⟩ <;> decide
theorem mvt_parts {u v:Int} (h:mapB a b c d u v=true) (i:0≤k∧k≤3):(2*((a*(2*x+1)+b*(2*y+1)+u - 1) / 2)+1=a*(2*x+1)+b*(2*y+1)+u∧2*((c*(2*x+1)+d*(2*y+1)+v - 1) / 2)+1=c*(2*x+1)+d*(2*y+1)+v)∧outX (kdT (a*outX k+b*outY k) (c*outX k+d*outY k))=a*outX k+b*outY k∧outY (kdT (a*outX k+b*outY k) (c*outX k+d*outY k))=c*outX k+d*outY k:=by
 have j:=Zn h;refine ⟨?_,kdT_out ?_⟩
 ·rcases Xh h with ⟨e,rfl,rfl,g⟩ | ⟨rfl,hb,f,rfl⟩
  ·rcases e with rfl | rfl <;> rcases g with rfl | rfl <;> omega
  ·rcases hb with rfl | rfl <;> rcases f with rfl | rfl <;> omega
 ·rcases Xh h with ⟨e,rfl,rfl,g⟩ | ⟨rfl,hb,f,rfl⟩
  ·rcases e with rfl | rfl <;> rcases g with rfl | rfl <;> rcases Jz i with rfl | rfl | rfl | rfl <;> decide
  ·rcases hb with rfl | rfl <;> rcases f with rfl | rfl <;> rcases Jz i with rfl | rfl | rfl | rfl <;> decide
theorem Zw {n:M6} (e:mapM m=true) (f:Kd t):mvt (aft m n) t=mvt n (mvt m t):=by
 obtain ⟨a,b,c,d,u,v⟩:=m;obtain ⟨A,B,C,D,U,V⟩:=n;obtain ⟨x,y,k⟩:=t;obtain ⟨⟨h1,h2⟩,h3,h4⟩:=mvt_parts (x:=x) (y:=y) (show mapB a b c d u v=true from e) (show 0≤k∧k≤3 from f);simp only [mvt,aft,dot,h1,h2,h3,h4,Prod.mk.injEq];have g1:(A*a+B*c)*(2*x+1)+(A*b+B*d)*(2*y+1)+(A*u+B*v+U) - 1=A*(a*(2*x+1)+b*(2*y+1)+u)+B*(c*(2*x+1)+d*(2*y+1)+v)+U - 1:=by grind
 have g2:(C*a+D*c)*(2*x+1)+(C*b+D*d)*(2*y+1)+(C*u+D*v+V) - 1=C*(a*(2*x+1)+b*(2*y+1)+u)+D*(c*(2*x+1)+d*(2*y+1)+v)+V - 1:=by grind
 have g3:(A*a+B*c)*outX k+(A*b+B*d)*outY k=A*(a*outX k+b*outY k)+B*(c*outX k+d*outY k):=by grind
 have g4:(C*a+D*c)*outX k+(C*b+D*d)*outY k=C*(a*outX k+b*outY k)+D*(c*outX k+d*outY k):=by grind
 rw [g1,g2,g3,g4];exact ⟨rfl,rfl,rfl⟩
theorem mpt_aft (m n:M6) (x y:Int):mpX (aft m n) x y=mpX n (mpX m x y) (mpY m x y)∧mpY (aft m n) x y=mpY n (mpX m x y) (mpY m x y):=by
 obtain ⟨a,b,c,d,u,v⟩:=m;obtain ⟨A,B,C,D,U,V⟩:=n;simp only [mpX,mpY,aft,dot];constructor <;> grind
theorem mir_edge {p q r s:Int} (d:Kd t) (h:hasT t (p,q,r,s)=true):mvt (mir (lnW (p,q,r,s)) (lnC (p,q,r,s))) (acr t (p,q,r,s))=t∧(mpX (mir (lnW (p,q,r,s)) (lnC (p,q,r,s))) p q=p∧mpY (mir (lnW (p,q,r,s)) (lnC (p,q,r,s))) p q=q)∧mpX (mir (lnW (p,q,r,s)) (lnC (p,q,r,s))) r s=r∧mpY (mir (lnW (p,q,r,s)) (lnC (p,q,r,s))) r s=s:=by
 obtain ⟨x,y,k⟩:=t;have h0:=h;unfold hasT at h;rw [Jb] at h;dsimp only at h;have e:=Jz (show 0≤k∧k≤3 from d);rcases e with rfl | rfl | rfl | rfl <;> simp only [Km,Kl,Kk,Kj,Ki,Kh,Kg,Kf,Ke,Kc,Kb,Ka] at h <;> rcases h with ⟨rfl,rfl,rfl,rfl⟩ | ⟨rfl,rfl,rfl,rfl⟩ | ⟨rfl,rfl,rfl,rfl⟩
 ·have b:lnW (2*x,2*y,2*x+1,2*y+1)=3:=by unfold lnW;dsimp only;(repeat' split) <;> omega
  have a:lnC (2*x,2*y,2*x+1,2*y+1)=2*x - (2*y):=by unfold lnC;dsimp only;(repeat' split) <;> omega
  have c:acr (x,y,0) (2*x,2*y,2*x+1,2*y+1)=(x,y,3):=(Xj (t:=(x,y,0)) (u:=(x,y,3)) d Ω h0 ((Jb _ _ _ _ _ _ _).2 (Or.inr (Or.inr ((Ka _ _ _ _ _ _).2 ⟨ξ,ξ,ξ,ξ⟩)))) (fun q=>by simp only [Prod.mk.injEq] at q;omega)).symm;rw [b,a,c];simp [mvt,mir,mpX,mpY,mA,mB,mD,mE,mF,outX,outY,kdT];omega
 ·have b:lnW (2*x,2*y,2*x+2,2*y)=1:=by unfold lnW;dsimp only;(repeat' split) <;> omega
  have a:lnC (2*x,2*y,2*x+2,2*y)=2*y:=by unfold lnC;dsimp only;(repeat' split) <;> omega
  have c:acr (x,y,0) (2*x,2*y,2*x+2,2*y)=(x,y - 1,2):=(Xj (t:=(x,y,0)) (u:=(x,y - 1,2)) d Ω h0 ((Jb _ _ _ _ _ _ _).2 (Or.inr (Or.inl ((Kg _ _ _ _ _ _).2 ⟨ξ,ξ,ξ,ξ⟩)))) (fun q=>by simp only [Prod.mk.injEq] at q;omega)).symm;rw [b,a,c];simp [mvt,mir,mpX,mpY,mA,mB,mD,mE,mF,outX,outY,kdT];omega
 ·have b:lnW (2*x+1,2*y+1,2*x+2,2*y)=2:=by unfold lnW;dsimp only;(repeat' split) <;> omega
  have a:lnC (2*x+1,2*y+1,2*x+2,2*y)=2*x+1+(2*y+1):=by unfold lnC;dsimp only;(repeat' split) <;> omega
  have c:acr (x,y,0) (2*x+1,2*y+1,2*x+2,2*y)=(x,y,1):=(Xj (t:=(x,y,0)) (u:=(x,y,1)) d Ω h0 ((Jb _ _ _ _ _ _ _).2 (Or.inl ((Kl _ _ _ _ _ _).2 ⟨ξ,ξ,ξ,ξ⟩))) (fun q=>by simp only [Prod.mk.injEq] at q;omega)).symm;rw [b,a,c];simp [mvt,mir,mpX,mpY,mA,mB,mD,mE,mF,outX,outY,kdT];omega
 ·have b:lnW (2*x+1,2*y+1,2*x+2,2*y)=2:=by unfold lnW;dsimp only;(repeat' split) <;> omega
  have a:lnC (2*x+1,2*y+1,2*x+2,2*y)=2*x+1+(2*y+1):=by unfold lnC;dsimp only;(repeat' split) <;> omega
  have c:acr (x,y,1) (2*x+1,2*y+1,2*x+2,2*y)=(x,y,0):=(Xj (t:=(x,y,1)) (u:=(x,y,0)) d Ω h0 ((Jb _ _ _ _ _ _ _).2 (Or.inr (Or.inr ((Ke _ _ _ _ _ _).2 ⟨ξ,ξ,ξ,ξ⟩)))) (fun q=>by simp only [Prod.mk.injEq] at q;omega)).symm;rw [b,a,c];simp [mvt,mir,mpX,mpY,mA,mB,mD,mE,mF,outX,outY,kdT];omega
 ·have b:lnW (2*x+2,2*y,2*x+2,2*y+2)=0:=by unfold lnW;dsimp only;(repeat' split) <;> omega
  have a:lnC (2*x+2,2*y,2*x+2,2*y+2)=2*x+2:=by unfold lnC;dsimp only;(repeat' split) <;> omega
  have c:acr (x,y,1) (2*x+2,2*y,2*x+2,2*y+2)=(x+1,y,3):=(Xj (t:=(x,y,1)) (u:=(x+1,y,3)) d Ω h0 ((Jb _ _ _ _ _ _ _).2 (Or.inr (Or.inl ((Kf _ _ _ _ _ _).2 ⟨ξ,ξ,ξ,ξ⟩)))) (fun q=>by simp only [Prod.mk.injEq] at q;omega)).symm;rw [b,a,c];simp [mvt,mir,mpX,mpY,mA,mB,mD,mE,mF,outX,outY,kdT];omega
 ·have b:lnW (2*x+1,2*y+1,2*x+2,2*y+2)=3:=by unfold lnW;dsimp only;(repeat' split) <;> omega
  have a:lnC (2*x+1,2*y+1,2*x+2,2*y+2)=2*x+1 - (2*y+1):=by unfold lnC;dsimp only;(repeat' split) <;> omega
  have c:acr (x,y,1) (2*x+1,2*y+1,2*x+2,2*y+2)=(x,y,2):=(Xj (t:=(x,y,1)) (u:=(x,y,2)) d Ω h0 ((Jb _ _ _ _ _ _ _).2 (Or.inl ((Kk _ _ _ _ _ _).2 ⟨ξ,ξ,ξ,ξ⟩))) (fun q=>by simp only [Prod.mk.injEq] at q;omega)).symm;rw [b,a,c];simp [mvt,mir,mpX,mpY,mA,mB,mD,mE,mF,outX,outY,kdT];omega
 ·have b:lnW (2*x+1,2*y+1,2*x+2,2*y+2)=3:=by unfold lnW;dsimp only;(repeat' split) <;> omega
  have a:lnC (2*x+1,2*y+1,2*x+2,2*y+2)=2*x+1 - (2*y+1):=by unfold lnC;dsimp only;(repeat' split) <;> omega
  have c:acr (x,y,2) (2*x+1,2*y+1,2*x+2,2*y+2)=(x,y,1):=(Xj (t:=(x,y,2)) (u:=(x,y,1)) d Ω h0 ((Jb _ _ _ _ _ _ _).2 (Or.inr (Or.inr ((Kc _ _ _ _ _ _).2 ⟨ξ,ξ,ξ,ξ⟩)))) (fun q=>by simp only [Prod.mk.injEq] at q;omega)).symm;rw [b,a,c];simp [mvt,mir,mpX,mpY,mA,mB,mD,mE,mF,outX,outY,kdT];omega
 ·have b:lnW (2*x,2*y+2,2*x+2,2*y+2)=1:=by unfold lnW;dsimp only;(repeat' split) <;> omega
  have a:lnC (2*x,2*y+2,2*x+2,2*y+2)=2*y+2:=by unfold lnC;dsimp only;(repeat' split) <;> omega
  have c:acr (x,y,2) (2*x,2*y+2,2*x+2,2*y+2)=(x,y+1,0):=(Xj (t:=(x,y,2)) (u:=(x,y+1,0)) d Ω h0 ((Jb _ _ _ _ _ _ _).2 (Or.inr (Or.inl ((Ki _ _ _ _ _ _).2 ⟨ξ,ξ,ξ,ξ⟩)))) (fun q=>by simp only [Prod.mk.injEq] at q;omega)).symm;rw [b,a,c];simp [mvt,mir,mpX,mpY,mA,mB,mD,mE,mF,outX,outY,kdT];omega
 ·have b:lnW (2*x,2*y+2,2*x+1,2*y+1)=2:=by unfold lnW;dsimp only;(repeat' split) <;> omega
  have a:lnC (2*x,2*y+2,2*x+1,2*y+1)=2*x+(2*y+2):=by unfold lnC;dsimp only;(repeat' split) <;> omega
  have c:acr (x,y,2) (2*x,2*y+2,2*x+1,2*y+1)=(x,y,3):=(Xj (t:=(x,y,2)) (u:=(x,y,3)) d Ω h0 ((Jb _ _ _ _ _ _ _).2 (Or.inl ((Kj _ _ _ _ _ _).2 ⟨ξ,ξ,ξ,ξ⟩))) (fun q=>by simp only [Prod.mk.injEq] at q;omega)).symm;rw [b,a,c];simp [mvt,mir,mpX,mpY,mA,mB,mD,mE,mF,outX,outY,kdT];omega
 ·have b:lnW (2*x,2*y+2,2*x+1,2*y+1)=2:=by unfold lnW;dsimp only;(repeat' split) <;> omega
  have a:lnC (2*x,2*y+2,2*x+1,2*y+1)=2*x+(2*y+2):=by unfold lnC;dsimp only;(repeat' split) <;> omega
  have c:acr (x,y,3) (2*x,2*y+2,2*x+1,2*y+1)=(x,y,2):=(Xj (t:=(x,y,3)) (u:=(x,y,2)) d Ω h0 ((Jb _ _ _ _ _ _ _).2 (Or.inr (Or.inr ((Kb _ _ _ _ _ _).2 ⟨ξ,ξ,ξ,ξ⟩)))) (fun q=>by simp only [Prod.mk.injEq] at q;omega)).symm;rw [b,a,c];simp [mvt,mir,mpX,mpY,mA,mB,mD,mE,mF,outX,outY,kdT];omega
 ·have b:lnW (2*x,2*y,2*x,2*y+2)=0:=by unfold lnW;dsimp only;(repeat' split) <;> omega
  have a:lnC (2*x,2*y,2*x,2*y+2)=2*x:=by unfold lnC;dsimp only;(repeat' split) <;> omega
  have c:acr (x,y,3) (2*x,2*y,2*x,2*y+2)=(x - 1,y,1):=(Xj (t:=(x,y,3)) (u:=(x - 1,y,1)) d Ω h0 ((Jb _ _ _ _ _ _ _).2 (Or.inr (Or.inl ((Kh _ _ _ _ _ _).2 ⟨ξ,ξ,ξ,ξ⟩)))) (fun q=>by simp only [Prod.mk.injEq] at q;omega)).symm;rw [b,a,c];simp [mvt,mir,mpX,mpY,mA,mB,mD,mE,mF,outX,outY,kdT];omega
 ·have b:lnW (2*x,2*y,2*x+1,2*y+1)=3:=by unfold lnW;dsimp only;(repeat' split) <;> omega
  have a:lnC (2*x,2*y,2*x+1,2*y+1)=2*x - (2*y):=by unfold lnC;dsimp only;(repeat' split) <;> omega
  have c:acr (x,y,3) (2*x,2*y,2*x+1,2*y+1)=(x,y,0):=(Xj (t:=(x,y,3)) (u:=(x,y,0)) d Ω h0 ((Jb _ _ _ _ _ _ _).2 (Or.inl ((Km _ _ _ _ _ _).2 ⟨ξ,ξ,ξ,ξ⟩))) (fun q=>by simp only [Prod.mk.injEq] at q;omega)).symm;rw [b,a,c];simp [mvt,mir,mpX,mpY,mA,mB,mD,mE,mF,outX,outY,kdT];omega
theorem bro_far {e:E4} (b:Kd t) (h:hasT t e=true):bro (aft (mir (lnW e) (lnC e)) m) e=bro m e:=by
 obtain ⟨p,q,r,s⟩:=e;obtain ⟨_,⟨h1,h2⟩,h3,h4⟩:=mir_edge b h;have a1:=mpt_aft (mir (lnW (p,q,r,s)) (lnC (p,q,r,s))) m p q;have a:=mpt_aft (mir (lnW (p,q,r,s)) (lnC (p,q,r,s))) m r s;rw [h1,h2] at a1;rw [h3,h4] at a;unfold bro;simp only [a1.1,a1.2,a.1,a.2]
def crs (e:E4) (x y:Int):Int:=(e.2.2.1 - e.1)*(y - e.2.1) - (e.2.2.2 - e.2.1)*(x - e.1)
def sdS (e:E4) (t:T3):Int:=crs e (2*t.1+1) (2*t.2.1+1)+crs e (c1x t.1 t.2.2) (c1y t.2.1 t.2.2)+crs e (c2x t.1 t.2.2) (c2y t.2.1 t.2.2)
def sd (e:E4) (t:T3):Nat:=if 0<sdS e t then 1 else 0
theorem sd_le (e:E4) (t:T3):sd e t≤1:=by unfold sd;split <;> omega
end Go.Proofs.YtbjmnlefkbhbdaaGreatDoor
namespace Go.Proofs.YtbjmnlefkbhbdaaGreatDoor
open Go.RowKit Go.Shelf Go.ChangeMaps
variable {W w:World} {c n:Nat} {P:Program} {v:Value}
attribute [local go_sem] Oper.semAt_some
def Rec (fn:FuncId) (tmps:Array Value) (ps:Array Tmp) (assign body:Code) (D:Nat) (st:LoopState):Loop:={ state:=st,pending:=none,fn:=fn,tmps:=tmps,params:=ps,assign:=assign,body:=body,defers:=D }
theorem Ku {g:Operand} {b:Array Tmp} {assign body:Code} {Q:Exit→Act→World→Prop} {a:Act} {gf:Nat} {lb:Array Value} (hg:a.eval g=.func (.func gf) #[] lb) (c:∀ args w,(callFunc gf args).run P w=.ok (.enter gf args) w)
  (h:∀ fn,CallsIn .wide (n - 1) P gf (#[.func (.yield (w.heap.size+1)) #[] #[]] ++ lb) ((w.alloc (.deferred (some []))).alloc (.loop (Rec fn a.tmps b assign body w.heap.size .ready))) fun e W=>(∃ v,e=.returned v)∧W.heap[w.heap.size+1]?=some (.loop (Rec fn a.tmps b assign body w.heap.size .ready))∧Q .normal { a with defers:={ target:=.collected w.heap.size,args:=#[] } :: a.defers } (W.putObj (w.heap.size+1) (.loop (Rec fn a.tmps b assign body w.heap.size .exhausted)))) :
  (Code.rangeFunc g b assign body).wpIn .wide n P Q a w:=by
 refine wpIn_rangeFunc ?_;intro fn _;refine ⟨w.heap.size+1,[{ target:=.collected w.heap.size,args:=#[] }],((w.alloc (.deferred (some []))).alloc (.loop (Rec fn a.tmps b assign body w.heap.size .ready))),{ target:=.fn (.func gf) lb,args:=#[.func (.yield (w.heap.size+1)) #[] #[]] },((w.alloc (.deferred (some []))).alloc (.loop (Rec fn a.tmps b assign body w.heap.size .ready))),gf,#[.func (.yield (w.heap.size+1)) #[] #[]] ++ lb,((w.alloc (.deferred (some []))).alloc (.loop (Rec fn a.tmps b assign body w.heap.size .ready))),run_enterLoop_outer _ _ _ _ _, ?_,fun _ _=>trivial, ?_,fun h=>(by cases h), ?_⟩
 ·simp only [resolve,hg];simp [go_sem]
 ·simp [invoke,go_sem,c]
 ·refine (h fn).mono ?_;rintro e W ⟨⟨v,rfl⟩,hl,hq⟩;exact ⟨none,_,run_endLoop hl (by simp [Rec]),hq⟩
theorem round_of {l m:Nat} {R:Ending→World→Prop} {fn:FuncId} {tmps:Array Value} {c:Array Tmp} {assign body:Code} {D:Nat} {args:Array Value} (hl:W.heap[l]?=some (.loop (Rec fn tmps c assign body D .ready))) (hs:args.size=c.size) (f:Act)
  (a:∀ K:Act→World→Prop,K f W→assign.wpIn (Fence.wide.inRound l) m P (Exit.then K (fun _ _ _=>False)) { tmps:=(c.zip args).foldl (fun t (p,v)=>t.setIfInBounds p v) tmps,defers:=[] } W)
  (b:body.wpIn (Fence.wide.inRound l) m P (fun e _ d=>e=.normal∧d.heap[l]?=some (.loop (Rec fn tmps c assign body D .busy))∧R (.returned (.bool true)) (d.putObj l (.loop (Rec fn tmps c assign body D .ready)))) f (W.putObj l (.loop (Rec fn tmps c assign body D .busy)))) :
  YieldAt .wide m P l args W R:=by
 refine ⟨fn,_,assign,body,run_yield hl hs,roundIn_of_wpIn trivial (a _ ⟨_,run_beginRound hl rfl,wpIn_mono b ?_⟩)⟩;rintro e a3 d ⟨rfl,h3,hr⟩;exact ⟨_,_,run_endRound none h3,hr⟩
theorem Ky {m a:Nat} {l:Nat} {f:FuncId} {tmps:Array Value} {assign body:Code} {R:Ending→World→Prop} (h:RoundIn .wide m P l f tmps assign body w R):RoundIn .wide a P l f tmps assign body w R:=⟨h.1,fun c cs _=>h.2 c cs (room_wide _)⟩
structure Frm (J:Option (Nat×Obj)→List (T3×Value×Nat)→World→Prop):Prop where
 gro:∀ {fb vis W W'},J fb vis W→Bl W W'→J fb vis W'
 new:∀ {vis W o},J none vis W→J (some (W.heap.size,o)) vis (W.alloc o)
 put:∀ {b o vis W} (o':Obj),J (some (b,o)) vis W→J (some (b,o')) vis (W.putObj b o')
 here:∀ {b o vis W},J (some (b,o)) vis W→W.heap[b]?=some o
 tail:∀ {b o vis W},J (some (b,o)) vis W→J none vis W
def JJ (n₀:Nat) (C:(Nat→Prop)→List (T3×Value×Nat)→World→Prop) (fb:Option (Nat×Obj)) (vis:List (T3×Value×Nat)) (W:World):Prop:=(∀ x,fb=some x→W.heap[x.1]?=some x.2∧n₀≤x.1)∧∃ mb,C mb vis W∧∀ x,fb=some x→¬ mb x.1
theorem Uo {b:Nat} {o:Obj} (h:c≠b):(W.putObj b o).heap[c]?=W.heap[c]?:=World.putObj_heap_other h
theorem Frm.of {g:Nat} {C:(Nat→Prop)→List (T3×Value×Nat)→World→Prop} (l:∀ {a k W},C a k W→g≤W.heap.size) (h:∀ {a k W d row},C a k W→W.grownBy d row→(∀ r,row=some r→g≤r∧¬ a r)→C a k d) (m:∀ {a k W b},C a k W→a b→b<W.heap.size):Frm (JJ g C):={
 gro:=by
  rintro n k W d ⟨h2,a,h3,h4⟩ hb;exact ⟨fun x c=>⟨(hb.block x.1 (Array.getElem?_eq_some_iff.1 (h2 x c).1).1).trans (h2 x c).1,(h2 x c).2⟩,a,h h3 (Qv hb) (fun r e=>by cases e),h4⟩
 new:=by
  rintro k W o ⟨_,a,h3,_⟩;refine ⟨fun x c=>?_,a,h (row:=none) h3 (World.grownBy_alloc _ _ _) (fun r e=>by cases e),fun x c i=>?_⟩
  ·cases c;exact ⟨heap_alloc_new W o,l h3⟩
  ·cases c;have:=m h3 i;simp only at this;omega
 put:=by
  rintro b o k W j ⟨h2,a,h3,h4⟩;have hb:=h2 (b,o) rfl;have f:=(Array.getElem?_eq_some_iff.1 hb.1).1;refine ⟨fun x c=>?_,a,h h3 (grownBy_putObj' W b j) (fun r e=>by cases e;exact ⟨hb.2,h4 (b,o) rfl⟩),fun x c=>?_⟩
  ·cases c;exact ⟨World.putObj_heap_same f,hb.2⟩
  ·cases c;exact h4 (b,o) rfl
 here:=by
  rintro b o k W ⟨h2,_⟩;exact (h2 (b,o) rfl).1
 tail:=by
  rintro b o k W ⟨h2,a,h3,h4⟩;refine ⟨?_,a,h3, ?_⟩ <;> (intro x c;cases c) }
theorem run_range_tm {a:Nat} {ls:List (T3×Value×Nat)} (h:TEM w a ls c):(Instr.range 217 (.map (some a))).run Tryz.prog w=.ok (.pointer (Az w.heap.size)) (w.alloc (.mapIter (some a) c #[] c)):=by
 unfold TEM at h;simp [Instr.range,run_underlying Tryz.underlying217,MapKept.run_getObj_map h,Result.andThen]
theorem tm_same {r:Nat} (h:r<w.heap.size) (o:Obj):(w.putObj r o).heap[r]?=some o:=World.putObj_heap_same h
def AllC (ls:List (T3×Value×Nat)) (seen:List Nat):Prop := ∀ x∈ls,x.2.2∈seen
def OneC (ls:List (T3×Value×Nat)) (seen:List Nat) (x:(T3×Value×Nat)):Prop:=x∈ls∧x.2.2 ∉ seen
theorem Un {F:Fence} {k:Array Oper} {rest:List Oper} {o:Oper} {a:Act} {Q:Exit→Act→World→Prop} (hg:o.guard=none) (it:Operand) (g:o.op=Op.next it false) (f r c:Nat) (ls:List (T3×Value×Nat)) (b:List Nat)
  (p:a.eval it=.pointer (Az r)) (z:TEM w f ls c) (hr:w.heap[r]?=some (.mapIter (some f) c b.toArray c)) (E:TGood ls c) (B:r≠f)
  (i:AllC ls b→wpListIn F n Tryz.prog k Q rest (a.put o.dst (.tuple #[.bool false])) w)
  (j:∀ (k1 k2 k3:Int) (l:Value) (st:Nat) (s:World),OneC ls b ((k1,k2,k3),l,st)→Bl w s→(Instr.entry (.pointer (Az r))).run Tryz.prog (s.putObj r (.mapIter (some f) c (b ++ [st]).toArray c))=.ok (.tuple #[.agg #[I k1,I k2,I k3],l]) (s.putObj r (.mapIter (some f) c (b ++ [st]).toArray c)) →
   wpListIn F n Tryz.prog k Q rest (a.put o.dst (.tuple #[.bool true,.agg #[I k1,I k2,I k3],l])) (s.putObj r (.mapIter (some f) c (b ++ [st]).toArray c))):wpListIn F n Tryz.prog k Q (o :: rest) a w:=by
 refine wpListIn_plain hg fun K m=>?_;unfold Oper.wpIn;refine ⟨by simp [Oper.about,g], ?_⟩;rw [Oper.semAt_plain F _ _ (by rw [g];intro c t;cases t)]
 have q:∀ x∈((ls.map TtoE).toArray).toList,x.born<c:=fun x h=>by
  simp only [List.mem_map] at h;obtain ⟨y,G,rfl⟩:=h;exact E.2.2 y G
 rcases run_next_at (P:=Tryz.prog) w o.type r f c c b.toArray _ c hr z q (Nr _) with ⟨h0,d⟩ | ⟨e,u,w1,C,d⟩
 ·simp [execOp,g,p,d,Result.andThen];refine m _ _ (i (fun x h=>?_));have:leftOf (ls.map TtoE).toArray b.toArray=#[]:=Array.eq_empty_of_size_eq_zero h0;unfold leftOf at this;rw [Array.filter_eq_empty_iff] at this;have:=this (TtoE x) (by rw [List.mem_toArray];exact List.mem_map.2 ⟨x,h,rfl⟩);simpa [TtoE] using this
 ·have v:∃ x∈ls,x.2.2 ∉ b∧TtoE x=e:=by
   unfold leftOf at u;simp only [Array.toList_filter,List.mem_filter,List.mem_map] at u;obtain ⟨⟨x,h,rfl⟩,hs⟩:=u;exact ⟨x,h,by simpa [TtoE] using hs,rfl⟩
  obtain ⟨x,h,D,rfl⟩:=v
  have A:TEM w1 f ls c∧w1.heap[r]?=some (.mapIter (some f) c b.toArray c)∧Bl w w1:=by
   rcases C with rfl | rfl
   ·exact ⟨z,hr,Qd _⟩
   ·exact ⟨z,hr,Qe (Qd _)⟩
  obtain ⟨H,r1,b1⟩:=A;simp [execOp,g,p,d,Result.andThen];obtain ⟨⟨k1,k2,k3⟩,l,st⟩:=x;refine m _ _ (j k1 k2 k3 l st w1 ⟨h,D⟩ b1 ?_);have J:=(Array.getElem?_eq_some_iff.1 r1).1
  have e1:=run_entry_at (P:=Tryz.prog) (w1.putObj r (.mapIter (some f) c (b ++ [st]).toArray c)) r f c b.toArray (ls.map TtoE).toArray c (TtoE ((k1,k2,k3),l,st)) (by
   rw [tm_same J];simp [TtoE]) ((Uo (Ne.symm B)).trans H) (by simpa using List.mem_map.2 ⟨_,h,rfl⟩) (by
   have:=E.2.1;simpa [List.map_map,TtoE,Function.comp_def] using this)
  exact e1
def Vis (ls vis:List (T3×Value×Nat)):Prop:=(∀ x∈vis,x∈ls)∧(vis.map (fun x=>x.2.2)).Nodup
theorem stamp_len:∀ (a b:List Nat),a.Nodup→(∀ x∈a,x∈b)→a.length≤b.length
 | [],_,_,_=>by simp
 | x :: r,b,h,hs=>by
  rw [List.nodup_cons] at h;have d:=hs x ν
  have h1:=stamp_len r (b.erase x) h.2 (fun y f=>by
   have c:y≠x:=fun e=>h.1 (e ▸ f);exact (List.mem_erase_of_ne c).2 (hs y (by simp [f])))
  rw [List.length_erase_of_mem d] at h1;have:=List.length_pos_of_mem d;rw [List.length_cons];omega
theorem Vis.len {ls a:List (T3×Value×Nat)} (_hG:TGood ls c) (h:Vis ls a):a.length≤ls.length:=by
 have h1:=stamp_len (a.map (fun x=>x.2.2)) (ls.map (fun x=>x.2.2)) h.2 (fun y d=>by
  obtain ⟨x,b,rfl⟩:=List.mem_map.1 d;exact List.mem_map.2 ⟨x,h.1 x b,rfl⟩)
 simpa using h1
theorem Vis.more {ls c:List (T3×Value×Nat)} {x:(T3×Value×Nat)} (h:Vis ls c) (i:x∈ls) (g:x.2.2 ∉ c.map (fun x=>x.2.2)):Vis ls (c ++ [x]):=by
 refine ⟨fun y d=>?_, ?_⟩
 ·rcases List.mem_append.1 d with d | d
  ·exact h.1 y d
  ·simp at d;rw [d];exact i
 ·rw [List.map_append,List.nodup_append];refine ⟨h.2,ν,fun a f b hb e=>?_⟩;simp at hb;exact g (by rw [← hb,← e];exact f)
theorem inj_stamp {ls:List (T3×Value×Nat)} (b:TGood ls c) {x y:(T3×Value×Nat)} (d:x∈ls) (f:y∈ls) (e:x.2.2=y.2.2):x=y:=by
 obtain ⟨i,hi,rfl⟩:=List.getElem_of_mem d;obtain ⟨j,a,rfl⟩:=List.getElem_of_mem f;have h2:=b.2.1;have hp:=List.pairwise_iff_getElem.1 h2;rcases Nat.lt_trichotomy i j with q | q | q
 ·exact absurd (by rw [List.getElem_map,List.getElem_map];exact e) (hp i j (by simpa using hi) (by simpa using a) q)
 ·subst q;rfl
 ·exact absurd (by rw [List.getElem_map,List.getElem_map];exact e.symm) (hp j i (by simpa using a) (by simpa using hi) q)
theorem Vis.all {ls d:List (T3×Value×Nat)} (f:TGood ls c) (h:Vis ls d) (j:∀ x∈ls,x.2.2∈d.map (fun x=>x.2.2)):d.Perm ls:=by
 have n1:d.Nodup:=List.Pairwise.of_map (fun x=>x.2.2) (fun a b q e=>q (by rw [e])) h.2;have n2:ls.Nodup:=List.Pairwise.of_map (fun x=>x.2.2) (fun a b q e=>q (by rw [e])) f.2.1;refine (List.perm_ext_iff_of_nodup n1 n2).2 fun x=>⟨h.1 x,fun g=>?_⟩;obtain ⟨y,i,e⟩:=List.mem_map.1 (j x g);rw [← inj_stamp f (h.1 y i) g e];exact i
theorem values1_in (d C c l m m':Nat) (ls:List (T3×Value×Nat)) (X:TGood ls c) (A:∀ x∈ls,∃ a n q,x.2.1=.slice a n q) (J:Option (Nat×Obj)→List (T3×Value×Nat)→World→Prop) (L:Frm J)
  (hD:∀ {fb b W},J fb b W→At W C 0 (.map (some d))∧TEM W d ls c)
  (Z:∀ {fb b x W},J fb b W→x∈ls→b.length<ls.length→YieldAt .wide m Tryz.prog l #[x.2.1] W fun e p=>e=.returned (.bool true)∧J fb (b ++ [x]) p)
  (W:World) (h0:J none [] W) :
  CallsIn .wide m' Tryz.prog 164 #[.func (.yield l) #[] #[],.pointer (Az C)] W fun e p=>(∃ v,e=.returned v)∧∃ b,b.Perm ls∧J none b p:=by
 refine callsIn_of_wp Tryz.func164 rfl trivial ?_ rfl;simp only [Tryz.ntmps164,List.size_toArray,List.length_cons,List.length_nil,Nat.reduceAdd,Nat.reduceSub,Array.replicate_succ,Array.replicate_zero,List.push_toArray,List.append_toArray,List.nil_append,List.cons_append];obtain ⟨N,k⟩:=hD h0;have P:=run_range_tm k;have zm:=k.lt;obtain ⟨r,hr⟩:∃ r,r=W.heap.size:=⟨_,rfl⟩;have h1:=L.new (o:=.mapIter (some d) c #[] c) h0;have HD:Hid (∀ fb b W,J fb b W→At W C 0 (.map (some d))∧TEM W d ls c):=fun _ _ _ h=>hD h;have HY:Hid (∀ fb b x W,J fb b W→x∈ls→b.length<ls.length→YieldAt .wide m Tryz.prog l #[x.2.1] W fun e p=>e=.returned (.bool true)∧J fb (b ++ [x]) p):=fun _ _ _ _ h1 h2 h3=>Z h1 h2 h3;have H:=Hd A;have D:=Hd X;have B:=Hd L;have E:Hid (J (some (r,.mapIter (some d) c #[] c)) [] (W.alloc (.mapIter (some d) c #[] c))):=by rw [hr];exact h1
 have G:Hid (r≠d):=by
  have:r≠d:=γ;exact this
 clear hD Z A X L h1 h0 zm;gi_wp2
 rw [← hr];obtain ⟨V,hW1⟩:∃ V,V=W.alloc (.mapIter (some d) c #[] c):=⟨_,rfl⟩;rw [← hW1] at E ⊢;clear hW1 P k N hr;gi_loopg [] ls.length (fun gk wx=>∃ b:List (T3×Value×Nat),gk=ls.length - b.length∧Vis ls b∧J (some (r,.mapIter (some d) c (b.map (fun x=>x.2.2)).toArray c)) b wx)
 case atStart=>exact ⟨[],ν,⟨ν,ν⟩,E.out⟩
 case round =>
  clear E;obtain ⟨b,rfl,M,s⟩:=hrel;have hm:=(HD.out _ _ _ s).2;have z:=B.out.here s;gi_wp2_with (gi_at_next;refine Un rfl _ rfl d r c ls (b.map (fun x=>x.2.2)) rfl hm z D.out G.out ?done ?more)
  case done =>
   intro y;gi_wp2
   go_end0
   exact ⟨⟨_,rfl⟩,b,M.all D.out y,B.out.tail s⟩
  case more =>
   intro k1 k2 k3 xv st W2 i hb f;obtain ⟨x,g⟩:∃ x:(T3×Value×Nat),x=((k1,k2,k3),xv,st):=⟨_,rfl⟩;rw [← g] at i;obtain ⟨R,T⟩:=i;obtain ⟨a3,n3,q3,hv⟩:=H.out x R;have Q:st=x.2.2:=by rw [g]
   have U:xv=.slice a3 n3 q3:=by rw [← hv,g]
   rw [Q] at f ⊢;rw [U] at f ⊢;clear g;have j:=M.more R T;have O:=j.len D.out;rw [List.length_append,List.length_singleton] at O;have t:=B.out.put (.mapIter (some d) c (b.map (fun x=>x.2.2) ++ [x.2.2]).toArray c) (B.out.gro s hb);have hyy:=HY.out _ _ x _ t R γ;have K:=Hd j;rw [hv] at hyy;generalize W2.putObj r (.mapIter (some d) c (b.map (fun x=>x.2.2) ++ [x.2.2]).toArray c)=W3 at hyy f ⊢;obtain ⟨fn,tmps,assign,body,hy,Y⟩:=hyy;clear hm z s M hb t j;gi_wp2
   refine ⟨fun h=>(by cases h),(Ky Y).mono ?_⟩;rintro e W4 ⟨rfl,u⟩
   have F:Hid (J (some (r,.mapIter (some d) c ((b ++ [x]).map (fun x=>x.2.2)).toArray c)) (b ++ [x]) W4):=by
    rw [List.map_append];exact u
   clear u hy Y f;gi_wp2
   gi_roundg (ls.length - (b ++ [x]).length)
   case measure =>
    rw [List.length_append,List.length_singleton];omega
   case rel=>exact ⟨b ++ [x],rfl,K.out,F.out⟩
attribute [local go_sem] Oper.semAt_some
def valsOf (vis:List (T3×Value×Nat)):List Value:=vis.map fun x=>x.2.1
theorem valsOf_add (a:List (T3×Value×Nat)) (x:(T3×Value×Nat)):valsOf (a ++ [x])=valsOf a ++ [x.2.1]:=by simp [valsOf]
structure CA (w:World) (b0 l1 D1:Nat) (rec:Loop) (mb:Nat→Prop) (vis:List (T3×Value×Nat)) (W:World):Prop where
 m:mb b0∧mb l1∧mb D1
 lt:∀ b,mb b→b<W.heap.size
 l:W.heap[l1]?=some (.loop rec)
 d:W.heap[D1]?=some (.deferred (some []))
 b:Bl w W
 row:∃ v,Boxed W b0 165 v∧W.ownsRow w.heap.size 23 1 v vis.length (valsOf vis)∧∀ q,v.ownBlock=some q→mb q
theorem CA.grown {b0 l1 g:Nat} {a:Loop} {f:Nat→Prop} {k:List (T3×Value×Nat)} {i:World} {row:Option Nat} (h:CA w b0 l1 g a f k W) (hg:W.grownBy i row) (hr:∀ r,row=some r→w.heap.size≤r∧¬ f r):CA w b0 l1 g a f k i:=by
 have c:∀ b,f b→some b≠row:=fun b hb e=>(hr b e.symm).2 hb;obtain ⟨o,j,n⟩:=h.m;obtain ⟨v,r1,r2,r3⟩:=h.row;refine ⟨h.m,fun b hb=>Nl (h.lt b hb) hg.size,(hg.block _ (h.lt _ j) (c _ j)).trans h.l,(hg.block _ (h.lt _ n) (c _ n)).trans h.d,h.b.grown hg h.b.size (fun r e=>(hr r e).1),v,r1.kept hg (c _ o),r2.kept hg ?_,r3⟩
 cases e:v.ownBlock with
 | none=>exact Or.inl rfl
 | some q=>exact Or.inr (fun e2=>c q (r3 q e) e2)
theorem CA.fr (w:World) (b0 l1 c:Nat) (a:Loop):Frm (JJ w.heap.size (CA w b0 l1 c a)) :=
 Frm.of (fun h=>h.b.size) (fun h hg hr=>h.grown hg hr) (fun h hb=>h.lt _ hb)
theorem Yv {base e:Nat} {c:List Value} {q:Nat} (h:W.ownsRow base e 1 v n c) (hq:v.ownBlock=some q):∃ a,W.heap[q]?=some (.cells a e):=by
 rcases h.2 with ⟨rfl,_⟩ | ⟨g,b,a,rfl,_,h3,_⟩
 ·simp [Value.ownBlock] at hq
 ·simp [Value.ownBlock] at hq;subst hq;exact ⟨a,h3⟩
theorem JA.yes {w1:World} {b0 l1:Nat} {R:LoopState→Loop} {F:Option (Nat×Obj)} {f:List (T3×Value×Nat)} {x:(T3×Value×Nat)} {tmp:Obj} {E:Nat→Prop} {v':Value} (U:b0≠l1∧n≠l1∧n≠b0) (hb:w.heap.size≤b0∧w.heap.size≤l1)
  (h2:∀ y,F=some y→W.heap[y.1]?=some y.2∧w.heap.size≤y.1) (g:CA w b0 l1 n (R .ready) E f W) (h4:∀ y,F=some y→¬ E y.1)
  (r1:Boxed W b0 165 v) (r2:W.ownsRow w.heap.size 23 1 v f.length (valsOf f)) (r3:∀ q,v.ownBlock=some q→E q)
  (i:w1.ownsRow w.heap.size 23 1 v' (f.length+1) (valsOf f ++ [x.2.1])) (a:((W.putObj l1 (.loop (R .busy))).alloc tmp).grownBy w1 v.ownBlock) (C:v'.ownBlock=v.ownBlock∨v'.ownBlock=some ((W.putObj l1 (.loop (R .busy))).alloc tmp).heap.size) :
  (w1.setCell ⟨b0,0,none⟩ v').heap[l1]?=some (.loop (R .busy))∧JJ w.heap.size (CA w b0 l1 n (R .ready)) F (f ++ [x]) ((w1.setCell ⟨b0,0,none⟩ v').putObj l1 (.loop (R .ready))):=by
 obtain ⟨O,z,P⟩:=g.m;obtain ⟨d1,d2,d3⟩:=U;obtain ⟨G,B⟩:=hb;have g1:=grownBy_putObj' W l1 (.loop (R .busy));have g2:(W.putObj l1 (.loop (R .busy))).grownBy ((W.putObj l1 (.loop (R .busy))).alloc tmp) none:=World.grownBy_alloc _ _ _;have g4:=grownBy_setCell' w1 b0 v';have g5:=grownBy_putObj' (w1.setCell ⟨b0,0,none⟩ v') l1 (.loop (R .ready));have z2:W.heap.size≤((W.putObj l1 (.loop (R .busy))).alloc tmp).heap.size:=Nt g1.size g2.size;have z3:W.heap.size≤w1.heap.size:=Nt z2 a.size;have z4:W.heap.size≤(w1.setCell ⟨b0,0,none⟩ v').heap.size:=Nt z3 g4.size
 have K:∀ q,v.ownBlock=some q→q≠l1:=fun q hq e=>by
  obtain ⟨A,o⟩:=Yv r2 hq;rw [e,g.l] at o
  cases o
 have L:∀ q,v.ownBlock=some q→q≠n:=fun q hq e=>by
  obtain ⟨A,o⟩:=Yv r2 hq;rw [e,g.d] at o
  cases o
 have D:some b0≠v.ownBlock:=r1.not_row τ r2
 have t:∀ b,b<W.heap.size→b≠l1→some b≠v.ownBlock→w1.heap[b]?=W.heap[b]?:=fun b c n1 M =>
  ((a.block b (Nl c z2) M).trans (g2.block b (Nl c g1.size) ν)).trans (g1.block b c (by simpa using n1))
 have k:∀ b,b<W.heap.size→b≠l1→b≠b0→some b≠v.ownBlock→((w1.setCell ⟨b0,0,none⟩ v').putObj l1 (.loop (R .ready))).heap[b]?=W.heap[b]?:=fun b c n1 n0 M =>
  ((g5.block b (Nl c z4) (by simpa using n1)).trans (g4.block b (Nl c z3) (by simpa using n0))).trans (t b c n1 M)
 have J:(W.putObj l1 (.loop (R .busy))).heap[l1]?=some (.loop (R .busy)):=World.putObj_heap_same (g.lt _ z);have H:w1.heap[l1]?=some (.loop (R .busy)):=((a.block l1 (Nl (g.lt _ z) z2) (fun e=>K l1 e.symm rfl)).trans (g2.block l1 (Nl (g.lt _ z) g1.size) ν)).trans J;have p:(w1.setCell ⟨b0,0,none⟩ v').heap[l1]?=some (.loop (R .busy)):=(g4.block l1 (Nl (g.lt _ z) z3) (by simpa using d1.symm)).trans H;have X:W.heap.size≤((w1.setCell ⟨b0,0,none⟩ v').putObj l1 (.loop (R .ready))).heap.size:=Nt z4 g5.size
 have j:((w1.setCell ⟨b0,0,none⟩ v').putObj l1 (.loop (R .ready))).ownsRow w.heap.size 23 1 v' (f ++ [x]).length (valsOf (f ++ [x])):=by
  have b1:Boxed w1 b0 165 v:=((r1.kept g1 (by simpa using d1)).alloc tmp).kept a D;have Q:=i.kept g4 (.inr (b1.not_row τ i).symm);have T:=ownsRow_putObj Q (.loop (R .ready)) p rfl;rw [List.length_append,valsOf_add];exact T
 refine ⟨p,fun y u=>?_,fun b=>E b∨v'.ownBlock=some b,⟨⟨Or.inl O,Or.inl z,Or.inl P⟩, ?_, ?_, ?_, ?_,v', ?_,j,fun q hq=>Or.inr hq⟩, ?_⟩
 ·have h:=h2 y u;have s:=h4 y u;refine ⟨?_,h.2⟩;rw [k y.1 (Array.getElem?_eq_some_iff.1 h.1).1 (fun e=>s (e ▸ z)) (fun e=>s (e ▸ O)) (fun e=>s (r3 _ e.symm))];exact h.1
 ·rintro b (hb | hb)
  ·exact Nl (g.lt b hb) X
  ·obtain ⟨A,o⟩:=Yv j hb;exact (Array.getElem?_eq_some_iff.1 o).1
 ·exact World.putObj_heap_same (Array.getElem?_eq_some_iff.1 p).1
 ·exact (k n (g.lt _ P) d2 d3 (fun e=>L n e.symm rfl)).trans g.d
 ·have k1:=g.b.grown g1 g.b.size (fun r e=>by cases e;exact B);have k2:=k1.grown g2 k1.size (fun r e=>by cases e);have k3:=k2.grown a k2.size (fun r e=>(r2.lt r e).1);have N:=k3.grown g4 k3.size (fun r e=>by cases e;exact G);exact N.grown g5 N.size (fun r e=>by cases e;exact B)
 ·exact ((((r1.kept g1 (by simpa using d1)).alloc tmp).kept a D).set v').kept g5 (by simpa using d1)
 ·rintro y u (V | hq)
  ·exact h4 y u V
  ·have h:=h2 y u;have c:=(Array.getElem?_eq_some_iff.1 h.1).1;rcases C with e | e
   ·exact h4 y u (r3 _ (by rw [← e];exact hq))
   ·rw [e] at hq;simp only [Option.some.injEq] at hq;omega
theorem cell_oneV (w:World) (v:Value) (T:TypeId):∀ j u,([v])[j]?=some u→(w.alloc (.cells #[v] T)).cell? ((⟨w.heap.size,0,none⟩:Addr).add j)=some u:=by
 intro j u a;match j,a with
 | 0,a=>simp at a;subst a;simp [Addr.add,go_sem]
theorem infV:(Tryz.prog.info? 23).map (fun i=>(i.zero,i.size,i.bytes))=some (some SN,1,24):=μ
def Gath (w w':World) (ls:List (T3×Value×Nat)) (v:Value):Prop := ∃ vis,vis.Perm ls∧w'.ownsRow w.heap.size 23 1 v vis.length (valsOf vis)∧Bl w w'
theorem appendSeq_any (F P c:Nat) (ls:List (T3×Value×Nat)) (hG:TGood ls c) (J:∀ x∈ls,∃ a n q,x.2.1=.slice a n q) (Y:ls.length≤300) (w:World) (X:At w F 0 (.map (some P))) (Z:TEM w P ls c) :
  Cl 206 #[SN,.func (.func 164) #[] #[.pointer (Az F)]] w fun e w'=>∃ v,e=.returned v∧Gath w w' ls v:=by
 obtain ⟨n,hn⟩:∃ n:Nat,n=n:=⟨0,rfl⟩;refine (callsIn_wide (n:=n)).1 ?_;clear hn;obtain ⟨iV,T⟩:=info_parts infV;have M:=Hd T;clear T;refine callsIn_of_wp_marks Tryz.func206 rfl trivial ?_ rfl;simp only [Tryz.ntmps206,List.size_toArray,List.length_cons,List.length_nil,Nat.reduceAdd,Nat.reduceSub,Array.replicate_succ,Array.replicate_zero,List.push_toArray,List.append_toArray,List.nil_append,List.cons_append];have zd:=Bt X;have zm:=Z.lt;gi_wp2
 refine Ku (gf:=164) (lb:=#[.pointer (Az F)]) rfl (enters_of Tryz.func164 μ rfl) (fun fn=>?_);generalize hR:Rec fn _ _ _ _ _=R;simp only [World.size_alloc] at hR ⊢;have p:w.heap.size≠w.heap.size+1+1∧w.heap.size+1≠w.heap.size+1+1∧w.heap.size+1≠w.heap.size:=γ;have D:w.heap.size≤w.heap.size∧w.heap.size≤w.heap.size+1+1:=γ
 have h0:JJ w.heap.size (CA w w.heap.size (w.heap.size+1+1) (w.heap.size+1) (R .ready)) none [] (((w.alloc (.cells #[SN] 165)).alloc (.deferred (some []))).alloc (.loop (R .ready))):=by
  refine ⟨fun x G=>(by cases G),fun b=>b=w.heap.size∨b=w.heap.size+1+1∨b=w.heap.size+1,⟨ν, ?_, ?_, ?_, ?_,SN, ?_, ?_, ?_⟩,fun x G=>(by cases G)⟩
  ·intro b hb;simp only [World.size_alloc];omega
  ·have A:=heap_alloc_new ((w.alloc (.cells #[SN] 165)).alloc (.deferred (some []))) (.loop (R .ready));rw [World.size_alloc,World.size_alloc] at A;exact A
  ·have A:=heap_alloc_new (w.alloc (.cells #[SN] 165)) (.deferred (some []));rw [World.size_alloc] at A;exact (Below.heap_alloc _ _ _ ν).trans A
  ·exact Qc β2
  ·exact ((Boxed.new w 165 _).alloc _).alloc _
  ·exact ⟨rfl,Or.inl ⟨rfl,rfl⟩⟩
  ·intro q hq;simp [Value.ownBlock] at hq
 refine (values1_in P F c (w.heap.size+1+1) 0 (n - 1) ls hG J (JJ w.heap.size (CA w w.heap.size (w.heap.size+1+1) (w.heap.size+1) (R .ready))) (CA.fr ..) ?hD ?hYes _ h0).mono ?_
 case hD =>
  rintro fb k W ⟨_,mb,i,_⟩;exact ⟨Qa i.b X,Z.grown (Qv i.b) ν⟩
 case hYes =>
  rintro fb f x W ⟨h2,mb,i,h4⟩ G a2;obtain ⟨a3,n3,O,hv⟩:=J x G;obtain ⟨v,r1,r2,r3⟩:=i.row;have t:=fun (w1:World) (v':Value) (tmp:Obj)=>JA.yes (w1:=w1) (v':=v') (tmp:=tmp) (x:=x) p D h2 i h4 r1 r2 r3;have hl:=i.l;have g:=r1.kept (grownBy_putObj' W (w.heap.size+1+1) (.loop (R .busy))) (by simpa using p.1);have h:=ownsRow_putObj r2 (.loop (R .busy)) hl rfl
  have zz:w.heap.size≤(W.putObj (w.heap.size+1+1) (.loop (R .busy))).heap.size:=by
   rw [World.putObj_size];exact i.b.size
  rw [hv] at t ⊢;have HF:=Hd t
  obtain ⟨B,C,rfl⟩:∃ B C,v=.slice B f.length C:=by
   rcases r2.2 with ⟨rfl,A⟩ | ⟨g9,s,H,rfl,_⟩
   ·exact ⟨none,0,by rw [A]⟩
   ·exact ⟨_,s,rfl⟩
  clear h2 i h4 r1 r2 r3 G t hv;rw [← hR] at hl;refine round_of hl rfl { tmps:=#[SN,.func (.func 164) #[] #[.pointer (Az F)],.pointer (Az w.heap.size),undef,SN,.slice a3 n3 O,.func (.func 164) #[] #[.pointer (Az F)],.slice a3 n3 O,undef,undef,undef,undef,undef],defers:=[] } ?assign ?body
  case assign =>
   intro K N;gi_wp2
   exact N
  case body =>
   rw [hR];have c0:=g.cell;have L:=g.lt;generalize hWb:W.putObj (w.heap.size+1+1) (.loop (R .busy))=Wb at *;clear hR hl h0 hWb;have z:=Qh h (Qc (o:=.cells #[.slice a3 n3 O] 23) (Qd Wb));gi_wp2_with (gi_at_builtin;refine wpListIn_append_own_at _ rfl (.tmp 8) (.tmp 10) 165 rfl w.heap.size 23 iV SN 1 24 Tryz.underlying165 M.out.1 M.out.2.1 M.out.2.2.1 M.out.2.2.2 rfl τ (.slice B f.length C) f.length (valsOf f) rfl z ⟨Wb.heap.size,0,none⟩ 1 1 [.slice a3 n3 O] rfl rfl (cell_oneV _ _ _) (by intro u hu;simp at hu;subst hu;rfl) Γ γ ψ ?grow)
   case grow =>
    intro v' w1 y j _ E;have hf:=HF.out w1 v' _ y j (E.imp id (fun e=>by rw [World.size_alloc];exact e));obtain ⟨g9,c9,rfl⟩:=ownsRow_succ y;have m:=(g.alloc _).kept j (g.not_row τ h);have c1:=m.cell;have f1:=m.frozen;have z1:=m.lt;clear y j E g m h z c0 L;gi_wp2
 rintro e V ⟨⟨u,rfl⟩,f,U,_,mb,i,_⟩;refine ⟨⟨u,rfl⟩,i.l, ?_⟩;obtain ⟨v,r1,r2,r3⟩:=i.row;have g:=r1.kept (grownBy_putObj' V (w.heap.size+1+1) (.loop (R .exhausted))) (by simpa using p.1);have h:=ownsRow_putObj r2 (.loop (R .exhausted)) i.l rfl;have N:(V.putObj (w.heap.size+1+1) (.loop (R .exhausted))).heap[w.heap.size+1]?=some (.deferred (some [])):=(Uo p.2.1).trans i.d;have Q:Bl w (V.putObj (w.heap.size+1+1) (.loop (R .exhausted))):=i.b.grown (grownBy_putObj' V _ _) i.b.size (fun r e=>by cases e;exact D.2);have HP:=Hd U
 obtain ⟨B,C,rfl⟩:∃ B C,v=.slice B f.length C:=by
  rcases r2.2 with ⟨rfl,A⟩ | ⟨g9,s,H,rfl,_⟩
  ·exact ⟨none,0,by rw [A]⟩
  ·exact ⟨_,s,rfl⟩
 clear r1 r2 r3 i h0 hR U;generalize V.putObj (w.heap.size+1+1) (.loop (R .exhausted))=V1 at *;have c0:=g.cell;have L:=g.lt;gi_wp2
 refine ⟨ν,.inl ⟨_,_,rfl,run_takeDeferred N, ?_⟩⟩;exact ⟨.slice B f.length C,by simp [results,Tryz.results206,go_sem],.slice B f.length C,rfl,f,HP.out,ownsRow_putObj h _ N rfl,Q.grown (grownBy_putObj' V1 _ _) Q.size (fun r e=>by cases e;omega)⟩
theorem Gath.slice {w':World} {ls:List (T3×Value×Nat)} (h:Gath w w' ls v):∃ a n q,v=.slice a n q:=by
 obtain ⟨b,_,hr,_⟩:=h;rcases hr.2 with ⟨rfl,_⟩ | ⟨_,_,_,rfl,_⟩
 ·exact ⟨_,_,_,rfl⟩
 ·exact ⟨_,_,_,rfl⟩
theorem collect_any (f g c:Nat) (ls:List (T3×Value×Nat)) (h:TGood ls c) (d:∀ x∈ls,∃ a n q,x.2.1=.slice a n q) (b:ls.length≤300) (w:World) (i:At w f 0 (.map (some g))) (j:TEM w g ls c) :
  Cl 162 #[.func (.func 164) #[] #[.pointer (Az f)]] w fun e w'=>∃ v,e=.returned v∧Gath w w' ls v:=by
 have k:=Hd (appendSeq_any f g c ls h d b w i j);clear h d i j;go_enter Tryz.func162,Tryz.ntmps162;go_wp2_with (go_at_call 206;refine k.out.mono ?_;rintro e w1 ⟨v,rfl,hg⟩;obtain ⟨m,p,o,rfl⟩:=hg.slice)
 have l:=Hd hg;clear hg;go_ret;exact ⟨_,rfl,l.out⟩
theorem values_any (a:Nat) (w:World):Cl 139 #[.map (some a)] w fun e w'=>e=.returned (.func (.func 164) #[] #[.pointer (Az w.heap.size)])∧w'=w.alloc (.cells #[.map (some a)] 217):=by
 go_enter Tryz.func139,Tryz.ntmps139;go_wp2;go_ret;exact ⟨rfl,rfl⟩
end Go.Proofs.YtbjmnlefkbhbdaaGreatDoor
namespace Go.Proofs
open Go.Shelf
def Tryz.sortRows_ren:Go.Shelf.Ren:=⟨fun | 6=>163 | 15=>142 | 14=>207 | 28=>173 | 29=>174 | 20=>231 | 21=>232 | 22=>233 | 23=>234 | 24=>235 | 25=>236 | 26=>237 | 27=>238 | 46=>247 | 47=>209 | 48=>210 | 49=>248 | 50=>249 | 57=>251 | n=>n,fun | 22=>165 | 24=>23 | 25=>222 | 3=>3 | 39=>154 | 0=>0 | 53=>207 | 55=>210 | 4=>4 | 46=>245 | 45=>244 | 50=>151 | 5=>5 | 9=>9 | 66=>276 | 70=>280 | 76=>300 | 77=>301 | n=>n,fun | n=>n⟩
theorem Tryz.sortRows:Go.Proofs.SlLaysF.n6 Tryz.prog Tryz.sortRows_ren:={
 mixed:=by kernel_rfl
 f6:=⟨Tryz.f163.name,by decide,Tryz.func163.trans (congrArg some (by kernel_rfl))⟩
 f14:=⟨Tryz.f207.name,by decide,Tryz.func207.trans (congrArg some (by kernel_rfl))⟩
 f15:=Tryz.func142.trans (congrArg some (by kernel_rfl))
 f20:=⟨Tryz.f231.name,by decide,Tryz.func231.trans (congrArg some (by kernel_rfl))⟩
 f21:=⟨Tryz.f232.name,by decide,Tryz.func232.trans (congrArg some (by kernel_rfl))⟩
 f22:=⟨Tryz.f233.name,by decide,Tryz.func233.trans (congrArg some (by kernel_rfl))⟩
 f23:=⟨Tryz.f234.name,by decide,Tryz.func234.trans (congrArg some (by kernel_rfl))⟩
 f24:=⟨Tryz.f235.name,by decide,Tryz.func235.trans (congrArg some (by kernel_rfl))⟩
 f25:=⟨Tryz.f236.name,by decide,Tryz.func236.trans (congrArg some (by kernel_rfl))⟩
 f26:=⟨Tryz.f237.name,by decide,Tryz.func237.trans (congrArg some (by kernel_rfl))⟩
 f27:=⟨Tryz.f238.name,by decide,Tryz.func238.trans (congrArg some (by kernel_rfl))⟩
 f28:=Tryz.func173.trans (congrArg some (by kernel_rfl))
 f29:=Tryz.func174.trans (congrArg some (by kernel_rfl))
 f46:=⟨Tryz.f247.name,by decide,Tryz.func247.trans (congrArg some (by kernel_rfl))⟩
 f47:=Tryz.func209.trans (congrArg some (by kernel_rfl))
 f48:=Tryz.func210.trans (congrArg some (by kernel_rfl))
 f49:=⟨Tryz.f248.name,by decide,Tryz.func248.trans (congrArg some (by kernel_rfl))⟩
 f50:=⟨Tryz.f249.name,by decide,Tryz.func249.trans (congrArg some (by kernel_rfl))⟩
 f57:=⟨Tryz.f251.name,by decide,Tryz.func251.trans (congrArg some (by kernel_rfl))⟩
 t0:=Tryz.underlying0
 a0:=Tryz.isAgg0
 z0:=Tryz.sizeOf0
 v0:=Tryz.zeroValue0
 t3:=Tryz.underlying3
 a3:=Tryz.isAgg3
 z3:=Tryz.sizeOf3
 v3:=Tryz.zeroValue3
 t4:=Tryz.underlying4
 a4:=Tryz.isAgg4
 z4:=Tryz.sizeOf4
 v4:=Tryz.zeroValue4
 t5:=Tryz.underlying5
 a5:=Tryz.isAgg5
 z5:=Tryz.sizeOf5
 v5:=Tryz.zeroValue5
 t9:=Tryz.underlying9
 a9:=Tryz.isAgg9
 z9:=Tryz.sizeOf9
 v9:=Tryz.zeroValue9
 t22:=Tryz.underlying165
 a22:=Tryz.isAgg165
 z22:=Tryz.sizeOf165
 v22:=Tryz.zeroValue165
 a24:=Tryz.isAgg23
 z24:=Tryz.sizeOf23
 t25:=Tryz.underlying222
 a25:=Tryz.isAgg222
 z25:=Tryz.sizeOf222
 v25:=Tryz.zeroValue222
 t39:=Tryz.underlying154
 a39:=Tryz.isAgg154
 z39:=Tryz.sizeOf154
 v39:=Tryz.zeroValue154
 t45:=Tryz.underlying244
 a45:=Tryz.isAgg244
 z45:=Tryz.sizeOf244
 v45:=Tryz.zeroValue244
 t46:=Tryz.underlying245
 a46:=Tryz.isAgg245
 z46:=Tryz.sizeOf245
 v46:=Tryz.zeroValue245
 t50:=Tryz.underlying151
 a50:=Tryz.isAgg151
 z50:=Tryz.sizeOf151
 v50:=Tryz.zeroValue151
 t53:=Tryz.underlying207
 a53:=Tryz.isAgg207
 z53:=Tryz.sizeOf207
 v53:=Tryz.zeroValue207
 t55:=Tryz.underlying210
 a55:=Tryz.isAgg210
 z55:=Tryz.sizeOf210
 v55:=Tryz.zeroValue210
 t66:=Tryz.underlying276
 a66:=Tryz.isAgg276
 z66:=Tryz.sizeOf276
 v66:=Tryz.zeroValue276
 t70:=Tryz.underlying280
 a70:=Tryz.isAgg280
 z70:=Tryz.sizeOf280
 v70:=Tryz.zeroValue280
 t76:=Tryz.underlying300
 a76:=Tryz.isAgg300
 z76:=Tryz.sizeOf300
 v76:=Tryz.zeroValue300
 t77:=Tryz.underlying301
 a77:=Tryz.isAgg301
 z77:=Tryz.sizeOf301
 v77:=Tryz.zeroValue301 }
end Go.Proofs
namespace Go.Proofs.YtbjmnlefkbhbdaaGreatDoor
open Go.RowKit Go.Shelf Go.Lib
open Go.Sort hiding Below
theorem Gs (s t:T3):cmpT s.1 s.2.1 s.2.2 t.1 t.2.1 t.2.2<0↔ltT s t:=by
 unfold cmpT or2 cmp3 ltT;repeat' split
 all_goals omega
def RowAt (w:World) (gp n:Nat) (x:(T3×Value×Nat)):Prop := ∃ (g m c i:Nat),x.2.1=.slice (Az g) m c∧0<m∧At w g 0 (I (i:Int))∧i<n∧At3 w gp (i*3) x.1
theorem Yr {α:Type} [Inhabited α] {w:World} {g m:Nat} {os:Array Obj} (enc : α→Value) (d:Array α):w.grownBy (sortWorld enc w g 0 m d os) (some g):=by
 refine ⟨rfl,rfl,rfl, ?_,fun k b a=>?_⟩
 ·simp [sortWorld,grow,putRow,mapBlock,Sort.ahead]
 ·unfold sortWorld;rw [heap_grow_old _ _ (by simpa [putRow,mapBlock,Sort.ahead] using b)];have:g≠k:=fun e=>a (by rw [e]);simp [putRow,mapBlock,Sort.ahead,Array.getElem?_modify,this]
theorem sortRows_any (w:World) (base g c pb A n pc:Nat) (a:List (T3×Value×Nat)) (l:w.ownsRow base 23 1 (.slice (some ⟨g,0,none⟩) a.length c) a.length (valsOf a)) (h0:a≠[]) (hz:a.length≤300)
  (hp:w.cell? ⟨pb,4,none⟩=some (.slice (some ⟨A,0,none⟩) n pc)) (H:∀ x∈a,RowAt w A n x) (hb:pb<base∧A<base) (hg:∀ x∈a,x.2.1.ownBlock≠some g) :
  Cl 163 #[.slice (some ⟨g,0,none⟩) a.length c,.func (.func 140) #[] #[.pointer (some ⟨pb,0,none⟩)]] w fun e w'=>e=.returned (.tuple #[])∧∃ vis':List (T3×Value×Nat),vis'.Perm a∧vis'.Pairwise (fun x y=>¬ ltT y.1 x.1)∧(∀ i (hi:i<vis'.length),w'.cell? ⟨g,i,none⟩=some vis'[i].2.1)∧w.grownBy w' (some g):=by
 obtain ⟨x0,N⟩:=List.exists_mem_of_ne_nil a h0;letI:Inhabited {x // x∈a}:=⟨⟨x0,N⟩⟩
 have B:=l.lt g rfl
 have u:OneCell (fun x:{x // x∈a}=>x.val.2.1):=fun x=>by
  obtain ⟨F,m,R,i,e,_⟩:=H x.val x.property;show (x.val.2.1).oneCell'=true
  (try simp only [At,I,Fn,Az,Ad]);rw [e]
  rfl
 have J:SWO (ltOf (fun x y:{x // x∈a}=>cmpT x.val.1.1 x.val.1.2.1 x.val.1.2.2 y.val.1.1 y.val.1.2.1 y.val.1.2.2)):={
  irrefl:=fun x=>by
   unfold ltOf;(try simp only);rw [decide_eq_false_iff_not,Gs]
   exact Xo _
  trans:=fun x y z h1 h2=>by
   unfold ltOf at *;(try simp only at *);rw [decide_eq_true_eq,Gs] at *
   exact Za _ _ _ h1 h2
  ntrans:=fun x y z h1 h2=>by
   unfold ltOf at *;(try simp only at *);rw [decide_eq_false_iff_not,Gs] at *
   unfold ltT at *;omega }
 have W:Holds (fun x:{x // x∈a}=>x.val.2.1) w g 0 a.attach.toArray:=fun j C=>by
  have q:j<a.length:=by simpa using C
  refine ⟨?_, ?_⟩
  ·have hc:=l.cellAt j γ;(try simp only);rw [Nat.zero_add,hc]
   (try simp only [At,I,Fn,Az,Ad]);rw [getElem!_pos _ j C]
   simp [valsOf,q]
  ·rcases l.2 with ⟨h1,_⟩ | ⟨g',X,Z,h1,_,h3,_⟩
   ·cases h1
   ·cases h1;simp [World.frozen?,h3]
 have r:CmpLays1 Tryz.prog 140 #[.pointer (some ⟨pb,0,none⟩)] (fun x:{x // x∈a}=>x.val.2.1) (fun x y=>cmpT x.val.1.1 x.val.1.2.1 x.val.1.2.2 y.val.1.1 y.val.1.2.1 y.val.1.2.2) g 0 a.attach.toArray.size w:=fun m os E _ x y=>by
  have K:=Yr (w:=w) (g:=g) (m:=m) (os:=os) (fun x:{x // x∈a}=>x.val.2.1) E;have d:∀ b o v,w.cell? ⟨b,o,none⟩=some v→b≠g→(sortWorld (fun x:{x // x∈a}=>x.val.2.1) w g 0 m E os).cell? ⟨b,o,none⟩=some v:=fun b o v h M=>K.cell h (by simpa using M);obtain ⟨F,ma,R,i,T,q1,q2,q3,P⟩:=H x.val x.property;obtain ⟨V,mb,Y,j,U,r1,r2,r3,Q⟩:=H y.val y.property;have na:F≠g:=fun e=>hg x.val x.property (by (try simp only [At,I,Fn,Az,Ad]);rw [T,e];rfl);have nb:V≠g:=fun e=>hg y.val y.property (by (try simp only [At,I,Fn,Az,Ad]);rw [U,e];rfl);have t:A≠g:=γ;have O:pb≠g:=γ;have:=piledCmp_gd (sortWorld (fun x:{x // x∈a}=>x.val.2.1) w g 0 m E os) pb A n pc F ma R V mb Y i j x.val.1 y.val.1 (d _ _ _ hp O) q1 r1 (d _ _ _ q2 na) (d _ _ _ r2 nb) q3 r3 ⟨d _ _ _ P.1 t,d _ _ _ P.2.1 t,d _ _ _ P.2.2 t⟩ ⟨d _ _ _ Q.1 t,d _ _ _ Q.2.1 t,d _ _ _ Q.2.2 t⟩;show Cl 140 #[x.val.2.1,y.val.2.1,.pointer (some ⟨pb,0,none⟩)] _ _
  (try simp only);rw [T,U]
  exact this
 have f:=Any.slices_SortFunc Tryz.sortRows (fun x:{x // x∈a}=>x.val.2.1) u (fun x y=>cmpT x.val.1.1 x.val.1.2.1 x.val.1.2.2 y.val.1.1 y.val.1.2.1 y.val.1.2.2) J 140 #[.pointer (some ⟨pb,0,none⟩)] g 0 c a.attach.toArray w (enters_of Tryz.func140 μ rfl) r W B.2 ψ;change Cl 163 _ _ _ at f
 (try simp only [At,I,Fn,Az,Ad] at f);rw [show a.attach.toArray.size=a.length by simp] at f
 refine f.mono ?_;rintro e w' ⟨rfl,k,m,os,D,hs,rfl⟩;have s:k.size=a.length:=by simpa using D.1
 refine ⟨rfl,k.toList.map (fun x=>x.val), ?_, ?_, ?_,Yr _ k⟩
 ·have h3:=D.2.2
  have e1:(k.extract 0 a.length).toList=k.toList:=by
   (try simp only [At,I,Fn,Az,Ad]);rw [← s]
   simp
  have e2:(a.attach.toArray.extract 0 a.length).toList=a.attach:=by
   simp;exact List.take_of_length_le ν
  (try simp only [At,I,Fn,Az,Ad] at h3);rw [e1,e2] at h3
  have h4:=h3.map (fun x=>x.val);(try simp only [At,I,Fn,Az,Ad] at h4);rw [List.attach_map_subtype_val] at h4
  exact h4
 ·(try simp only [At,I,Fn,Az,Ad]);rw [List.pairwise_map,List.pairwise_iff_getElem]
  intro i j hi C L;have:=hs i j (Nat.zero_le _) L (by simpa [s] using C);have p:i<k.size:=by simpa using hi
  have q:j<k.size:=by simpa using C
  (try simp only [At,I,Fn,Az,Ad] at this);rw [getElem!_pos k i p,getElem!_pos k j q] at this
  unfold ltOf at this;(try simp only at this);rw [decide_eq_false_iff_not,Gs] at this
  simpa using this
 ·intro i hi;have p:i<k.size:=by simpa using hi
  have G:=(holds_sortWorld _ w g 0 m a.attach.toArray k os B.2 W (by simpa using s) i p).1;(try simp only [At,I,Fn,Az,Ad] at G);rw [Nat.zero_add] at G
  (try simp only [At,I,Fn,Az,Ad]);rw [G,getElem!_pos k i p]
  simp
end Go.Proofs.YtbjmnlefkbhbdaaGreatDoor
namespace Go.Proofs.YtbjmnlefkbhbdaaGreatDoor
open Go.RowKit Go.Shelf Go.ChangeMaps
theorem RowAt.kept {w w':World} {a n:Nat} {x:(T3×Value×Nat)} (h:RowAt w a n x) (hb:Bl w w'):RowAt w' a n x:=by
 obtain ⟨g,m,c,i,h1,h2,h3,h4,h5⟩:=h;exact ⟨g,m,c,i,h1,h2,Qa hb h3,h4,Qa hb h5.1,Qa hb h5.2.1,Qa hb h5.2.2⟩
theorem Uq {w:World} {base e n:Nat} {v:Value} {d:List Value} (h:w.ownsRow base e 1 v n d) (f:0<n):∃ g q,v=.slice (Az g) n q:=by
 rcases h.2 with ⟨_,h0⟩ | ⟨g,a,b,c,_⟩
 ·omega
 ·exact ⟨g,a,c⟩
def SRows (w w':World) (ls:List (T3×Value×Nat)) (e:Ending):Prop := ∃ (g c:Nat) (vis:List (T3×Value×Nat)),e=.returned (.slice (Az g) vis.length c)∧vis.Perm ls∧vis.Pairwise (fun x y=>¬ ltT y.1 x.1)∧(∀ i (hi:i<vis.length),At w' g i vis[i].2.1)∧w.heap.size≤g∧Bl w w'
theorem sortedRows_any (w:World) (u A c pb s n pc:Nat) (ls:List (T3×Value×Nat)) (B:TGood ls c) (h0:ls≠[]) (j:ls.length≤300) (C:At w u 0 (.map (some A))) (D:TEM w A ls c) (hp:At w pb 4 (.slice (Az s) n pc)) (z:s<w.heap.size) (t:∀ x∈ls,RowAt w s n x) :
  Cl 138 #[.func (.func 164) #[] #[.pointer (Az u)],.func (.func 140) #[] #[.pointer (Az pb)]] w fun e w'=>SRows w w' ls e:=by
 have o:∀ x∈ls,∃ a n q,x.2.1=.slice a n q:=fun x p=>by
  obtain ⟨g,m,c,i,h1,_⟩:=t x p;exact ⟨_,_,_,h1⟩
 have F:=Hd (collect_any u A c ls B o j w C D);have J:=Bt hp
 have H:Hid (∀ (w1:World) (g q:Nat) (b:List (T3×Value×Nat)),b.Perm ls→w1.ownsRow w.heap.size 23 1 (.slice (Az g) b.length q) b.length (valsOf b)→Bl w w1→Cl 163 #[.slice (Az g) b.length q,.func (.func 140) #[] #[.pointer (Az pb)]] w1 fun e w'=>e=.returned (.tuple #[])∧∃ d:List (T3×Value×Nat),d.Perm b∧d.Pairwise (fun x y=>¬ ltT y.1 x.1)∧(∀ i (hi:i<d.length),At w' g i d[i].2.1)∧w1.grownBy w' (some g)):=fun w1 g q b f h hb=>by
  refine sortRows_any w1 w.heap.size g q pb s n pc b h (fun e=>h0 (by rw [e] at f;exact f.symm.eq_nil)) (by rw [f.length_eq];exact j) (Qa hb hp) (fun x p=>(t x (f.mem_iff.1 p)).kept hb) ⟨J,z⟩ (fun x p e=>?_);obtain ⟨g3,K,c3,i3,h1,_,h3,_⟩:=t x (f.mem_iff.1 p);rw [h1] at e;simp only [Value.ownBlock,Option.some.injEq] at e;have z3:=Bt h3;have z4:=(h.lt g rfl).1;omega
 have G:=Hd h0;clear B C D hp t o h0;go_enter Tryz.func138,Tryz.ntmps138;go_wp2_with (first | (go_at_call 162;refine F.out.mono ?_;rintro e w1 ⟨v,rfl,b,f,h,hb⟩;obtain ⟨g,q,rfl⟩:∃ g q,v=.slice (Az g) b.length q:=(Uq h (List.length_pos_iff.2 (fun e=>G.out (by rw [e] at f;exact f.symm.eq_nil))));have k:=H3 f h hb;clear f h hb) | (go_at_call 163;refine (H.out _ _ _ _ k.out.1 k.out.2.1 k.out.2.2).mono ?_;rintro e L ⟨rfl,d,h1,h2,h3,h4⟩;have l:=H4 h1 h2 h3 h4;clear h1 h2 h3 h4))
 go_ret;have hl:b.length=d.length:=l.out.1.length_eq.symm;have E:=(k.out.2.1.lt g rfl).1;exact ⟨g,q,d,by simp [hl],l.out.1.trans k.out.1,l.out.2.1,l.out.2.2.1,E,k.out.2.2.grown l.out.2.2.2 k.out.2.2.size (fun r e=>by cases e;exact E)⟩
end Go.Proofs.YtbjmnlefkbhbdaaGreatDoor
