/- A part of it. -/
import Derived.Test.YtjkjpopghkeibaaGreatDoorQlaj
import Derived.Test.YtjkjpopghkeibaaGreatDoorQlan
import Derived.RangeFuncNested
import Derived.RangeFuncBound
import Derived.Maps.OwnIn
import Derived.Shelf.SlSortCmp.Whole1
import Derived.Shelf.Sort.Plain
import Derived.Shelf.Slices.CompactI
set_option maxRecDepth 100000
set_option maxHeartbeats 40000000
namespace Go.Proofs.YtjkjpopghkeibaaGreatDoor
open Go.RowKit
variable {w w':World} {b c d e f:Int} {v:Value} {base:Nat}
theorem cmpT_lt0 (a b c p q r:Int):cmpT a b c p q r<0↔ltT (a,b,c) (p,q,r):=by
 unfold cmpT or2 cmp3 ltT;dsimp only;constructor
 ·intro h;repeat' split at h
  all_goals first | omega | (exfalso;omega)
 ·intro h;repeat' split
  all_goals first | omega | (exfalso;omega)
theorem cmpT_eq0 (a b c p q r:Int):cmpT a b c p q r=0↔(a,b,c)=(p,q,r):=by
 unfold cmpT or2 cmp3;simp only [Prod.mk.injEq];constructor
 ·intro h;repeat' split at h
  all_goals first | omega | (exfalso;omega)
 ·rintro ⟨rfl,rfl,rfl⟩;simp
def NumTo (L:List T3) (t:T3) (w w':World) (e:Ending):Prop := ∃ (i:Nat) (b:Bool),e=.returned (.tuple #[I (i:Int),.bool b])∧i≤L.length∧(b=true↔t∈L)∧(b=true→∃ h:i<L.length,L[i]=t)∧Bl w w'
theorem search_any (w:World) (O:Option Addr) (Q:Nat) (L:List T3) (x y k:Int) (hT:TRow w O L) (F:L.Pairwise ltT) (hL:L.length≤300) :
  Cl 136 #[.slice O L.length Q,.agg #[I x,I y,I k],.func (.func 87) #[] #[]] w fun e w'=>NumTo L (x,y,k) w w' e:=by
 have B:=H2 hT F;clear hT F;go_enter Tryz.func136,Tryz.ntmps136;go_wp2;go_loopg [9,10] L.length (fun R s9 N wx=>∃ i j:Nat,i≤j∧j≤L.length∧R=j - i∧s9=I (i:Int)∧N=I (j:Int)∧(∀ m (h:m<L.length),m<i→ltT L[m] (x,y,k))∧(∀ m (h:m<L.length),j≤m→¬ ltT L[m] (x,y,k))∧Below (w.alloc (.cells #[I x,I y,I k] 39)).heap.size (w.alloc (.cells #[I x,I y,I k] 39)) wx)
 case atStart=>exact ⟨0,L.length,γ,γ,γ,rfl,rfl,fun m _ h=>by omega,fun m h1 h2=>by omega,Qe _⟩
 case round =>
  obtain ⟨i,j,T,U,rfl,rfl,rfl,D,C,u⟩:=hrel;have A:=H2 D C;have s:=H2 (Qc β1 u) u;have b0:At wr w.heap.size 0 (I x):=Qa u δ;have b1:At wr w.heap.size 1 (I y):=Qa u δ;have b2:At wr w.heap.size 2 (I k):=Qa u δ;have zb:=Bt b0;clear D C u;by_cases h1:i<j
  ·have Y:(i:Int)<(j:Int):=γ;obtain ⟨m,E⟩:∃ m,m=(i+j) / 2:=⟨_,rfl⟩;have f:m<L.length:=γ;have m1:(m:Int)<(L.length:Int):=γ;have m0:(0:Int)≤(m:Int):=γ;obtain ⟨g,rfl,t0,l,o⟩:=(B.out.1.kept s.out.1) m f;have zg:=Bt t0
   have z:Hid (((i:Int)+(j:Int)) / 2=(m:Int)):=by
    have:((i:Int)+(j:Int)) / 2=(m:Int):=γ;exact this
   have V:i≤m:=γ;have X:m<j:=γ;clear E;obtain ⟨p,q,r,a⟩:∃ p q r,L[m]=(p,q,r):=⟨_,_,_,rfl⟩;rw [a] at t0 l o;dsimp only at t0 l o;obtain ⟨c,d⟩:∃ c,c=cmpT p q r x y k:=⟨_,rfl⟩;have J:Hid (∀ W:World,Rt 87 #[.agg #[I p,I q,I r],.agg #[I x,I y,I k]] W (I c)):=fun W=>d ▸ Yo p q r x y k W
   have t:Hid (c<0↔ltT L[m] (x,y,k)):=by
    have:c<0↔ltT L[m] (x,y,k):=by rw [d,a];exact cmpT_lt0 _ _ _ _ _ _
    exact this
   clear d a;go_upto_region 5 with fail
   rw [z.out];obtain ⟨G,H⟩:=kcn wr;refine wk ?_;repeat (go_big_quiet_step ((go_at_call 87;exact Qf (J.out _))))
   refine kq1 (fun P hq=>?_);clear G H t0 l o b0 b1 b2;by_cases hc0:c<0
   ·go_wp2;go_roundg (j - (m+1))
    case measure=>omega
    case rel =>
     refine ⟨m+1,j,γ,γ,rfl,σ,rfl,fun n b M=>?_,A.out.2,Qc s.out.2 hq⟩;have h2:=t.out.1 hc0;by_cases e:n=m
     ·subst e;exact h2
     ·have:=(List.pairwise_iff_getElem.1 B.out.2) n m b f γ;exact Xq _ _ _ this h2
   ·go_wp2;go_roundg (m - i)
    case measure=>omega
    case rel =>
     refine ⟨i,m,γ,γ,rfl,rfl,rfl,A.out.1,fun n b M h3=>?_,Qc s.out.2 hq⟩;by_cases e:n=m
     ·subst e;exact absurd (t.out.2 h3) γ
     ·have:=(List.pairwise_iff_getElem.1 B.out.2) m n f b γ;exact absurd (t.out.2 (Xq _ _ _ this h3)) γ
  ·have Y:¬ (i:Int)<(j:Int):=γ;have K:i=j:=γ;subst K;by_cases h2:i<L.length
   ·have Z:(i:Int)<(L.length:Int):=γ;have i0:(0:Int)≤(i:Int):=γ;obtain ⟨g,rfl,t0,l,o⟩:=(B.out.1.kept s.out.1) i h2;have zg:=Bt t0;obtain ⟨p,q,r,a⟩:∃ p q r,L[i]=(p,q,r):=⟨_,_,_,rfl⟩;rw [a] at t0 l o;dsimp only at t0 l o;obtain ⟨c,d⟩:∃ c,c=cmpT p q r x y k:=⟨_,rfl⟩;have J:Hid (∀ W:World,Rt 87 #[.agg #[I p,I q,I r],.agg #[I x,I y,I k]] W (I c)):=fun W=>d ▸ Yo p q r x y k W
    have t:Hid (c=0↔L[i]=(x,y,k)):=by
     have:c=0↔L[i]=(x,y,k):=by rw [d,a];exact cmpT_eq0 _ _ _ _ _ _
     exact this
    clear d a;go_upto_region 8 with fail
    obtain ⟨G,H⟩:=kcn wr;refine wk ?_;repeat (go_big_quiet_step ((go_at_call 87;exact Qf (J.out _))))
    refine kq1 (fun P hq=>?_);clear G H t0 l o b0 b1 b2;go_wp2;refine bodyPost_ret (v:=.tuple #[I (i:Int),.bool (c == 0)]) (by simp [results,Tryz.results136,go_sem]) rfl ⟨i,c == 0,rfl,γ, ?_,fun h=>?_,Qc s.out.1 hq⟩
    ·rw [beq_iff_eq,t.out];constructor
     ·intro e;rw [← e];exact Lm h2
     ·intro E;obtain ⟨n,b,e⟩:=List.getElem_of_mem E;by_cases e1:n=i
      ·subst e1;exact e
      ·by_cases e2:n<i
       ·have:=A.out.1 n b e2;rw [e] at this;exact absurd this (Jr _)
       ·have h3:=(List.pairwise_iff_getElem.1 B.out.2) i n h2 b γ;rw [e] at h3;exact absurd h3 (A.out.2 i h2 (Nr _))
    ·exact ⟨h2,t.out.1 (by simpa using h)⟩
   ·have Z:¬ (i:Int)<(L.length:Int):=γ;go_upto_region 8 with fail
    obtain ⟨G,H⟩:=kcn wr;refine wk ?_;repeat (go_big_quiet_step (fail))
    refine kq1 (fun P hq=>?_);clear G H b0 b1 b2;go_wp2;refine bodyPost_ret (v:=.tuple #[I (i:Int),.bool false]) (by simp [results,Tryz.results136,go_sem]) rfl ⟨i,false,rfl,γ, ?_,(fun h=>by cases h),Qc s.out.1 hq⟩;simp only [Bool.false_eq_true,false_iff];intro E;obtain ⟨n,b,e⟩:=List.getElem_of_mem E;have:=A.out.1 n b γ;rw [e] at this;exact Jr _ this
theorem number_any (w:World) (d:Option Addr) (f:Nat) (j l:Value) (L:List T3) (x y k:Int) (hT:TRow w d L) (a:L.Pairwise ltT) (h:L.length≤300) :
  Cl 88 #[.agg #[.slice d L.length f,j,l],.agg #[I x,I y,I k]] w fun e w'=>NumTo L (x,y,k) w w' e:=by
 have CS:=Hd (fun (W:World) hW=>search_any W d f L x y k (hT.kept hW) a h);clear hT a;go_enter Tryz.func88,Tryz.ntmps88;go_wp2_with (go_at_call 136;refine (CS.out _ β2).mono ?_;rintro e m ⟨i,b,rfl,h1,h2,h3,g⟩;have c:=H3 h2 h3 (Qc β2 g);clear h2 h3 g)
 exact bodyPost_ret (v:=.tuple #[I (i:Int),.bool b]) (by simp [results,Tryz.results88,go_sem]) rfl ⟨i,b,rfl,h1,c.out.1,c.out.2.1,c.out.2.2⟩
def kdT (vx vy:Int):Int:=if vx=1 then 1 else if vx=-1 then 3 else if vy=-1 then 0 else 2
def mvt (m:M6) (t:T3):Int×Int×Int :=
 ((m.1*(2*t.1+1)+m.2.1*(2*t.2.1+1)+m.2.2.2.2.1 - 1) / 2,(m.2.2.1*(2*t.1+1)+m.2.2.2.1*(2*t.2.1+1)+m.2.2.2.2.2 - 1) / 2,
  kdT (m.1*outX t.2.2+m.2.1*outY t.2.2) (m.2.2.1*outX t.2.2+m.2.2.2.1*outY t.2.2))
theorem Kt {a:Int} (h:mapB a b c d e f=true):e % 2=0∧f % 2=0:=by
 unfold mapB at h;simp only [Bool.and_eq_true,evenB,decide_eq_true_eq] at h;omega
theorem Xm {k:Int} (h:0≤k∧k≤3):k=0∨k=1∨k=2∨k=3:=γ
theorem mvt_facts {a x y k:Int} (o:GoodM (a,b,c,d,e,f) 48000) (s:0≤x∧x≤8) (t:0≤y∧y≤8) (i:0≤k∧k≤3) {X Y K:Int} (h:(X,Y,K)=mvt (a,b,c,d,e,f) (x,y,k)) :
  dot a b (2*x+1) (2*y+1)+e=2*X+1∧dot c d (2*x+1) (2*y+1)+f=2*Y+1∧(0≤K∧K≤3)∧dot a b (outX k) (outY k)=outX K∧dot c d (outX k) (outY k)=outY K∧triB X Y K=true∧triB x y k=true∧mapB a b c d e f=true:=by
 obtain ⟨h1,h2,h3⟩:=o;have h1:mapB a b c d e f=true:=h1;have r:=Kt h1;simp only [mvt,Prod.mk.injEq] at h;obtain ⟨p,q,g⟩:=h;dsimp only at h2 h3;rcases Xz h1 with ⟨j,rfl,rfl,n⟩ | ⟨rfl,l,m,rfl⟩
 ·rcases j with rfl | rfl <;> rcases n with rfl | rfl <;> rcases Xm i with rfl | rfl | rfl | rfl <;> simp [outX,outY,kdT,dot,triB,h1] at * <;> (subst g;simp;omega)
 ·rcases l with rfl | rfl <;> rcases m with rfl | rfl <;> rcases Xm i with rfl | rfl | rfl | rfl <;> simp [outX,outY,kdT,dot,triB,h1] at * <;> (subst g;simp;omega)
theorem mvt_inj {m:M6} (g:mapM m=true) {t u:T3} (i:0≤t.2.2∧t.2.2≤3) (j:0≤u.2.2∧u.2.2≤3) (h:mvt m t=mvt m u):t=u:=by
 obtain ⟨a,b,c,d,e,f⟩:=m;obtain ⟨x,y,k⟩:=t;obtain ⟨p,q,r⟩:=u;have g:mapB a b c d e f=true:=g;have B:=Kt g;simp only [mvt,Prod.mk.injEq] at h;obtain ⟨z,A,l⟩:=h;dsimp only at i j;simp only [Prod.mk.injEq];rcases Xz g with ⟨n,rfl,rfl,v⟩ | ⟨rfl,o,s,rfl⟩
 ·rcases n with rfl | rfl <;> rcases v with rfl | rfl <;> refine ⟨γ,γ, ?_⟩ <;> rcases Xm i with rfl | rfl | rfl | rfl <;> rcases Xm j with rfl | rfl | rfl | rfl <;> simp [outX,outY,kdT] at l ⊢
 ·rcases o with rfl | rfl <;> rcases s with rfl | rfl <;> refine ⟨γ,γ, ?_⟩ <;> rcases Xm i with rfl | rfl | rfl | rfl <;> rcases Xm j with rfl | rfl | rfl | rfl <;> simp [outX,outY,kdT] at l ⊢
theorem Move_small (m:M6) (t:T3) (w:World) (j:GoodM m 48000) (g:(0≤t.1∧t.1≤8)∧(0≤t.2.1∧t.2.1≤8)∧(0≤t.2.2∧t.2.2≤3)) (hs:Steps w) :
  Rt 80 #[.agg #[I m.1,I m.2.1,I m.2.2.1,I m.2.2.2.1,I m.2.2.2.2.1,I m.2.2.2.2.2],.agg #[I t.1,I t.2.1,I t.2.2]] w (.tuple #[.agg #[I (mvt m t).1,I (mvt m t).2.1,I (mvt m t).2.2],I 0]):=by
 obtain ⟨a,b,c,d,e,f⟩:=m;obtain ⟨x,y,k⟩:=t;obtain ⟨h1,h2,h3,h4,h5,h6,h,i⟩:=mvt_facts j g.1 g.2.1 g.2.2 (X:=(mvt (a,b,c,d,e,f) (x,y,k)).1) (Y:=(mvt (a,b,c,d,e,f) (x,y,k)).2.1) (K:=(mvt (a,b,c,d,e,f) (x,y,k)).2.2) rfl;exact Move_yes a b c d e f x y k _ _ _ w i h h1 h2 h3 h4 h5 h6 hs
def mpX (m:M6) (x y:Int):Int:=m.1*x+m.2.1*y+m.2.2.2.2.1
def mpY (m:M6) (x y:Int):Int:=m.2.2.1*x+m.2.2.2.1*y+m.2.2.2.2.2
def bro (m:M6) (e:E4):E4 :=
 if lessB (mpX m e.2.2.1 e.2.2.2) (mpY m e.2.2.1 e.2.2.2) (mpX m e.1 e.2.1) (mpY m e.1 e.2.1)=true then (mpX m e.2.2.1 e.2.2.2,mpY m e.2.2.1 e.2.2.2,mpX m e.1 e.2.1,mpY m e.1 e.2.1)
 else (mpX m e.1 e.2.1,mpY m e.1 e.2.1,mpX m e.2.2.1 e.2.2.2,mpY m e.2.2.1 e.2.2.2)
theorem bro_or (m:M6) (p q r s:Int):(lessB (mpX m r s) (mpY m r s) (mpX m p q) (mpY m p q)=true∧bro m (p,q,r,s)=(mpX m r s,mpY m r s,mpX m p q,mpY m p q))∨(lessB (mpX m r s) (mpY m r s) (mpX m p q) (mpY m p q)=false∧bro m (p,q,r,s)=(mpX m p q,mpY m p q,mpX m r s,mpY m r s)):=by
 unfold bro
 cases h:lessB (mpX m r s) (mpY m r s) (mpX m p q) (mpY m p q) <;> simp
theorem Qbs {m:M6} {t:T3} {e:E4} (j:mapM m=true) (o:Kd t) (h:hasT t e=true):hasT (mvt m t) (bro m e)=true:=by
 obtain ⟨a,b,c,d,u,v⟩:=m;obtain ⟨x,y,k⟩:=t;obtain ⟨p,q,r,s⟩:=e;have j:mapB a b c d u v=true:=j;obtain ⟨D,hv⟩:=Kt j;obtain ⟨U,rfl⟩:∃ U,u=2*U:=⟨u / 2,γ⟩;obtain ⟨V,rfl⟩:∃ V,v=2*V:=⟨v / 2,γ⟩;unfold hasT at h;rw [Qx] at h;dsimp only at h;have n:=Xm (show 0≤k∧k≤3 from o);have C:=Xz j;clear j o D hv;have i:=bro_or (a,b,c,d,2*U,2*V) p q r s;generalize bro (a,b,c,d,2*U,2*V) (p,q,r,s)=g at i;simp only [lessB,mpX,mpY] at i;simp only [mvt];rcases C with ⟨z,rfl,rfl,B⟩ | ⟨rfl,A,l,rfl⟩
 ·rcases z with rfl | rfl <;> rcases B with rfl | rfl <;> rcases n with rfl | rfl | rfl | rfl <;> simp only [Zt,Zs,Zp,Zo,Zn,Zm,Zl,Zk,Zj,Zi,Zh,Zg] at h <;> rcases h with ⟨rfl,rfl,rfl,rfl⟩ | ⟨rfl,rfl,rfl,rfl⟩ | ⟨rfl,rfl,rfl,rfl⟩ <;> rcases i with ⟨f,rfl⟩ | ⟨f,rfl⟩ <;> (first | replace f:=of_decide_eq_true f | replace f:=of_decide_eq_false f) <;> unfold hasT <;> rw [Qx] <;> simp [outX,outY,kdT] <;> simp only [Zt,Zs,Zp,Zo,Zn,Zm,Zl,Zk,Zj,Zi,Zh,Zg] <;> (first | exact Or.inl ⟨γ,γ,γ,γ⟩ | exact Or.inr (Or.inl ⟨γ,γ,γ,γ⟩) | exact Or.inr (Or.inr ⟨γ,γ,γ,γ⟩) | (exfalso;omega))
 ·rcases A with rfl | rfl <;> rcases l with rfl | rfl <;> rcases n with rfl | rfl | rfl | rfl <;> simp only [Zt,Zs,Zp,Zo,Zn,Zm,Zl,Zk,Zj,Zi,Zh,Zg] at h <;> rcases h with ⟨rfl,rfl,rfl,rfl⟩ | ⟨rfl,rfl,rfl,rfl⟩ | ⟨rfl,rfl,rfl,rfl⟩ <;> rcases i with ⟨f,rfl⟩ | ⟨f,rfl⟩ <;> (first | replace f:=of_decide_eq_true f | replace f:=of_decide_eq_false f) <;> unfold hasT <;> rw [Qx] <;> simp [outX,outY,kdT] <;> simp only [Zt,Zs,Zp,Zo,Zn,Zm,Zl,Zk,Zj,Zi,Zh,Zg] <;> (first | exact Or.inl ⟨γ,γ,γ,γ⟩ | exact Or.inr (Or.inl ⟨γ,γ,γ,γ⟩) | exact Or.inr (Or.inr ⟨γ,γ,γ,γ⟩) | (exfalso;omega))
def crs (e:E4) (x y:Int):Int:=(e.2.2.1 - e.1)*(y - e.2.1) - (e.2.2.2 - e.2.1)*(x - e.1)
def sdS (e:E4) (t:T3):Int:=crs e (2*t.1+1) (2*t.2.1+1)+crs e (c1x t.1 t.2.2) (c1y t.2.1 t.2.2)+crs e (c2x t.1 t.2.2) (c2y t.2.1 t.2.2)
def sd (e:E4) (t:T3):Nat:=if 0<sdS e t then 1 else 0
theorem sd_le (e:E4) (t:T3):sd e t≤1:=by unfold sd;split <;> omega
open Go.ChangeMaps
def bitsOf (P:List ((Int×Int)×Nat×Nat)) (pt:Int×Int) (d:Nat):Bool:=P.any fun x=>decide (x.1=pt) && fillJ (fun _=>false) x.2.1 x.2.2 d
def hasPt (P:List ((Int×Int)×Nat×Nat)) (pt:Int×Int):Bool:=P.any fun x=>decide (x.1=pt)
def pv (P:List ((Int×Int)×Nat×Nat)) (pt:Int×Int):Option Value:=if hasPt P pt=true then some (arv (bitsOf P pt) (fun _=>0)) else none
theorem Pm.EM.grown {r:Nat} {ls:List ((Int×Int)×Value×Nat)} {c:Nat} {row:Option Nat} (h:Pm.EM w r ls c) (hg:w.grownBy w' row) (a:some r≠row):Pm.EM w' r ls c:=(hg.block r (Array.getElem?_eq_some_iff.1 h).1 a).trans h
def PtM (w wx:World) (rm:Nat) (P:List ((Int×Int)×Nat×Nat)):Prop:=(∃ ls c,Pm.EM wx rm ls c∧Pm.Good ls c∧∀ pt,Pm.lk ls pt=pv P pt)∧Bl w wx∧w.heap.size≤rm
theorem PtM.lt {b:World} {a:Nat} {P:List ((Int×Int)×Nat×Nat)} (h:PtM w b a P):a<b.heap.size:=by
 obtain ⟨ls,c,h1,_⟩:=h.1;exact (Array.getElem?_eq_some_iff.1 h1).1
theorem PtM.kept {d:World} {b:Nat} {P:List ((Int×Int)×Nat×Nat)} (h:PtM w d b P) (a:Bl d w'):PtM w w' b P:=by
 obtain ⟨⟨ls,c,h1,h2,h3⟩,h4,h5⟩:=h;exact ⟨⟨ls,c,h1.grown (Qy a) ξ,h2,h3⟩,Qc h4 a,h5⟩
def C6 (w:World) (g:Nat) (m0 m1 m2 m3 m4 m5:Int):Prop:=At w g 0 (I m0)∧At w g 1 (I m1)∧At w g 2 (I m2)∧At w g 3 (I m3)∧At w g 4 (I m4)∧At w g 5 (I m5)
theorem C6.kept {g:Nat} {i:Int} (h:C6 w g b c d e f i) (a:Bl w w'):C6 w' g b c d e f i:=⟨Qa a h.1,Qa a h.2.1,Qa a h.2.2.1,Qa a h.2.2.2.1,Qa a h.2.2.2.2.1,Qa a h.2.2.2.2.2⟩
theorem own_lower {low:Nat} {e:TypeId} {size:Nat} {n:Nat} {c:List Value} (h:w.ownsRow base e size v n c) (d:low≤base):w.ownsRow low e size v n c:=by
 obtain ⟨h1,h2⟩:=h;refine ⟨h1, ?_⟩;rcases h2 with h2 | ⟨g,a,b,h3,h4,h5⟩
 ·exact Or.inl h2
 ·exact Or.inr ⟨g,a,b,h3,γ,h5⟩
theorem mayFold_any (t a k m z mv:Value) (pa:Option Addr) (y q:Nat) (o c sd n B C A:Int) (E:Bool) (L:List T3) (s e0:Int) (w:World) (hT:TRow w pa L) (D:L.length=y) (hi:0<L.length)
  (i:∀ V:World,Bl w V→Rt 62 #[.agg #[I o,I c],.agg #[I L[0].1,I L[0].2.1,I L[0].2.2]] V (.tuple #[I s,I e0])) :
  Rt 25 #[.agg #[t,a,k,m,.slice pa y q,z,I o,I c,I sd,.bool E,I n,I B,I C,I A,mv]] w (.bool (decide (e0=0) && (decide (sd=1) || decide (sd=-1)) && decide (0≤n))):=by
 have d:=Hd i;obtain ⟨g,hg,c0,c1,c2⟩:=hT 0 hi;subst hg;subst D;have J:(0:Int)<(L.length:Int):=γ;generalize L[0]=u at c0 c1 c2 d;simp only [Nat.zero_mul,Nat.zero_add] at c0 c1 c2;clear i hT;go_enter Tryz.func25,Tryz.ntmps25;go_wp2;refine Qi (fun V f=>?_)
 have j:Bl w V:=by
  rw [f]
  first
   | exact Qb β1
   | (repeat' first | exact Qe _ | refine Qb ?_ | refine Qh ?_ ξ)
 have r:At V w.heap.size 4 (.slice (Az g) L.length q):=by rw [f];simp [go_sem]
 have f0:At V (w.heap.size+1) 0 (I o):=by rw [f];simp [go_sem]
 have f1:At V (w.heap.size+1) 1 (I c):=by rw [f];simp [go_sem]
 have f2:At V (w.heap.size+1) 2 (I sd):=by rw [f];simp [go_sem]
 have f4:At V (w.heap.size+1) 4 (I n):=by rw [f];simp [go_sem]
 have t0:=Qa j c0;have v:=Qa j c1;have x:=Qa j c2;have p:=Hd j;clear f j c0 c1 c2
 go_region_held3 (fun w'=>At w' w.heap.size 4 (.slice (Az g) L.length q)∧At w' (w.heap.size+1) 0 (I o)∧At w' (w.heap.size+1) 1 (I c)∧At w' g 0 (I u.1)∧At w' g 1 (I u.2.1)∧At w' g 2 (I u.2.2))
  (first | exact ⟨Qq r,Qq f0,Qq f1,Qq t0,Qq v,Qq x⟩ | exact ⟨F,G,H,z0,z1,z2⟩)
  (first
   | (go_at_call 62;(with_reducible refine (d.out _ (Qc p.out (Qg (Qe _)))).mono ?_);rintro e K ⟨rfl,l⟩;have b:=Qc (Qg (Qe V)) l;have F:=Qa b r;have G:=Qa b f0;have H:=Qa b f1;have x2:=Qa b f2;have M:=Qa b f4;have z0:=Qa b t0;have z1:=Qa b v;have z2:=Qa b x;have h:=Hd (Qc p.out b);clear l b)
   | fail)
 clear p t0 v x r f0 f1 f2 f4 d;by_cases k0:e0=0
 ·subst k0;by_cases k1:sd=1
  ·subst k1;by_cases k2:0≤n
   ·go_wp2;go_ret;exact ⟨by simp,h.out⟩
   ·go_wp2;go_ret;exact ⟨by simp [k2],h.out⟩
  ·by_cases k3:sd=-1
   ·subst k3;by_cases k2:0≤n
    ·go_wp2;go_ret;exact ⟨by simp,h.out⟩
    ·go_wp2;go_ret;exact ⟨by simp [k2],h.out⟩
   ·go_wp2;go_ret;exact ⟨by simp,h.out⟩
 ·go_wp2;go_ret;exact ⟨by simp [k0],h.out⟩
theorem held_all (a k m g mv:Value) (q pa:Option Addr) (N r n p:Nat) (s c sd j l h:Int) (o:Bool) (f:Nat→Bool) (w:World) (y:N≤300)
  (b:∀ (V:World) (i:Nat),Bl w V→i<N→Rt 64 #[.agg #[.slice q N r,a,k,m,.slice pa n p,g,I s,I c,I sd,.bool o,I 0,I j,I l,I h,mv],I (i:Int)] V (.bool (f i))) :
  Cl 26 #[.agg #[.slice q N r,a,k,m,.slice pa n p,g,I s,I c,I sd,.bool o,I 0,I j,I l,I h,mv]] w fun e w'=>∃ v,e=.returned (.tuple #[v,.bool true])∧w'.ownsRow w.heap.size 3 1 v (whL f N).length (nuV (whL f N))∧Bl w w':=by
 have d:=Hd b;clear b;go_enter Tryz.func26,Tryz.ntmps26
 go_wp2_with (first
  | (go_at_call 63;go_must (with_reducible refine (where_any a k m g mv q pa N r n p s c sd 0 j l h o f _ y (fun V i z hi=>d.out V i (Qc β1 z) hi)).mono ?_);go_must (rintro e A ⟨v,rfl,x,u⟩);go_must (have t:=H2 (own_lower x (Qb (Qe w)).size) (Qc β1 u));clear x u)
  | fail)
 exact bodyPost_ret (v:=.tuple #[v,.bool true]) (by simp [results,Tryz.results26,go_sem]) rfl ⟨v,rfl,t.out.1,t.out.2⟩
theorem fd_far {p a:Addr} {u:Value} (h:w.cell? a=some v) (b:a.block≠p.block):(w.setCell p u).cell? a=some v:=by
 first | exact Qo h b | exact World.cell?_setCell_far h b
theorem pileLine_any (t a k pl:Value) (d n cm i:Nat) (A B C E m0 m1 m2 m3 m4 m5 p q r s lw lc:Int) (w:World) (hi:i<n) (m:At w d (i*6) (I m0)) (y:At w d (i*6+1) (I m1)) (z:At w d (i*6+2) (I m2)) (D:At w d (i*6+3) (I m3)) (F:At w d (i*6+4) (I m4)) (G:At w d (i*6+5) (I m5))
  (h:∀ V:World,Rt 103 #[.agg #[I A,I B,I C,I E],.agg #[I m0,I m1,I m2,I m3,I m4,I m5]] V (.agg #[I p,I q,I r,I s]))
  (j:∀ V:World,Rt 121 #[.agg #[I p,I q,I r,I s]] V (.agg #[I lw,I lc])) :
  Rt 70 #[.agg #[t,a,k,.slice (Az d) n cm,pl],I (i:Int),.agg #[I A,I B,I C,I E]] w (.agg #[I lw,I lc]):=by
 have o:=Hd h;have u:=Hd j;clear h j;have i0:(0:Int)≤(i:Int):=γ;have i1:(i:Int)<(n:Int):=γ;go_enter Tryz.func70,Tryz.ntmps70;go_wp2;refine Qi (fun V g=>?_);have l:Bl w V:=by rw [g];exact Qb β2
 have q3:At V w.heap.size 3 (.slice (Az d) n cm):=by rw [g];simp [go_sem]
 have e0:At V (w.heap.size+1) 0 (I A):=by rw [g];simp [go_sem]
 have e1:At V (w.heap.size+1) 1 (I B):=by rw [g];simp [go_sem]
 have e2:At V (w.heap.size+1) 2 (I C):=by rw [g];simp [go_sem]
 have e3:At V (w.heap.size+1) 3 (I E):=by rw [g];simp [go_sem]
 have o0:At V (w.heap.size+2) 0 (I 0):=by rw [g];simp [go_sem]
 have o1:At V (w.heap.size+2) 1 (I 0):=by rw [g];simp [go_sem]
 have f0:V.frozen? ⟨w.heap.size+2,0,none⟩=false:=by rw [g];simp [go_sem]
 have f1:V.frozen? ⟨w.heap.size+2,1,none⟩=false:=by rw [g];simp [go_sem]
 have c0:=Qa l m;have c1:=Qa l y;have c2:=Qa l z;have c3:=Qa l D;have c4:=Qa l F;have c5:=Qa l G;have HB:=Hd l;have ac:=Bt m;clear g l m y z D F G
 go_region_held3 (fun w'=>At w' w.heap.size 3 (.slice (Az d) n cm)∧At w' (w.heap.size+1) 0 (I A)∧At w' (w.heap.size+1) 1 (I B)∧At w' (w.heap.size+1) 2 (I C)∧At w' (w.heap.size+1) 3 (I E)∧At w' d (i*6) (I m0)∧At w' d (i*6+1) (I m1)∧At w' d (i*6+2) (I m2)∧At w' d (i*6+3) (I m3)∧At w' d (i*6+4) (I m4)∧At w' d (i*6+5) (I m5))
  (first | exact ⟨Qq q3,Qq e0,Qq e1,Qq e2,Qq e3,Qq c0,Qq c1,Qq c2,Qq c3,Qq c4,Qq c5⟩ | exact ⟨ab,a6,a7,a8,aa,U,W,X,Y,Z,a2⟩ | exact ⟨T,O,P,Q,R,H,J,K,L,M,N⟩ | exact ⟨fd_far (fd_far ab (by first | (simp only [];omega) | omega)) (by first | (simp only [];omega) | omega),fd_far (fd_far a6 (by first | (simp only [];omega) | omega)) (by first | (simp only [];omega) | omega),fd_far (fd_far a7 (by first | (simp only [];omega) | omega)) (by first | (simp only [];omega) | omega),fd_far (fd_far a8 (by first | (simp only [];omega) | omega)) (by first | (simp only [];omega) | omega),fd_far (fd_far aa (by first | (simp only [];omega) | omega)) (by first | (simp only [];omega) | omega),fd_far (fd_far U (by first | (simp only [];omega) | omega)) (by first | (simp only [];omega) | omega),fd_far (fd_far W (by first | (simp only [];omega) | omega)) (by first | (simp only [];omega) | omega),fd_far (fd_far X (by first | (simp only [];omega) | omega)) (by first | (simp only [];omega) | omega),fd_far (fd_far Y (by first | (simp only [];omega) | omega)) (by first | (simp only [];omega) | omega),fd_far (fd_far Z (by first | (simp only [];omega) | omega)) (by first | (simp only [];omega) | omega),fd_far (fd_far a2 (by first | (simp only [];omega) | omega)) (by first | (simp only [];omega) | omega)⟩)
  (first
   | (go_at_call 103;(with_reducible refine (o.out _).mono ?_);rintro e w5 ⟨rfl,x⟩;have c:=Qc (Qg (Qe V)) x;have T:=Qa c q3;have O:=Qa c e0;have P:=Qa c e1;have Q:=Qa c e2;have R:=Qa c e3;have H:=Qa c c0;have J:=Qa c c1;have K:=Qa c c2;have L:=Qa c c3;have M:=Qa c c4;have N:=Qa c c5;have H5:=Hd c;clear x c)
   | (go_at_call 121;(with_reducible refine (u.out _).mono ?_);rintro e w6 ⟨rfl,b⟩;have ab:=Qa b T;have a6:=Qa b O;have a7:=Qa b P;have a8:=Qa b Q;have aa:=Qa b R;have U:=Qa b H;have W:=Qa b J;have X:=Qa b K;have Y:=Qa b L;have Z:=Qa b M;have a2:=Qa b N;have f:=Qc H5.out b;have x0:=Qa f o0;have x1:=Qa f o1;have u0:=frozen_kept f o0 f0;have u1:=frozen_kept f o1 f1;have H6:=Hd (Qc HB.out f);clear b f)
   | fail)
 go_wp2;refine bodyPost_ret (v:=.agg #[I lw,I lc]) (by simp [results,Tryz.results70,go_sem,x0,x1]) rfl ⟨rfl, ?_⟩;with_reducible repeat (first | exact H6.out | refine Qh ?_ ?_)
 all_goals (dsimp only;omega)
theorem along_asks (t a k pl _R _sd _Y _X _U _W _T _mv:Value) (y n x d:Nat) (P tz A B C E i c L K:Int) (w:World)
  (k0:At w d 0 (t)) (k1:At w d 1 (a)) (k2:At w d 2 (k)) (k3:At w d 3 (.slice (Az y) n x)) (M:At w d 4 (pl)) (N:At w d 6 (I i)) (O:At w d 7 (I c))
  (z:∀ V:World,Bl w V→Rt 70 #[.agg #[t,a,k,.slice (Az y) n x,pl],I P,.agg #[I A,I B,I C,I E]] V (.agg #[I L,I K])) :
  Rt 69 #[I P,.agg #[I A,I B,I C,I E,I tz],.pointer (Az d)] w (.bool (!(decide (L=i) && decide (K=c)))):=by
 have h:=Hd z;clear z;go_enter Tryz.func69,Tryz.ntmps69;go_wp2;refine Qi (fun V l=>?_);have g:Bl w V:=by rw [l];exact Qb (Qe _)
 have e0:At V w.heap.size 0 (I A):=by rw [l];simp [go_sem]
 have e1:At V w.heap.size 1 (I B):=by rw [l];simp [go_sem]
 have e2:At V w.heap.size 2 (I C):=by rw [l];simp [go_sem]
 have e3:At V w.heap.size 3 (I E):=by rw [l];simp [go_sem]
 have m:=Qa g k0;have o:=Qa g k1;have p:=Qa g k2;have q:=Qa g k3;have r:=Qa g M;have s:=Qa g N;have u:=Qa g O;have j:=Hd g;clear l g k0 k1 k2 k3 M N O;by_cases h1:L=i
 ·have h1:=h1.symm;subst h1;by_cases h2:K=c
  ·have h2:=h2.symm;subst h2
   go_region_held3 (fun w'=>At w' d 0 (t)∧At w' d 1 (a)∧At w' d 2 (k)∧At w' d 3 (.slice (Az y) n x)∧At w' d 4 (pl)∧At w' d 6 (I i)∧At w' d 7 (I c)∧At w' w.heap.size 0 (I A)∧At w' w.heap.size 1 (I B)∧At w' w.heap.size 2 (I C)∧At w' w.heap.size 3 (I E))
    (first | exact ⟨Qq m,Qq o,Qq p,Qq q,Qq r,Qq s,Qq u,Qq e0,Qq e1,Qq e2,Qq e3⟩ | exact ⟨F,y1,y2,y3,G,H,J,D,x1,x2,x3⟩)
    (first
     | (go_at_call 70;(with_reducible refine (h.out _ (Qc j.out (Qg (Qe _)))).mono ?_);rintro e Q ⟨rfl,f⟩;have b:=Qc (Qg (Qe V)) f;have F:=Qa b m;have y1:=Qa b o;have y2:=Qa b p;have y3:=Qa b q;have G:=Qa b r;have H:=Qa b s;have J:=Qa b u;have D:=Qa b e0;have x1:=Qa b e1;have x2:=Qa b e2;have x3:=Qa b e3;have v:=Hd (Qc j.out b);clear f b)
     | fail)
   go_wp2;go_ret;exact ⟨by first | rfl | simp [*] | (congr 2;rw [Bool.eq_iff_iff];simp [*]),v.out⟩
  ·have h3:(K == c)=false:=by simpa using h2
   go_region_held3 (fun w'=>At w' d 0 (t)∧At w' d 1 (a)∧At w' d 2 (k)∧At w' d 3 (.slice (Az y) n x)∧At w' d 4 (pl)∧At w' d 6 (I i)∧At w' d 7 (I c)∧At w' w.heap.size 0 (I A)∧At w' w.heap.size 1 (I B)∧At w' w.heap.size 2 (I C)∧At w' w.heap.size 3 (I E))
    (first | exact ⟨Qq m,Qq o,Qq p,Qq q,Qq r,Qq s,Qq u,Qq e0,Qq e1,Qq e2,Qq e3⟩ | exact ⟨F,y1,y2,y3,G,H,J,D,x1,x2,x3⟩)
    (first
     | (go_at_call 70;(with_reducible refine (h.out _ (Qc j.out (Qg (Qe _)))).mono ?_);rintro e Q ⟨rfl,f⟩;have b:=Qc (Qg (Qe V)) f;have F:=Qa b m;have y1:=Qa b o;have y2:=Qa b p;have y3:=Qa b q;have G:=Qa b r;have H:=Qa b s;have J:=Qa b u;have D:=Qa b e0;have x1:=Qa b e1;have x2:=Qa b e2;have x3:=Qa b e3;have v:=Hd (Qc j.out b);clear f b)
     | fail)
   go_wp2;go_ret;exact ⟨by first | rfl | simp [*] | (congr 2;rw [Bool.eq_iff_iff];simp [*]),v.out⟩
 ·have h3:(L == i)=false:=by simpa using h1
  go_region_held3 (fun w'=>At w' d 0 (t)∧At w' d 1 (a)∧At w' d 2 (k)∧At w' d 3 (.slice (Az y) n x)∧At w' d 4 (pl)∧At w' d 6 (I i)∧At w' d 7 (I c)∧At w' w.heap.size 0 (I A)∧At w' w.heap.size 1 (I B)∧At w' w.heap.size 2 (I C)∧At w' w.heap.size 3 (I E))
   (first | exact ⟨Qq m,Qq o,Qq p,Qq q,Qq r,Qq s,Qq u,Qq e0,Qq e1,Qq e2,Qq e3⟩ | exact ⟨F,y1,y2,y3,G,H,J,D,x1,x2,x3⟩)
   (first
    | (go_at_call 70;(with_reducible refine (h.out _ (Qc j.out (Qg (Qe _)))).mono ?_);rintro e Q ⟨rfl,f⟩;have b:=Qc (Qg (Qe V)) f;have F:=Qa b m;have y1:=Qa b o;have y2:=Qa b p;have y3:=Qa b q;have G:=Qa b r;have H:=Qa b s;have J:=Qa b u;have D:=Qa b e0;have x1:=Qa b e1;have x2:=Qa b e2;have x3:=Qa b e3;have v:=Hd (Qc j.out b);clear f b)
    | fail)
  go_wp2;go_ret;exact ⟨by first | rfl | simp [*] | (congr 2;rw [Bool.eq_iff_iff];simp [*]),v.out⟩
abbrev C5:=E4×Int
def ltC (x y:C5):Bool:=lessE x.1.1 x.1.2.1 x.1.2.2.1 x.1.2.2.2 y.1.1 y.1.2.1 y.1.2.2.1 y.1.2.2.2 || (sameB x.1.1 x.1.2.1 x.1.2.2.1 x.1.2.2.2 y.1.1 y.1.2.1 y.1.2.2.1 y.1.2.2.2 && decide (x.2<y.2))
theorem Ku (x y:C5):ltC x y=true↔x.1.1<y.1.1∨(x.1.1=y.1.1∧(x.1.2.1<y.1.2.1∨(x.1.2.1=y.1.2.1∧(x.1.2.2.1<y.1.2.2.1∨(x.1.2.2.1=y.1.2.2.1∧(x.1.2.2.2<y.1.2.2.2∨(x.1.2.2.2=y.1.2.2.2∧x.2<y.2))))))):=by
 simp only [ltC,lessE,lessB,sameB,Bool.or_eq_true,Bool.and_eq_true,decide_eq_true_eq];omega
theorem Qbn (x:C5):ltC x x=false:=by
 rw [← Bool.not_eq_true,Ku];omega
theorem Qab {x y z:C5} (h1:ltC x y=true) (h2:ltC y z=true):ltC x z=true:=by
 rw [Ku] at *;omega
theorem ltC_tri {x y:C5} (h1:ltC x y=false) (h2:x≠y):ltC y x=true:=by
 rw [← Bool.not_eq_true,Ku] at h1;rw [Ku];obtain ⟨⟨a,b,c,d⟩,k⟩:=x;obtain ⟨⟨p,q,r,s⟩,l⟩:=y;simp only [ne_eq,Prod.mk.injEq] at *;omega
theorem Xn:∀ l:List C5,(flatJ l).length=l.length*5
 | []=>rfl
 | x :: l=>by
  have:flatJ (x :: l)=flatJ [x] ++ flatJ l:=by rw [← Yg];rfl
  rw [this,List.length_append,Xn l];simp [flatJ];omega
theorem Vj (l:List C5):∀ u∈flatJ l,u.oneCell'=true:=by
 intro u a;unfold flatJ at a;obtain ⟨x,_,a⟩:=List.mem_flatMap.1 a;simp only [List.mem_cons,List.not_mem_nil,or_false] at a;rcases a with rfl | rfl | rfl | rfl | rfl <;> rfl
theorem Zz {e:TypeId} {l:List C5} (h:w.ownsRow base e 5 v l.length (flatJ l)):∃ a cap,v=.slice a l.length cap∧l.length≤cap∧JRow w a l:=by
 rcases h.2 with ⟨h1,h2⟩ | ⟨g,cap,cur,h1,_,_,h3,_⟩
 ·refine ⟨none,0,by (try simp only [At,I,Fn,Az,Ad]);rw [h1,h2],by omega,fun i hi=>by omega⟩
 ·refine ⟨some ⟨g,0,none⟩,cap,h1,h3,fun i hi=>?_⟩
  subst h1
  obtain ⟨f0,f1,f2,f3,f4⟩:=Gd l i hi
  have hl:=Xn l
  refine ⟨g,rfl, ?_, ?_, ?_, ?_, ?_⟩
  ·(try simp only [At,I]);rw [h.cellAt _ (by omega),f0]
  ·(try simp only [At,I]);rw [h.cellAt _ (by omega),f1]
  ·(try simp only [At,I]);rw [h.cellAt _ (by omega),f2]
  ·(try simp only [At,I]);rw [h.cellAt _ (by omega),f3]
  ·(try simp only [At,I]);rw [h.cellAt _ (by omega),f4]
theorem inf44:(Tryz.prog.info? 125).map (fun i=>(i.zero,i.size,i.bytes))=some (some (.agg #[I 0,I 0,I 0,I 0,I 0]),5,40):=η
theorem Qbl {base' e k n:Nat} {d:List Value} (h:w.ownsRow base e k v n d) (f:base'≤base):w.ownsRow base' e k v n d:=by
 obtain ⟨c,h0 | ⟨g,a,b,hv,h1,h2⟩⟩:=h
 ·exact ⟨c,Or.inl h0⟩
 ·exact ⟨c,Or.inr ⟨g,a,b,hv,Nt f h1,h2⟩⟩
def Bx5 (w:World) (b:Nat) (x0 x1 x2 x3 xk:Int):Prop:=At w b 0 (I x0)∧At w b 1 (I x1)∧At w b 2 (I x2)∧At w b 3 (I x3)∧At w b 4 (I xk)
theorem Bx5.kept {b:Nat} {x1 x2 x3:Int} (h:Bx5 w b c x1 x2 x3 d) (a:Bl w w'):Bx5 w' b c x1 x2 x3 d:=⟨Qa a h.1,Qa a h.2.1,Qa a h.2.2.1,Qa a h.2.2.2.1,Qa a h.2.2.2.2⟩
theorem cell_fiveC (w:World) (T:TypeId) (a b c d e:Int):∀ j u,([I a,I b,I c,I d,I e])[j]?=some u→(w.alloc (.cells #[I a,I b,I c,I d,I e] T)).cell? ((⟨w.heap.size,0,none⟩:Addr).add j)=some u:=Um w T a b c d e
end Go.Proofs.YtjkjpopghkeibaaGreatDoor
namespace Go.Proofs.YtjkjpopghkeibaaGreatDoor
open Go.RowKit Go.Shelf Go.ChangeMaps
variable {W w:World} {c n:Nat} {P:Program} {v:Value}
attribute [local go_sem] Oper.semAt_some
def Rec (fn:FuncId) (tmps:Array Value) (ps:Array Tmp) (assign body:Code) (D:Nat) (st:LoopState):Loop:={ state:=st,pending:=none,fn:=fn,tmps:=tmps,params:=ps,assign:=assign,body:=body,defers:=D }
theorem range_outer {g:Operand} {b:Array Tmp} {assign body:Code} {Q:Exit→Act→World→Prop} {a:Act} {gf:Nat} {lb:Array Value} (hg:a.eval g=.func (.func gf) #[] lb) (c:∀ args w,(callFunc gf args).run P w=.ok (.enter gf args) w)
  (h:∀ fn,CallsIn .wide (n - 1) P gf (#[.func (.yield (w.heap.size+1)) #[] #[]] ++ lb) ((w.alloc (.deferred (some []))).alloc (.loop (Rec fn a.tmps b assign body w.heap.size .ready))) fun e W=>(∃ v,e=.returned v)∧W.heap[w.heap.size+1]?=some (.loop (Rec fn a.tmps b assign body w.heap.size .ready))∧Q .normal { a with defers:={ target:=.collected w.heap.size,args:=#[] } :: a.defers } (W.putObj (w.heap.size+1) (.loop (Rec fn a.tmps b assign body w.heap.size .exhausted)))) :
  (Code.rangeFunc g b assign body).wpIn .wide n P Q a w:=by
 refine wpIn_rangeFunc ?_;intro fn _;refine ⟨w.heap.size+1,[{ target:=.collected w.heap.size,args:=#[] }],((w.alloc (.deferred (some []))).alloc (.loop (Rec fn a.tmps b assign body w.heap.size .ready))),{ target:=.fn (.func gf) lb,args:=#[.func (.yield (w.heap.size+1)) #[] #[]] },((w.alloc (.deferred (some []))).alloc (.loop (Rec fn a.tmps b assign body w.heap.size .ready))),gf,#[.func (.yield (w.heap.size+1)) #[] #[]] ++ lb,((w.alloc (.deferred (some []))).alloc (.loop (Rec fn a.tmps b assign body w.heap.size .ready))),run_enterLoop_outer _ _ _ _ _, ?_,fun _ _=>trivial, ?_,fun h=>(by cases h), ?_⟩
 ·simp only [resolve,hg];simp [go_sem]
 ·simp [invoke,go_sem,c]
 ·refine (h fn).mono ?_;rintro e W ⟨⟨v,rfl⟩,d,hq⟩;exact ⟨none,_,run_endLoop d (by simp [Rec]),hq⟩
theorem round_of {l m:Nat} {R:Ending→World→Prop} {fn:FuncId} {tmps:Array Value} {c:Array Tmp} {assign body:Code} {D:Nat} {args:Array Value} (g:W.heap[l]?=some (.loop (Rec fn tmps c assign body D .ready))) (hs:args.size=c.size) (f:Act)
  (a:∀ K:Act→World→Prop,K f W→assign.wpIn (Fence.wide.inRound l) m P (Exit.then K (fun _ _ _=>False)) { tmps:=(c.zip args).foldl (fun t (p,v)=>t.setIfInBounds p v) tmps,defers:=[] } W)
  (b:body.wpIn (Fence.wide.inRound l) m P (fun e _ d=>e=.normal∧d.heap[l]?=some (.loop (Rec fn tmps c assign body D .busy))∧R (.returned (.bool true)) (d.putObj l (.loop (Rec fn tmps c assign body D .ready)))) f (W.putObj l (.loop (Rec fn tmps c assign body D .busy)))) :
  YieldAt .wide m P l args W R:=by
 refine ⟨fn,_,assign,body,run_yield g hs,roundIn_of_wpIn trivial (a _ ⟨_,run_beginRound g rfl,wpIn_mono b ?_⟩)⟩;rintro e a3 d ⟨rfl,h3,hr⟩;exact ⟨_,_,run_endRound none h3,hr⟩
theorem RoundIn_any {m a:Nat} {l:Nat} {f:FuncId} {tmps:Array Value} {assign body:Code} {R:Ending→World→Prop} (h:RoundIn .wide m P l f tmps assign body w R):RoundIn .wide a P l f tmps assign body w R:=⟨h.1,fun c cs _=>h.2 c cs (room_wide _)⟩
structure Frm (J:Option (Nat×Obj)→List (T3×Value×Nat)→World→Prop):Prop where
 gro:∀ {fb vis W W'},J fb vis W→Bl W W'→J fb vis W'
 new:∀ {vis W o},J none vis W→J (some (W.heap.size,o)) vis (W.alloc o)
 put:∀ {b o vis W} (o':Obj),J (some (b,o)) vis W→J (some (b,o')) vis (W.putObj b o')
 here:∀ {b o vis W},J (some (b,o)) vis W→W.heap[b]?=some o
 tail:∀ {b o vis W},J (some (b,o)) vis W→J none vis W
def JJ (n₀:Nat) (C:(Nat→Prop)→List (T3×Value×Nat)→World→Prop) (fb:Option (Nat×Obj)) (vis:List (T3×Value×Nat)) (W:World):Prop:=(∀ x,fb=some x→W.heap[x.1]?=some x.2∧n₀≤x.1)∧∃ mb,C mb vis W∧∀ x,fb=some x→¬ mb x.1
theorem put_other {b:Nat} {o:Obj} (h:c≠b):(W.putObj b o).heap[c]?=W.heap[c]?:=World.putObj_heap_other h
theorem Frm.of {h:Nat} {C:(Nat→Prop)→List (T3×Value×Nat)→World→Prop} (m:∀ {a k W},C a k W→h≤W.heap.size) (i:∀ {a k W f row},C a k W→W.grownBy f row→(∀ r,row=some r→h≤r∧¬ a r)→C a k f) (n:∀ {a k W b},C a k W→a b→b<W.heap.size):Frm (JJ h C):={
 gro:=by
  rintro p k W f ⟨h2,a,h3,h4⟩ d;exact ⟨fun x c=>⟨(d.block x.1 (Array.getElem?_eq_some_iff.1 (h2 x c).1).1).trans (h2 x c).1,(h2 x c).2⟩,a,i h3 (Qy d) (fun r e=>by cases e),h4⟩
 new:=by
  rintro k W o ⟨_,a,h3,_⟩;refine ⟨fun x c=>?_,a,i (row:=none) h3 (World.grownBy_alloc _ _ _) (fun r e=>by cases e),fun x c j=>?_⟩
  ·cases c;exact ⟨heap_alloc_new W o,m h3⟩
  ·cases c;have:=n h3 j;simp only at this;omega
 put:=by
  rintro b o k W l ⟨h2,a,h3,h4⟩;have d:=h2 (b,o) rfl;have g:=(Array.getElem?_eq_some_iff.1 d.1).1;refine ⟨fun x c=>?_,a,i h3 (grownBy_putObj' W b l) (fun r e=>by cases e;exact ⟨d.2,h4 (b,o) rfl⟩),fun x c=>?_⟩
  ·cases c;exact ⟨World.putObj_heap_same g,d.2⟩
  ·cases c;exact h4 (b,o) rfl
 here:=by
  rintro b o k W ⟨h2,_⟩;exact (h2 (b,o) rfl).1
 tail:=by
  rintro b o k W ⟨h2,a,h3,h4⟩;refine ⟨?_,a,h3, ?_⟩ <;> (intro x c;cases c) }
theorem run_range_tm {a:Nat} {ls:List (T3×Value×Nat)} (h:TEM w a ls c):(Instr.range 187 (.map (some a))).run Tryz.prog w=.ok (.pointer (Az w.heap.size)) (w.alloc (.mapIter (some a) c #[] c)):=by
 unfold TEM at h;simp [Instr.range,run_underlying Tryz.underlying187,MapKept.run_getObj_map h,Result.andThen]
theorem tm_same {r:Nat} (h:r<w.heap.size) (o:Obj):(w.putObj r o).heap[r]?=some o:=World.putObj_heap_same h
def AllC (ls:List (T3×Value×Nat)) (seen:List Nat):Prop := ∀ x∈ls,x.2.2∈seen
def OneC (ls:List (T3×Value×Nat)) (seen:List Nat) (x:(T3×Value×Nat)):Prop:=x∈ls∧x.2.2 ∉ seen
theorem Gq {F:Fence} {l:Array Oper} {rest:List Oper} {o:Oper} {a:Act} {Q:Exit→Act→World→Prop} (hg:o.guard=none) (it:Operand) (g:o.op=Op.next it false) (f r c:Nat) (ls:List (T3×Value×Nat)) (b:List Nat)
  (q:a.eval it=.pointer (Az r)) (z:TEM w f ls c) (hr:w.heap[r]?=some (.mapIter (some f) c b.toArray c)) (E:TGood ls c) (B:r≠f)
  (j:AllC ls b→wpListIn F n Tryz.prog l Q rest (a.put o.dst (.tuple #[.bool false])) w)
  (k:∀ (k1 k2 k3:Int) (m:Value) (i:Nat) (s:World),OneC ls b ((k1,k2,k3),m,i)→Bl w s→(Instr.entry (.pointer (Az r))).run Tryz.prog (s.putObj r (.mapIter (some f) c (b ++ [i]).toArray c))=.ok (.tuple #[.agg #[I k1,I k2,I k3],m]) (s.putObj r (.mapIter (some f) c (b ++ [i]).toArray c)) →
   wpListIn F n Tryz.prog l Q rest (a.put o.dst (.tuple #[.bool true,.agg #[I k1,I k2,I k3],m])) (s.putObj r (.mapIter (some f) c (b ++ [i]).toArray c))):wpListIn F n Tryz.prog l Q (o :: rest) a w:=by
 refine wpListIn_plain hg fun K p=>?_;unfold Oper.wpIn;refine ⟨by simp [Oper.about,g], ?_⟩;rw [Oper.semAt_plain F _ _ (by rw [g];intro c t;cases t)]
 have hold:∀ x∈((ls.map TtoE).toArray).toList,x.born<c:=fun x h=>by
  simp only [List.mem_map] at h;obtain ⟨y,G,rfl⟩:=h;exact E.2.2 y G
 rcases run_next_at (P:=Tryz.prog) w o.type r f c c b.toArray _ c hr z hold (Nr _) with ⟨h0,d⟩ | ⟨e,u,w1,C,d⟩
 ·simp [execOp,g,q,d,Result.andThen];refine p _ _ (j (fun x h=>?_));have:leftOf (ls.map TtoE).toArray b.toArray=#[]:=Array.eq_empty_of_size_eq_zero h0;unfold leftOf at this;rw [Array.filter_eq_empty_iff] at this;have:=this (TtoE x) (by rw [List.mem_toArray];exact List.mem_map.2 ⟨x,h,rfl⟩);simpa [TtoE] using this
 ·have v:∃ x∈ls,x.2.2 ∉ b∧TtoE x=e:=by
   unfold leftOf at u;simp only [Array.toList_filter,List.mem_filter,List.mem_map] at u;obtain ⟨⟨x,h,rfl⟩,hs⟩:=u;exact ⟨x,h,by simpa [TtoE] using hs,rfl⟩
  obtain ⟨x,h,D,rfl⟩:=v
  have A:TEM w1 f ls c∧w1.heap[r]?=some (.mapIter (some f) c b.toArray c)∧Bl w w1:=by
   rcases C with rfl | rfl
   ·exact ⟨z,hr,Qe _⟩
   ·exact ⟨z,hr,Qg (Qe _)⟩
  obtain ⟨H,r1,b1⟩:=A;simp [execOp,g,q,d,Result.andThen];obtain ⟨⟨k1,k2,k3⟩,m,i⟩:=x;refine p _ _ (k k1 k2 k3 m i w1 ⟨h,D⟩ b1 ?_);have J:=(Array.getElem?_eq_some_iff.1 r1).1
  have e1:=run_entry_at (P:=Tryz.prog) (w1.putObj r (.mapIter (some f) c (b ++ [i]).toArray c)) r f c b.toArray (ls.map TtoE).toArray c (TtoE ((k1,k2,k3),m,i)) (by
   rw [tm_same J];simp [TtoE]) ((put_other (Ne.symm B)).trans H) (by simpa using List.mem_map.2 ⟨_,h,rfl⟩) (by
   have:=E.2.1;simpa [List.map_map,TtoE,Function.comp_def] using this)
  exact e1
def Vis (ls vis:List (T3×Value×Nat)):Prop:=(∀ x∈vis,x∈ls)∧(vis.map (fun x=>x.2.2)).Nodup
theorem stamp_len:∀ (a b:List Nat),a.Nodup→(∀ x∈a,x∈b)→a.length≤b.length
 | [],_,_,_=>by simp
 | x :: r,b,h,hs=>by
  rw [List.nodup_cons] at h;have d:=hs x ξ
  have h1:=stamp_len r (b.erase x) h.2 (fun y f=>by
   have c:y≠x:=fun e=>h.1 (e ▸ f);exact (List.mem_erase_of_ne c).2 (hs y (by simp [f])))
  rw [List.length_erase_of_mem d] at h1;have:=List.length_pos_of_mem d;rw [List.length_cons];omega
theorem Vis.len {ls a:List (T3×Value×Nat)} (_hG:TGood ls c) (h:Vis ls a):a.length≤ls.length:=by
 have h1:=stamp_len (a.map (fun x=>x.2.2)) (ls.map (fun x=>x.2.2)) h.2 (fun y d=>by
  obtain ⟨x,b,rfl⟩:=List.mem_map.1 d;exact List.mem_map.2 ⟨x,h.1 x b,rfl⟩)
 simpa using h1
theorem Vis.more {ls c:List (T3×Value×Nat)} {x:(T3×Value×Nat)} (h:Vis ls c) (j:x∈ls) (i:x.2.2 ∉ c.map (fun x=>x.2.2)):Vis ls (c ++ [x]):=by
 refine ⟨fun y d=>?_, ?_⟩
 ·rcases List.mem_append.1 d with d | d
  ·exact h.1 y d
  ·simp at d;rw [d];exact j
 ·rw [List.map_append,List.nodup_append];refine ⟨h.2,ξ,fun a g b f e=>?_⟩;simp at f;exact i (by rw [← f,← e];exact g)
theorem inj_stamp {ls:List (T3×Value×Nat)} (b:TGood ls c) {x y:(T3×Value×Nat)} (d:x∈ls) (f:y∈ls) (e:x.2.2=y.2.2):x=y:=by
 obtain ⟨i,hi,rfl⟩:=List.getElem_of_mem d;obtain ⟨j,a,rfl⟩:=List.getElem_of_mem f;have h2:=b.2.1;have hp:=List.pairwise_iff_getElem.1 h2;rcases Nat.lt_trichotomy i j with q | q | q
 ·exact absurd (by rw [List.getElem_map,List.getElem_map];exact e) (hp i j (by simpa using hi) (by simpa using a) q)
 ·subst q;rfl
 ·exact absurd (by rw [List.getElem_map,List.getElem_map];exact e.symm) (hp j i (by simpa using a) (by simpa using hi) q)
theorem Vis.all {ls d:List (T3×Value×Nat)} (f:TGood ls c) (h:Vis ls d) (j:∀ x∈ls,x.2.2∈d.map (fun x=>x.2.2)):d.Perm ls:=by
 have n1:d.Nodup:=List.Pairwise.of_map (fun x=>x.2.2) (fun a b q e=>q (by rw [e])) h.2;have n2:ls.Nodup:=List.Pairwise.of_map (fun x=>x.2.2) (fun a b q e=>q (by rw [e])) f.2.1;refine (List.perm_ext_iff_of_nodup n1 n2).2 fun x=>⟨h.1 x,fun g=>?_⟩;obtain ⟨y,i,e⟩:=List.mem_map.1 (j x g);rw [← inj_stamp f (h.1 y i) g e];exact i
theorem values1_in (d C c l m m':Nat) (ls:List (T3×Value×Nat)) (X:TGood ls c) (A:∀ x∈ls,∃ a n q,x.2.1=.slice a n q) (J:Option (Nat×Obj)→List (T3×Value×Nat)→World→Prop) (L:Frm J)
  (hD:∀ {fb b W},J fb b W→At W C 0 (.map (some d))∧TEM W d ls c)
  (Z:∀ {fb b x W},J fb b W→x∈ls→b.length<ls.length→YieldAt .wide m Tryz.prog l #[x.2.1] W fun e p=>e=.returned (.bool true)∧J fb (b ++ [x]) p)
  (W:World) (h0:J none [] W) :
  CallsIn .wide m' Tryz.prog 177 #[.func (.yield l) #[] #[],.pointer (Az C)] W fun e p=>(∃ v,e=.returned v)∧∃ b,b.Perm ls∧J none b p:=by
 refine callsIn_of_wp Tryz.func177 rfl trivial ?_ rfl;simp only [Tryz.ntmps177,List.size_toArray,List.length_cons,List.length_nil,Nat.reduceAdd,Nat.reduceSub,Array.replicate_succ,Array.replicate_zero,List.push_toArray,List.append_toArray,List.nil_append,List.cons_append];obtain ⟨N,k⟩:=hD h0;have P:=run_range_tm k;have zm:=k.lt;obtain ⟨r,hr⟩:∃ r,r=W.heap.size:=⟨_,rfl⟩;have h1:=L.new (o:=.mapIter (some d) c #[] c) h0;have HD:Hid (∀ fb b W,J fb b W→At W C 0 (.map (some d))∧TEM W d ls c):=fun _ _ _ h=>hD h;have HY:Hid (∀ fb b x W,J fb b W→x∈ls→b.length<ls.length→YieldAt .wide m Tryz.prog l #[x.2.1] W fun e p=>e=.returned (.bool true)∧J fb (b ++ [x]) p):=fun _ _ _ _ h1 h2 h3=>Z h1 h2 h3;have H:=Hd A;have D:=Hd X;have B:=Hd L;have E:Hid (J (some (r,.mapIter (some d) c #[] c)) [] (W.alloc (.mapIter (some d) c #[] c))):=by rw [hr];exact h1
 have G:Hid (r≠d):=by
  have:r≠d:=γ;exact this
 clear hD Z A X L h1 h0 zm;gi_wp2
 rw [← hr];obtain ⟨V,hW1⟩:∃ V,V=W.alloc (.mapIter (some d) c #[] c):=⟨_,rfl⟩;rw [← hW1] at E ⊢;clear hW1 P k N hr;gi_loopg [] ls.length (fun gk wx=>∃ b:List (T3×Value×Nat),gk=ls.length - b.length∧Vis ls b∧J (some (r,.mapIter (some d) c (b.map (fun x=>x.2.2)).toArray c)) b wx)
 case atStart=>exact ⟨[],ξ,⟨ξ,ξ⟩,E.out⟩
 case round =>
  clear E;obtain ⟨b,rfl,M,s⟩:=hrel;have hm:=(HD.out _ _ _ s).2;have z:=B.out.here s;gi_wp2_with (gi_at_next;refine Gq rfl _ rfl d r c ls (b.map (fun x=>x.2.2)) rfl hm z D.out G.out ?done ?more)
  case done =>
   intro y;gi_wp2
   go_end0
   exact ⟨⟨_,rfl⟩,b,M.all D.out y,B.out.tail s⟩
  case more =>
   intro k1 k2 k3 xv st W2 i hb f;obtain ⟨x,g⟩:∃ x:(T3×Value×Nat),x=((k1,k2,k3),xv,st):=⟨_,rfl⟩;rw [← g] at i;obtain ⟨R,T⟩:=i;obtain ⟨a3,n3,q3,hv⟩:=H.out x R;have Q:st=x.2.2:=by rw [g]
   have U:xv=.slice a3 n3 q3:=by rw [← hv,g]
   rw [Q] at f ⊢;rw [U] at f ⊢;clear g;have j:=M.more R T;have O:=j.len D.out;rw [List.length_append,List.length_singleton] at O;have t:=B.out.put (.mapIter (some d) c (b.map (fun x=>x.2.2) ++ [x.2.2]).toArray c) (B.out.gro s hb);have hyy:=HY.out _ _ x _ t R γ;have K:=Hd j;rw [hv] at hyy;generalize W2.putObj r (.mapIter (some d) c (b.map (fun x=>x.2.2) ++ [x.2.2]).toArray c)=W3 at hyy f ⊢;obtain ⟨fn,tmps,assign,body,hy,Y⟩:=hyy;clear hm z s M hb t j;gi_wp2
   refine ⟨fun h=>(by cases h),(RoundIn_any Y).mono ?_⟩;rintro e W4 ⟨rfl,u⟩
   have F:Hid (J (some (r,.mapIter (some d) c ((b ++ [x]).map (fun x=>x.2.2)).toArray c)) (b ++ [x]) W4):=by
    rw [List.map_append];exact u
   clear u hy Y f;gi_wp2
   gi_roundg (ls.length - (b ++ [x]).length)
   case measure =>
    rw [List.length_append,List.length_singleton];omega
   case rel=>exact ⟨b ++ [x],rfl,K.out,F.out⟩
attribute [local go_sem] Oper.semAt_some
def valsOf (vis:List (T3×Value×Nat)):List Value:=vis.map fun x=>x.2.1
theorem valsOf_add (a:List (T3×Value×Nat)) (x:(T3×Value×Nat)):valsOf (a ++ [x])=valsOf a ++ [x.2.1]:=by simp [valsOf]
structure CA (w:World) (b0 l1 D1:Nat) (rec:Loop) (mb:Nat→Prop) (vis:List (T3×Value×Nat)) (W:World):Prop where
 m:mb b0∧mb l1∧mb D1
 lt:∀ b,mb b→b<W.heap.size
 l:W.heap[l1]?=some (.loop rec)
 d:W.heap[D1]?=some (.deferred (some []))
 b:Bl w W
 row:∃ v,Boxed W b0 137 v∧W.ownsRow w.heap.size 22 1 v vis.length (valsOf vis)∧∀ q,v.ownBlock=some q→mb q
theorem CA.grown {b0 l1 i:Nat} {a:Loop} {f:Nat→Prop} {k:List (T3×Value×Nat)} {j:World} {row:Option Nat} (h:CA w b0 l1 i a f k W) (hg:W.grownBy j row) (hr:∀ r,row=some r→w.heap.size≤r∧¬ f r):CA w b0 l1 i a f k j:=by
 have c:∀ b,f b→some b≠row:=fun b g e=>(hr b e.symm).2 g;obtain ⟨p,n,o⟩:=h.m;obtain ⟨v,r1,r2,r3⟩:=h.row;refine ⟨h.m,fun b g=>Nl (h.lt b g) hg.size,(hg.block _ (h.lt _ n) (c _ n)).trans h.l,(hg.block _ (h.lt _ o) (c _ o)).trans h.d,h.b.grown hg h.b.size (fun r e=>(hr r e).1),v,r1.kept hg (c _ p),r2.kept hg ?_,r3⟩
 cases e:v.ownBlock with
 | none=>exact Or.inl rfl
 | some q=>exact Or.inr (fun e2=>c q (r3 q e) e2)
theorem CA.fr (w:World) (b0 l1 c:Nat) (a:Loop):Frm (JJ w.heap.size (CA w b0 l1 c a)) :=
 Frm.of (fun h=>h.b.size) (fun h hg hr=>h.grown hg hr) (fun h d=>h.lt _ d)
theorem Gx {base e:Nat} {c:List Value} {q:Nat} (h:W.ownsRow base e 1 v n c) (hq:v.ownBlock=some q):∃ a,W.heap[q]?=some (.cells a e):=by
 rcases h.2 with ⟨rfl,_⟩ | ⟨g,b,a,rfl,_,h3,_⟩
 ·simp [Value.ownBlock] at hq
 ·simp [Value.ownBlock] at hq;subst hq;exact ⟨a,h3⟩
theorem JA.yes {w1:World} {b0 l1:Nat} {R:LoopState→Loop} {L:Option (Nat×Obj)} {f:List (T3×Value×Nat)} {x:(T3×Value×Nat)} {tmp:Obj} {K:Nat→Prop} {v':Value} (hd:b0≠l1∧n≠l1∧n≠b0) (D:w.heap.size≤b0∧w.heap.size≤l1)
  (h2:∀ y,L=some y→W.heap[y.1]?=some y.2∧w.heap.size≤y.1) (g:CA w b0 l1 n (R .ready) K f W) (h4:∀ y,L=some y→¬ K y.1)
  (r1:Boxed W b0 137 v) (r2:W.ownsRow w.heap.size 22 1 v f.length (valsOf f)) (r3:∀ q,v.ownBlock=some q→K q)
  (i:w1.ownsRow w.heap.size 22 1 v' (f.length+1) (valsOf f ++ [x.2.1])) (a:((W.putObj l1 (.loop (R .busy))).alloc tmp).grownBy w1 v.ownBlock) (F:v'.ownBlock=v.ownBlock∨v'.ownBlock=some ((W.putObj l1 (.loop (R .busy))).alloc tmp).heap.size) :
  (w1.setCell ⟨b0,0,none⟩ v').heap[l1]?=some (.loop (R .busy))∧JJ w.heap.size (CA w b0 l1 n (R .ready)) L (f ++ [x]) ((w1.setCell ⟨b0,0,none⟩ v').putObj l1 (.loop (R .ready))):=by
 obtain ⟨V,A,X⟩:=g.m;obtain ⟨d1,d2,d3⟩:=hd;obtain ⟨M,E⟩:=D;have o:=grownBy_putObj' W l1 (.loop (R .busy));have H:(W.putObj l1 (.loop (R .busy))).grownBy ((W.putObj l1 (.loop (R .busy))).alloc tmp) none:=World.grownBy_alloc _ _ _;have C:=grownBy_setCell' w1 b0 v';have J:=grownBy_putObj' (w1.setCell ⟨b0,0,none⟩ v') l1 (.loop (R .ready));have z2:W.heap.size≤((W.putObj l1 (.loop (R .busy))).alloc tmp).heap.size:=Nt o.size H.size;have z3:W.heap.size≤w1.heap.size:=Nt z2 a.size;have z4:W.heap.size≤(w1.setCell ⟨b0,0,none⟩ v').heap.size:=Nt z3 C.size
 have P:∀ q,v.ownBlock=some q→q≠l1:=fun q hq e=>by
  obtain ⟨B,p⟩:=Gx r2 hq;rw [e,g.l] at p
  cases p
 have Q:∀ q,v.ownBlock=some q→q≠n:=fun q hq e=>by
  obtain ⟨B,p⟩:=Gx r2 hq;rw [e,g.d] at p
  cases p
 have G:some b0≠v.ownBlock:=r1.not_row ψ r2
 have u:∀ b,b<W.heap.size→b≠l1→some b≠v.ownBlock→w1.heap[b]?=W.heap[b]?:=fun b c n1 T =>
  ((a.block b (Nl c z2) T).trans (H.block b (Nl c o.size) ξ)).trans (o.block b c (by simpa using n1))
 have k:∀ b,b<W.heap.size→b≠l1→b≠b0→some b≠v.ownBlock→((w1.setCell ⟨b0,0,none⟩ v').putObj l1 (.loop (R .ready))).heap[b]?=W.heap[b]?:=fun b c n1 n0 T =>
  ((J.block b (Nl c z4) (by simpa using n1)).trans (C.block b (Nl c z3) (by simpa using n0))).trans (u b c n1 T)
 have O:(W.putObj l1 (.loop (R .busy))).heap[l1]?=some (.loop (R .busy)):=World.putObj_heap_same (g.lt _ A);have N:w1.heap[l1]?=some (.loop (R .busy)):=((a.block l1 (Nl (g.lt _ A) z2) (fun e=>P l1 e.symm rfl)).trans (H.block l1 (Nl (g.lt _ A) o.size) ξ)).trans O;have s:(w1.setCell ⟨b0,0,none⟩ v').heap[l1]?=some (.loop (R .busy)):=(C.block l1 (Nl (g.lt _ A) z3) (by simpa using d1.symm)).trans N;have zf:W.heap.size≤((w1.setCell ⟨b0,0,none⟩ v').putObj l1 (.loop (R .ready))).heap.size:=Nt z4 J.size
 have j:((w1.setCell ⟨b0,0,none⟩ v').putObj l1 (.loop (R .ready))).ownsRow w.heap.size 22 1 v' (f ++ [x]).length (valsOf (f ++ [x])):=by
  have b1:Boxed w1 b0 137 v:=((r1.kept o (by simpa using d1)).alloc tmp).kept a G;have Y:=i.kept C (.inr (b1.not_row ψ i).symm);have Z:=ownsRow_putObj Y (.loop (R .ready)) s rfl;rw [List.length_append,valsOf_add];exact Z
 refine ⟨s,fun y z=>?_,fun b=>K b∨v'.ownBlock=some b,⟨⟨Or.inl V,Or.inl A,Or.inl X⟩, ?_, ?_, ?_, ?_,v', ?_,j,fun q hq=>Or.inr hq⟩, ?_⟩
 ·have h:=h2 y z;have t:=h4 y z;refine ⟨?_,h.2⟩;rw [k y.1 (Array.getElem?_eq_some_iff.1 h.1).1 (fun e=>t (e ▸ A)) (fun e=>t (e ▸ V)) (fun e=>t (r3 _ e.symm))];exact h.1
 ·rintro b (D | D)
  ·exact Nl (g.lt b D) zf
  ·obtain ⟨B,p⟩:=Gx j D;exact (Array.getElem?_eq_some_iff.1 p).1
 ·exact World.putObj_heap_same (Array.getElem?_eq_some_iff.1 s).1
 ·exact (k n (g.lt _ X) d2 d3 (fun e=>Q n e.symm rfl)).trans g.d
 ·have k1:=g.b.grown o g.b.size (fun r e=>by cases e;exact E);have k2:=k1.grown H k1.size (fun r e=>by cases e);have k3:=k2.grown a k2.size (fun r e=>(r2.lt r e).1);have U:=k3.grown C k3.size (fun r e=>by cases e;exact M);exact U.grown J U.size (fun r e=>by cases e;exact E)
 ·exact ((((r1.kept o (by simpa using d1)).alloc tmp).kept a G).set v').kept J (by simpa using d1)
 ·rintro y z (hm | hq)
  ·exact h4 y z hm
  ·have h:=h2 y z;have c:=(Array.getElem?_eq_some_iff.1 h.1).1;rcases F with e | e
   ·exact h4 y z (r3 _ (by rw [← e];exact hq))
   ·rw [e] at hq;simp only [Option.some.injEq] at hq;omega
theorem cell_oneV (w:World) (v:Value) (T:TypeId):∀ j u,([v])[j]?=some u→(w.alloc (.cells #[v] T)).cell? ((⟨w.heap.size,0,none⟩:Addr).add j)=some u:=by
 intro j u a;match j,a with
 | 0,a=>simp at a;subst a;simp [Addr.add,go_sem]
theorem infV:(Tryz.prog.info? 22).map (fun i=>(i.zero,i.size,i.bytes))=some (some SN,1,24):=η
def Gath (w w':World) (ls:List (T3×Value×Nat)) (v:Value):Prop := ∃ vis,vis.Perm ls∧w'.ownsRow w.heap.size 22 1 v vis.length (valsOf vis)∧Bl w w'
theorem appendSeq_any (E P c:Nat) (ls:List (T3×Value×Nat)) (hG:TGood ls c) (H:∀ x∈ls,∃ a n q,x.2.1=.slice a n q) (Z:ls.length≤300) (w:World) (Y:At w E 0 (.map (some P))) (hm:TEM w P ls c) :
  Cl 219 #[SN,.func (.func 177) #[] #[.pointer (Az E)]] w fun e w'=>∃ v,e=.returned v∧Gath w w' ls v:=by
 obtain ⟨n,hn⟩:∃ n:Nat,n=n:=⟨0,rfl⟩;refine (callsIn_wide (n:=n)).1 ?_;clear hn;obtain ⟨iV,U⟩:=info_parts infV;have L:=Hd U;clear U;refine callsIn_of_wp_marks Tryz.func219 rfl trivial ?_ rfl;simp only [Tryz.ntmps219,List.size_toArray,List.length_cons,List.length_nil,Nat.reduceAdd,Nat.reduceSub,Array.replicate_succ,Array.replicate_zero,List.push_toArray,List.append_toArray,List.nil_append,List.cons_append];have zd:=Bt Y;have zm:=hm.lt;gi_wp2
 refine range_outer (gf:=177) (lb:=#[.pointer (Az E)]) rfl (enters_of Tryz.func177 η rfl) (fun fn=>?_);generalize hR:Rec fn _ _ _ _ _=R;simp only [World.size_alloc] at hR ⊢;have p:w.heap.size≠w.heap.size+1+1∧w.heap.size+1≠w.heap.size+1+1∧w.heap.size+1≠w.heap.size:=γ;have C:w.heap.size≤w.heap.size∧w.heap.size≤w.heap.size+1+1:=γ
 have h0:JJ w.heap.size (CA w w.heap.size (w.heap.size+1+1) (w.heap.size+1) (R .ready)) none [] (((w.alloc (.cells #[SN] 137)).alloc (.deferred (some []))).alloc (.loop (R .ready))):=by
  refine ⟨fun x F=>(by cases F),fun b=>b=w.heap.size∨b=w.heap.size+1+1∨b=w.heap.size+1,⟨ξ, ?_, ?_, ?_, ?_,SN, ?_, ?_, ?_⟩,fun x F=>(by cases F)⟩
  ·intro b hb;simp only [World.size_alloc];omega
  ·have A:=heap_alloc_new ((w.alloc (.cells #[SN] 137)).alloc (.deferred (some []))) (.loop (R .ready));rw [World.size_alloc,World.size_alloc] at A;exact A
  ·have A:=heap_alloc_new (w.alloc (.cells #[SN] 137)) (.deferred (some []));rw [World.size_alloc] at A;exact (Below.heap_alloc _ _ _ ξ).trans A
  ·exact Qb β2
  ·exact ((Boxed.new w 137 _).alloc _).alloc _
  ·exact ⟨rfl,Or.inl ⟨rfl,rfl⟩⟩
  ·intro q hq;simp [Value.ownBlock] at hq
 refine (values1_in P E c (w.heap.size+1+1) 0 (n - 1) ls hG H (JJ w.heap.size (CA w w.heap.size (w.heap.size+1+1) (w.heap.size+1) (R .ready))) (CA.fr ..) ?hD ?hYes _ h0).mono ?_
 case hD =>
  rintro fb k W ⟨_,mb,i,_⟩;exact ⟨Qa i.b Y,hm.grown (Qy i.b) ξ⟩
 case hYes =>
  rintro fb f x W ⟨h2,mb,i,h4⟩ F a2;obtain ⟨a3,n3,O,hv⟩:=H x F;obtain ⟨v,r1,r2,r3⟩:=i.row;have t:=fun (w1:World) (v':Value) (tmp:Obj)=>JA.yes (w1:=w1) (v':=v') (tmp:=tmp) (x:=x) p C h2 i h4 r1 r2 r3;have N:=i.l;have g:=r1.kept (grownBy_putObj' W (w.heap.size+1+1) (.loop (R .busy))) (by simpa using p.1);have h:=ownsRow_putObj r2 (.loop (R .busy)) N rfl
  have zz:w.heap.size≤(W.putObj (w.heap.size+1+1) (.loop (R .busy))).heap.size:=by
   rw [World.putObj_size];exact i.b.size
  rw [hv] at t ⊢;have HF:=Hd t
  obtain ⟨B,c8,rfl⟩:∃ B c8,v=.slice B f.length c8:=by
   rcases r2.2 with ⟨rfl,A⟩ | ⟨Q,s,G,rfl,_⟩
   ·exact ⟨none,0,by rw [A]⟩
   ·exact ⟨_,s,rfl⟩
  clear h2 i h4 r1 r2 r3 F t hv;rw [← hR] at N;refine round_of N rfl { tmps:=#[SN,.func (.func 177) #[] #[.pointer (Az E)],.pointer (Az w.heap.size),undef,SN,.slice a3 n3 O,.func (.func 177) #[] #[.pointer (Az E)],.slice a3 n3 O,undef,undef,undef,undef,undef],defers:=[] } ?assign ?body
  case assign =>
   intro K M;gi_wp2
   exact M
  case body =>
   rw [hR];have c0:=g.cell;have J:=g.lt;generalize hWb:W.putObj (w.heap.size+1+1) (.loop (R .busy))=Wb at *;clear hR N h0 hWb;have z:=Qj h (Qb (o:=.cells #[.slice a3 n3 O] 22) (Qe Wb));gi_wp2_with (gi_at_builtin;refine wpListIn_append_own_at _ rfl (.tmp 8) (.tmp 10) 137 rfl w.heap.size 22 iV SN 1 24 Tryz.underlying137 L.out.1 L.out.2.1 L.out.2.2.1 L.out.2.2.2 rfl ψ (.slice B f.length c8) f.length (valsOf f) rfl z ⟨Wb.heap.size,0,none⟩ 1 1 [.slice a3 n3 O] rfl rfl (cell_oneV _ _ _) (by intro u hu;simp at hu;subst hu;rfl) Ξ γ ω ?grow)
   case grow =>
    intro v' w1 y j _ D;have hf:=HF.out w1 v' _ y j (D.imp id (fun e=>by rw [World.size_alloc];exact e));obtain ⟨Q,c9,rfl⟩:=ownsRow_succ y;have m:=(g.alloc _).kept j (g.not_row ψ h);have c1:=m.cell;have f1:=m.frozen;have z1:=m.lt;clear y j D g m h z c0 J;gi_wp2
 rintro e V ⟨⟨u,rfl⟩,f,X,_,mb,i,_⟩;refine ⟨⟨u,rfl⟩,i.l, ?_⟩;obtain ⟨v,r1,r2,r3⟩:=i.row;have g:=r1.kept (grownBy_putObj' V (w.heap.size+1+1) (.loop (R .exhausted))) (by simpa using p.1);have h:=ownsRow_putObj r2 (.loop (R .exhausted)) i.l rfl;have M:(V.putObj (w.heap.size+1+1) (.loop (R .exhausted))).heap[w.heap.size+1]?=some (.deferred (some [])):=(put_other p.2.1).trans i.d;have T:Bl w (V.putObj (w.heap.size+1+1) (.loop (R .exhausted))):=i.b.grown (grownBy_putObj' V _ _) i.b.size (fun r e=>by cases e;exact C.2);have HP:=Hd X
 obtain ⟨B,c8,rfl⟩:∃ B c8,v=.slice B f.length c8:=by
  rcases r2.2 with ⟨rfl,A⟩ | ⟨Q,s,G,rfl,_⟩
  ·exact ⟨none,0,by rw [A]⟩
  ·exact ⟨_,s,rfl⟩
 clear r1 r2 r3 i h0 hR X;generalize V.putObj (w.heap.size+1+1) (.loop (R .exhausted))=V1 at *;have c0:=g.cell;have J:=g.lt;gi_wp2
 refine ⟨ξ,.inl ⟨_,_,rfl,run_takeDeferred M, ?_⟩⟩;exact ⟨.slice B f.length c8,by simp [results,Tryz.results219,go_sem],.slice B f.length c8,rfl,f,HP.out,ownsRow_putObj h _ M rfl,T.grown (grownBy_putObj' V1 _ _) T.size (fun r e=>by cases e;omega)⟩
theorem Gath.slice {w':World} {ls:List (T3×Value×Nat)} (h:Gath w w' ls v):∃ a n q,v=.slice a n q:=by
 obtain ⟨b,_,hr,_⟩:=h;rcases hr.2 with ⟨rfl,_⟩ | ⟨_,_,_,rfl,_⟩
 ·exact ⟨_,_,_,rfl⟩
 ·exact ⟨_,_,_,rfl⟩
theorem collect_any (f g c:Nat) (ls:List (T3×Value×Nat)) (h:TGood ls c) (d:∀ x∈ls,∃ a n q,x.2.1=.slice a n q) (b:ls.length≤300) (w:World) (i:At w f 0 (.map (some g))) (j:TEM w g ls c) :
  Cl 175 #[.func (.func 177) #[] #[.pointer (Az f)]] w fun e w'=>∃ v,e=.returned v∧Gath w w' ls v:=by
 have k:=Hd (appendSeq_any f g c ls h d b w i j);clear h d i j;go_enter Tryz.func175,Tryz.ntmps175;go_wp2_with (go_at_call 219;refine k.out.mono ?_;rintro e w1 ⟨v,rfl,hg⟩;obtain ⟨m,n8,c8,rfl⟩:=hg.slice)
 have l:=Hd hg;clear hg;go_ret;exact ⟨_,rfl,l.out⟩
theorem values_any (a:Nat) (w:World):Cl 123 #[.map (some a)] w fun e w'=>e=.returned (.func (.func 177) #[] #[.pointer (Az w.heap.size)])∧w'=w.alloc (.cells #[.map (some a)] 187):=by
 go_enter Tryz.func123,Tryz.ntmps123;go_wp2;go_ret;exact ⟨rfl,rfl⟩
end Go.Proofs.YtjkjpopghkeibaaGreatDoor
namespace Go.Proofs
open Go.Shelf
def Tryz.sortRows_ren:Go.Shelf.Ren:=⟨fun | 6=>176 | 15=>111 | 14=>220 | 28=>159 | 29=>160 | 20=>234 | 21=>235 | 22=>236 | 23=>237 | 24=>238 | 25=>239 | 26=>240 | 27=>241 | 46=>245 | 47=>212 | 48=>213 | 49=>246 | 50=>247 | 57=>248 | n=>n,fun | 22=>137 | 24=>22 | 25=>192 | 3=>3 | 39=>176 | 0=>0 | 53=>229 | 55=>231 | 4=>4 | 46=>223 | 45=>222 | 50=>154 | 5=>5 | 9=>9 | 66=>268 | 70=>272 | 76=>286 | 77=>287 | n=>n,fun | n=>n⟩
theorem Tryz.sortRows:Go.Proofs.SlLaysF.n6 Tryz.prog Tryz.sortRows_ren:={
 mixed:=by kernel_rfl
 f6:=⟨Tryz.f176.name,by decide,Tryz.func176.trans (congrArg some (by kernel_rfl))⟩
 f14:=⟨Tryz.f220.name,by decide,Tryz.func220.trans (congrArg some (by kernel_rfl))⟩
 f15:=Tryz.func111.trans (congrArg some (by kernel_rfl))
 f20:=⟨Tryz.f234.name,by decide,Tryz.func234.trans (congrArg some (by kernel_rfl))⟩
 f21:=⟨Tryz.f235.name,by decide,Tryz.func235.trans (congrArg some (by kernel_rfl))⟩
 f22:=⟨Tryz.f236.name,by decide,Tryz.func236.trans (congrArg some (by kernel_rfl))⟩
 f23:=⟨Tryz.f237.name,by decide,Tryz.func237.trans (congrArg some (by kernel_rfl))⟩
 f24:=⟨Tryz.f238.name,by decide,Tryz.func238.trans (congrArg some (by kernel_rfl))⟩
 f25:=⟨Tryz.f239.name,by decide,Tryz.func239.trans (congrArg some (by kernel_rfl))⟩
 f26:=⟨Tryz.f240.name,by decide,Tryz.func240.trans (congrArg some (by kernel_rfl))⟩
 f27:=⟨Tryz.f241.name,by decide,Tryz.func241.trans (congrArg some (by kernel_rfl))⟩
 f28:=Tryz.func159.trans (congrArg some (by kernel_rfl))
 f29:=Tryz.func160.trans (congrArg some (by kernel_rfl))
 f46:=⟨Tryz.f245.name,by decide,Tryz.func245.trans (congrArg some (by kernel_rfl))⟩
 f47:=Tryz.func212.trans (congrArg some (by kernel_rfl))
 f48:=Tryz.func213.trans (congrArg some (by kernel_rfl))
 f49:=⟨Tryz.f246.name,by decide,Tryz.func246.trans (congrArg some (by kernel_rfl))⟩
 f50:=⟨Tryz.f247.name,by decide,Tryz.func247.trans (congrArg some (by kernel_rfl))⟩
 f57:=⟨Tryz.f248.name,by decide,Tryz.func248.trans (congrArg some (by kernel_rfl))⟩
 t0:=Tryz.underlying0
 a0:=Tryz.isAgg0
 z0:=Tryz.sizeOf0
 v0:=Tryz.zeroValue0
 t3:=Tryz.underlying3
 a3:=Tryz.isAgg3
 z3:=Tryz.sizeOf3
 v3:=Tryz.zeroValue3
 t4:=Tryz.underlying4
 a4:=Tryz.isAgg4
 z4:=Tryz.sizeOf4
 v4:=Tryz.zeroValue4
 t5:=Tryz.underlying5
 a5:=Tryz.isAgg5
 z5:=Tryz.sizeOf5
 v5:=Tryz.zeroValue5
 t9:=Tryz.underlying9
 a9:=Tryz.isAgg9
 z9:=Tryz.sizeOf9
 v9:=Tryz.zeroValue9
 t22:=Tryz.underlying137
 a22:=Tryz.isAgg137
 z22:=Tryz.sizeOf137
 v22:=Tryz.zeroValue137
 a24:=Tryz.isAgg22
 z24:=Tryz.sizeOf22
 t25:=Tryz.underlying192
 a25:=Tryz.isAgg192
 z25:=Tryz.sizeOf192
 v25:=Tryz.zeroValue192
 t39:=Tryz.underlying176
 a39:=Tryz.isAgg176
 z39:=Tryz.sizeOf176
 v39:=Tryz.zeroValue176
 t45:=Tryz.underlying222
 a45:=Tryz.isAgg222
 z45:=Tryz.sizeOf222
 v45:=Tryz.zeroValue222
 t46:=Tryz.underlying223
 a46:=Tryz.isAgg223
 z46:=Tryz.sizeOf223
 v46:=Tryz.zeroValue223
 t50:=Tryz.underlying154
 a50:=Tryz.isAgg154
 z50:=Tryz.sizeOf154
 v50:=Tryz.zeroValue154
 t53:=Tryz.underlying229
 a53:=Tryz.isAgg229
 z53:=Tryz.sizeOf229
 v53:=Tryz.zeroValue229
 t55:=Tryz.underlying231
 a55:=Tryz.isAgg231
 z55:=Tryz.sizeOf231
 v55:=Tryz.zeroValue231
 t66:=Tryz.underlying268
 a66:=Tryz.isAgg268
 z66:=Tryz.sizeOf268
 v66:=Tryz.zeroValue268
 t70:=Tryz.underlying272
 a70:=Tryz.isAgg272
 z70:=Tryz.sizeOf272
 v70:=Tryz.zeroValue272
 t76:=Tryz.underlying286
 a76:=Tryz.isAgg286
 z76:=Tryz.sizeOf286
 v76:=Tryz.zeroValue286
 t77:=Tryz.underlying287
 a77:=Tryz.isAgg287
 z77:=Tryz.sizeOf287
 v77:=Tryz.zeroValue287 }
end Go.Proofs
namespace Go.Proofs.YtjkjpopghkeibaaGreatDoor
open Go.RowKit Go.Shelf Go.Lib
open Go.Sort hiding Below
theorem Qbr (s t:T3):cmpT s.1 s.2.1 s.2.2 t.1 t.2.1 t.2.2<0↔ltT s t:=by
 unfold cmpT or2 cmp3 ltT;repeat' split
 all_goals omega
def RowAt (w:World) (gp n:Nat) (x:(T3×Value×Nat)):Prop := ∃ (g m c i:Nat),x.2.1=.slice (Az g) m c∧0<m∧At w g 0 (I (i:Int))∧i<n∧At3 w gp (i*3) x.1
theorem Uk {α:Type} [Inhabited α] {w:World} {g m:Nat} {os:Array Obj} (enc : α→Value) (d:Array α):w.grownBy (sortWorld enc w g 0 m d os) (some g):=by
 refine ⟨rfl,rfl,rfl, ?_,fun k b a=>?_⟩
 ·simp [sortWorld,grow,putRow,mapBlock,Sort.ahead]
 ·unfold sortWorld;rw [heap_grow_old _ _ (by simpa [putRow,mapBlock,Sort.ahead] using b)];have:g≠k:=fun e=>a (by rw [e]);simp [putRow,mapBlock,Sort.ahead,Array.getElem?_modify,this]
theorem sortRows_any (w:World) (base g c pb A n pc:Nat) (a:List (T3×Value×Nat)) (l:w.ownsRow base 22 1 (.slice (some ⟨g,0,none⟩) a.length c) a.length (valsOf a)) (h0:a≠[]) (hz:a.length≤300)
  (hp:w.cell? ⟨pb,4,none⟩=some (.slice (some ⟨A,0,none⟩) n pc)) (H:∀ x∈a,RowAt w A n x) (hb:pb<base∧A<base) (hg:∀ x∈a,x.2.1.ownBlock≠some g) :
  Cl 176 #[.slice (some ⟨g,0,none⟩) a.length c,.func (.func 124) #[] #[.pointer (some ⟨pb,0,none⟩)]] w fun e w'=>e=.returned (.tuple #[])∧∃ vis':List (T3×Value×Nat),vis'.Perm a∧vis'.Pairwise (fun x y=>¬ ltT y.1 x.1)∧(∀ i (hi:i<vis'.length),w'.cell? ⟨g,i,none⟩=some vis'[i].2.1)∧w.grownBy w' (some g):=by
 obtain ⟨x0,N⟩:=List.exists_mem_of_ne_nil a h0;letI:Inhabited {x // x∈a}:=⟨⟨x0,N⟩⟩
 have B:=l.lt g rfl
 have u:OneCell (fun x:{x // x∈a}=>x.val.2.1):=fun x=>by
  obtain ⟨F,m,R,i,e,_⟩:=H x.val x.property;show (x.val.2.1).oneCell'=true
  (try simp only [At,I,Fn,Az,Ad]);rw [e]
  rfl
 have J:SWO (ltOf (fun x y:{x // x∈a}=>cmpT x.val.1.1 x.val.1.2.1 x.val.1.2.2 y.val.1.1 y.val.1.2.1 y.val.1.2.2)):={
  irrefl:=fun x=>by
   unfold ltOf;(try simp only);rw [decide_eq_false_iff_not,Qbr]
   exact Jr _
  trans:=fun x y z h1 h2=>by
   unfold ltOf at *;(try simp only at *);rw [decide_eq_true_eq,Qbr] at *
   exact Xq _ _ _ h1 h2
  ntrans:=fun x y z h1 h2=>by
   unfold ltOf at *;(try simp only at *);rw [decide_eq_false_iff_not,Qbr] at *
   unfold ltT at *;omega }
 have W:Holds (fun x:{x // x∈a}=>x.val.2.1) w g 0 a.attach.toArray:=fun j C=>by
  have q:j<a.length:=by simpa using C
  refine ⟨?_, ?_⟩
  ·have hc:=l.cellAt j γ;(try simp only);rw [Nat.zero_add,hc]
   (try simp only [At,I,Fn,Az,Ad]);rw [getElem!_pos _ j C]
   simp [valsOf,q]
  ·rcases l.2 with ⟨h1,_⟩ | ⟨g',X,Z,h1,_,h3,_⟩
   ·cases h1
   ·cases h1;simp [World.frozen?,h3]
 have r:CmpLays1 Tryz.prog 124 #[.pointer (some ⟨pb,0,none⟩)] (fun x:{x // x∈a}=>x.val.2.1) (fun x y=>cmpT x.val.1.1 x.val.1.2.1 x.val.1.2.2 y.val.1.1 y.val.1.2.1 y.val.1.2.2) g 0 a.attach.toArray.size w:=fun m os E _ x y=>by
  have K:=Uk (w:=w) (g:=g) (m:=m) (os:=os) (fun x:{x // x∈a}=>x.val.2.1) E;have d:∀ b o v,w.cell? ⟨b,o,none⟩=some v→b≠g→(sortWorld (fun x:{x // x∈a}=>x.val.2.1) w g 0 m E os).cell? ⟨b,o,none⟩=some v:=fun b o v h M=>K.cell h (by simpa using M);obtain ⟨F,ma,R,i,T,q1,q2,q3,P⟩:=H x.val x.property;obtain ⟨V,mb,Y,j,U,r1,r2,r3,Q⟩:=H y.val y.property;have na:F≠g:=fun e=>hg x.val x.property (by (try simp only [At,I,Fn,Az,Ad]);rw [T,e];rfl);have nb:V≠g:=fun e=>hg y.val y.property (by (try simp only [At,I,Fn,Az,Ad]);rw [U,e];rfl);have t:A≠g:=γ;have O:pb≠g:=γ;have:=piledCmp_gd (sortWorld (fun x:{x // x∈a}=>x.val.2.1) w g 0 m E os) pb A n pc F ma R V mb Y i j x.val.1 y.val.1 (d _ _ _ hp O) q1 r1 (d _ _ _ q2 na) (d _ _ _ r2 nb) q3 r3 ⟨d _ _ _ P.1 t,d _ _ _ P.2.1 t,d _ _ _ P.2.2 t⟩ ⟨d _ _ _ Q.1 t,d _ _ _ Q.2.1 t,d _ _ _ Q.2.2 t⟩;show Cl 124 #[x.val.2.1,y.val.2.1,.pointer (some ⟨pb,0,none⟩)] _ _
  (try simp only);rw [T,U]
  exact this
 have f:=Any.slices_SortFunc Tryz.sortRows (fun x:{x // x∈a}=>x.val.2.1) u (fun x y=>cmpT x.val.1.1 x.val.1.2.1 x.val.1.2.2 y.val.1.1 y.val.1.2.1 y.val.1.2.2) J 124 #[.pointer (some ⟨pb,0,none⟩)] g 0 c a.attach.toArray w (enters_of Tryz.func124 η rfl) r W B.2 ω;change Cl 176 _ _ _ at f
 (try simp only [At,I,Fn,Az,Ad] at f);rw [show a.attach.toArray.size=a.length by simp] at f
 refine f.mono ?_;rintro e w' ⟨rfl,k,m,os,D,hs,rfl⟩;have s:k.size=a.length:=by simpa using D.1
 refine ⟨rfl,k.toList.map (fun x=>x.val), ?_, ?_, ?_,Uk _ k⟩
 ·have h3:=D.2.2
  have e1:(k.extract 0 a.length).toList=k.toList:=by
   (try simp only [At,I,Fn,Az,Ad]);rw [← s]
   simp
  have e2:(a.attach.toArray.extract 0 a.length).toList=a.attach:=by
   simp;exact List.take_of_length_le ξ
  (try simp only [At,I,Fn,Az,Ad] at h3);rw [e1,e2] at h3
  have h4:=h3.map (fun x=>x.val);(try simp only [At,I,Fn,Az,Ad] at h4);rw [List.attach_map_subtype_val] at h4
  exact h4
 ·(try simp only [At,I,Fn,Az,Ad]);rw [List.pairwise_map,List.pairwise_iff_getElem]
  intro i j hi C L;have:=hs i j (Nat.zero_le _) L (by simpa [s] using C);have p:i<k.size:=by simpa using hi
  have q:j<k.size:=by simpa using C
  (try simp only [At,I,Fn,Az,Ad] at this);rw [getElem!_pos k i p,getElem!_pos k j q] at this
  unfold ltOf at this;(try simp only at this);rw [decide_eq_false_iff_not,Qbr] at this
  simpa using this
 ·intro i hi;have p:i<k.size:=by simpa using hi
  have G:=(holds_sortWorld _ w g 0 m a.attach.toArray k os B.2 W (by simpa using s) i p).1;(try simp only [At,I,Fn,Az,Ad] at G);rw [Nat.zero_add] at G
  (try simp only [At,I,Fn,Az,Ad]);rw [G,getElem!_pos k i p]
  simp
end Go.Proofs.YtjkjpopghkeibaaGreatDoor
namespace Go.Proofs.YtjkjpopghkeibaaGreatDoor
open Go.RowKit Go.Shelf Go.ChangeMaps
variable {w:World} {v:Value}
theorem RowAt.kept {w':World} {a n:Nat} {x:(T3×Value×Nat)} (h:RowAt w a n x) (hb:Bl w w'):RowAt w' a n x:=by
 obtain ⟨g,m,c,i,h1,h2,h3,h4,h5⟩:=h;exact ⟨g,m,c,i,h1,h2,Qa hb h3,h4,Qa hb h5.1,Qa hb h5.2.1,Qa hb h5.2.2⟩
theorem own_slice {base e n:Nat} {c:List Value} (h:w.ownsRow base e 1 v n c) (d:0<n):∃ g q,v=.slice (Az g) n q:=by
 rcases h.2 with ⟨_,h0⟩ | ⟨g,a,b,hv,_⟩
 ·omega
 ·exact ⟨g,a,hv⟩
def SRows (w w':World) (ls:List (T3×Value×Nat)) (e:Ending):Prop := ∃ (g c:Nat) (vis:List (T3×Value×Nat)),e=.returned (.slice (Az g) vis.length c)∧vis.Perm ls∧vis.Pairwise (fun x y=>¬ ltT y.1 x.1)∧(∀ i (hi:i<vis.length),At w' g i vis[i].2.1)∧w.heap.size≤g∧Bl w w'
theorem sortedRows_any (w:World) (u B c pb s n pc:Nat) (ls:List (T3×Value×Nat)) (C:TGood ls c) (h0:ls≠[]) (j:ls.length≤300) (D:At w u 0 (.map (some B))) (E:TEM w B ls c) (hp:At w pb 4 (.slice (Az s) n pc)) (A:s<w.heap.size) (t:∀ x∈ls,RowAt w s n x) :
  Cl 122 #[.func (.func 177) #[] #[.pointer (Az u)],.func (.func 124) #[] #[.pointer (Az pb)]] w fun e w'=>SRows w w' ls e:=by
 have o:∀ x∈ls,∃ a n q,x.2.1=.slice a n q:=fun x p=>by
  obtain ⟨g,m,c,i,h1,_⟩:=t x p;exact ⟨_,_,_,h1⟩
 have G:=Hd (collect_any u B c ls C o j w D E);have J:=Bt hp
 have H:Hid (∀ (w1:World) (g q:Nat) (b:List (T3×Value×Nat)),b.Perm ls→w1.ownsRow w.heap.size 22 1 (.slice (Az g) b.length q) b.length (valsOf b)→Bl w w1→Cl 176 #[.slice (Az g) b.length q,.func (.func 124) #[] #[.pointer (Az pb)]] w1 fun e w'=>e=.returned (.tuple #[])∧∃ d:List (T3×Value×Nat),d.Perm b∧d.Pairwise (fun x y=>¬ ltT y.1 x.1)∧(∀ i (hi:i<d.length),At w' g i d[i].2.1)∧w1.grownBy w' (some g)):=fun w1 g q b f h hb=>by
  refine sortRows_any w1 w.heap.size g q pb s n pc b h (fun e=>h0 (by rw [e] at f;exact f.symm.eq_nil)) (by rw [f.length_eq];exact j) (Qa hb hp) (fun x p=>(t x (f.mem_iff.1 p)).kept hb) ⟨J,A⟩ (fun x p e=>?_);obtain ⟨g3,K,c3,i3,h1,_,h3,_⟩:=t x (f.mem_iff.1 p);rw [h1] at e;simp only [Value.ownBlock,Option.some.injEq] at e;have z3:=Bt h3;have z4:=(h.lt g rfl).1;omega
 have z:=Hd h0;clear C D E hp t o h0;go_enter Tryz.func122,Tryz.ntmps122;go_wp2_with (first | (go_at_call 175;refine G.out.mono ?_;rintro e w1 ⟨v,rfl,b,f,h,hb⟩;obtain ⟨g,q,rfl⟩:∃ g q,v=.slice (Az g) b.length q:=(own_slice h (List.length_pos_iff.2 (fun e=>z.out (by rw [e] at f;exact f.symm.eq_nil))));have k:=H3 f h hb;clear f h hb) | (go_at_call 176;refine (H.out _ _ _ _ k.out.1 k.out.2.1 k.out.2.2).mono ?_;rintro e L ⟨rfl,d,h1,h2,h3,h4⟩;have l:=H4 h1 h2 h3 h4;clear h1 h2 h3 h4))
 go_ret;have hl:b.length=d.length:=l.out.1.length_eq.symm;have F:=(k.out.2.1.lt g rfl).1;exact ⟨g,q,d,by simp [hl],l.out.1.trans k.out.1,l.out.2.1,l.out.2.2.1,F,k.out.2.2.grown l.out.2.2.2 k.out.2.2.size (fun r e=>by cases e;exact F)⟩
attribute [local go_sem] Oper.semAt_some
theorem valuesI_in (j l m C c:Nat) (a:Option Addr) (zs:List Int) (G:zs.length≤17592186044416) (J:Nat→World→Prop) (hD:∀ {k W},J k W→At W j 0 (.slice a zs.length c)∧Row W a zs) (r:∀ {k W} (t:k<zs.length),J k W→YieldAt .wide m Tryz.prog l #[I zs[k]] W fun e f=>e=.returned (.bool true)∧J (k+1) f)
  (W:World) (h0:J 0 W):CallsIn .wide C Tryz.prog 98 #[.func (.yield l) #[] #[],.pointer (Az j)] W fun e f=>(∃ v,e=.returned v)∧J zs.length f:=by
 refine callsIn_of_wp Tryz.func98 rfl trivial ?_ rfl;simp only [Tryz.ntmps98,List.size_toArray,List.length_cons,List.length_nil,Nat.reduceAdd,Nat.reduceSub,Array.replicate_succ,Array.replicate_zero,List.push_toArray,List.append_toArray,List.nil_append,List.cons_append];obtain ⟨o,_⟩:=hD h0;have u:Hid (∀ k W,J k W→At W j 0 (.slice a zs.length c)∧Row W a zs):=fun _ _ h=>hD h;have x:Hid (∀ k W (t:k<zs.length),J k W→YieldAt .wide m Tryz.prog l #[I zs[k]] W fun e f=>e=.returned (.bool true)∧J (k+1) f):=fun _ _ h1 h2=>r h1 h2;have d:=Hd h0;clear hD r h0;gi_wp2
 clear o;gi_loopg [7] zs.length (fun y D E=>∃ k:Nat,k≤zs.length∧y=zs.length - k∧D=I (k:Int)∧J k E)
 case atStart=>exact ⟨0,γ,rfl,rfl,d.out⟩
 case round =>
  clear d;obtain ⟨k,t,rfl,rfl,p⟩:=hrel;have d:=Hd p;clear p;by_cases h1:k<zs.length
  ·have B:(k:Int)<(zs.length:Int):=γ;have H:(0:Int)≤(k:Int):=γ;obtain ⟨b,off,rfl,s⟩:=(u.out k wr d.out).2 k h1;obtain ⟨z,i⟩:∃ z,z=zs[k]:=⟨_,rfl⟩;have hyy:=x.out k wr h1 d.out;rw [← i] at s hyy;obtain ⟨fn,tmps,assign,body,A,q⟩:=hyy;clear i;gi_wp2
   refine ⟨fun h=>(by cases h),(RoundIn_any q).mono ?_⟩;rintro e F ⟨rfl,g⟩;have n:=Hd g;clear g A q s;gi_wp2
   gi_roundg (zs.length - (k+1))
   case measure=>omega
   case rel=>exact ⟨k+1,γ,rfl,σ,n.out⟩
  ·have B:¬ (k:Int)<(zs.length:Int):=γ;obtain rfl:k=zs.length:=γ;gi_wp2
   go_end0
   exact ⟨⟨_,rfl⟩,d.out⟩
def ivs (zs:List Int):List Value:=zs.map fun z=>I z
theorem ivs_take (zs:List Int) (k:Nat) (a:k<zs.length):ivs (zs.take (k+1))=ivs (zs.take k) ++ [I zs[k]]:=by
 unfold ivs;rw [List.take_add_one,List.getElem?_eq_getElem a,List.map_append];rfl
structure CI (w:World) (b0 l1 D1:Nat) (rec:Loop) (zs:List Int) (k:Nat) (W:World):Prop where
 l:W.heap[l1]?=some (.loop rec)
 d:W.heap[D1]?=some (.deferred (some []))
 b:Bl w W
 row:∃ v,Boxed W b0 22 v∧W.ownsRow w.heap.size 3 1 v k (ivs (zs.take k))
theorem CI.yes {w1:World} {b0 l1 f:Nat} {R:LoopState→Loop} {zs:List Int} {k:Nat} {tmp:Obj} {W:World} {v':Value} (M:b0≠l1∧f≠l1∧f≠b0) (L:w.heap.size≤b0∧w.heap.size≤l1) (N:k<zs.length)
  (i:CI w b0 l1 f (R .ready) zs k W) (r1:Boxed W b0 22 v) (r2:W.ownsRow w.heap.size 3 1 v k (ivs (zs.take k)))
  (g:w1.ownsRow w.heap.size 3 1 v' (k+1) (ivs (zs.take k) ++ [I zs[k]])) (a:((W.putObj l1 (.loop (R .busy))).alloc tmp).grownBy w1 v.ownBlock) :
  (w1.setCell ⟨b0,0,none⟩ v').heap[l1]?=some (.loop (R .busy))∧CI w b0 l1 f (R .ready) zs (k+1) ((w1.setCell ⟨b0,0,none⟩ v').putObj l1 (.loop (R .ready))):=by
 obtain ⟨d1,d2,d3⟩:=M;obtain ⟨B,o⟩:=L;have y:l1<W.heap.size:=(Array.getElem?_eq_some_iff.1 i.l).1;have O:f<W.heap.size:=(Array.getElem?_eq_some_iff.1 i.d).1;have h:=grownBy_putObj' W l1 (.loop (R .busy));have x:(W.putObj l1 (.loop (R .busy))).grownBy ((W.putObj l1 (.loop (R .busy))).alloc tmp) none:=World.grownBy_alloc _ _ _;have n:=grownBy_setCell' w1 b0 v';have A:=grownBy_putObj' (w1.setCell ⟨b0,0,none⟩ v') l1 (.loop (R .ready));have z2:W.heap.size≤((W.putObj l1 (.loop (R .busy))).alloc tmp).heap.size:=Nt h.size x.size;have z3:W.heap.size≤w1.heap.size:=Nt z2 a.size;have z4:W.heap.size≤(w1.setCell ⟨b0,0,none⟩ v').heap.size:=Nt z3 n.size
 have E:∀ q,v.ownBlock=some q→q≠l1:=fun q hq e=>by
  obtain ⟨z,p⟩:=Gx r2 hq;rw [e,i.l] at p
  cases p
 have F:∀ q,v.ownBlock=some q→q≠f:=fun q hq e=>by
  obtain ⟨z,p⟩:=Gx r2 hq;rw [e,i.d] at p
  cases p
 have s:some b0≠v.ownBlock:=r1.not_row ψ r2
 have m:∀ b,b<W.heap.size→b≠l1→some b≠v.ownBlock→w1.heap[b]?=W.heap[b]?:=fun b c n1 G =>
  ((a.block b (Nl c z2) G).trans (x.block b (Nl c h.size) ξ)).trans (h.block b c (by simpa using n1))
 have u:∀ b,b<W.heap.size→b≠l1→b≠b0→some b≠v.ownBlock→((w1.setCell ⟨b0,0,none⟩ v').putObj l1 (.loop (R .ready))).heap[b]?=W.heap[b]?:=fun b c n1 n0 G =>
  ((A.block b (Nl c z4) (by simpa using n1)).trans (n.block b (Nl c z3) (by simpa using n0))).trans (m b c n1 G)
 have D:(W.putObj l1 (.loop (R .busy))).heap[l1]?=some (.loop (R .busy)):=World.putObj_heap_same y;have C:w1.heap[l1]?=some (.loop (R .busy)):=((a.block l1 (Nl y z2) (fun e=>E l1 e.symm rfl)).trans (x.block l1 (Nl y h.size) ξ)).trans D;have j:(w1.setCell ⟨b0,0,none⟩ v').heap[l1]?=some (.loop (R .busy)):=(n.block l1 (Nl y z3) (by simpa using d1.symm)).trans C
 have t:((w1.setCell ⟨b0,0,none⟩ v').putObj l1 (.loop (R .ready))).ownsRow w.heap.size 3 1 v' (k+1) (ivs (zs.take (k+1))):=by
  have b1:Boxed w1 b0 22 v:=((r1.kept h (by simpa using d1)).alloc tmp).kept a s;have J:=g.kept n (.inr (b1.not_row ψ g).symm);have K:=ownsRow_putObj J (.loop (R .ready)) j rfl;rw [ivs_take zs k N];exact K
 refine ⟨j,World.putObj_heap_same (Array.getElem?_eq_some_iff.1 j).1,(u f O d2 d3 (fun e=>F f e.symm rfl)).trans i.d, ?_,v', ?_,t⟩
 ·have k1:=i.b.grown h i.b.size (fun r e=>by cases e;exact o);have k2:=k1.grown x k1.size (fun r e=>by cases e);have k3:=k2.grown a k2.size (fun r e=>(r2.lt r e).1);have H:=k3.grown n k3.size (fun r e=>by cases e;exact B);exact H.grown A H.size (fun r e=>by cases e;exact o)
 ·exact ((((r1.kept h (by simpa using d1)).alloc tmp).kept a s).set v').kept A (by simpa using d1)
def GathI (w w':World) (zs:List Int) (v:Value):Prop:=w'.ownsRow w.heap.size 3 1 v zs.length (ivs zs)∧Bl w w'
theorem appendSeqI_any (B c:Nat) (a:Option Addr) (zs:List Int) (Z:zs.length≤300) (w:World) (O:At w B 0 (.slice a zs.length c)) (hr:Row w a zs) :
  Cl 139 #[SN,.func (.func 98) #[] #[.pointer (Az B)]] w fun e w'=>∃ v,e=.returned v∧GathI w w' zs v:=by
 obtain ⟨n,U⟩:∃ n:Nat,n=n:=⟨0,rfl⟩;refine (callsIn_wide (n:=n)).1 ?_;clear U;obtain ⟨X,N⟩:=info_parts inf3;have G:=Hd N;clear N;refine callsIn_of_wp_marks Tryz.func139 rfl trivial ?_ rfl;simp only [Tryz.ntmps139,List.size_toArray,List.length_cons,List.length_nil,Nat.reduceAdd,Nat.reduceSub,Array.replicate_succ,Array.replicate_zero,List.push_toArray,List.append_toArray,List.nil_append,List.cons_append];have zd:=Bt O;gi_wp2
 refine range_outer (gf:=98) (lb:=#[.pointer (Az B)]) rfl (enters_of Tryz.func98 η rfl) (fun fn=>?_);generalize hR:Rec fn _ _ _ _ _=R;simp only [World.size_alloc] at hR ⊢;have m:w.heap.size≠w.heap.size+1+1∧w.heap.size+1≠w.heap.size+1+1∧w.heap.size+1≠w.heap.size:=γ;have A:w.heap.size≤w.heap.size∧w.heap.size≤w.heap.size+1+1:=γ
 have h0:CI w w.heap.size (w.heap.size+1+1) (w.heap.size+1) (R .ready) zs 0 (((w.alloc (.cells #[SN] 22)).alloc (.deferred (some []))).alloc (.loop (R .ready))):=by
  refine ⟨?_, ?_,Qb β2,SN,((Boxed.new w 22 _).alloc _).alloc _,⟨by simp [ivs],Or.inl ⟨rfl,rfl⟩⟩⟩
  ·have x:=heap_alloc_new ((w.alloc (.cells #[SN] 22)).alloc (.deferred (some []))) (.loop (R .ready));rw [World.size_alloc,World.size_alloc] at x;exact x
  ·have x:=heap_alloc_new (w.alloc (.cells #[SN] 22)) (.deferred (some []));rw [World.size_alloc] at x;exact (Below.heap_alloc _ _ _ ξ).trans x
 refine (valuesI_in B (w.heap.size+1+1) 0 (n - 1) c a zs γ (CI w w.heap.size (w.heap.size+1+1) (w.heap.size+1) (R .ready) zs) ?hD ?hYes _ h0).mono ?_
 case hD =>
  rintro k W h;exact ⟨Qa h.b O,hr.kept h.b⟩
 case hYes =>
  rintro k W T h;obtain ⟨v,r1,r2⟩:=h.row;have q:=fun (w1:World) (v':Value) (tmp:Obj)=>CI.yes (w1:=w1) (v':=v') (tmp:=tmp) m A T h r1 r2;have J:=h.l;have f:=r1.kept (grownBy_putObj' W (w.heap.size+1+1) (.loop (R .busy))) (by simpa using m.1);have g:=ownsRow_putObj r2 (.loop (R .busy)) J rfl
  have zz:w.heap.size≤(W.putObj (w.heap.size+1+1) (.loop (R .busy))).heap.size:=by
   rw [World.putObj_size];exact h.b.size
  obtain ⟨z,E⟩:∃ z,z=zs[k]:=⟨_,rfl⟩;rw [← E] at q ⊢;have Q:=Hd q
  obtain ⟨y,c8,rfl⟩:∃ y c8,v=.slice y k c8:=by
   rcases r2.2 with ⟨rfl,x⟩ | ⟨L,p,C,rfl,_⟩
   ·exact ⟨none,0,by rw [x]⟩
   ·exact ⟨_,p,rfl⟩
  clear h r1 r2 q E;rw [← hR] at J;refine round_of J rfl { tmps:=#[SN,.func (.func 98) #[] #[.pointer (Az B)],.pointer (Az w.heap.size),undef,SN,I z,.func (.func 98) #[] #[.pointer (Az B)],I z,undef,undef,undef,undef,undef],defers:=[] } ?assign ?body
  case assign =>
   intro K H;gi_wp2
   exact H
  case body =>
   rw [hR];have c0:=f.cell;have F:=f.lt;generalize hWb:W.putObj (w.heap.size+1+1) (.loop (R .busy))=Wb at *;clear hR J h0 hWb;have t:=Qj g (Qb (o:=.cells #[I z] 3) (Qe Wb));gi_wp2_with (gi_at_builtin;refine wpListIn_append_own_at _ rfl (.tmp 8) (.tmp 10) 22 rfl w.heap.size 3 X (I 0) 1 8 Tryz.underlying22 G.out.1 G.out.2.1 G.out.2.2.1 G.out.2.2.2 rfl ψ (.slice y k c8) k (ivs (zs.take k)) rfl t ⟨Wb.heap.size,0,none⟩ 1 1 [I z] rfl rfl (cell_oneV _ _ _) (by intro u P;simp at P;subst P;rfl) Ξ γ ω ?grow)
   case grow =>
    intro v' w1 s i _ D;have Y:=Q.out w1 v' _ s i;obtain ⟨L,c9,rfl⟩:=ownsRow_succ s;have j:=(f.alloc _).kept i (f.not_row ψ g);have c1:=j.cell;have f1:=j.frozen;have z1:=j.lt;clear s i D f j g t c0 F;gi_wp2
 rintro e V ⟨⟨u,rfl⟩,h⟩;refine ⟨⟨u,rfl⟩,h.l, ?_⟩;obtain ⟨v,r1,r2⟩:=h.row;rw [List.take_length] at r2;have f:=r1.kept (grownBy_putObj' V (w.heap.size+1+1) (.loop (R .exhausted))) (by simpa using m.1);have g:=ownsRow_putObj r2 (.loop (R .exhausted)) h.l rfl;have H:(V.putObj (w.heap.size+1+1) (.loop (R .exhausted))).heap[w.heap.size+1]?=some (.deferred (some [])):=(put_other m.2.1).trans h.d;have M:Bl w (V.putObj (w.heap.size+1+1) (.loop (R .exhausted))):=h.b.grown (grownBy_putObj' V _ _) h.b.size (fun r e=>by cases e;exact A.2)
 obtain ⟨y,c8,rfl⟩:∃ y c8,v=.slice y zs.length c8:=by
  rcases r2.2 with ⟨rfl,x⟩ | ⟨L,p,C,rfl,_⟩
  ·exact ⟨none,0,by rw [x]⟩
  ·exact ⟨_,p,rfl⟩
 clear r1 r2 h h0 hR;generalize V.putObj (w.heap.size+1+1) (.loop (R .exhausted))=V1 at *;have c0:=f.cell;have F:=f.lt;gi_wp2
 refine ⟨ξ,.inl ⟨_,_,rfl,run_takeDeferred H, ?_⟩⟩;exact ⟨.slice y zs.length c8,by simp [results,Tryz.results139,go_sem],.slice y zs.length c8,rfl,ownsRow_putObj g _ H rfl,M.grown (grownBy_putObj' V1 _ _) M.size (fun r e=>by cases e;omega)⟩
theorem GathI.slice {w':World} {zs:List Int} (h:GathI w w' zs v):∃ a q,v=.slice a zs.length q:=by
 rcases h.1.2 with ⟨rfl,h0⟩ | ⟨g,b,c,rfl,_⟩
 ·exact ⟨none,0,by rw [h0]⟩
 ·exact ⟨_,_,rfl⟩
theorem collectI_any (b c:Nat) (a:Option Addr) (zs:List Int) (h:zs.length≤300) (w:World) (d:At w b 0 (.slice a zs.length c)) (hr:Row w a zs) :
  Cl 96 #[.func (.func 98) #[] #[.pointer (Az b)]] w fun e w'=>∃ v,e=.returned v∧GathI w w' zs v:=by
 have f:=Hd (appendSeqI_any b c a zs h w d hr);clear d hr;go_enter Tryz.func96,Tryz.ntmps96;go_wp2_with (go_at_call 139;refine f.out.mono ?_;rintro e w1 ⟨v,rfl,hg⟩;obtain ⟨i,c8,rfl⟩:=hg.slice)
 have g:=Hd hg;clear hg;go_ret;exact ⟨_,rfl,g.out⟩
theorem valuesI_any (v:Value) (a:Option Addr) (n c:Nat) (hv:v=.slice a n c) (w:World):Cl 51 #[v] w fun e w'=>e=.returned (.func (.func 98) #[] #[.pointer (Az w.heap.size)])∧w'=w.alloc (.cells #[v] 22):=by
 subst hv;go_enter Tryz.func51,Tryz.ntmps51;go_wp2;go_ret;exact ⟨rfl,rfl⟩
end Go.Proofs.YtjkjpopghkeibaaGreatDoor
namespace Go.Proofs
open Go.Shelf
def Tryz.lays189_ren:Go.Shelf.Ren:=⟨fun | 189=>97 | 125=>111 | 257=>140 | 128=>159 | 129=>160 | 294=>200 | 295=>201 | 296=>202 | 297=>203 | 298=>204 | 299=>205 | 216=>206 | 300=>207 | 301=>208 | 328=>227 | 329=>212 | 330=>213 | 331=>228 | 332=>229 | 215=>113 | 343=>244 | n=>n,fun | 28=>22 | 3=>3 | 46=>176 | 0=>0 | 51=>229 | 53=>231 | 4=>4 | 183=>223 | 182=>222 | 131=>154 | 5=>5 | 9=>9 | 218=>268 | 222=>272 | 228=>286 | 229=>287 | n=>n,fun | n=>n⟩
theorem Tryz.lays189:Go.Proofs.Lays.n189 Tryz.prog Tryz.lays189_ren:={
 mixed:=by kernel_rfl
 f125:=Tryz.func111.trans (congrArg some (by kernel_rfl))
 f128:=Tryz.func159.trans (congrArg some (by kernel_rfl))
 f129:=Tryz.func160.trans (congrArg some (by kernel_rfl))
 f189:=Tryz.func97.trans (congrArg some (by kernel_rfl))
 f215:=Tryz.func113.trans (congrArg some (by kernel_rfl))
 f216:=Tryz.func206.trans (congrArg some (by kernel_rfl))
 f257:=Tryz.func140.trans (congrArg some (by kernel_rfl))
 f294:=Tryz.func200.trans (congrArg some (by kernel_rfl))
 f295:=Tryz.func201.trans (congrArg some (by kernel_rfl))
 f296:=Tryz.func202.trans (congrArg some (by kernel_rfl))
 f297:=Tryz.func203.trans (congrArg some (by kernel_rfl))
 f298:=Tryz.func204.trans (congrArg some (by kernel_rfl))
 f299:=Tryz.func205.trans (congrArg some (by kernel_rfl))
 f300:=Tryz.func207.trans (congrArg some (by kernel_rfl))
 f301:=Tryz.func208.trans (congrArg some (by kernel_rfl))
 f328:=Tryz.func227.trans (congrArg some (by kernel_rfl))
 f329:=Tryz.func212.trans (congrArg some (by kernel_rfl))
 f330:=Tryz.func213.trans (congrArg some (by kernel_rfl))
 f331:=Tryz.func228.trans (congrArg some (by kernel_rfl))
 f332:=Tryz.func229.trans (congrArg some (by kernel_rfl))
 f343:=Tryz.func244.trans (congrArg some (by kernel_rfl))
 t0:=Tryz.underlying0
 a0:=Tryz.isAgg0
 z0:=Tryz.sizeOf0
 v0:=Tryz.zeroValue0
 t3:=Tryz.underlying3
 a3:=Tryz.isAgg3
 z3:=Tryz.sizeOf3
 v3:=Tryz.zeroValue3
 t4:=Tryz.underlying4
 a4:=Tryz.isAgg4
 z4:=Tryz.sizeOf4
 v4:=Tryz.zeroValue4
 t5:=Tryz.underlying5
 a5:=Tryz.isAgg5
 z5:=Tryz.sizeOf5
 v5:=Tryz.zeroValue5
 t9:=Tryz.underlying9
 a9:=Tryz.isAgg9
 z9:=Tryz.sizeOf9
 v9:=Tryz.zeroValue9
 t28:=Tryz.underlying22
 a28:=Tryz.isAgg22
 z28:=Tryz.sizeOf22
 v28:=Tryz.zeroValue22
 t46:=Tryz.underlying176
 a46:=Tryz.isAgg176
 z46:=Tryz.sizeOf176
 v46:=Tryz.zeroValue176
 t51:=Tryz.underlying229
 a51:=Tryz.isAgg229
 z51:=Tryz.sizeOf229
 v51:=Tryz.zeroValue229
 t53:=Tryz.underlying231
 a53:=Tryz.isAgg231
 z53:=Tryz.sizeOf231
 v53:=Tryz.zeroValue231
 t131:=Tryz.underlying154
 a131:=Tryz.isAgg154
 z131:=Tryz.sizeOf154
 v131:=Tryz.zeroValue154
 t182:=Tryz.underlying222
 a182:=Tryz.isAgg222
 z182:=Tryz.sizeOf222
 v182:=Tryz.zeroValue222
 t183:=Tryz.underlying223
 a183:=Tryz.isAgg223
 z183:=Tryz.sizeOf223
 v183:=Tryz.zeroValue223
 t218:=Tryz.underlying268
 a218:=Tryz.isAgg268
 z218:=Tryz.sizeOf268
 v218:=Tryz.zeroValue268
 t222:=Tryz.underlying272
 a222:=Tryz.isAgg272
 z222:=Tryz.sizeOf272
 v222:=Tryz.zeroValue272
 t228:=Tryz.underlying286
 a228:=Tryz.isAgg286
 z228:=Tryz.sizeOf286
 v228:=Tryz.zeroValue286
 t229:=Tryz.underlying287
 a229:=Tryz.isAgg287
 z229:=Tryz.sizeOf287
 v229:=Tryz.zeroValue287 }
def Tryz.lays20_ren:Go.Shelf.Ren:=⟨fun | 20=>49 | n=>n,fun | 22=>22 | 3=>3 | 4=>4 | 0=>0 | n=>n,fun | n=>n⟩
theorem Tryz.lays20:Go.Proofs.Lays2.n20 Tryz.prog Tryz.lays20_ren:={
 mixed:=by kernel_rfl
 f20:=Tryz.func49.trans (congrArg some (by kernel_rfl))
 t0:=Tryz.underlying0
 a0:=Tryz.isAgg0
 z0:=Tryz.sizeOf0
 v0:=Tryz.zeroValue0
 t3:=Tryz.underlying3
 a3:=Tryz.isAgg3
 z3:=Tryz.sizeOf3
 v3:=Tryz.zeroValue3
 t4:=Tryz.underlying4
 a4:=Tryz.isAgg4
 z4:=Tryz.sizeOf4
 v4:=Tryz.zeroValue4
 t22:=Tryz.underlying22
 a22:=Tryz.isAgg22
 z22:=Tryz.sizeOf22
 v22:=Tryz.zeroValue22
 i3:=by kernel_rfl }
end Go.Proofs
namespace Go.Proofs.YtjkjpopghkeibaaGreatDoor
open Go.RowKit Go.Shelf Go.Lib
open Go.Sort hiding Below
theorem filter_lt {α:Type} (p : α→Bool):∀ l:List α,(l.filter p).length<l.length↔∃ x∈l,p x=false
 | []=>by simp
 | x :: r=>by
  have b:=List.length_filter_le p r;by_cases q:p x=true
  ·rw [List.filter_cons_of_pos q,List.length_cons,List.length_cons,Nat.add_lt_add_iff_right,filter_lt p r];constructor
   ·rintro ⟨y,a,e⟩;exact ⟨y,by simp [a],e⟩
   ·rintro ⟨y,a,e⟩;rcases List.mem_cons.1 a with rfl | a
    ·rw [q] at e
     cases e
    ·exact ⟨y,a,e⟩
  ·rw [List.filter_cons_of_neg q,List.length_cons];exact ⟨fun _=>⟨x,ξ,by simpa using q⟩,fun _=>by omega⟩
theorem holds_ints {w:World} {base g c:Nat} {zs:List Int} (h:w.ownsRow base 3 1 (.slice (Az g) zs.length c) zs.length (ivs zs)):Holds (Value.int .i64) w g 0 zs.toArray:=fun j b=>by
 have a:j<zs.length:=by simpa using b
 refine ⟨?_, ?_⟩
 ·have i:=h.cellAt j γ;rw [Nat.zero_add,i,getElem!_pos _ j b];simp [ivs,a]
 ·rcases h.2 with ⟨e,_⟩ | ⟨k,d,f,e,_,h3,_⟩
  ·cases e
  ·cases e;simp [World.frozen?,h3]
theorem compact_twice (zs:List Int):(Lib.compact (zs.mergeSort fun x y=>decide (x≤y))).length<zs.length↔¬ zs.Nodup:=by
 have hp:(zs.mergeSort fun x y=>decide (x≤y)).Perm zs:=List.mergeSort_perm zs _;have hs:(zs.mergeSort fun x y=>decide (x≤y)).Pairwise (fun x y=>decide (x≤y)=true):=List.pairwise_mergeSort (fun a b c h1 h2=>by simp at *;omega) (fun a b=>by simp;omega) zs;rw [← hp.nodup_iff,← hp.length_eq];generalize (zs.mergeSort fun x y=>decide (x≤y))=s at hs;unfold Lib.compact Lib.compactUpTo;rw [List.length_map];have h1:=filter_lt (Lib.keeps s.toArray) (List.range s.length);rw [List.length_range] at h1;rw [h1];constructor
 ·rintro ⟨i,hi,g⟩ f;have h:=List.mem_range.1 hi;unfold Lib.keeps at g;rw [decide_eq_false_iff_not] at g;have h0:i≠0:=fun e=>g (Or.inl e);have l:s.toArray[i]! = s.toArray[i - 1]!:=Classical.byContradiction fun e=>g (Or.inr e);rw [getElem!_pos s.toArray i (by simpa using h),getElem!_pos s.toArray (i - 1) ω] at l;simp only [List.getElem_toArray] at l;exact List.pairwise_iff_getElem.1 f (i - 1) i γ h γ l.symm
 ·intro f;refine Classical.byContradiction fun n=>f ?_
  have g:∀ i,i<s.length→i≠0→s.toArray[i]! ≠ s.toArray[i - 1]!:=fun i hi h0=>by
   have d:Lib.keeps s.toArray i=true:=by
    cases hc:Lib.keeps s.toArray i with
    | true=>rfl
    | false=>exact absurd ⟨i,List.mem_range.2 hi,hc⟩ n
   unfold Lib.keeps at d;rw [decide_eq_true_eq] at d;exact d.resolve_left h0
  show s.Pairwise (fun a b=>a≠b)
  rw [List.pairwise_iff_getElem];intro i j hi m o;have e1:=g j m γ;rw [getElem!_pos s.toArray j (by simpa using m),getElem!_pos s.toArray (j - 1) ω] at e1;simp only [List.getElem_toArray] at e1;have k:=List.pairwise_iff_getElem.1 hs;have e2:s[j - 1]≤s[j]:=by simpa using k (j - 1) j γ m γ
  have e3:s[i]≤s[j - 1]:=by
   rcases Nat.lt_or_ge i (j - 1) with q | q
   ·simpa using k i (j - 1) hi γ q
   ·have:i=j - 1:=γ;subst this;exact Int.le_refl _
  omega
theorem sortI_any (g q:Nat) (zs:List Int) (b:zs.length≤300) (w:World) (a:Holds (Value.int .i64) w g 0 zs.toArray) (hg:g<w.heap.size) :
  Cl 97 #[.slice (Az g) zs.length q] w fun e w'=>e=.returned (.tuple #[])∧∃ m os,w'=sortWorld (Value.int .i64) w g 0 m (zs.mergeSort fun x y=>decide (x≤y)).toArray os :=
 Any.slices_Sort_int Tryz.lays189 g 0 q zs w a hg γ
theorem sortedI_any (h c:Nat) (a:Option Addr) (zs:List Int) (h0:0<zs.length) (k:zs.length≤300) (w:World) (j:At w h 0 (.slice a zs.length c)) (hr:Row w a zs) :
  Cl 50 #[.func (.func 98) #[] #[.pointer (Az h)]] w fun e w'=>∃ g q,e=.returned (.slice (Az g) zs.length q)∧zs.length≤q∧Holds (Value.int .i64) w' g 0 (zs.mergeSort fun x y=>decide (x≤y)).toArray∧w.heap.size≤g∧Bl w w':=by
 have n:=Hd (collectI_any h c a zs k w j hr);have o:=Hd h0;clear j hr;go_enter Tryz.func50,Tryz.ntmps50;go_wp2_with (first | (go_at_call 96;refine n.out.mono ?_;rintro e w1 ⟨v,rfl,hg⟩;obtain ⟨g,q,rfl⟩:=own_slice hg.1 o.out;have b:=Hd hg;clear hg) | (go_at_call 97;refine (sortI_any g q zs k _ (holds_ints b.out.1) (b.out.1.lt g rfl).2).mono ?_;rintro e u ⟨rfl,m,os,f⟩;have i:=Hd f;clear f))
 go_ret;have d:(zs.mergeSort fun x y=>decide (x≤y)).toArray.size=zs.toArray.size:=ξ
 have hq:zs.length≤q:=by
  rcases b.out.1.2 with ⟨e,_⟩ | ⟨t,p,s,e,_,_,h4,_⟩
  ·cases e
  ·cases e;exact h4
 have l:=(b.out.1.lt g rfl).1;refine ⟨g,q,rfl,hq, ?_,l, ?_⟩
 ·rw [i.out];exact holds_sortWorld (Value.int .i64) w1 g 0 m zs.toArray _ os (b.out.1.lt g rfl).2 (holds_ints b.out.1) d
 ·rw [i.out];exact b.out.2.grown (Uk _ _) b.out.2.size (fun r e=>by cases e;exact l)
theorem bl_putRow (w:World) (g k:Nat) (d:Array Int):Below g w (putRow (Value.int .i64) (Sort.ahead w k) g 0 d):=⟨rfl,rfl,rfl,by simp [Sort.ahead],fun i hi=>by
 have:g≠i:=γ;simp [putRow,mapBlock,Sort.ahead,Array.getElem?_modify,this]⟩
theorem compI_any (g q:Nat) (zs:List Int) (b:zs.length≤300) (w:World) (hq:zs.length≤q) (a:Holds (Value.int .i64) w g 0 (zs.mergeSort fun x y=>decide (x≤y)).toArray) :
  Cl 49 #[.slice (Az g) zs.length q] w fun e w'=>e=.returned (.slice (Az g) (Lib.compact (zs.mergeSort fun x y=>decide (x≤y))).length q)∧Below g w w':=by
 have hl:(zs.mergeSort fun x y=>decide (x≤y)).length=zs.length:=ξ;have h:=Any.slices_Compact_int Tryz.lays20 g 0 q (zs.mergeSort fun x y=>decide (x≤y)) w a γ γ;rw [hl] at h;refine h.mono ?_;rintro e w' ⟨rfl,k,rfl⟩;exact ⟨rfl,bl_putRow _ _ _ _⟩
theorem twice_any (w:World) (a:Option Addr) (c:Nat) (zs:List Int) (h0:0<zs.length) (o:zs.length≤300) (hr:Row w a zs) :
  Rt 21 #[.slice a zs.length c] w (.bool (decide (¬ zs.Nodup))):=by
 have p:Hid (∀ V,V=w.alloc (.cells #[.slice a zs.length c] 22)→Cl 50 #[.func (.func 98) #[] #[.pointer (Az w.heap.size)]] V fun e w'=>∃ g q,e=.returned (.slice (Az g) zs.length q)∧zs.length≤q∧Holds (Value.int .i64) w' g 0 (zs.mergeSort fun x y=>decide (x≤y)).toArray∧V.heap.size≤g∧Bl V w'):=fun V t=>by
  subst t;exact sortedI_any w.heap.size c a zs h0 o _ δ (hr.kept β1)
 obtain ⟨m,j⟩:∃ m,m=(Lib.compact (zs.mergeSort fun x y=>decide (x≤y))).length:=⟨_,rfl⟩
 have k:Hid (decide (m<zs.length)=decide (¬ zs.Nodup)):=by
  have h1:=compact_twice zs;have:decide (m<zs.length)=decide (¬ zs.Nodup):=by rw [j];exact decide_eq_decide.2 h1
  exact this
 have r:=Hd j;obtain ⟨l,f⟩:∃ l,l=decide (¬ zs.Nodup):=⟨_,rfl⟩;rw [← f] at k ⊢;clear hr j f;go_enter Tryz.func21,Tryz.ntmps21;go_wp2_with (first | (go_at_call 51;refine (valuesI_any _ a zs.length c rfl _).mono ?_;rintro e s ⟨rfl,hW1⟩;have b:=Hd hW1;clear hW1) | (go_at_call 50;refine (p.out _ b.out).mono ?_;rintro e v ⟨g,q,rfl,hq,n,hg,hb⟩;have h:=H4 hq n hg hb;clear hq n hg hb) | (go_at_call 49;refine (compI_any g q zs o _ h.out.1 h.out.2.1).mono ?_;rintro e z ⟨rfl,d⟩;have i:=Hd d;clear d;rw [← r.out]))
 go_ret;refine ⟨?_, ?_⟩
 ·rw [← k.out];rfl
 ·have e1:Bl w s:=by rw [b.out];exact Qb (Qe _)
  have zz:=e1.size;have u:=h.out.2.2.1;exact (Qc e1 h.out.2.2.2).trans (i.out.mono γ)
end Go.Proofs.YtjkjpopghkeibaaGreatDoor
