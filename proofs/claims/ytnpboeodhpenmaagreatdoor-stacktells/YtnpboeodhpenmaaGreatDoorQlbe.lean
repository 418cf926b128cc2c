/- A part of it. -/
import Derived.Test.YtnpboeodhpenmaaGreatDoorQlau
import Derived.Test.YtnpboeodhpenmaaGreatDoorQlbb
import Derived.Test.YtnpboeodhpenmaaGreatDoorQlbc
import Derived.Test.YtnpboeodhpenmaaGreatDoorQlbd
import Derived.Test.YtnpboeodhpenmaaGreatDoorQlba
set_option maxRecDepth 100000
set_option maxHeartbeats 40000000
namespace Go.Proofs.YtnpboeodhpenmaaGreatDoor
open Go.RowKit
variable {N a b c e f g i j:Nat} {W w w':World} {k:Int} {h:Nat→Int} {t:T3} {d pa:Option Addr} {E:E4} {kd:E4→Int} {M:Nat→M6} {pl:List T3}
def rl (h:Nat→Int) (D:MD):Nat→Bool
 | 0=>twB h D.a0 D.a1
 | 1=>(D.b0.any fun p=>D.a0.any (arB h p)) || (D.b1.any fun p=>D.a1.any (arB h p))
 | 2=>tnB h D.b0 || tnB h D.b1
 | _=>(D.b0.any fun p=>decide (h p.2<h p.1)) || (D.b1.any fun p=>decide (h p.2<h p.1))
theorem Zb {base size n:Nat} {e:TypeId} {v:Value} {d:List Value} (h:w.ownsRow base e size v n d):∃ a b,v=.slice a n b∧n≤b:=by
 rcases h.2 with ⟨e1,e2⟩ | ⟨g,b,c,hv,_,f,h1,h2,h3,h4⟩
 ·exact ⟨none,0,by rw [e1,e2],γ⟩
 ·exact ⟨_,b,hv,γ⟩
structure MdOk (D:MD) (N:Nat):Prop where
 eq:D.a0.length=D.a1.length
 l0:D.a0.length≤100000000
 l1:D.b0.length≤100000000
 l2:D.a1.length≤100000000
 l3:D.b1.length≤100000000
 n0:∀ i∈D.a0,i<N
 n1:∀ p∈D.b0,p.1<N∧p.2<N
 n2:∀ i∈D.a1,i<N
 n3:∀ p∈D.b1,p.1<N∧p.2<N
theorem meetClash_any (w:World) (base d N:Nat) (k l m n:Value) (D:MD) (h:Nat→Int) (f:Ow w base k l m n D) (i:Hg w d N h) (g:N≤300) (hD:MdOk D N) :
  Cl 39 #[.agg #[k,l,m,n],ABv d] w fun e w'=>∃ a c,e=.returned (.slice a (clN (rl h D) 4).length c)∧w'.ownsRow w.heap.size 3 1 (.slice a (clN (rl h D) 4).length c) (clN (rl h D) 4).length (nV (clN (rl h D) 4))∧Bl w w':=by
 obtain ⟨a0,c0,rfl,_⟩:=Zb f.o0;obtain ⟨a1,c1,rfl,k1⟩:=Zb f.o1;obtain ⟨j,c2,rfl,_⟩:=Zb f.o2;obtain ⟨a3,c3,rfl,k3⟩:=Zb f.o3;have r0:=own_irow f.o0;have r1:=own_frow f.o1;have r2:=own_irow f.o2;have r3:=own_frow f.o3;refine clashes_any w d a0 a1 j a3 _ c0 _ c1 _ c2 _ c3 (rl h D) _ _ _ _ _ _ rfl rfl rfl (fun V b=>?_) (fun V b=>Qao V d N _ c0 _ c1 a0 a1 D.a0 D.b0 h (i.kept b) (r0.kept b) rfl hD.l0 (r1.kept b) rfl hD.l1 hD.n0 hD.n1 g) (fun V b=>Qao V d N _ c2 _ c3 j a3 D.a1 D.b1 h (i.kept b) (r2.kept b) rfl hD.l2 (r3.kept b) rfl hD.l3 hD.n2 hD.n3 g) (fun V b=>Qal V d N _ c0 _ c1 a0 a1 D.b0 h (i.kept b) (r1.kept b) rfl hD.l1 k1 hD.n1 g) (fun V b=>Qal V d N _ c2 _ c3 j a3 D.b1 h (i.kept b) (r3.kept b) rfl hD.l3 k3 hD.n3 g) (fun V b=>Uj V d N _ c0 _ c1 a0 a1 D.b0 h (i.kept b) (r1.kept b) rfl hD.l1 hD.n1 g) (fun V b=>Uj V d N _ c2 _ c3 j a3 D.b1 h (i.kept b) (r3.kept b) rfl hD.l3 hD.n3 g);have:=twisted_any V d N D.a0.length c0 c2 D.b0.length c1 D.b1.length c3 a0 a1 j a3 D.a0 D.a1 h (i.kept b) (r0.kept b) (r2.kept b) rfl hD.eq hD.l0 hD.n0 hD.n2 g;rw [← hD.eq];exact this
structure Cmr (n:Nat) (Cm:Nat→Nat→E4→Int→Prop) (P:Nat→T3) (tv:Nat→Bool) (h:Nat→Int):Prop where
 lt:∀ {i j E k},Cm i j E k→i<n∧j<n
 sym:∀ {i j E k},Cm i j E k→Cm j i E k
 ne:∀ {i j E k},Cm i j E k→i≠j
 uni:∀ {i j j' E k k'},Cm i j E k→Cm i j' E k'→j=j'∧k=k'
 fold:∀ {i j E k},Cm i j E k→k≠0→P i=P j
 on:∀ {i j E},Cm i j E 0→sd E (P j)=1 - sd E (P i)
 side:∀ {i j i' j' E k k'},Cm i j E k→Cm i' j' E k'→(sd E (P i)=sd E (P i')↔P i=P i')
 over:∀ {i j E k},Cm i j E k→k≠0→tv j = !tv i
 hgt:∀ {i i'},i<n→i'<n→P i=P i'→h i=h i'→i=i'
structure DOf (Cm:Nat→Nat→E4→Int→Prop) (P:Nat→T3) (tv:Nat→Bool) (E:E4) (D:MD):Prop where
 len:D.a0.length=D.a1.length
 on:∀ x y,(x,y)∈D.a0.zip D.a1↔Cm x y E 0∧sd E (P x)=0
 f0:∀ p,p∈D.b0↔∃ i j k,Cm i j E k∧k≠0∧sd E (P i)=0∧p=fdT k (tv i) i j
 f1:∀ p,p∈D.b1↔∃ i j k,Cm i j E k∧k≠0∧sd E (P i)=1∧p=fdT k (tv i) i j
 n0:D.b0.Nodup
 n1:D.b1.Nodup
def clP (Cm:Nat→Nat→E4→Int→Prop) (P:Nat→T3) (tv:Nat→Bool) (h:Nat→Int) (E:E4) (k:Nat):Prop :=
 (k=1∧∃ x x' y y',Cm x x' E 0∧Cm y y' E 0∧P x=P y∧h x<h y∧h y'<h x') ∨
 (k=2∧∃ x x' c y y',Cm x x' E c∧c≠0∧Cm y y' E 0∧P x=P y∧btw (h y) (h x) (h x')=true) ∨
 (k=3∧∃ x x' c y y' d,Cm x x' E c∧c≠0∧Cm y y' E d∧d≠0∧P x=P y∧x≠y∧x≠y'∧btw (h y) (h x) (h x')≠btw (h y') (h x) (h x')) ∨
 (k=4∧∃ x x' c,Cm x x' E c∧c≠0∧mfB c (tv x) (h x) (h x')=true)
theorem mem_clN (R:Nat→Bool) (k:Nat):∀ n,k∈clN R n↔∃ i,i<n∧R i=true∧k=i+1
 | 0=>by simp [clN]
 | n+1=>by
  unfold clN;rw [List.mem_append,mem_clN R k n];constructor
  ·rintro (⟨i,hi,h1,h2⟩ | h)
   ·exact ⟨i,γ,h1,h2⟩
   ·cases hR:R n
    ·rw [hR] at h;simp at h
    ·rw [hR] at h;simp at h;exact ⟨n,γ,hR,h⟩
  ·rintro ⟨i,hi,h1,h2⟩;by_cases e:i=n
   ·subst e;rw [h1];exact Or.inr (by simp [h2])
   ·exact Or.inl ⟨i,γ,h1,h2⟩
theorem clN_up (R:Nat→Bool):∀ n,(clN R n).Pairwise (· < ·)
 | 0=>List.Pairwise.nil
 | n+1=>by
  unfold clN;rw [List.pairwise_append];refine ⟨clN_up R n,by split <;> simp,fun a d b c=>?_⟩;obtain ⟨i,hi,_,rfl⟩:=(mem_clN R a n).1 d;split at c
  ·simp at c;omega
  ·simp at c
variable {n:Nat} {Cm:Nat→Nat→E4→Int→Prop} {P:Nat→T3} {tv:Nat→Bool} {h:Nat→Int} {E:E4} {D:MD}
theorem Cmr.fd (H:Cmr n Cm P tv h) (c:Cm i j E k) (a:k≠0):fdT k (tv j) j i=fdT k (tv i) i j:=by
 unfold fdT;rw [H.over c a]
 cases tv i <;> by_cases q:k=2 <;> simp [q]
theorem sd01 (E:E4) (t:T3):sd E t=0∨sd E t=1:=by
 have:=sd_le E t;omega
theorem fd_or (k:Int) (t:Bool) (i j:Nat):fdT k t i j=(i,j)∨fdT k t i j=(j,i):=by
 unfold fdT;split
 ·exact Or.inr rfl
 ·exact Or.inl rfl
theorem ar_sym (h:Nat→Int) (i j t:Nat):arB h (i,j) t=arB h (j,i) t:=by
 unfold arB;dsimp only
 cases decide (h i<h t) <;> cases decide (h j<h t) <;> rfl
theorem ar_fd (h:Nat→Int) (k:Int) (b:Bool) (i j t:Nat):arB h (fdT k b i j) t=arB h (i,j) t:=by
 rcases fd_or k b i j with e | e <;> rw [e];exact ar_sym h j i t
theorem Ke {t:Nat} (h1:h t≠h i) (h2:h t≠h j):arB h (i,j) t=btw (h t) (h i) (h j):=by
 unfold arB btw;dsimp only;by_cases a:h i<h t <;> by_cases b:h j<h t
 ·have c1:¬ h t<h j:=γ;have c2:¬ h t<h i:=γ;simp [a,b,c1,c2]
 ·have c1:h t<h j:=γ;simp [a,b,c1]
 ·have c2:h t<h i:=γ;simp [a,b,c2]
 ·simp [a,b]
theorem DOf.as0 (d:DOf Cm P tv E D) (x:Nat):x∈D.a0↔∃ y,Cm x y E 0∧sd E (P x)=0:=by
 constructor
 ·intro b;obtain ⟨i,hi,rfl⟩:=List.getElem_of_mem b;have a:i<D.a1.length:=by have:=d.len;omega
  have:(D.a0[i],D.a1[i])∈D.a0.zip D.a1:=by
   rw [← List.getElem_zip (h:=by simp;omega)];exact Lm _
  exact ⟨_,(d.on _ _).1 this⟩
 ·rintro ⟨y,c⟩;exact (List.of_mem_zip ((d.on x y).2 c)).1
theorem DOf.as1 (H:Cmr n Cm P tv h) (d:DOf Cm P tv E D) (x:Nat):x∈D.a1↔∃ y,Cm x y E 0∧sd E (P x)=1:=by
 constructor
 ·intro b;obtain ⟨i,hi,rfl⟩:=List.getElem_of_mem b;have a:i<D.a0.length:=by have:=d.len;omega
  have:(D.a0[i],D.a1[i])∈D.a0.zip D.a1:=by
   rw [← List.getElem_zip (h:=by simp;omega)];exact Lm _
  obtain ⟨c,s⟩:=(d.on _ _).1 this;refine ⟨_,H.sym c, ?_⟩;rw [H.on c,s]
 ·rintro ⟨y,c,s⟩;have:=H.on c;exact (List.of_mem_zip ((d.on y x).2 ⟨H.sym c,γ⟩)).2
theorem cl_tw (H:Cmr n Cm P tv h) (d:DOf Cm P tv E D):twB h D.a0 D.a1=true↔∃ x a y b,Cm x a E 0∧Cm y b E 0∧P x=P y∧h x<h y∧h b<h a:=by
 have B:∀ i (hi:i<D.a0.length),∃ x y,D.a0.getD i 0=x∧D.a1.getD i 0=y∧Cm x y E 0∧sd E (P x)=0:=fun i hi=>by
  have k:i<D.a1.length:=by have:=d.len;omega
  have:(D.a0[i],D.a1[i])∈D.a0.zip D.a1:=by
   rw [← List.getElem_zip (h:=by simp;omega)];exact Lm _
  obtain ⟨c,s⟩:=(d.on _ _).1 this;exact ⟨_,_,by simp [List.getD_eq_getElem?_getD,hi],by simp [List.getD_eq_getElem?_getD,k],c,s⟩
 have A:∀ x y,(x,y)∈D.a0.zip D.a1→∃ i,i<D.a0.length∧D.a0.getD i 0=x∧D.a1.getD i 0=y:=fun x y M=>by
  obtain ⟨i,hi,e⟩:=List.getElem_of_mem M;rw [List.getElem_zip] at e;simp only [Prod.mk.injEq] at e;have o:i<D.a0.length:=by simp at hi;omega
  have k:i<D.a1.length:=by simp at hi;omega
  exact ⟨i,o,by simp [List.getD_eq_getElem?_getD,o,e.1],by simp [List.getD_eq_getElem?_getD,k,e.2]⟩
 have K:twB h D.a0 D.a1=true↔∃ i j,j<i∧i<D.a0.length∧twQ h D.a0 D.a1 i j=true:=by
  unfold twB twP;simp only [List.any_eq_true,List.mem_range];constructor
  ·rintro ⟨i,hi,j,p,q⟩;exact ⟨i,j,p,hi,q⟩
  ·rintro ⟨i,j,p,hi,q⟩;exact ⟨i,hi,j,p,q⟩
 rw [K];constructor
 ·rintro ⟨i,j,L,hi,q⟩;obtain ⟨x,a,G,r,f,C⟩:=B i hi;obtain ⟨y,b,J,t,g,F⟩:=B j γ;unfold twQ at q;rw [G,r,J,t] at q;have m:P x=P y:=(H.side f g).1 (by rw [C,F]);have u:P a=P b:=(H.side (H.sym f) (H.sym g)).1 (by rw [H.on f,H.on g,C,F]);by_cases e1:h y<h x
  ·have e2:¬ h b<h a:=fun e2=>by simp [e1,e2] at q
   refine ⟨y,b,x,a,g,f,m.symm,e1, ?_⟩
   have:h a≠h b:=fun e=>by
    have e:=H.hgt (H.lt f).2 (H.lt g).2 u e;subst e;have:=(H.uni (H.sym f) (H.sym g)).1;subst this;omega
   omega
  ·have e2:h b<h a:=by
    by_cases e2:h b<h a
    ·exact e2
    ·simp [e1,e2] at q
   refine ⟨x,a,y,b,f,g,m, ?_,e2⟩
   have:h x≠h y:=fun e=>by
    have e:=H.hgt (H.lt f).1 (H.lt g).1 m e;subst e;have:=(H.uni f g).1;subst this;omega
   omega
 ·rintro ⟨x,a,y,b,f,g,m,h1,h2⟩
  have v:∃ x a y b,(Cm x a E 0∧sd E (P x)=0)∧(Cm y b E 0∧sd E (P y)=0)∧h x<h y∧h b<h a:=by
   rcases sd01 E (P x) with s | s
   ·exact ⟨x,a,y,b,⟨f,s⟩,⟨g,by rw [← m];exact s⟩,h1,h2⟩
   ·refine ⟨b,y,a,x,⟨H.sym g, ?_⟩,⟨H.sym f, ?_⟩,h2,h1⟩
    ·rw [H.on g,← m,s]
    ·rw [H.on f,s]
  obtain ⟨x,a,y,b,N,O,h1,h2⟩:=v;obtain ⟨i,hi,a1,z⟩:=A x a ((d.on x a).2 N);obtain ⟨j,p,b1,b2⟩:=A y b ((d.on y b).2 O);have n1:¬ h y<h x:=γ;have n2:¬ h a<h b:=γ;rcases Nat.lt_trichotomy i j with l | l | l
  ·exact ⟨j,i,l,p,by unfold twQ;rw [a1,z,b1,b2];simp [h1,n2]⟩
  ·subst l;rw [a1] at b1;subst b1;omega
  ·exact ⟨i,j,l,hi,by unfold twQ;rw [a1,z,b1,b2];simp [h2,n1]⟩
theorem cl_pi (H:Cmr n Cm P tv h) (d:DOf Cm P tv E D):((D.b0.any fun p=>D.a0.any (arB h p)) || (D.b1.any fun p=>D.a1.any (arB h p)))=true↔∃ x l c y f,Cm x l E c∧c≠0∧Cm y f E 0∧P x=P y∧btw (h y) (h x) (h l)=true:=by
 have o:∀ {x l c y f},Cm x l E c→c≠0→Cm y f E 0→P x=P y→h y≠h x∧h y≠h l:=fun {x l c y f} g m a b=>by
  refine ⟨fun e=>?_,fun e=>?_⟩
  ·have e:=H.hgt (H.lt a).1 (H.lt g).1 b.symm e;subst e;exact m (H.uni g a).2
  ·have e:=H.hgt (H.lt a).1 (H.lt g).2 (b.symm.trans (H.fold g m)) e;subst e;exact m (H.uni (H.sym g) a).2
 simp only [Bool.or_eq_true,List.any_eq_true];constructor
 ·rintro (⟨p,hp,y,t,q⟩ | ⟨p,hp,y,t,q⟩)
  ·obtain ⟨i,j,k,c,r,s,rfl⟩:=(d.f0 p).1 hp;obtain ⟨f,a,u⟩:=(d.as0 y).1 t;have b:=(H.side c a).1 (by rw [s,u]);have:=o c r a b;rw [ar_fd,Ke this.1 this.2] at q;exact ⟨i,j,k,y,f,c,r,a,b,q⟩
  ·obtain ⟨i,j,k,c,r,s,rfl⟩:=(d.f1 p).1 hp;obtain ⟨f,a,u⟩:=(DOf.as1 H d y).1 t;have b:=(H.side c a).1 (by rw [s,u]);have:=o c r a b;rw [ar_fd,Ke this.1 this.2] at q;exact ⟨i,j,k,y,f,c,r,a,b,q⟩
 ·rintro ⟨x,l,c,y,f,g,m,a,b,q⟩;have v:=o g m a b;rw [← Ke v.1 v.2,← ar_fd h c (tv x)] at q;rcases sd01 E (P x) with s | s
  ·exact Or.inl ⟨_,(d.f0 _).2 ⟨x,l,c,g,m,s,rfl⟩,y,(d.as0 y).2 ⟨f,a,by rw [← b];exact s⟩,q⟩
  ·exact Or.inr ⟨_,(d.f1 _).2 ⟨x,l,c,g,m,s,rfl⟩,y,(DOf.as1 H d y).2 ⟨f,a,by rw [← b];exact s⟩,q⟩
theorem lace {a b c d:Int} (h3:c≠a) (h4:c≠b) (h5:d≠a) (h6:d≠b):(btw c a b≠btw d a b)↔(btw a c d≠btw b c d):=by
 have e:∀ n a b:Int,(btw n a b=true↔(a<n∧n<b)∨(b<n∧n<a)):=fun n a b=>by simp [btw]
 have ne:∀ x y:Bool,x≠y↔¬ (x=true↔y=true):=ψ;rw [ne,ne,e,e,e,e];omega
theorem tn_iff (H:Cmr n Cm P tv h) {l:List (Nat×Nat)} {s:Nat} (K:l.Nodup) (J:∀ p,p∈l↔∃ i j k,Cm i j E k∧k≠0∧sd E (P i)=s∧p=fdT k (tv i) i j):tnB h l=true↔∃ x f c y a d,Cm x f E c∧c≠0∧Cm y a E d∧d≠0∧sd E (P x)=s∧P x=P y∧x≠y∧x≠a∧btw (h y) (h x) (h f)≠btw (h a) (h x) (h f):=by
 have G:∀ {x f c y a d},Cm x f E c→c≠0→Cm y a E d→d≠0→P x=P y→x≠y→x≠a→h x≠h f∧h y≠h a∧h y≠h x∧h y≠h f∧h a≠h x∧h a≠h f:=fun {x f c y a d} m r g G o n1 n2=>by
  have L:=H.fold m r;have M:=H.fold g G;have z:=H.lt m;have A:=H.lt g;refine ⟨fun e=>H.ne m (H.hgt z.1 z.2 L e),fun e=>H.ne g (H.hgt A.1 A.2 M e),fun e=>n1 (H.hgt z.1 A.1 o e.symm),fun e=>?_,fun e=>n2 (H.hgt z.1 A.2 (o.trans M) e.symm),fun e=>?_⟩
  ·have e:=H.hgt A.1 z.2 (o.symm.trans L) e;subst e;exact n2 (H.uni (H.sym m) g).1
  ·have e:=H.hgt A.2 z.2 ((M.symm.trans o.symm).trans L) e;subst e;exact n1 (H.uni (H.sym m) (H.sym g)).1
 have tg:∀ {x f c y a d},Cm x f E c→c≠0→Cm y a E d→d≠0→P x=P y→x≠y→x≠a→(tgB h (fdT c (tv x) x f) (fdT d (tv y) y a)=true↔btw (h y) (h x) (h f)≠btw (h a) (h x) (h f)):=fun {x f c y a d} m r g b o n1 n2=>by
  obtain ⟨d1,d2,d3,d4,d5,F⟩:=G m r g b o n1 n2;unfold tgB;rw [ar_fd,ar_fd];rcases fd_or d (tv y) y a with e | e <;> rw [e] <;> dsimp only
  ·rw [Ke d3 d4,Ke d5 F];simp
  ·rw [Ke d3 d4,Ke d5 F];simp only [bne_iff_ne,ne_eq];exact ⟨fun q e=>q e.symm,fun q e=>q e.symm⟩
 have U:tnB h l=true↔∃ i j,j<i∧i<l.length∧tgB h (l.getD i (0,0)) (l.getD j (0,0))=true:=by
  unfold tnB tnP;simp only [List.any_eq_true,List.mem_range];constructor
  ·rintro ⟨i,hi,q,hq,e⟩;obtain ⟨j,u,rfl⟩:=List.getElem_of_mem hq;rw [List.length_take] at u;refine ⟨i,j,γ,hi, ?_⟩;have:l.getD j (0,0)=l[j]:=by simp [List.getD_eq_getElem?_getD,show j<l.length by omega]
   rw [this];rw [List.getElem_take] at e;exact e
  ·rintro ⟨i,j,C,hi,e⟩;refine ⟨i,hi,l[j], ?_, ?_⟩
   ·rw [List.mem_iff_getElem];exact ⟨j,γ6,by rw [List.getElem_take]⟩
   ·have:l.getD j (0,0)=l[j]:=by simp [List.getD_eq_getElem?_getD,show j<l.length by omega]
    rw [this] at e;exact e
 rw [U]
 have v:∀ {x f c y a d},Cm x f E c→c≠0→Cm y a E d→d≠0→(x=y∨x=a)→fdT c (tv x) x f=fdT d (tv y) y a:=fun {x f c y a d} m r g b e=>by
  rcases e with rfl | rfl
  ·obtain ⟨rfl,rfl⟩:=H.uni m g;rfl
  ·obtain ⟨rfl,rfl⟩:=H.uni m (H.sym g);exact H.fd g b
 constructor
 ·rintro ⟨i,j,C,hi,q⟩;have B:l.getD i (0,0)=l[i]:=by simp [List.getD_eq_getElem?_getD,hi]
  have u:j<l.length:=γ;have t:l.getD j (0,0)=l[j]:=by simp [List.getD_eq_getElem?_getD,u]
  obtain ⟨x,f,c,m,r,T,N⟩:=(J _).1 (Lm hi);obtain ⟨y,a,d,g,b,V,O⟩:=(J _).1 (Lm u)
  have D:l[i]≠l[j]:=fun e=>by
   have:=List.pairwise_iff_getElem.1 K j i u hi C;exact this e.symm
  have n1:x≠y:=fun e=>D (by rw [N,O];exact v m r g b (Or.inl e));have n2:x≠a:=fun e=>D (by rw [N,O];exact v m r g b (Or.inr e));have o:=(H.side m g).1 (by rw [T,V]);rw [B,t,N,O] at q;exact ⟨x,f,c,y,a,d,m,r,g,b,T,o,n1,n2,(tg m r g b o n1 n2).1 q⟩
 ·rintro ⟨x,f,c,y,a,d,m,r,g,b,s,o,n1,n2,q⟩;obtain ⟨i,hi,B⟩:=List.getElem_of_mem ((J _).2 ⟨x,f,c,m,r,s,rfl⟩);obtain ⟨j,u,t⟩:=List.getElem_of_mem ((J _).2 ⟨y,a,d,g,b,by rw [← o];exact s,rfl⟩);have Q:l.getD i (0,0)=l[i]:=by simp [List.getD_eq_getElem?_getD,hi]
  have R:l.getD j (0,0)=l[j]:=by simp [List.getD_eq_getElem?_getD,u]
  obtain ⟨d1,d2,d3,d4,d5,F⟩:=G m r g b o n1 n2;rcases Nat.lt_trichotomy i j with l1 | l1 | l1
  ·have n3:y≠f:=fun e=>d4 (by rw [e]);refine ⟨j,i,l1,u, ?_⟩;rw [Q,R,B,t];exact (tg g b m r o.symm n1.symm n3).2 ((lace d3 d4 d5 F).1 q)
  ·subst l1;rw [B] at t;exfalso
   rcases fd_or c (tv x) x f with e1 | e1 <;> rcases fd_or d (tv y) y a with e2 | e2 <;> rw [e1,e2] at t <;> simp only [Prod.mk.injEq] at t
   ·exact n1 t.1
   ·exact n2 t.1
   ·exact n2 t.2
   ·exact n1 t.2
  ·refine ⟨i,j,l1,hi, ?_⟩;rw [Q,R,B,t];exact (tg m r g b o n1 n2).2 q
theorem fd_mis (c:Int) (t:Bool) (h:Nat→Int) (i j:Nat):decide (h (fdT c t i j).2<h (fdT c t i j).1)=mfB c t (h i) (h j):=by
 unfold fdT mfB;split <;> rfl
theorem cl_iff (H:Cmr n Cm P tv h) (d:DOf Cm P tv E D) (k:Nat):k∈clN (rl h D) 4↔clP Cm P tv h E k:=by
 rw [mem_clN]
 have r2:rl h D 2=true↔∃ x a c y b d,Cm x a E c∧c≠0∧Cm y b E d∧d≠0∧P x=P y∧x≠y∧x≠b∧btw (h y) (h x) (h a)≠btw (h b) (h x) (h a):=by
  show (tnB h D.b0 || tnB h D.b1)=true↔_
  rw [Bool.or_eq_true,tn_iff H d.n0 d.f0,tn_iff H d.n1 d.f1];constructor
  ·rintro (⟨x,a,c,y,b,d,a1,e,a3,a4,_,f⟩ | ⟨x,a,c,y,b,d,a1,e,a3,a4,_,f⟩)
   ·exact ⟨x,a,c,y,b,d,a1,e,a3,a4,f⟩
   ·exact ⟨x,a,c,y,b,d,a1,e,a3,a4,f⟩
  ·rintro ⟨x,a,c,y,b,d,a1,e,a3,a4,f⟩;rcases sd01 E (P x) with s | s
   ·exact Or.inl ⟨x,a,c,y,b,d,a1,e,a3,a4,s,f⟩
   ·exact Or.inr ⟨x,a,c,y,b,d,a1,e,a3,a4,s,f⟩
 have r3:rl h D 3=true↔∃ x a c,Cm x a E c∧c≠0∧mfB c (tv x) (h x) (h a)=true:=by
  show ((D.b0.any fun p=>decide (h p.2<h p.1)) || (D.b1.any fun p=>decide (h p.2<h p.1)))=true↔_
  simp only [Bool.or_eq_true,List.any_eq_true];constructor
  ·rintro (⟨p,hp,q⟩ | ⟨p,hp,q⟩)
   ·obtain ⟨i,j,c,g,l,_,rfl⟩:=(d.f0 p).1 hp;rw [fd_mis] at q;exact ⟨i,j,c,g,l,q⟩
   ·obtain ⟨i,j,c,g,l,_,rfl⟩:=(d.f1 p).1 hp;rw [fd_mis] at q;exact ⟨i,j,c,g,l,q⟩
  ·rintro ⟨x,a,c,g,l,q⟩;rw [← fd_mis] at q;rcases sd01 E (P x) with s | s
   ·exact Or.inl ⟨_,(d.f0 _).2 ⟨x,a,c,g,l,s,rfl⟩,q⟩
   ·exact Or.inr ⟨_,(d.f1 _).2 ⟨x,a,c,g,l,s,rfl⟩,q⟩
 have r0:rl h D 0=true↔_:=cl_tw H d;have r1:rl h D 1=true↔_:=cl_pi H d;unfold clP;rw [← r0,← r1,← r2,← r3];constructor
 ·rintro ⟨i,hi,q,rfl⟩;have:i=0∨i=1∨i=2∨i=3:=γ;rcases this with rfl | rfl | rfl | rfl
  ·exact Or.inl ⟨rfl,q⟩
  ·exact Or.inr (Or.inl ⟨rfl,q⟩)
  ·exact Or.inr (Or.inr (Or.inl ⟨rfl,q⟩))
  ·exact Or.inr (Or.inr (Or.inr ⟨rfl,q⟩))
 ·rintro (⟨rfl,q⟩ | ⟨rfl,q⟩ | ⟨rfl,q⟩ | ⟨rfl,q⟩)
  ·exact ⟨0,γ,q,rfl⟩
  ·exact ⟨1,γ,q,rfl⟩
  ·exact ⟨2,γ,q,rfl⟩
  ·exact ⟨3,γ,q,rfl⟩
def Cmx (kd:E4→Int) (L:List T3) (M:Nat→M6) (i j:Nat) (E:E4) (k:Int):Prop :=
 i<L.length∧∃ hj:j<L.length,∃ c,c<3∧L[j]=acr (L.getD i (0,0,0)) (edg (L.getD i (0,0,0)) c)∧E=bro (M i) (edg (L.getD i (0,0,0)) c)∧k=kd (edg (L.getD i (0,0,0)) c)
def Plx (L:List T3) (M:Nat→M6) (i:Nat):T3:=mvt (M i) (L.getD i (0,0,0))
theorem has_less {p q r s:Int} (b:Kd t) (h:hasT t (p,q,r,s)=true):p<r∨(p=r∧q<s):=by
 obtain ⟨x,y,k⟩:=t;unfold hasT at h;rw [Qx] at h;have c:0≤k∧k≤3:=b;have a:k=0∨k=1∨k=2∨k=3:=γ;dsimp only at h;rcases a with rfl | rfl | rfl | rfl <;> simp only [Zt,Zs,Zp,Zo,Zn,Zm,Zl,Zk,Zj,Zi,Zh,Zg] at h <;> omega
theorem bro_inj {m:M6} {u:T3} {e f:E4} (x:mapM m=true) (y:Kd t) (z:Kd u) (n:hasT t e=true) (o:hasT u f=true) (h:bro m e=bro m f):e=f:=by
 obtain ⟨p,q,r,s⟩:=e;obtain ⟨A,B,C,D⟩:=f;have l1:=has_less y n;have l2:=has_less z o;obtain ⟨a,b,c,d,u,v⟩:=m;have l:=Xz (show mapB a b c d u v=true from x);clear n o y z x
 rcases bro_or (a,b,c,d,u,v) p q r s with ⟨_,e1⟩ | ⟨_,e1⟩ <;> rcases bro_or (a,b,c,d,u,v) A B C D with ⟨_,e2⟩ | ⟨_,e2⟩ <;> rw [e1,e2] at h <;> simp only [mpX,mpY,Prod.mk.injEq] at h ⊢ <;> clear e1 e2 <;>
  rcases l with ⟨g | g,i,j,k | k⟩ | ⟨g,i | i,j | j,k⟩ <;> subst g i j k <;> simp only [Int.one_mul,Int.zero_mul,Int.neg_mul,Int.zero_add,Int.add_zero,Int.add_left_inj,Int.neg_inj] at h <;> omega
theorem tov_mir {m:M6} (j:mapM m=true) {v c:Int} (hv:v=0∨v=1∨v=2∨v=3):tov (aft (mir v c) m) = !tov m:=by
 obtain ⟨a,b,k,d,u,w⟩:=m;have i:=Xz (show mapB a b k d u w=true from j);clear j;rcases hv with rfl | rfl | rfl | rfl <;> rcases i with ⟨e | e,f,g,h | h⟩ | ⟨e,f | f,g | g,h⟩ <;> subst e f g h <;> simp [tov,aft,mir,dot,mA,mB,mD]
section
variable {kd:E4→Int} {L:List T3} {M:Nat→M6}
structure Geo (kd:E4→Int) (L:List T3) (M:Nat→M6):Prop where
 nd:L.Nodup
 bd:∀ t∈L,(0≤t.1∧t.1≤8)∧(0≤t.2.1∧t.2.1≤8)∧(0≤t.2.2∧t.2.2≤3)
 mm:MMs kd L M L.length
theorem Geo.kT (g:Geo kd L M) (h:i<L.length):Kd (L.getD i (0,0,0)):=by
 rw [Qz L i h];exact (g.bd _ (Lm h)).2.2
theorem Geo.bdi (g:Geo kd L M) (h:i<L.length):(0≤(L.getD i (0,0,0)).1∧(L.getD i (0,0,0)).1≤8)∧(0≤(L.getD i (0,0,0)).2.1∧(L.getD i (0,0,0)).2.1≤8)∧(0≤(L.getD i (0,0,0)).2.2∧(L.getD i (0,0,0)).2.2≤3):=by
 rw [Qz L i h];exact g.bd _ (Lm h)
theorem Geo.map (g:Geo kd L M) (h:i<L.length):mapM (M i)=true:=(g.mm i h).1.1
theorem Cmx.has (g:Geo kd L M) (c:Cmx kd L M i j E k):hasT (Plx L M i) E=true∧Kd (Plx L M i):=by
 obtain ⟨hi,a,n,b,e1,rfl,rfl⟩:=c;exact ⟨Qbs (g.map hi) (g.kT hi) (Jc _ _),mvt_kd⟩
theorem Cmx.beyond (g:Geo kd L M) {n:Nat} (hi:i<L.length) (a:j<L.length) (b:n<3) (e:L[j]=acr (L.getD i (0,0,0)) (edg (L.getD i (0,0,0)) n)):M j=farM kd (edg (L.getD i (0,0,0)) n) (M i):=(g.mm i hi).2 n b j a e
theorem Geo.cmr (g:Geo kd L M) (H:∀ {i x:Nat},i<L.length→x<L.length→Plx L M i=Plx L M x→h i=h x→i=x):Cmr L.length (Cmx kd L M) (Plx L M) (fun i=>tov (M i)) h:={
 lt:=fun c=>by
  obtain ⟨hi,f,_⟩:=c;exact ⟨hi,f⟩
 ne:=fun {i j E k} c e=>by
  obtain ⟨hi,f,n,m,e1,rfl,rfl⟩:=c;subst e;have:=(Zf (g.kT hi) (Jc (L.getD i (0,0,0)) n)).2.1;rw [← e1,Qz L i hi] at this;exact this rfl
 sym:=fun {i j E k} c=>by
  obtain ⟨hi,f,n,m,e1,rfl,rfl⟩:=c;have u:=Zf (g.kT hi) (Jc (L.getD i (0,0,0)) n);have l:=Cmx.beyond g hi f m e1;rw [← e1] at u;obtain ⟨D,v,z⟩:=Vw u.1;refine ⟨f,hi,D,v, ?_, ?_, ?_⟩
  ·rw [Qz L j f,z];have:=Jh u.2.2 (g.kT hi) u.1 (Jc (L.getD i (0,0,0)) n) (fun e=>u.2.1 e.symm);rw [← this,Qz L i hi]
  ·rw [Qz L j f,z,l];unfold farM;split
   ·rfl
   ·exact (bro_far (g.kT hi) (Jc _ _)).symm
  ·rw [Qz L j f,z]
 uni:=fun {i j J E k K} c y=>by
  obtain ⟨hi,f,n,m,e1,e2,e3⟩:=c;obtain ⟨_,B,D,v,o,A,t⟩:=y;have e:=bro_inj (g.map hi) (g.kT hi) (g.kT hi) (Jc _ n) (Jc _ D) (e2.symm.trans A);rw [← e] at o t;exact ⟨Jj g.nd f B (e1.trans o.symm),e3.trans t.symm⟩
 fold:=fun {i j E k} c C=>by
  obtain ⟨hi,f,n,m,e1,rfl,rfl⟩:=c;have l:=Cmx.beyond g hi f m e1;unfold farM at l;rw [if_neg C] at l;unfold Plx;rw [l,Qz L j f,e1];have F:=Vu (Jc (L.getD i (0,0,0)) n) (g.bdi hi);exact (mvt_far (Qbm F.1 F.2).1 (g.kT hi) (Jc _ _)).symm
 on:=fun {i j E} c=>by
  have hs:=Cmx.has g c;obtain ⟨hi,f,n,m,e1,e2,e3⟩:=c;have l:=Cmx.beyond g hi f m e1;unfold farM at l;rw [if_pos e3.symm] at l
  have G:Plx L M j=acr (Plx L M i) E:=by
   unfold Plx;rw [l,Qz L j f,e1,e2];exact mvt_acr (g.map hi) (g.kT hi) (Jc _ _)
  rw [G];obtain ⟨p,q,r,s⟩:=E;exact sd_acr hs.2 hs.1
 side:=fun {i j x J E k K} c y=>by
  have h1:=Cmx.has g c;have h2:=Cmx.has g y;exact sd_same h1.2 h2.2 h1.1 h2.1
 over:=fun {i j E k} c C=>by
  obtain ⟨hi,f,n,m,e1,rfl,rfl⟩:=c;have l:=Cmx.beyond g hi f m e1;unfold farM at l;rw [if_neg C] at l;show tov (M j) = !tov (M i)
  rw [l];refine tov_mir (g.map hi) ?_;unfold lnW;split
  ·exact Or.inl rfl
  ·split
   ·exact Or.inr (Or.inl rfl)
   ·split
    ·exact Or.inr (Or.inr (Or.inl rfl))
    ·exact Or.inr (Or.inr (Or.inr rfl))
 hgt:=fun a b c d=>H a b c d }
theorem lv_at {P:Nat→T3} {S:List (T3×List T3)} (c:L.Nodup) (d:StOk L P S) (l:Lv S L h S.length 0) (hi:i<L.length):∃ m k,∃ a:m<S.length,∃ b:k<S[m].2.length,S[m].2[k]=L[i]∧S[m].1=P i∧h i=(k:Int):=by
 have f:=d.cov c _ (Lm hi);unfold allS at f;obtain ⟨s,hs,g⟩:=List.mem_flatMap.1 f;obtain ⟨m,a,rfl⟩:=List.getElem_of_mem hs;obtain ⟨k,b,e⟩:=List.getElem_of_mem g;obtain ⟨j,h0,e0,e1⟩:=d.pl _ hs _ g;have:j=i:=Jj c h0 hi e0;subst this;exact ⟨m,k,a,b,e,e1.symm,l j hi m k a b e (Or.inl a)⟩
theorem hgt_of {P:Nat→T3} {S:List (T3×List T3)} (f:L.Nodup) (g:StOk L P S) (p:Lv S L h S.length 0) (hi:i<L.length) (a:c<L.length) (o:P i=P c) (e:h i=h c):i=c:=by
 obtain ⟨m,k,r,u,a1,n,a3⟩:=lv_at f g p hi;obtain ⟨d,t,b,s,b1,b2,b3⟩:=lv_at f g p a
 have l:m=d:=by
  have hp:=List.pairwise_iff_getElem.1 (up_pair g.up);rcases Nat.lt_trichotomy m d with q | q | q
  ·have:=hp m d r b q;rw [n,b2,o] at this;exact absurd this (Jr _)
  ·exact q
  ·have:=hp d m b r q;rw [n,b2,o] at this;exact absurd this (Jr _)
 subst l;have j:k=t:=γ;subst j;exact Jj f hi a (a1.symm.trans b1)
end
structure Cq where
 e:E4
 i:Nat
 p:T3
 j:Int
 o:T3
 k:Int
 tv:Bool
def encQ (x:Cq):List Value:=[I x.e.1,I x.e.2.1,I x.e.2.2.1,I x.e.2.2.2,I (x.i:Int),I x.p.1,I x.p.2.1,I x.p.2.2,I x.j,I x.o.1,I x.o.2.1,I x.o.2.2,I x.k,.bool x.tv]
def flatQ (l:List Cq):List Value:=l.flatMap encQ
theorem flatQ_add (l m:List Cq):flatQ (l ++ m)=flatQ l ++ flatQ m:=by simp [flatQ]
def cq (kd:E4→Int) (L:List T3) (M:Nat→M6) (i c:Nat):Cq :=
 ⟨bro (M i) (edg (L.getD i (0,0,0)) c),i,Plx L M i,plc L (acr (L.getD i (0,0,0)) (edg (L.getD i (0,0,0)) c)),if 0≤plc L (acr (L.getD i (0,0,0)) (edg (L.getD i (0,0,0)) c)) then Plx L M (plc L (acr (L.getD i (0,0,0)) (edg (L.getD i (0,0,0)) c))).toNat else (0,0,0),kd (edg (L.getD i (0,0,0)) c),tov (M i)⟩
def cqs (kd:E4→Int) (L:List T3) (M:Nat→M6) (n:Nat):List Cq:=(List.range n).flatMap fun i=>(List.range 3).map (cq kd L M i)
def cqk (kd:E4→Int) (L:List T3) (M:Nat→M6) (i m:Nat):List Cq:=cqs kd L M i ++ (List.range m).map (cq kd L M i)
theorem cqk_zero (kd:E4→Int) (L:List T3) (M:Nat→M6) (i:Nat):cqk kd L M i 0=cqs kd L M i:=by simp [cqk]
theorem cqk_succ (kd:E4→Int) (L:List T3) (M:Nat→M6) (i m:Nat):cqk kd L M i (m+1)=cqk kd L M i m ++ [cq kd L M i m]:=by simp [cqk,List.range_succ]
theorem cqk_full (kd:E4→Int) (L:List T3) (M:Nat→M6) (i:Nat):cqk kd L M i 3=cqs kd L M (i+1):=by simp [cqk,cqs,List.range_succ]
theorem Vk (kd:E4→Int) (L:List T3) (M:Nat→M6):∀ n,(cqs kd L M n).length=n*3
 | 0=>rfl
 | n+1=>by
  rw [← cqk_full,cqk,List.length_append,Vk kd L M n];simp;omega
theorem cqk_len (kd:E4→Int) (L:List T3) (M:Nat→M6) (i m:Nat):(cqk kd L M i m).length=i*3+m:=by
 rw [cqk,List.length_append,Vk];simp
theorem bro_num (A B C D E F a b c d:Int):bro (A,B,C,D,E,F) (a,b,c,d)=(eA (dot A B a b+E) (dot C D a b+F) (dot A B c d+E) (dot C D c d+F),eB (dot A B a b+E) (dot C D a b+F) (dot A B c d+E) (dot C D c d+F),eC (dot A B a b+E) (dot C D a b+F) (dot A B c d+E) (dot C D c d+F),eD (dot A B a b+E) (dot C D a b+F) (dot A B c d+E) (dot C D c d+F)):=by
 unfold bro eA eB eC eD dot mpX mpY;dsimp only;split <;> rfl
theorem cell_14_new (w:World) (T:TypeId) (v0 f g v3 v4 v5 h i k v9 b c d e:Value):∀ j u,([v0,f,g,v3,v4,v5,h,i,k,v9,b,c,d,e])[j]?=some u→(w.alloc (.cells #[v0,f,g,v3,v4,v5,h,i,k,v9,b,c,d,e] T)).cell? ((⟨w.heap.size,0,none⟩:Addr).add j)=some u:=by
 intro j u a;match j,a with
 | 0,a=>simp at a;subst a;simp [Addr.add,go_sem]
 | 1,a=>simp at a;subst a;simp [Addr.add,go_sem]
 | 2,a=>simp at a;subst a;simp [Addr.add,go_sem]
 | 3,a=>simp at a;subst a;simp [Addr.add,go_sem]
 | 4,a=>simp at a;subst a;simp [Addr.add,go_sem]
 | 5,a=>simp at a;subst a;simp [Addr.add,go_sem]
 | 6,a=>simp at a;subst a;simp [Addr.add,go_sem]
 | 7,a=>simp at a;subst a;simp [Addr.add,go_sem]
 | 8,a=>simp at a;subst a;simp [Addr.add,go_sem]
 | 9,a=>simp at a;subst a;simp [Addr.add,go_sem]
 | 10,a=>simp at a;subst a;simp [Addr.add,go_sem]
 | 11,a=>simp at a;subst a;simp [Addr.add,go_sem]
 | 12,a=>simp at a;subst a;simp [Addr.add,go_sem]
 | 13,a=>simp at a;subst a;simp [Addr.add,go_sem]
structure Zq (w:World) (g:Nat):Prop where
 z0:At w g 0 (I 0)
 z1:At w g 1 (I 0)
 z2:At w g 2 (I 0)
 z3:At w g 3 (I 0)
 z4:At w g 4 (I 0)
 z5:At w g 5 (I 0)
 z6:At w g 6 (I 0)
 z7:At w g 7 (I 0)
 z8:At w g 8 (I 0)
 z9:At w g 9 (I 0)
 z10:At w g 10 (I 0)
 z11:At w g 11 (I 0)
 z12:At w g 12 (I 0)
 z13:At w g 13 (.bool false)
 fz:∀ q,Fn w g q
theorem Zq.kept (h:Zq w g) (b:Bl w w'):Zq w' g:=⟨Qa b h.z0,Qa b h.z1,Qa b h.z2,Qa b h.z3,Qa b h.z4,Qa b h.z5,Qa b h.z6,Qa b h.z7,Qa b h.z8,Qa b h.z9,Qa b h.z10,Qa b h.z11,Qa b h.z12,Qa b h.z13,fun q=>(Fo (a:=⟨g,q,none⟩) (b.block g (World.block_lt_of_cell? w ⟨g,0,none⟩ h.z0))).trans (h.fz q)⟩
theorem Un (w:World):Zq (w.alloc (.cells #[I 0,I 0,I 0,I 0,I 0,I 0,I 0,I 0,I 0,I 0,I 0,I 0,I 0,.bool false] 136)) w.heap.size:=by
 constructor
 all_goals first | (simp [go_sem];done) | (intro q;simp [World.frozen?,World.alloc])
theorem inf136:(Tryz.prog.info? 136).map (fun i=>(i.zero,i.size,i.bytes))=some (some (.agg #[I 0,I 0,I 0,I 0,I 0,I 0,I 0,I 0,I 0,I 0,I 0,I 0,I 0,.bool false]),14,112):=η
def laC (c:Nat) (x:Bool) (l:Array Bool):Array Bool :=
 let f:=fun (b:Bool) (i:Nat) (l:Array Bool)=>if b then l.setIfInBounds i true else l
 f x 44 (f (5<c) 42 (f (4<c) 37 (f (3<c) 30 (f (2<c) 20 (f (1<c) 19 (f (0<c) 9 l))))))
def aaC (u0 u1 u2 u3 u4 u5:Value) (c:Nat) (x:Bool) (g:Nat) (s:Act):Act :=
 let f:=fun (b:Bool) (i:Nat) (v:Value) (s:Act)=>if b then s.put (some i) v else s
 f x 13 (.pointer (Az g)) (f (5<c) 88 u5 (f (4<c) 83 u4 (f (3<c) 76 u3 (f (2<c) 66 u2 (f (1<c) 65 u1 (f (0<c) 55 u0 s))))))
def ZcB (w:World) (x:Bool) (g:Nat) (W:World):Prop:=Bl w W∧(x=true→Zq W g∧w.heap.size≤g)
theorem ZcB.via {V:World} {x:Bool} (h:ZcB w x g W) (k:Bl W V):ZcB w x g V:=⟨Qc h.1 k,fun e=>⟨(h.2 e).1.kept k,(h.2 e).2⟩⟩
theorem ZcB.nn {x:Bool} (h:ZcB w x g W):ZcB w true W.heap.size (W.alloc (.cells #[I 0,I 0,I 0,I 0,I 0,I 0,I 0,I 0,I 0,I 0,I 0,I 0,I 0,.bool false] 136)):=⟨Qb h.1,fun _=>⟨Un W,h.1.size⟩⟩
section
variable {P:Program} {md:Region.Mode} {ops:Array Oper} {Q:Exit→Act→World→Prop} {S:World→Prop} {listed l:Array Bool} {a:Act} {w w7:World} {u0 u1 u2 u3 u4 u5 v:Value} {F c:Nat} {x:Bool} {o:Oper} {rs:List Nat}
def SkC (P:Program) (md:Region.Mode) (ops:Array Oper) (Q:Exit→Act→World→Prop) (S:World→Prop) (listed:Array Bool) (a:Act) (w7:World) (u0 u1 u2 u3 u4 u5:Value) (F c:Nat) (x:Bool):Prop := ∀ g W,ZcB w7 x g W→wpAnyH P md ops Q S F (laC c x listed) (aaC u0 u1 u2 u3 u4 u5 c x g a) W
def SkF (P:Program) (md:Region.Mode) (ops:Array Oper) (Q:Exit→Act→World→Prop) (S:World→Prop) (listed:Array Bool) (a:Act) (w7:World) (u0 u1 u2 u3 u4 u5 v:Value):Prop := ∀ g W,ZcB w7 true g W→wpAnyH P md ops Q S 1 ((laC 6 true listed).setIfInBounds 43 true) ((aaC u0 u1 u2 u3 u4 u5 6 true g a).put (some 89) v) W
theorem st_uC {L:Array Bool} {A:Act} (h:SkC P md ops Q S listed a w7 u0 u1 u2 u3 u4 u5 F c x) (d:ZcB w7 x g W) (b:laC c x listed=L:=by kernel_rfl) (hA:aaC u0 u1 u2 u3 u4 u5 c x g a=A:=by kernel_rfl):wpAnyH P md ops Q S F L A W:=by
 subst b hA;exact h _ _ d
theorem st_uF {L:Array Bool} {A:Act} (h:SkF P md ops Q S listed a w7 u0 u1 u2 u3 u4 u5 v) (c:ZcB w7 true g W) (b:(laC 6 true listed).setIfInBounds 43 true=L:=by kernel_rfl) (hA:(aaC u0 u1 u2 u3 u4 u5 6 true g a).put (some 89) v=A:=by kernel_rfl):wpAnyH P md ops Q S 1 L A W:=by
 subst b hA;exact h _ _ c
theorem st_nF (k:SkF P md ops Q S listed a w7 u0 u1 u2 u3 u4 u5 v) (h:SkF P md ops Q S listed a w7 u0 u1 u2 u3 u4 u5 v→wpAnyH P md ops Q S b listed a w):wpAnyH P md ops Q S b listed a w:=h k
theorem st_nC {G:Prop} (_:SkF P md ops Q S listed a w7 u0 u1 u2 u3 u4 u5 v) (F c:Nat) (x:Bool) (k:SkC P md ops Q S listed a w7 u0 u1 u2 u3 u4 u5 F c x) (h:SkC P md ops Q S listed a w7 u0 u1 u2 u3 u4 u5 F c x→G):G:=h k
theorem SmC {Z Y:Prop} (k:Z) (h:Z→Y:=by (intro z;simp only [laC,aaC,Act.put,Bool.false_eq_true,if_false,if_true,decide_true,decide_false,Nat.reduceLT];(try simp only [List.setIfInBounds_toArray,List.set_cons_zero,List.set_cons_succ]);exact z)):Y:=h k
theorem RaC (hs:AllReadyH P md ops Q S F listed a w rs) (c:ops[44]?=some o:=by rfl) (h:∀ K':Act→World→Prop,Shut (∀ a w,S w→(S w→wpAnyH P md ops Q S F (listed.setIfInBounds 44 true) a w)→K' a w)→if Region.wanted o (yielded ops a.tmps)=true then Oper.wp P o a w K' Q else K' (a.put o.dst undef) w:=by (intro d b;go_simp;exact b.out _ _ (HSXz.out _ hIz.nn.1) (fun _=>st_uC χ hIz.nn))):AllReadyH P md ops Q S F listed a w (44 :: rs):=AllReadyH.cons c h hs
theorem RcC (i:Nat) {f:FuncId} {args:Array Value} {r:Value} {l0:Array Bool} {a0:Act} (C:Calls P f args w fun e w'=>e=.returned r∧Bl w w') (k:SkC P md ops Q S l0 a0 w7 u0 u1 u2 u3 u4 u5 F c x) (h:∀ V,Bl w7 V→S V) (d:ZcB w7 x g w) (hs:AllReadyH P md ops Q S F listed a w rs) (l:ops[i]?=some o:=by rfl) (hgd:o.guard=none:=by rfl) (hrun:(execOp a.eval o).run P w=.ok (.enter f args) w:=by kernel_rfl) (hL:laC c x l0=listed.setIfInBounds i true:=by kernel_rfl) (hA:aaC u0 u1 u2 u3 u4 u5 c x g a0=a.put o.dst r:=by kernel_rfl):AllReadyH P md ops Q S F listed a w (i :: rs) :=
 AllReadyH.cons l (fun _ j=>Qp hgd f args hrun C (fun _ V ⟨e,b⟩=>⟨r,e,j.out _ _ (h V (d.via b).1) (fun _=>st_uC k (d.via b) hL hA)⟩)) hs
end
theorem comersOf_any (Wv Hv:Int) (a0 c0 mp:Option Addr) (zl a2 n N m mc:Nat) (kd:E4→Int) (L:List T3) (M:Nat→M6) (w:World)
  (CT:Hid (∀ V:World,Bl w V→Cl 51 #[.agg #[I Wv,I Hv,.slice a0 zl a2,.slice c0 n N]] V fun e w'=>∃ a9 c9,e=.returned (.slice a9 m c9)∧TRow w' a9 L∧Bl V w'))
  (CK:Hid (∀ (V:World) (p q r s:Int),Bl w V→Rt 125 #[.agg #[I Wv,I Hv,.slice a0 zl a2,.slice c0 n N],.agg #[I p,I q,I r,I s]] V (I (kd (p,q,r,s)))))
  (hM:MRowG w mp m M) (cv:∀ i,i<m→MOk1 L M i) (db:m=L.length) (hL:m≤256) (d9:∀ t∈L,(0≤t.1∧t.1≤8)∧(0≤t.2.1∧t.2.1≤8)∧(0≤t.2.2∧t.2.2≤3)) :
  Cl 55 #[.agg #[I Wv,I Hv,.slice a0 zl a2,.slice c0 n N],.slice mp m mc] w fun e w'=>∃ u,e=.returned u∧w'.ownsRow w.heap.size 136 14 u (cqs kd L M m).length (flatQ (cqs kd L M m))∧Bl w w':=by
 obtain ⟨dg,hi,dd,de,df⟩:=info_parts inf136;have HI:=H4 hi dd de df;have HR:Hid (MRowG w mp m M∧(∀ i,i<m→MOk1 L M i)∧m=L.length∧∀ t∈L,(0≤t.1∧t.1≤8)∧(0≤t.2.1∧t.2.1≤8)∧(0≤t.2.2∧t.2.2≤3)):=⟨hM,cv,db,d9⟩;clear hi dd de df hM cv db d9;go_enter Tryz.func55,Tryz.ntmps55;go_upto_region 2 with (go_at_call 51;refine (CT.out _ Θ).mono ?_;rintro e w1 ⟨a9,ah,rfl,cw,j⟩;have HW:Hid (TRow w1 a9 L∧Bl w w1∧(At w1 w.heap.size 0 (I Wv)∧At w1 w.heap.size 1 (I Hv)∧At w1 w.heap.size 2 (.slice a0 zl a2)∧At w1 w.heap.size 3 (.slice c0 n N))):=⟨cw,Qc β1 j,Qa j δ,Qa j δ,Qa j δ,Qa j δ⟩;clear cw j)
 obtain ⟨W0,hW0⟩:∃ W0,W0=w1:=⟨_,rfl⟩;have bb:=Hd hW0;clear hW0;go_wp2;go_loopg [6,7] m (fun gk s6 s7 b=>∃ (i:Nat) (u:Value),i≤m∧gk=m - i∧u=s6∧s7=I (i:Int)∧b.ownsRow W0.heap.size 136 14 u (cqs kd L M i).length (flatQ (cqs kd L M i))∧Bl w1 b)
 case atStart=>exact ⟨0,_,γ,rfl,rfl,rfl,by simpa [cqs,flatQ] using World.ownsRow_nil _ _ _ _,Qe _⟩
 case round =>
  obtain ⟨i,u,hi,rfl,rfl,rfl,hO,hB⟩:=hrel;have HJ:=H2 hO hB;clear hO hB;by_cases h1:i<m
  ·have i1:(i:Int)<(m:Int):=γ;have i0:(0:Int)≤(i:Int):=γ;have am:i<L.length:=by rw [← HR.out.2.2.1];exact h1
   obtain ⟨G,ea,t0,t1,t2⟩:=(HW.out.1.kept HJ.out.2) i am;subst ea;obtain ⟨x,y,c,ht⟩:∃ x y c,L[i]=(x,y,c):=⟨_,_,_,rfl⟩;obtain ⟨d,f,em,y0,y1,y2,y3,y4,y5⟩:=HR.out.1 i h1;subst em;obtain ⟨A,B,C,D,E,F,an⟩:∃ A B C D E F,M i=(A,B,C,D,E,F):=⟨_,_,_,_,_,_,rfl⟩;rw [ht] at t0 t1 t2;rw [an] at y0 y1 y2 y3 y4 y5;dsimp only at t0 t1 t2 y0 y1 y2 y3 y4 y5;have a7:=HR.out.2.2.2 _ (Lm am);rw [ht] at a7;dsimp only at a7;have U:Hid (L.getD i (0,0,0)=(x,y,c)∧M i=(A,B,C,D,E,F)∧mapM (A,B,C,D,E,F)=true∧((0≤x∧x≤8)∧(0≤y∧y≤8)∧(0≤c∧c≤3))):=⟨by rw [Qz L i am,ht],an,by rw [← an];exact (HR.out.2.1 i h1).1,a7⟩;have dz:=H6 y0 y1 y2 y3 y4 y5
   have ac:Hid (At w1 G (i*3) (I x)∧At w1 G (i*3+1) (I y)∧At w1 G (i*3+2) (I c)):=by
    obtain ⟨g9,e9,r0,r1,r2⟩:=HW.out.1 i am;simp only [Option.some.injEq,Addr.mk.injEq,and_true] at e9;subst e9;rw [ht] at r0 r1 r2;exact ⟨r0,r1,r2⟩
   have fg:=Bt ac.out.1;have fh:=Bt y0;have fm:=Bt HW.out.2.2.1;have zt:=Bt t0;clear ht an a7 y0 y1 y2 y3 y4 y5;have aq:Hid (∀ V:World,Cl 123 #[.agg #[I x,I y,I c]] V fun e w'=>∃ g,e=.returned (.slice (Az g) 3 3)∧V.heap.size≤g∧Twl w' g (ue0 x y c) (ue1 x y c) (ue2 x y c) (ue3 x y c) (ue4 x y c) (ue5 x y c) (ue6 x y c) (ue7 x y c) (ue8 x y c) (ue9 x y c) (ue10 x y c) (ue11 x y c)∧Bl V w'):=fun V=>Xs x y c V (by have:=U.out.2.2.2;omega) (by have:=U.out.2.2.2;omega) (by have:=U.out.2.2.2;omega) (by have:=U.out.2.2.2;omega) (by have:=U.out.2.2.2;omega) (by have:=U.out.2.2.2;omega);go_wp2_with (go_at_call 123;refine (aq.out _).mono ?_;rintro e w4 ⟨h,rfl,ee,cx,j⟩;have ab:Hid (E3 w4 h (x,y,c)∧Bl w1 w4∧w4.ownsRow W0.heap.size 136 14 u (cqk kd L M i 0).length (flatQ (cqk kd L M i 0))∧some h≠u.ownBlock):=⟨cx.e3,Qc HJ.out.2 j,by rw [cqk_zero];exact Qj HJ.out.1 j,fun e=>by have:=(HJ.out.1.lt h e.symm).2;omega⟩;clear ee cx j t0 t1 t2 zt)
   go_loopg [6,9] 3 (fun gk s6 s9 b=>∃ (k:Nat) (u:Value),k≤3∧gk=3 - k∧u=s6∧s9=I (k:Int)∧b.ownsRow W0.heap.size 136 14 u (cqk kd L M i k).length (flatQ (cqk kd L M i k))∧some h≠u.ownBlock∧E3 b h (x,y,c)∧Bl w1 b)
   case atStart=>exact ⟨0,u,γ,rfl,rfl,rfl,ab.out.2.2.1,ab.out.2.2.2,ab.out.1,ab.out.2.1⟩
   case round =>
    clear ab aq HJ;clear u;obtain ⟨k,u,hk,rfl,rfl,rfl,hO,da,co,cm⟩:=hrel;have Z:=H4 hO da co cm;clear hO da co cm;by_cases hk1:k<3
    ·have ik:(k:Int)<3:=γ;have ey:(0:Int)≤(k:Int):=γ;have t0:=Qa Z.out.2.2.2 ac.out.1;have t1:=Qa Z.out.2.2.2 ac.out.2.1;have t2:=Qa Z.out.2.2.2 ac.out.2.2;obtain ⟨m0,m1,m2,m3⟩:=Z.out.2.2.1 k hk1;obtain ⟨P,Q,R,T,hq⟩:∃ P Q R T,edg (x,y,c) k=(P,Q,R,T):=⟨_,_,_,_,rfl⟩;rw [hq] at m0 m1 m2 m3;dsimp only at m0 m1 m2 m3
     have bn:hasB x y c P Q R T=true:=by
      have h9:=Jc (x,y,c) k;rw [hq] at h9;exact h9
     have HQ:Hid (edg (x,y,c) k=(P,Q,R,T)∧hasT (x,y,c) (P,Q,R,T)=true):=⟨hq,by exact bn⟩;obtain ⟨ux,bt⟩:∃ u,u=acX x y c P Q R T:=⟨_,rfl⟩;obtain ⟨uy,bu⟩:∃ u,u=acY x y c P Q R T:=⟨_,rfl⟩;obtain ⟨uk,bs⟩:∃ u,u=acK x y c P Q R T:=⟨_,rfl⟩
     have CA:Hid (∀ V:World,Rt 124 #[.agg #[I x,I y,I c],.agg #[I P,I Q,I R,I T]] V (.tuple #[.agg #[I ux,I uy,I uk],.bool true])):=fun V=>by
      rw [bt,bu,bs];exact Vm x y c P Q R T V (by have:=U.out.2.2.2;simp [triB];omega) bn
     have HU:Hid (acr (x,y,c) (P,Q,R,T)=(ux,uy,uk)):=by
      show acr (x,y,c) (P,Q,R,T)=(ux,uy,uk)
      rw [bt,bu,bs];rfl
     have zt:=Bt t0;have ze:=Bt m0;clear hq bn bt bu bs;go_upto_region 10 with fail
     go_cut [10,11] (fun sa sb b=>∃ bc:Nat,sa=.pointer (Az bc)∧sb=.bool true∧Tr b bc ux uy uk∧Bl wr b)
     case first =>
      go_region_held3 (fun w'=>At w' G (i*3) (I x)∧At w' G (i*3+1) (I y)∧At w' G (i*3+2) (I c)∧At w' h (k*4) (I P)∧At w' h (k*4+1) (I Q)∧At w' h (k*4+2) (I R)∧At w' h (k*4+3) (I T))
       ((refine ⟨?_, ?_, ?_, ?_, ?_, ?_, ?_⟩ <;> (repeat' (first | (with_reducible assumption) | (with_reducible refine Xh ?_ ?_) | (dsimp only;omega) | (simp [go_sem];done) | (with_reducible refine Qk ?_) | (with_reducible refine Qq ?_)))))
       ((go_at_call 124;refine (CA.out _).mono ?_;rintro e w8 ⟨rfl,j⟩;have bw:At w8 G (i*3) (I x):=Qa j ζ;have en:At w8 G (i*3+1) (I y):=Qa j ζ;have eo:At w8 G (i*3+2) (I c):=Qa j ζ;have bv:At w8 h (k*4) (I P):=Qa j ζ;have ei:At w8 h (k*4+1) (I Q):=Qa j ζ;have ej:At w8 h (k*4+2) (I R):=Qa j ζ;have el:At w8 h (k*4+3) (I T):=Qa j ζ;(first | (have af:=fresh_a (g:=wr.heap.size) rfl j;obtain ⟨cd,ce,cg,ch,ci,cj,cl⟩:=af) | (have af:=fresh_d (g:=wr.heap.size) rfl j;obtain ⟨cd,ce,cg,ch,ci,cj,cl⟩:=af) | (have af:=fresh_dd (g:=wr.heap.size) rfl j;obtain ⟨cd,ce,cg,ch,ci,cj,cl⟩:=af) | skip);have dc:Bl wr w8:=(by with_reducible (first | exact j | exact Jb j | exact Jb (Jb j) | exact Qc β1 j | exact Qc (Qg β1) j | exact Qc (Qb (Qg (Qe _))) j | exact Qc (Qg (Qb (Qg (Qe _)))) j));have e6:=Hd dc;have fk:=Bt bw;have fl:=Bt bv;clear j dc))
      all_goals
       go_wp2;go_meet
       case rel =>
        refine ⟨_,rfl,rfl, ?_, ?_⟩
        ·first | (simp [Tr,go_sem];done) | (simp [Tr,go_sem, *];done)
        ·with_reducible repeat' (first | exact e6.out | refine Qh ?_ ?_ | refine Qb ?_ | refine Qg ?_)
         all_goals (first | omega | (dsimp only;omega) | (simp;done))
     case rest =>
      obtain ⟨bc,rfl,rfl,e8,cn⟩:=hcut;have b8:=Hd cn;obtain ⟨n0,n1,n2⟩:=e8;have zn:=Bt n0;clear cn CA t0 t1 t2 m0 m1 m2 m3 zt ze;obtain ⟨pj,bq⟩:∃ p,p=plc L (ux,uy,uk):=⟨_,rfl⟩
      have ca:Hid (∀ V:World,Bl w1 V→Rt 53 #[.slice (Az G) m ah,.agg #[I ux,I uy,I uk]] V (I pj)):=fun V hV=>by
       have:=Xp (Az G) ah L ux uy uk V (HW.out.1.kept hV) (by rw [← HR.out.2.2.1];exact hL);rw [← bq,← HR.out.2.2.1] at this;exact this
      have b9:=Hd bq;clear bq;go_upto_region 12 with (go_at_call 53;refine (ca.out _ (Qc Z.out.2.2.2 b8.out)).mono ?_;rintro e ep ⟨rfl,j⟩;have ar:=Hd (Qc b8.out j);clear j n0 n1 n2 zn)
      obtain ⟨W7,eb⟩:∃ x,x=ep:=⟨_,rfl⟩;subst eb;have aa:=Hd ar.out;clear ar ca b8;obtain ⟨P0,bh⟩:∃ z,z=dot A B P Q+E:=⟨_,rfl⟩;obtain ⟨P1,bi⟩:∃ z,z=dot C D P Q+F:=⟨_,rfl⟩;obtain ⟨P2,bj⟩:∃ z,z=dot A B R T+E:=⟨_,rfl⟩;obtain ⟨P3,bm⟩:∃ z,z=dot C D R T+F:=⟨_,rfl⟩;have av:=Qbq HQ.out.2 U.out.2.2.2;dsimp only at av
      have b5:Hid (∀ V:World,Rt 130 #[.agg #[I A,I B,I C,I D,I E,I F],.agg #[I P,I Q]] V (.agg #[I P0,I P1])):=fun V=>by
       rw [bh,bi];refine (Xo A B C D E F P Q V (Ju U.out.2.2.1).1 (Ju U.out.2.2.1).2.1.1 (Ju U.out.2.2.1).2.1.2 γ γ γ γ).mono ?_;rintro e w' ⟨rfl,o1,o2,o3,rfl⟩;exact ⟨rfl,Qb β2⟩
      have b6:Hid (∀ V:World,Rt 130 #[.agg #[I A,I B,I C,I D,I E,I F],.agg #[I R,I T]] V (.agg #[I P2,I P3])):=fun V=>by
       rw [bj,bm];refine (Xo A B C D E F R T V (Ju U.out.2.2.1).1 (Ju U.out.2.2.1).2.1.1 (Ju U.out.2.2.1).2.1.2 γ γ γ γ).mono ?_;rintro e w' ⟨rfl,o1,o2,o3,rfl⟩;exact ⟨rfl,Qb β2⟩
      obtain ⟨E0,be⟩:∃ z,z=eA P0 P1 P2 P3:=⟨_,rfl⟩;obtain ⟨E1,bf⟩:∃ z,z=eB P0 P1 P2 P3:=⟨_,rfl⟩;obtain ⟨E2,bg⟩:∃ z,z=eC P0 P1 P2 P3:=⟨_,rfl⟩;obtain ⟨l,ae⟩:∃ z,z=eD P0 P1 P2 P3:=⟨_,rfl⟩
      have CE:Hid (∀ V:World,Rt 131 #[.agg #[I P0,I P1],.agg #[I P2,I P3]] V (.agg #[I E0,I E1,I E2,I l])):=fun V=>by
       rw [be,bf,bg,ae];refine (edgeOf_num P0 P1 P2 P3 V).mono ?_;rintro e w' ⟨rfl,o1,o2,o3,o4,o5,rfl⟩;exact ⟨rfl,Qb β4⟩
      have dx:Hid (bro (M i) (edg (L.getD i (0,0,0)) k)=(E0,E1,E2,l)):=by
       show bro (M i) (edg (L.getD i (0,0,0)) k)=(E0,E1,E2,l)
       rw [U.out.1,U.out.2.1,HQ.out.1,bro_num,← bh,← bi,← bj,← bm,← be,← bf,← bg,← ae]
      obtain ⟨X,Y,Kv,bo⟩:∃ X Y K,mvt (A,B,C,D,E,F) (x,y,c)=(X,Y,K):=⟨_,_,_,rfl⟩
      have CM:Hid (∀ V:World,Rt 54 #[.agg #[I A,I B,I C,I D,I E,I F],.agg #[I x,I y,I c]] V (.agg #[I X,I Y,I Kv])):=fun V=>by
       have:=Yh (A,B,C,D,E,F) (x,y,c) V U.out.2.2.1 U.out.2.2.2;rw [bo] at this;exact this
      have e4:Hid (Plx L M i=(X,Y,Kv)):=by
       show Plx L M i=(X,Y,Kv)
       unfold Plx;rw [U.out.1,U.out.2.1];exact bo
      obtain ⟨z,hz⟩:∃ z,z=kd (P,Q,R,T):=⟨_,rfl⟩
      have az:Hid (∀ V:World,Bl W7 V→Rt 125 #[.agg #[I Wv,I Hv,.slice a0 zl a2,.slice c0 n N],.agg #[I P,I Q,I R,I T]] V (I z)):=fun V hV=>by
       rw [hz];exact CK.out V P Q R T (Qc HW.out.2.1 (Qc Z.out.2.2.2 (Qc aa.out hV)))
      have HZ:Hid (kd (edg (L.getD i (0,0,0)) k)=z):=by
       show kd (edg (L.getD i (0,0,0)) k)=z
       rw [U.out.1,HQ.out.1,hz]
      obtain ⟨tb,br⟩:∃ tb,tb=tov (A,B,C,D,E,F):=⟨_,rfl⟩
      have b7:Hid (∀ V:World,Rt 74 #[.agg #[I A,I B,I C,I D,I E,I F]] V (.bool tb)):=fun V=>by
       rw [br];exact turnsOver_any A B C D E F V U.out.2.2.1
      have e7:Hid (tov (M i)=tb):=by
       show tov (M i)=tb
       rw [U.out.2.1,br]
      have HSXz:Hid (∀ b:World,Bl W7 b→(At b d (f+i*6) (I A)∧At b d (f+i*6+1) (I B)∧At b d (f+i*6+2) (I C)∧At b d (f+i*6+3) (I D)∧At b d (f+i*6+4) (I E)∧At b d (f+i*6+5) (I F)∧At b h (k*4) (I P)∧At b h (k*4+1) (I Q)∧At b h (k*4+2) (I R)∧At b h (k*4+3) (I T)∧At b G (i*3) (I x)∧At b G (i*3+1) (I y)∧At b G (i*3+2) (I c)∧At b w.heap.size 0 (I Wv)∧At b w.heap.size 1 (I Hv)∧At b w.heap.size 2 (.slice a0 zl a2)∧At b w.heap.size 3 (.slice c0 n N))):=fun b hx=>by
       have h7:=Qc aa.out hx;have h4:=Qc Z.out.2.2.2 h7;have h0:=Qc HW.out.2.1 h4;obtain ⟨y0,y1,y2,y3,y4,y5⟩:=dz.out;obtain ⟨t0,t1,t2⟩:=ac.out;obtain ⟨s0,s1,s2,s3⟩:=HW.out.2.2;obtain ⟨m0,m1,m2,m3⟩:=Z.out.2.2.1 k hk1;rw [HQ.out.1] at m0 m1 m2 m3;exact ⟨Qa h0 y0,Qa h0 y1,Qa h0 y2,Qa h0 y3,Qa h0 y4,Qa h0 y5,Qa h7 m0,Qa h7 m1,Qa h7 m2,Qa h7 m3,Qa h4 t0,Qa h4 t1,Qa h4 t2,Qa h4 s0,Qa h4 s1,Qa h4 s2,Qa h4 s3⟩
      clear bh bi bj bm be bf bg ae bo hz br av;go_cut [13] (fun ap b=>∃ O:Nat,ap=.pointer (Az O)∧Cb b O E0 E1 E2 l (i:Int) X Y Kv pj 0 0 0 z tb∧(∀ q,Fn b O q)∧Bl wr b∧W7.heap.size≤O)
      case first =>
       refine wp_region_held_drew (S:=fun w'=>At w' d (f+i*6) (I A)∧At w' d (f+i*6+1) (I B)∧At w' d (f+i*6+2) (I C)∧At w' d (f+i*6+3) (I D)∧At w' d (f+i*6+4) (I E)∧At w' d (f+i*6+5) (I F)∧At w' h (k*4) (I P)∧At w' h (k*4+1) (I Q)∧At w' h (k*4+2) (I R)∧At w' h (k*4+3) (I T)∧At w' G (i*3) (I x)∧At w' G (i*3+1) (I y)∧At w' G (i*3+2) (I c)∧At w' w.heap.size 0 (I Wv)∧At w' w.heap.size 1 (I Hv)∧At w' w.heap.size 2 (.slice a0 zl a2)∧At w' w.heap.size 3 (.slice c0 n N)) η (HSXz.out _ (Qg (Qe _))) (fun a6=>?_);refine Tk 0 (.slice (Ad d f) m mc) ?_;refine Tk 1 (I (i:Int)) ?_;refine Tk 2 (.pointer (Ad d (f+i*6))) ?_;refine Tk 3 (.agg #[I A,I B,I C,I D,I E,I F]) ?_;refine Tk 4 (.slice (Az h) 3 3) ?_;refine Tk 5 (I (k:Int)) ?_;refine Tk 6 (.pointer (Ad h (k*4))) ?_;refine Tk 7 (.pointer (Ad h (k*4))) ?_;refine Tk 8 (.agg #[I P,I Q]) ?_;refine Tk 10 (.slice (Ad d f) m mc) ?_;refine Tk 11 (I (i:Int)) ?_;refine Tk 12 (.pointer (Ad d (f+i*6))) ?_;refine Tk 13 (.agg #[I A,I B,I C,I D,I E,I F]) ?_;refine Tk 14 (.slice (Az h) 3 3) ?_;refine Tk 15 (I (k:Int)) ?_;refine Tk 16 (.pointer (Ad h (k*4))) ?_;refine Tk 17 (.pointer (Ad h (k*4+2))) ?_;refine Tk 18 (.agg #[I R,I T]) ?_;refine Tk 21 (I (i:Int)) ?_;refine Tk 22 (.slice (Ad d f) m mc) ?_;refine Tk 23 (I (i:Int)) ?_;refine Tk 24 (.pointer (Ad d (f+i*6))) ?_;refine Tk 25 (.agg #[I A,I B,I C,I D,I E,I F]) ?_;refine Tk 26 (.slice (Az G) m ah) ?_;refine Tk 27 (I (i:Int)) ?_;refine Tk 28 (.pointer (Ad G (i*3))) ?_;refine Tk 29 (.agg #[I x,I y,I c]) ?_;refine Tk 31 (I pj) ?_;refine Tk 32 (.agg #[I Wv,I Hv,.slice a0 zl a2,.slice c0 n N]) ?_;refine Tk 33 (.slice (Az h) 3 3) ?_;refine Tk 34 (I (k:Int)) ?_;refine Tk 35 (.pointer (Ad h (k*4))) ?_;refine Tk 36 (.agg #[I P,I Q,I R,I T]) ?_;refine Tk 38 (.slice (Ad d f) m mc) ?_;refine Tk 39 (I (i:Int)) ?_;refine Tk 40 (.pointer (Ad d (f+i*6))) ?_;refine Tk 41 (.agg #[I A,I B,I C,I D,I E,I F]) ?_;refine st_nF (w7:=W7) (u0:=.agg #[I P0,I P1]) (u1:=.agg #[I P2,I P3]) (u2:=.agg #[I E0,I E1,I E2,I l]) (u3:=.agg #[I X,I Y,I Kv]) (u4:=I z) (u5:=.bool tb) (v:=.agg #[I E0,I E1,I E2,I l,I (i:Int),I X,I Y,I Kv,I pj,I 0,I 0,I 0,I z,.bool tb]) (fun g W hIz=>?_) (fun HF=>?_)
       ·refine SmC ?_;obtain ⟨⟨s0,s1,s2,s3,s4,s5,s6,s7,s8,s9,fa,fb,fc,ap,sf⟩,Zl⟩:=hIz.2 rfl;have ct:Bl W7 W:=hIz.1;refine Rd 45 rfl (fun K hK=>?_);go_simp;refine hK.out _ _ (HSXz.out _ ?_) (fun cr=>?_)
        ·with_reducible repeat (first | exact ct | refine Jg ?_ ?_)
         all_goals first | omega | (dsimp only;omega)
        clear hK K;try simp only [Ap]
        refine wpAnyH_done η ?_ _;go_wp2;go_meet
        case rel =>
         refine ⟨_,rfl, ?_, ?_, ?_,Zl⟩
         ·constructor <;> first | (simp [go_sem];done) | (simp [go_sem, *];done)
         ·intro q;first | (simp;done) | (simp [sf];done) | (rw [Fz,Fz,Fz,Fz,Fz,Fz,Fz,Fz,Fz,Fz,Fz,Fz,Fz,Fz];exact sf q)
         ·refine Qc aa.out ?_;with_reducible repeat (first | exact ct | refine Jg ?_ ?_)
          all_goals first | omega | (dsimp only;omega)
       refine st_nC HF 2 6 true (fun g W hIz=>?_) (fun dw=>?_)
       ·refine SmC ?_;have a6:=HSXz.out _ hIz.1;refine Tk 43 (.agg #[I E0,I E1,I E2,I l,I (i:Int),I X,I Y,I Kv,I pj,I 0,I 0,I 0,I z,.bool tb]) ?_;exact st_uF HF hIz
       refine st_nC HF 3 6 false (fun g W hIz=>?_) (fun dv=>?_)
       ·refine SmC ?_;have a6:=HSXz.out _ hIz.1;refine Tk 43 (.agg #[I E0,I E1,I E2,I l,I (i:Int),I X,I Y,I Kv,I pj,I 0,I 0,I 0,I z,.bool tb]) ?_;refine Rd 44 rfl (fun K hK=>?_);go_simp;exact hK.out _ _ (HSXz.out _ hIz.nn.1) (fun _=>st_uF HF hIz.nn)
       refine st_nC HF 3 5 true (fun g W hIz=>?_) (fun du=>?_)
       ·refine SmC ?_;exact (Re (RcC 42 (b7.out _) dw HSXz.out hIz AllReadyH.nil))
       refine st_nC HF 4 5 false (fun g W hIz=>?_) (fun dt=>?_)
       ·refine SmC ?_;exact (Re (RcC 42 (b7.out _) dv HSXz.out hIz (RaC AllReadyH.nil)))
       refine st_nC HF 4 4 true (fun g W hIz=>?_) (fun ds=>?_)
       ·refine SmC ?_;exact (Re (RcC 37 (az.out _ hIz.1) du HSXz.out hIz AllReadyH.nil))
       refine st_nC HF 5 4 false (fun g W hIz=>?_) (fun dp=>?_)
       ·refine SmC ?_;exact (Re (RcC 37 (az.out _ hIz.1) dt HSXz.out hIz (RaC AllReadyH.nil)))
       refine st_nC HF 5 3 true (fun g W hIz=>?_) (fun dn=>?_)
       ·refine SmC ?_;exact (Re (RcC 30 (CM.out _) ds HSXz.out hIz AllReadyH.nil))
       refine st_nC HF 6 3 false (fun g W hIz=>?_) (fun dm=>?_)
       ·refine SmC ?_;exact (Re (RcC 30 (CM.out _) dp HSXz.out hIz (RaC AllReadyH.nil)))
       refine st_nC HF 6 2 true (fun g W hIz=>?_) (fun dl=>?_)
       ·refine SmC ?_;exact (Re (RcC 20 (CE.out _) dn HSXz.out hIz AllReadyH.nil))
       refine st_nC HF 7 2 false (fun g W hIz=>?_) (fun dk=>?_)
       ·refine SmC ?_;exact (Re (RcC 20 (CE.out _) dm HSXz.out hIz (RaC AllReadyH.nil)))
       refine st_nC HF 7 1 true (fun g W hIz=>?_) (fun dj=>?_)
       ·refine SmC ?_;exact (Re (RcC 19 (b6.out _) dl HSXz.out hIz AllReadyH.nil))
       refine st_nC HF 8 1 false (fun g W hIz=>?_) (fun di=>?_)
       ·refine SmC ?_;exact (Re (RcC 19 (b6.out _) dk HSXz.out hIz (RaC AllReadyH.nil)))
       refine st_nC HF 8 0 true (fun g W hIz=>?_) (fun ew=>?_)
       ·refine SmC ?_;exact (Re (RcC 9 (b5.out _) dj HSXz.out hIz AllReadyH.nil))
       have hIz:ZcB W7 false 0 W7.drew:=⟨Qg (Qe _),nofun⟩;exact Re (RcC 9 (b5.out _) di HSXz.out hIz (RaC AllReadyH.nil))
      case rest =>
       obtain ⟨O,rfl,ai,cp,au,ax⟩:=hcut;obtain ⟨W8,ec⟩:∃ x,x=wc:=⟨_,rfl⟩;subst ec;have H8:=H4 ai cp au ax;clear ai cp au ax HSXz b5 b6 CE CM az b7;obtain ⟨o0,o1,o2,bp⟩:∃ o0 o1 o2,(if 0≤pj then Plx L M pj.toNat else (0,0,0))=(o0,o1,o2):=⟨_,_,_,rfl⟩;have cc:=Hd bp
       have dy:Hid (cq kd L M i k=⟨(E0,E1,E2,l),i,(X,Y,Kv),pj,(o0,o1,o2),z,tb⟩):=by
        show cq kd L M i k=⟨(E0,E1,E2,l),i,(X,Y,Kv),pj,(o0,o1,o2),z,tb⟩
        unfold cq
        have eh:plc L (acr (L.getD i (0,0,0)) (edg (L.getD i (0,0,0)) k))=pj:=by
         rw [U.out.1,HQ.out.1,HU.out,b9.out]
        rw [dx.out,e4.out,eh,bp,HZ.out,e7.out]
       clear bp;go_upto_if 91 with fail
       go_cut [13] (fun ap b=>ap=.pointer (Az O)∧Cb b O E0 E1 E2 l (i:Int) X Y Kv pj o0 o1 o2 z tb∧Bl wr b)
       case first =>
        by_cases hp:0≤pj
        ·have ef:pj ≥ 0:=hp
         have ag:(ux,uy,uk)∈L:=by
          have h9:=b9.out;unfold plc at h9;split at h9
          ·assumption
          ·omega
         obtain ⟨J,hJ⟩:∃ J,J=L.idxOf (ux,uy,uk):=⟨_,rfl⟩;have aj:J<L.length:=by rw [hJ];exact List.idxOf_lt_length_of_mem ag
         have eg:pj=(J:Int):=by
          rw [b9.out];unfold plc;rw [if_pos ag,hJ]
         have ak:L[J]=(ux,uy,uk):=by
          simp only [hJ];exact List.getElem_idxOf _
         subst eg;have cu:J<m:=by rw [HR.out.2.2.1];exact aj
         obtain ⟨ex,ez,em,y0,y1,y2,y3,y4,y5⟩:=HR.out.1 J cu;simp only [Option.some.injEq,Addr.mk.injEq,and_true] at em;obtain ⟨rfl,rfl⟩:=em;obtain ⟨A',B',C',D',E',F',ao⟩:∃ A B C D E F,M J=(A,B,C,D,E,F):=⟨_,_,_,_,_,_,rfl⟩;rw [ao] at y0 y1 y2 y3 y4 y5;dsimp only at y0 y1 y2 y3 y4 y5;obtain ⟨g9,e9,r0,r1,r2⟩:=HW.out.1 J aj;simp only [Option.some.injEq,Addr.mk.injEq,and_true] at e9;subst e9;rw [ak] at r0 r1 r2;dsimp only at r0 r1 r2
         have dh:Hid (∀ V:World,Rt 54 #[.agg #[I A',I B',I C',I D',I E',I F'],.agg #[I ux,I uy,I uk]] V (.agg #[I o0,I o1,I o2])):=fun V=>by
          have h9:=HR.out.2.1 J cu;have a7:=HR.out.2.2.2 _ (Lm aj);rw [ak] at a7;have:=Yh (A',B',C',D',E',F') (ux,uy,uk) V (by rw [← ao];exact h9.1) a7
          have e1:mvt (A',B',C',D',E',F') (ux,uy,uk)=(o0,o1,o2):=by
           have h8:=cc.out;rw [if_pos hp,Int.toNat_natCast] at h8;unfold Plx at h8;rw [Qz L J aj,ak,ao] at h8;exact h8
          rw [e1] at this;exact this
         have ba:Hid (∀ b:World,Bl W8 b→(At b d (f+J*6) (I A')∧At b d (f+J*6+1) (I B')∧At b d (f+J*6+2) (I C')∧At b d (f+J*6+3) (I D')∧At b d (f+J*6+4) (I E')∧At b d (f+J*6+5) (I F')∧At b G (J*3) (I ux)∧At b G (J*3+1) (I uy)∧At b G (J*3+2) (I uk))):=fun b hx=>by
          have h7:=Qc H8.out.2.2.1 hx;have h4:=Qc Z.out.2.2.2 h7;have h0:=Qc HW.out.2.1 h4;exact ⟨Qa h0 y0,Qa h0 y1,Qa h0 y2,Qa h0 y3,Qa h0 y4,Qa h0 y5,Qa h4 r0,Qa h4 r1,Qa h4 r2⟩
         have j1:(J:Int)<(m:Int):=γ;have j0:(0:Int)≤(J:Int):=γ;have eu:G<W8.heap.size:=Nl (bk r0) (Nt Z.out.2.2.2.size H8.out.2.2.1.size);have et:W7.heap.size≤O:=H8.out.2.2.2;have er:=Bt H8.out.1.f0;have fe:w1.heap.size≤W7.heap.size:=Nt Z.out.2.2.2.size aa.out.size;have ff:wr.heap.size≤W7.heap.size:=aa.out.size;have fi:=Bt r0;have fj:=Bt y0;clear hJ ag ak ao y0 y1 y2 y3 y4 y5 r0 r1 r2 hp;go_upto_region 14 with fail
         refine wp_region_held_drew (S:=fun w'=>At w' d (f+J*6) (I A')∧At w' d (f+J*6+1) (I B')∧At w' d (f+J*6+2) (I C')∧At w' d (f+J*6+3) (I D')∧At w' d (f+J*6+4) (I E')∧At w' d (f+J*6+5) (I F')∧At w' G (J*3) (I ux)∧At w' G (J*3+1) (I uy)∧At w' G (J*3+2) (I uk)) η (ba.out _ (Qg (Qe _))) (fun a6=>?_);refine Tk 0 (.slice (Ad d f) m mc) ?_;refine Tk 1 (I (J:Int)) ?_;refine Tk 2 (.pointer (Ad d (f+J*6))) ?_;refine Tk 3 (.agg #[I A',I B',I C',I D',I E',I F']) ?_;refine Tk 4 (.slice (Az G) m ah) ?_;refine Tk 5 (I (J:Int)) ?_;refine Tk 6 (.pointer (Ad G (J*3))) ?_;refine Tk 7 (.agg #[I ux,I uy,I uk]) ?_;refine Rd 8 rfl (fun K hK=>?_);refine Qp Ω 54 #[.agg #[I A',I B',I C',I D',I E',I F'],.agg #[I ux,I uy,I uk]] η (dh.out _) ?_;rintro e y8 ⟨rfl,cy⟩;refine ⟨_,rfl, ?_⟩;have ad:Hid (Bl W8 y8):=Qc (Qg (Qe _)) cy;clear cy;refine hK.out _ _ (ba.out _ ad.out) (fun cr=>?_);clear hK K;try simp only [Ap]
         refine Tk 9 (.pointer (Ad O 9)) ?_;obtain ⟨c0,c1,c2,c3,c4,c5,c6,c7,c8,c9,c10,c11,c12,c13⟩:=H8.out.1.kept ad.out;have cf:∀ q,Fn y8 O q:=fun q=>(Fo (a:=⟨O,q,none⟩) (ad.out.block O er)).trans (H8.out.2.1 q);refine Rd 10 rfl (fun K hK=>?_);go_simp;refine hK.out _ _ ?_ (fun cr=>?_)
         ·obtain ⟨d0,d1,d2,d3,d4,d5,d6,d7,d8⟩:=ba.out _ ad.out;refine ⟨?_, ?_, ?_, ?_, ?_, ?_, ?_, ?_, ?_⟩ <;> (repeat (refine (World.cell?_setCell_far _ _ _ _ θ).trans ?_)) <;> assumption
         clear hK K;try simp only [Ap]
         refine wpAnyH_done η ?_ _;go_wp2;go_meet
         case rel =>
          refine ⟨rfl, ?_, ?_⟩
          ·constructor <;> first | (simp [go_sem, *];done) | (simp [go_sem];done)
          ·have h9:=Qc H8.out.2.2.1 ad.out;with_reducible repeat (first | exact h9 | refine Qh ?_ ?_)
           all_goals (dsimp only;omega)
        ·have ef:¬ pj ≥ 0:=γ
         have e5:Hid (o0=0∧o1=0∧o2=0):=by
          have h8:=cc.out;rw [if_neg hp] at h8;simp only [Prod.mk.injEq] at h8;obtain ⟨rfl,rfl,rfl⟩:=h8;exact ⟨rfl,rfl,rfl⟩
         clear hp;go_wp2;go_meet
         case rel =>
          refine ⟨rfl, ?_,H8.out.2.2.1⟩;obtain ⟨e0,e1,e2⟩:=e5.out;rw [e0,e1,e2];exact H8.out.1
       case rest =>
        obtain ⟨rfl,ai,a8⟩:=hcut;obtain ⟨W9,ed⟩:∃ x,x=wc:=⟨_,rfl⟩;subst ed;have H9:=H3 a8 (Qj Z.out.1 a8) (Z.out.2.2.1.kept a8);obtain ⟨c0,c1,c2,c3,c4,c5,c6,c7,c8,c9,c10,c11,c12,c13⟩:=ai;have z9:=Bt c0
        have cb:Hid ((cqk kd L M i k).length≤1000):=by
         show (cqk kd L M i k).length≤1000
         rw [cqk_len];omega
        clear a8;go_wp2_with (at_builtin;refine wpList_append_own_at _ rfl (.tmp 102) (.tmp 104) 131 rfl W0.heap.size 136 dg (.agg #[I 0,I 0,I 0,I 0,I 0,I 0,I 0,I 0,I 0,I 0,I 0,I 0,I 0,.bool false]) 14 112 Tryz.underlying131 HI.out.1 HI.out.2.1 HI.out.2.2.1 HI.out.2.2.2 rfl ψ u (cqk kd L M i k).length (flatQ (cqk kd L M i k)) rfl (Qj H9.out.2.1 β1) ⟨W9.heap.size,0,none⟩ 1 1 [I E0,I E1,I E2,I l,I (i:Int),I X,I Y,I Kv,I pj,I o0,I o1,I o2,I z,.bool tb] rfl rfl (cell_14_new _ _ _ _ _ _ _ _ _ _ _ _ _ _ _ _) (by intro q hq;simp at hq;rcases hq with rfl | rfl | rfl | rfl | rfl | rfl | rfl | rfl | rfl | rfl | rfl | rfl | rfl | rfl <;> rfl) (by have:=cb.out;unfold maxLen;omega) (by have:=cb.out;omega) (by have h1:=Z.out.2.2.2.size;have h2:=H9.out.1.size;have h3:W0.heap.size=w1.heap.size:=(by rw [bb.out]);simp;omega) ?growS)
        case growS =>
         intro v' bz ay H _ aw
         have HN:Hid (bz.ownsRow W0.heap.size 136 14 v' (cqk kd L M i (k+1)).length (flatQ (cqk kd L M i (k+1)))∧some h≠v'.ownBlock∧E3 bz h (x,y,c)∧Bl w1 bz):=by
          have es:h<W9.heap.size:=bk (H9.out.2.2 0 γ).1;have cz:Bl w1 (W9.alloc (.cells #[I E0,I E1,I E2,I l,I (i:Int),I X,I Y,I Kv,I pj,I o0,I o1,I o2,I z,.bool tb] 136)):=Qb (Qc Z.out.2.2.2 H9.out.1);refine ⟨?_,fun e=>?_,fun q hq=>?_,cz.grown H cz.size (fun q hq=>by have:=Qw Z.out.1 q hq;rw [bb.out] at this;exact this)⟩
          ·rw [cqk_succ,List.length_append,flatQ_add,dy.out];exact ay
          ·rcases aw with h9 | h9
           ·rw [h9] at e;exact Z.out.2.1 e
           ·rw [h9] at e;simp at e;omega
          ·obtain ⟨m0,m1,m2,m3⟩:=(H9.out.2.2.kept (Qb (o:=.cells #[I E0,I E1,I E2,I l,I (i:Int),I X,I Y,I Kv,I pj,I o0,I o1,I o2,I z,.bool tb] 136) (Qe _))) q hq;exact ⟨H.cell m0 Z.out.2.1,H.cell m1 Z.out.2.1,H.cell m2 Z.out.2.1,H.cell m3 Z.out.2.1⟩
         clear ay H aw;go_wp2;go_roundg (3 - (k+1))
         case measure=>omega
         case rel=>exact ⟨k+1,v',γ,rfl,rfl,σ,HN.out.1,HN.out.2.1,HN.out.2.2.1,HN.out.2.2.2⟩
    ·obtain rfl:k=3:=γ
     have HF:Hid (wr.ownsRow W0.heap.size 136 14 u (cqs kd L M (i+1)).length (flatQ (cqs kd L M (i+1)))):=by
      show wr.ownsRow W0.heap.size 136 14 u (cqs kd L M (i+1)).length (flatQ (cqs kd L M (i+1)))
      rw [← cqk_full];exact Z.out.1
     go_wp2;go_roundg (m - (i+1))
     case measure=>omega
     case rel=>exact ⟨i+1,u,γ,rfl,rfl,σ,HF.out,Z.out.2.2.2⟩
  ·have i1:¬ (i:Int)<(m:Int):=γ;obtain rfl:i=m:=γ;go_wp2;go_ret;exact ⟨u,rfl,Vn HJ.out.1 (by rw [bb.out];exact HW.out.2.1.size),Qc HW.out.2.1 HJ.out.2⟩
def Cq.fo (x:Cq):Bool:=foB x.j (sameT x.o.1 x.o.2.1 x.o.2.2 x.p.1 x.p.2.1 x.p.2.2)
def Cq.go (x:Cq):Bool:=goB x.j (sameT x.o.1 x.o.2.1 x.o.2.2 x.p.1 x.p.2.1 x.p.2.2)
def misD (h:Nat→Int) (x:Cq):Bool:=x.fo && mfB x.k x.tv (h x.i) (h x.j.toNat)
def clD (h:Nat→Int) (x y:Cq):Int :=
 if x.go=true∧y.go=true then (if h x.i<h y.i∧h y.j.toNat<h x.j.toNat then 1 else 0)
 else if x.fo=true∧y.go=true then (if btw (h y.i) (h x.i) (h x.j.toNat)=true then 2 else 0)
 else if x.fo=true∧y.fo=true then (if x.i≠y.j.toNat∧btw (h y.i) (h x.i) (h x.j.toNat)≠btw (h y.j.toNat) (h x.i) (h x.j.toNat) then 3 else 0)
 else 0
def vQ (x:Cq):Value:=.agg #[I x.e.1,I x.e.2.1,I x.e.2.2.1,I x.e.2.2.2,I (x.i:Int),I x.p.1,I x.p.2.1,I x.p.2.2,I x.j,I x.o.1,I x.o.2.1,I x.o.2.2,I x.k,.bool x.tv]
def CqOk (N:Nat) (x:Cq):Prop:=x.i<N∧(x.j<0∨∃ J:Nat,J<N∧x.j=(J:Int))
theorem Qba (x:Cq) (f i N e:Nat) (h:Nat→Int) (w:World) (o:CqOk N x) (m:Hr w f i N h) (h0:∀ q,q<N→0≤h q):Rt 57 #[vQ x,.slice (Ad f i) N e] w (.bool (misD h x)):=by
 obtain ⟨⟨e0,e1,e2,e3⟩,j,⟨b,c,d⟩,l,⟨o0,o1,o2⟩,k,tv⟩:=x;obtain ⟨hi,g⟩:=o;dsimp only at hi g;unfold vQ misD Cq.fo;dsimp only;rcases g with g | ⟨J,n,rfl⟩
 ·have a:foB l (sameT o0 o1 o2 b c d)=false:=by rw [foB,decide_eq_false γ];rfl
  rw [a];exact Vt e0 e1 e2 e3 j b c d l o0 o1 o2 k tv _ N e w a
 ·cases hs:sameT o0 o1 o2 b c d
  ·have a:foB (J:Int) (sameT o0 o1 o2 b c d)=false:=by rw [hs];simp [foB]
   rw [hs] at a;rw [a];exact Vt e0 e1 e2 e3 j b c d J o0 o1 o2 k tv _ N e w (by rw [hs];exact a)
  ·have:=Qaz e0 e1 e2 e3 b c d o0 o1 o2 k tv f i N j J e h w hs hi n m h0;rw [show foB (J:Int) true=true by simp [foB],Bool.true_and,Int.toNat_natCast];exact this
theorem clashOf_any (x y:Cq) (F H N Q:Nat) (h:Nat→Int) (w:World) (hx:CqOk N x) (hy:CqOk N y) (R:Hr w F H N h) (h0:∀ q,q<N→0≤h q):Rt 59 #[vQ x,vQ y,.slice (Ad F H) N Q] w (I (clD h x y)):=by
 obtain ⟨⟨e0,e1,e2,e3⟩,v,⟨A,B,C⟩,m,⟨o0,o1,o2⟩,E,tv⟩:=x;obtain ⟨⟨n,o,p,r⟩,l,⟨f,g,i⟩,a,⟨b,c,d⟩,u,t⟩:=y;obtain ⟨hi,L⟩:=hx;obtain ⟨z,D⟩:=hy;dsimp only at hi L z D
 have U:m.toNat<N:=by
  rcases L with k | ⟨J,k,rfl⟩ <;> omega
 have G:a.toNat<N:=by
  rcases D with k | ⟨J,k,rfl⟩ <;> omega
 have W:Hid (∀ V:World,Bl w V→At V F (H+v) (I (h v))∧At V F (H+l) (I (h l))∧(0≤m→At V F (H+m.toNat) (I (h m.toNat)))∧(0≤a→At V F (H+a.toNat) (I (h a.toNat)))):=fun V T=>⟨Qa T (R _ hi),Qa T (R _ z),fun _=>Qa T (R _ U),fun _=>Qa T (R _ G)⟩
 have M:∀ (j:Int) (s:Bool),j<0→foB j s=false∧goB j s=false:=fun j s L=>by
  unfold foB goB;rw [decide_eq_false γ];exact ⟨rfl,rfl⟩
 have K:∀ (j:Int) (s:Bool),0≤j→foB j s=s∧goB j s = !s:=fun j s L=>by
  unfold foB goB;rw [decide_eq_true L];exact ⟨Bool.true_and _,Bool.true_and _⟩
 unfold vQ
 have X:clD h ⟨(e0,e1,e2,e3),v,(A,B,C),m,(o0,o1,o2),E,tv⟩ ⟨(n,o,p,r),l,(f,g,i),a,(b,c,d),u,t⟩=Rz (foB m (sameT o0 o1 o2 A B C)) (goB m (sameT o0 o1 o2 A B C)) (foB a (sameT b c d f g i)) (goB a (sameT b c d f g i)) (btw (h l) (h v) (h m.toNat)) (btw (h a.toNat) (h v) (h m.toNat)) (h v) (h l) (h m.toNat) (h a.toNat) v a:=by
  unfold clD Cq.fo Cq.go;dsimp only;rcases D with k | ⟨J,k,rfl⟩
  ·rw [(M a _ k).1,(M a _ k).2];simp
  ·simp only [Rz,Int.toNat_natCast,ne_eq,Int.ofNat_inj]
 rw [X];rcases L with k | ⟨J,k,e⟩
 ·refine clash_a e0 e1 e2 e3 A B C m o0 o1 o2 E n o p r f g i a b c d u (h v) (h l) (h m.toNat) (h a.toNat) tv t _ _ _ _ _ _ F H N Q v l w (fun V=>Qs e0 e1 e2 e3 (v:Int) A B C m o0 o1 o2 E tv V) (fun V=>Qu e0 e1 e2 e3 (v:Int) A B C m o0 o1 o2 E tv V) (fun V=>Qs n o p r (l:Int) f g i a b c d u t V) (fun V=>Qu n o p r (l:Int) f g i a b c d u t V) (fun V=>Jt _ _ _ V) (fun V=>Jt _ _ _ V) hi z (by have:=h0 _ hi;omega) (by have:=h0 _ z;omega) (by have:=h0 _ U;omega) (by have:=h0 _ G;omega) ?_ ?_ W
  ·exact ⟨γ,M m _ k⟩
  ·rcases D with O | ⟨Z,O,e'⟩
   ·exact Or.inl ⟨γ,M a _ O⟩
   ·refine Or.inr ⟨γ,γ, ?_⟩;rw [(K a _ γ).1,(K a _ γ).2]
 ·have hg:goB m (sameT o0 o1 o2 A B C) = !foB m (sameT o0 o1 o2 A B C):=by
   rw [(K m _ γ).1,(K m _ γ).2]
  by_cases q:0≤a∧sameT b c d f g i=true
  ·have P:=K a (sameT b c d f g i) q.1;exact clash_c e0 e1 e2 e3 A B C m o0 o1 o2 E n o p r f g i a b c d u (h v) (h l) (h m.toNat) (h a.toNat) tv t _ _ _ _ _ _ F H N Q v l w (fun V=>Qs e0 e1 e2 e3 (v:Int) A B C m o0 o1 o2 E tv V) (fun V=>Qu e0 e1 e2 e3 (v:Int) A B C m o0 o1 o2 E tv V) (fun V=>Qs n o p r (l:Int) f g i a b c d u t V) (fun V=>Qu n o p r (l:Int) f g i a b c d u t V) (fun V=>Jt _ _ _ V) (fun V=>Jt _ _ _ V) hi z (by have:=h0 _ hi;omega) (by have:=h0 _ z;omega) (by have:=h0 _ U;omega) (by have:=h0 _ G;omega) γ γ hg q.1 γ (by rw [P.2,q.2];rfl) (by rw [P.1,q.2]) W
  ·refine clash_b e0 e1 e2 e3 A B C m o0 o1 o2 E n o p r f g i a b c d u (h v) (h l) (h m.toNat) (h a.toNat) tv t _ _ _ _ _ _ F H N Q v l w (fun V=>Qs e0 e1 e2 e3 (v:Int) A B C m o0 o1 o2 E tv V) (fun V=>Qu e0 e1 e2 e3 (v:Int) A B C m o0 o1 o2 E tv V) (fun V=>Qs n o p r (l:Int) f g i a b c d u t V) (fun V=>Qu n o p r (l:Int) f g i a b c d u t V) (fun V=>Jt _ _ _ V) (fun V=>Jt _ _ _ V) hi z (by have:=h0 _ hi;omega) (by have:=h0 _ z;omega) (by have:=h0 _ U;omega) (by have:=h0 _ G;omega) γ γ hg ?_ W;rcases D with O | ⟨Z,O,e'⟩
   ·exact Or.inl ⟨γ,M a _ O⟩
   ·have P:=K a (sameT b c d f g i) γ
    have Y:sameT b c d f g i=false:=by
     cases hs:sameT b c d f g i
     ·rfl
     ·exact absurd ⟨γ,hs⟩ q
    exact Or.inr ⟨γ,γ,by rw [P.2,Y];rfl,by rw [P.1,Y]⟩
structure QAt (w:World) (g o:Nat) (x:Cq):Prop where
 c0:At w g o (I x.e.1)
 c1:At w g (o+1) (I x.e.2.1)
 c2:At w g (o+2) (I x.e.2.2.1)
 c3:At w g (o+3) (I x.e.2.2.2)
 c4:At w g (o+4) (I (x.i:Int))
 c5:At w g (o+5) (I x.p.1)
 c6:At w g (o+6) (I x.p.2.1)
 c7:At w g (o+7) (I x.p.2.2)
 c8:At w g (o+8) (I x.j)
 c9:At w g (o+9) (I x.o.1)
 c10:At w g (o+10) (I x.o.2.1)
 c11:At w g (o+11) (I x.o.2.2)
 c12:At w g (o+12) (I x.k)
 c13:At w g (o+13) (.bool x.tv)
theorem QAt.kept {o:Nat} {x:Cq} (h:QAt w g o x) (a:Bl w w'):QAt w' g o x:=⟨Qa a h.c0,Qa a h.c1,Qa a h.c2,Qa a h.c3,Qa a h.c4,Qa a h.c5,Qa a h.c6,Qa a h.c7,Qa a h.c8,Qa a h.c9,Qa a h.c10,Qa a h.c11,Qa a h.c12,Qa a h.c13⟩
def QRow (w:World) (a:Option Addr) (l:List Cq):Prop := ∀ i (h:i<l.length),∃ g,a=Az g∧QAt w g (i*14) l[i]
theorem QRow.kept {a:Option Addr} {l:List Cq} (h:QRow w a l) (b:Bl w w'):QRow w' a l:=fun i hi=>by
 obtain ⟨g,e,q⟩:=h i hi;exact ⟨g,e,q.kept b⟩
theorem flatQ_at:∀ (l:List Cq) (i q:Nat) (h:i<l.length),q<14→(flatQ l)[i*14+q]?=(encQ l[i])[q]?
 | x :: l,0,q,_,hq=>by
  have:flatQ (x :: l)=encQ x ++ flatQ l:=by simp [flatQ]
  rw [this,List.getElem?_append_left (by simp [encQ];omega)];simp
 | x :: l,i+1,q,h,hq=>by
  have:flatQ (x :: l)=encQ x ++ flatQ l:=by simp [flatQ]
  rw [this,List.getElem?_append_right (by simp [encQ];omega)];have:=flatQ_at l i q (by simpa using h) hq;have e:(i+1)*14+q - (encQ x).length=i*14+q:=by simp [encQ];omega
  rw [e,this];simp
theorem own_qrow {base:Nat} {v:Value} {l:List Cq} (h:w.ownsRow base 136 14 v l.length (flatQ l)):∃ a c,v=.slice a l.length c∧QRow w a l:=by
 rcases h.2 with ⟨h1,h2⟩ | ⟨g,c,d,h1,_,_,h3,_⟩
 ·exact ⟨none,0,by rw [h1,h2],fun i hi=>by omega⟩
 ·refine ⟨Az g,c,h1,fun i hi=>⟨g,rfl, ?_⟩⟩;subst h1
  have b:∀ q v,q<14→(encQ l[i])[q]?=some v→At w g (i*14+q) v:=fun q v hq hv=>by
   show World.cell? _ _=_
   rw [h.cellAt _ γ,flatQ_at l i q hi hq,hv]
  exact ⟨b 0 _ γ rfl,b 1 _ γ rfl,b 2 _ γ rfl,b 3 _ γ rfl,b 4 _ γ rfl,b 5 _ γ rfl,b 6 _ γ rfl,b 7 _ γ rfl,b 8 _ γ rfl,b 9 _ γ rfl,b 10 _ γ rfl,b 11 _ γ rfl,b 12 _ γ rfl,b 13 _ γ rfl⟩
structure MdIn (D:MD) (N:Nat):Prop where
 eq:D.a0.length=D.a1.length
 n0:∀ i∈D.a0,i<N
 n1:∀ p∈D.b0,p.1<N∧p.2<N
 n2:∀ i∈D.a1,i<N
 n3:∀ p∈D.b1,p.1<N∧p.2<N
theorem mdIn_zero (N:Nat):MdIn mdZ N:=⟨rfl,(fun i h=>by cases h),(fun i h=>by cases h),(fun i h=>by cases h),(fun i h=>by cases h)⟩
theorem Ks {l:List Nat} (h:∀ i∈l,i<N) (a:j<N):∀ i∈l ++ [j],i<N:=fun i hi=>by
 rcases List.mem_append.1 hi with q | q
 ·exact h i q
 ·rw [List.mem_singleton.1 q];exact a
theorem mem_addP {l:List (Nat×Nat)} {f:Nat×Nat} (h:∀ p∈l,p.1<N∧p.2<N) (a:f.1<N∧f.2<N):∀ p∈l ++ [f],p.1<N∧p.2<N:=fun p hp=>by
 rcases List.mem_append.1 hp with q | q
 ·exact h p q
 ·rw [List.mem_singleton.1 q];exact a
theorem fdT_in (kd:Int) (tv:Bool) (c:a<N) (d:b<N):(fdT kd tv a b).1<N∧(fdT kd tv a b).2<N:=by
 unfold fdT;split
 ·exact ⟨d,c⟩
 ·exact ⟨c,d⟩
theorem MdIn.mt {D:MD} (h:MdIn D N) (kd:Int) (tv:Bool) (a:Nat) (hi:i<N) (c:j<N):MdIn (mt D kd tv a i j) N:=by
 unfold Go.Proofs.YtnpboeodhpenmaaGreatDoor.mt mtO mtF;have b:=h.eq;split <;> split
 ·exact ⟨by simp [b],Ks h.n0 hi,h.n1,Ks h.n2 c,h.n3⟩
 ·exact ⟨by simp [b],Ks h.n0 c,h.n1,Ks h.n2 hi,h.n3⟩
 ·exact ⟨b,h.n0,mem_addP h.n1 (fdT_in _ _ hi c),h.n2,h.n3⟩
 ·exact ⟨b,h.n0,h.n1,h.n2,mem_addP h.n3 (fdT_in _ _ hi c)⟩
theorem stJ_in {G:E4→MD} (h:∀ e,MdIn (G e) N) (q:E4×Int) (hi:i<N) (hq:q.2<(N:Int)):∀ e,MdIn (stJ kd M pl i G q e) N:=fun e=>by
 unfold stJ;split
 ·dsimp only;split
  ·exact (h _).mt _ _ _ hi γ
  ·exact h e
 ·exact h e
theorem gJ_in (hi:i<N):∀ (l:List (E4×Int)) (G:E4→MD),(∀ q∈l,q.2<(N:Int))→(∀ e,MdIn (G e) N)→∀ e,MdIn (gJ kd M pl i G l e) N
 | [],_,_,h=>h
 | q :: l,G,hl,h=>gJ_in hi l (stJ kd M pl i G q) (fun p hp=>hl p (List.mem_cons_of_mem _ hp)) (stJ_in h q hi (hl q (List.mem_cons_self ..)))
theorem gA_in {L:List T3} (a:∀ i,i<N→∀ q∈jl L (L.getD i (0,0,0)) i 3,q.2<(N:Int)):∀ n,n≤N→∀ e,MdIn (gA kd L M pl n e) N
 | 0,_=>fun _=>mdIn_zero N
 | i+1,hn=>gJ_in γ _ _ (a i γ) (gA_in a i γ)
theorem MdIn.ok {D:MD} (h:MdIn D N) (b:D.a0.length≤c∧D.b0.length≤c∧D.a1.length≤c∧D.b1.length≤c) (a:c≤100000000):MdOk D N :=
 ⟨h.eq,γ,γ,γ,γ,h.n0,h.n1,h.n2,h.n3⟩
def RO (kd:E4→Int) (M:Nat→M6) (pl:List T3) (E:E4) (x y:Nat) (i:Nat) (q:E4×Int):Prop:=(i:Int)<q.2∧E=bro (M i) q.1∧kd q.1=0∧(x,y)=if sd E (pl.getD i (0,0,0))=0 then (i,q.2.toNat) else (q.2.toNat,i)
def RF (kd:E4→Int) (M:Nat→M6) (pl:List T3) (s:Nat) (E:E4) (p:Nat×Nat) (i:Nat) (q:E4×Int):Prop:=(i:Int)<q.2∧E=bro (M i) q.1∧kd q.1≠0∧sd E (pl.getD i (0,0,0))=s∧p=fdT (kd q.1) (tov (M i)) i q.2.toNat
structure GIn (kd:E4→Int) (M:Nat→M6) (pl:List T3) (Ev:Nat→E4×Int→Prop) (G:E4→MD):Prop where
 len:∀ E,(G E).a0.length=(G E).a1.length
 on:∀ E x y,(x,y)∈(G E).a0.zip (G E).a1↔∃ i q,Ev i q∧RO kd M pl E x y i q
 f0:∀ E p,p∈(G E).b0↔∃ i q,Ev i q∧RF kd M pl 0 E p i q
 f1:∀ E p,p∈(G E).b1↔∃ i q,Ev i q∧RF kd M pl 1 E p i q
 n0:∀ E,(G E).b0.Nodup
 n1:∀ E,(G E).b1.Nodup
theorem Ge {c R:Nat→E4×Int→Prop} {q:E4×Int}:(∃ a b,(c a b∨(a=i∧b=q))∧R a b)↔(∃ a b,c a b∧R a b)∨R i q:=by
 constructor
 ·rintro ⟨a,b,h | ⟨rfl,rfl⟩,r⟩
  ·exact Or.inl ⟨a,b,h,r⟩
  ·exact Or.inr r
 ·rintro (⟨a,b,h,r⟩ | r)
  ·exact ⟨a,b,Or.inl h,r⟩
  ·exact ⟨i,q,Or.inr ⟨rfl,rfl⟩,r⟩
section
variable {kd:E4→Int} {L:List T3} {M:Nat→M6} {pl:List T3}
theorem nodup_snoc {α:Type} {l:List α} {a : α} (h:l.Nodup) (c:a ∉ l):(l ++ [a]).Nodup:=by
 rw [List.nodup_append]
 exact ⟨h,ξ,fun x d y b e=>by
  rw [List.mem_singleton] at b;subst b;exact c (e ▸ d)⟩
theorem GIn.step {v:Nat→E4×Int→Prop} {G:E4→MD} (h:GIn kd M pl v G) (i:Nat) (q:E4×Int)
  (j:∀ b c,v b c→(b:Int)<c.2→(i:Int)<q.2→bro (M i) q.1=bro (M b) c.1→fdT (kd q.1) (tov (M i)) i q.2.toNat=fdT (kd c.1) (tov (M b)) b c.2.toNat→False) :
  GIn kd M pl (fun b c=>v b c∨(b=i∧c=q)) (stJ kd M pl i G q):=by
 by_cases hl:(i:Int)<q.2
 ·have f:∀ E,E≠bro (M i) q.1→stJ kd M pl i G q E=G E:=fun E B=>by
   unfold stJ;rw [if_pos hl];exact if_neg B
  have hs:stJ kd M pl i G q (bro (M i) q.1)=mt (G (bro (M i) q.1)) (kd q.1) (tov (M i)) (sd (bro (M i) q.1) (pl.getD i (0,0,0))) i q.2.toNat:=by
   unfold stJ;rw [if_pos hl];exact if_pos rfl
  obtain ⟨s,g⟩:∃ s,s=sd (bro (M i) q.1) (pl.getD i (0,0,0)):=⟨_,rfl⟩;rw [← g] at hs;have d:s=0∨s=1:=by rw [g];exact sd01 _ _
  have A:∀ k,fdT (kd q.1) (tov (M i)) i q.2.toNat ∉ (if k=0 then (G (bro (M i) q.1)).b0 else (G (bro (M i) q.1)).b1):=fun k a=>by
   split at a
   ·obtain ⟨b,c,e,r1,r2,_,_,z⟩:=(h.f0 _ _).1 a;exact j b c e r1 hl r2 z
   ·obtain ⟨b,c,e,r1,r2,_,_,z⟩:=(h.f1 _ _).1 a;exact j b c e r1 hl r2 z
  by_cases hk:kd q.1=0
  ·
   have a:stJ kd M pl i G q (bro (M i) q.1)=if s=0 then ⟨(G (bro (M i) q.1)).a0 ++ [i],(G (bro (M i) q.1)).b0,(G (bro (M i) q.1)).a1 ++ [q.2.toNat],(G (bro (M i) q.1)).b1⟩ else ⟨(G (bro (M i) q.1)).a0 ++ [q.2.toNat],(G (bro (M i) q.1)).b0,(G (bro (M i) q.1)).a1 ++ [i],(G (bro (M i) q.1)).b1⟩:=by
    rw [hs];unfold mt mtO;rw [if_pos hk]
   have u:∀ s E p,¬ RF kd M pl s E p i q:=fun s E p r=>r.2.2.1 hk
   have l:∀ E,(stJ kd M pl i G q E).b0=(G E).b0:=fun E=>by
    by_cases e:E=bro (M i) q.1
    ·rw [e,a];split <;> rfl
    ·rw [f E e]
   have m:∀ E,(stJ kd M pl i G q E).b1=(G E).b1:=fun E=>by
    by_cases e:E=bro (M i) q.1
    ·rw [e,a];split <;> rfl
    ·rw [f E e]
   refine ⟨fun E=>?_,fun E x y=>?_,fun E p=>?_,fun E p=>?_,fun E=>by rw [l];exact h.n0 E,fun E=>by rw [m];exact h.n1 E⟩
   ·by_cases e:E=bro (M i) q.1
    ·rw [e,a];have:=h.len (bro (M i) q.1);split <;> simp [this]
    ·rw [f E e];exact h.len E
   ·rw [Ge,← h.on];by_cases e:E=bro (M i) q.1
    ·subst e;have n:=h.len (bro (M i) q.1)
     have o:RO kd M pl (bro (M i) q.1) x y i q↔(x,y)=if s=0 then (i,q.2.toNat) else (q.2.toNat,i):=by
      unfold RO;rw [← g];exact ⟨fun r=>r.2.2.2,fun r=>⟨hl,rfl,hk,r⟩⟩
     rw [o,a];rcases d with rfl | rfl
     ·rw [if_pos rfl,if_pos rfl];dsimp only;rw [List.zip_append n,List.mem_append];simp
     ·rw [if_neg γ,if_neg γ];dsimp only;rw [List.zip_append n,List.mem_append];simp
    ·rw [f E e];constructor
     ·exact Or.inl
     ·rintro (r | r)
      ·exact r
      ·exact absurd r.2.1 e
   ·rw [Ge,← h.f0,l];constructor
    ·exact Or.inl
    ·rintro (r | r)
     ·exact r
     ·exact absurd r (u _ _ _)
   ·rw [Ge,← h.f1,m];constructor
    ·exact Or.inl
    ·rintro (r | r)
     ·exact r
     ·exact absurd r (u _ _ _)
  ·
   have a:stJ kd M pl i G q (bro (M i) q.1)=if s=0 then ⟨(G (bro (M i) q.1)).a0,(G (bro (M i) q.1)).b0 ++ [fdT (kd q.1) (tov (M i)) i q.2.toNat],(G (bro (M i) q.1)).a1,(G (bro (M i) q.1)).b1⟩ else ⟨(G (bro (M i) q.1)).a0,(G (bro (M i) q.1)).b0,(G (bro (M i) q.1)).a1,(G (bro (M i) q.1)).b1 ++ [fdT (kd q.1) (tov (M i)) i q.2.toNat]⟩:=by
    rw [hs];unfold mt mtF;rw [if_neg hk]
   have u:∀ E x y,¬ RO kd M pl E x y i q:=fun E x y r=>hk r.2.2.1
   have t:∀ E,(stJ kd M pl i G q E).a0=(G E).a0∧(stJ kd M pl i G q E).a1=(G E).a1:=fun E=>by
    by_cases e:E=bro (M i) q.1
    ·rw [e,a];split <;> exact ⟨rfl,rfl⟩
    ·rw [f E e];exact ⟨rfl,rfl⟩
   have o:∀ k p,RF kd M pl k (bro (M i) q.1) p i q↔k=s∧p=fdT (kd q.1) (tov (M i)) i q.2.toNat:=fun k p=>by
    unfold RF;rw [← g];exact ⟨fun r=>⟨r.2.2.2.1.symm,r.2.2.2.2⟩,fun r=>⟨hl,rfl,hk,r.1.symm,r.2⟩⟩
   refine ⟨fun E=>by rw [(t E).1,(t E).2];exact h.len E,fun E x y=>?_,fun E p=>?_,fun E p=>?_,fun E=>?_,fun E=>?_⟩
   ·rw [Ge,← h.on,(t E).1,(t E).2];constructor
    ·exact Or.inl
    ·rintro (r | r)
     ·exact r
     ·exact absurd r (u _ _ _)
   ·rw [Ge,← h.f0];by_cases e:E=bro (M i) q.1
    ·subst e;rw [o,a];rcases d with rfl | rfl <;> simp
    ·rw [f E e];constructor
     ·exact Or.inl
     ·rintro (r | r)
      ·exact r
      ·exact absurd r.2.1 e
   ·rw [Ge,← h.f1];by_cases e:E=bro (M i) q.1
    ·subst e;rw [o,a];rcases d with rfl | rfl <;> simp
    ·rw [f E e];constructor
     ·exact Or.inl
     ·rintro (r | r)
      ·exact r
      ·exact absurd r.2.1 e
   ·by_cases e:E=bro (M i) q.1
    ·rw [e,a];split
     ·exact nodup_snoc (h.n0 _) (A 0)
     ·exact h.n0 _
    ·rw [f E e];exact h.n0 E
   ·by_cases e:E=bro (M i) q.1
    ·rw [e,a];split
     ·exact h.n1 _
     ·exact nodup_snoc (h.n1 _) (A 1)
    ·rw [f E e];exact h.n1 E
 ·have C:stJ kd M pl i G q=G:=by
   unfold stJ;rw [if_neg hl]
  rw [C];refine ⟨h.len,fun E x y=>?_,fun E p=>?_,fun E p=>?_,h.n0,h.n1⟩
  ·rw [Ge,← h.on];exact ⟨Or.inl,fun r=>r.elim id fun r=>absurd r.1 hl⟩
  ·rw [Ge,← h.f0];exact ⟨Or.inl,fun r=>r.elim id fun r=>absurd r.1 hl⟩
  ·rw [Ge,← h.f1];exact ⟨Or.inl,fun r=>r.elim id fun r=>absurd r.1 hl⟩
theorem GIn.ev {b a:Nat→E4×Int→Prop} {G:E4→MD} (h:GIn kd M pl b G) (c:∀ i q,b i q↔a i q):GIn kd M pl a G:=by
 have:b=a:=funext fun i=>funext fun q=>propext (c i q);exact this ▸ h
theorem Qae (l:List T3) (e:E4):(gix l e).Nodup:=by
 unfold gix;refine List.pairwise_map.2 ?_;refine List.Pairwise.imp (fun {a b} h e=>h ?_) (List.Pairwise.filter _ List.nodup_range);omega
theorem jE_nodup (i:Nat) (e:E4) {G:List Int} (h:G.Nodup):(jE i e G).Nodup:=by
 unfold jE;refine List.pairwise_map.2 ?_;refine List.Pairwise.imp (fun {a b} h e=>h ?_) (List.Pairwise.filter _ h);simpa using e
theorem Qad {e:E4} {G:List Int} {q:E4×Int} (h:q∈jE i e G):q.1=e:=by
 unfold jE at h;obtain ⟨j,_,rfl⟩:=List.mem_map.1 h;rfl
theorem jl_nodup (g:Kd t) (L:List T3) (i:Nat):(jl L t i 3).Nodup:=by
 have f:=edg_ne g;rw [Kx,Kx,Kx,jl_zero,List.nil_append,List.nodup_append,List.nodup_append];refine ⟨⟨jE_nodup _ _ (Qae _ _),jE_nodup _ _ (Qae _ _),fun a d b c e=>f.1 ?_⟩,jE_nodup _ _ (Qae _ _),fun a d b c e=>?_⟩
 ·rw [← Qad d,← Qad c,e]
 ·rcases List.mem_append.1 d with q | q
  ·exact f.2.1 (by rw [← Qad q,← Qad c,e])
  ·exact f.2.2 (by rw [← Qad q,← Qad c,e])
def EvI (L:List T3) (i:Nat) (done:List (E4×Int)) (i':Nat) (q':E4×Int):Prop:=(i'<i∧q'∈jl L (L.getD i' (0,0,0)) i' 3)∨(i'=i∧q'∈done)
theorem gJ_gin (g:Geo kd L M) (hi:i<L.length):∀ (rest done:List (E4×Int)) (G:E4→MD),done ++ rest=jl L (L.getD i (0,0,0)) i 3→GIn kd M pl (EvI L i done) G→GIn kd M pl (EvI L i (done ++ rest)) (gJ kd M pl i G rest)
 | [],done,G,_,h=>by
  rw [List.append_nil];exact h
 | q :: rest,done,G,hd,h=>by
  have j:=jl_nodup (g.kT hi) L i;have o:q∈jl L (L.getD i (0,0,0)) i 3:=by rw [← hd];simp
  have p:q ∉ done:=fun hq=>by
   rw [← hd,List.nodup_append] at j;exact j.2.2 q hq q ξ rfl
  have h1:=h.step i q (fun d f e z l v t=>by
   have m:d=i∧f.2.toNat=q.2.toNat:=by
    rcases fd_or (kd q.1) (tov (M i)) i q.2.toNat with e1 | e1 <;> rcases fd_or (kd f.1) (tov (M d)) d f.2.toNat with e2 | e2 <;> rw [e1,e2] at t <;> simp only [Prod.mk.injEq] at t <;> omega
   obtain ⟨rfl,y⟩:=m;rcases e with ⟨a,_⟩ | ⟨_,a⟩
   ·omega
   ·refine p ?_;have k:f∈jl L (L.getD d (0,0,0)) d 3:=by rw [← hd];simp [a]
    obtain ⟨A,r⟩:=f;obtain ⟨e0,s⟩:=q;obtain ⟨c,B,rfl,_⟩:=Yz.1 o;obtain ⟨u,x,rfl,_⟩:=Yz.1 k;have:=bro_inj (g.map hi) (g.kT hi) (g.kT hi) (Jc _ _) (Jc _ _) v
    have n:r=s:=by
     have l1:(d:Int)<r:=z;have l2:(d:Int)<s:=l;have l3:r.toNat=s.toNat:=y;omega
    have this:edg (L.getD d (0,0,0)) c=edg (L.getD d (0,0,0)) u:=this;rw [this,← n];exact a)
  have h2:=gJ_gin g hi rest (done ++ [q]) (stJ kd M pl i G q) (by simpa using hd) (h1.ev fun d f=>by
   unfold EvI;constructor
   ·rintro ((a | ⟨a,b⟩) | ⟨a,b⟩)
    ·exact Or.inl a
    ·exact Or.inr ⟨a,by simp [b]⟩
    ·exact Or.inr ⟨a,by simp [b]⟩
   ·rintro (a | ⟨a,b⟩)
    ·exact Or.inl (Or.inl a)
    ·rcases List.mem_append.1 b with b | b
     ·exact Or.inl (Or.inr ⟨a,b⟩)
     ·exact Or.inr ⟨a,List.mem_singleton.1 b⟩)
  rw [List.append_assoc] at h2;exact h2
theorem gA_gin (g:Geo kd L M):∀ n,n≤L.length→GIn kd M pl (fun i q=>i<n∧q∈jl L (L.getD i (0,0,0)) i 3) (gA kd L M pl n)
 | 0,_=>by
  refine ⟨fun E=>rfl,fun E x y=>?_,fun E p=>?_,fun E p=>?_,fun E=>List.nodup_nil,fun E=>List.nodup_nil⟩
  ·constructor
   ·intro h;simp [gA,mdZ] at h
   ·rintro ⟨i,q,⟨h,_⟩,_⟩;omega
  ·constructor
   ·intro h;simp [gA,mdZ] at h
   ·rintro ⟨i,q,⟨h,_⟩,_⟩;omega
  ·constructor
   ·intro h;simp [gA,mdZ] at h
   ·rintro ⟨i,q,⟨h,_⟩,_⟩;omega
 | n+1,hn=>by
  have h0:=gA_gin g n γ
  have h1:=gJ_gin g (i:=n) γ (jl L (L.getD n (0,0,0)) n 3) [] (gA kd L M pl n) rfl (h0.ev fun i q=>by
   unfold EvI;constructor
   ·exact Or.inl
   ·rintro (a | ⟨_,a⟩)
    ·exact a
    ·cases a)
  exact h1.ev fun i q=>by
   unfold EvI;rw [List.nil_append];constructor
   ·rintro (⟨a,b⟩ | ⟨rfl,b⟩)
    ·exact ⟨γ,b⟩
    ·exact ⟨γ,b⟩
   ·rintro ⟨a,b⟩;by_cases e:i=n
    ·subst e;exact Or.inr ⟨rfl,b⟩
    ·exact Or.inl ⟨γ,b⟩
theorem cmx_jl (g:Geo kd L M):Cmx kd L M i j E k↔i<L.length∧∃ q∈jl L (L.getD i (0,0,0)) i 3,q.2=(j:Int)∧E=bro (M i) q.1∧k=kd q.1:=by
 constructor
 ·rintro ⟨hi,a,c,d,e1,e2,e3⟩;have b:=Zf (g.kT hi) (Jc (L.getD i (0,0,0)) c);refine ⟨hi,(edg (L.getD i (0,0,0)) c,(j:Int)),Yz.2 ⟨c,d,rfl,j,a,rfl,fun e=>?_,by rw [e1];exact b.1⟩,rfl,e2,e3⟩;subst e;rw [← e1,Qz L j a] at b;exact b.2.1 rfl
 ·rintro ⟨hi,⟨e,n⟩,hq,a,e2,e3⟩;obtain ⟨c,d,rfl,m,f,rfl,h,l⟩:=Yz.1 hq;dsimp only at a e2 e3;obtain rfl:m=j:=γ;refine ⟨hi,f,c,d, ?_,e2,e3⟩;refine Jh (g.kT hi) (g.bd _ (Lm f)).2.2 (Jc _ _) l ?_;rw [Qz L i hi];exact fun e=>h (Jj g.nd f hi e)
theorem jl_pos {n:Nat} {q:E4×Int} (h:q∈jl L t i n):0≤q.2∧q.2<(L.length:Int):=by
 obtain ⟨e,j⟩:=q;obtain ⟨c,a,rfl,m,b,rfl,_⟩:=Yz.1 h;dsimp only;omega
theorem gA_dof (g:Geo kd L M) (a:∀ i,i<L.length→pl.getD i (0,0,0)=Plx L M i) (E:E4):DOf (Cmx kd L M) (Plx L M) (fun i=>tov (M i)) E (gA kd L M pl L.length E):=by
 have H:=g.cmr (h:=fun i=>(i:Int)) (fun _ _ _ e=>by omega);have G:=gA_gin (pl:=pl) g L.length (Nr _)
 have m:∀ s p,(∃ i q,(i<L.length∧q∈jl L (L.getD i (0,0,0)) i 3)∧RF kd M pl s E p i q)↔∃ i j k,Cmx kd L M i j E k∧k≠0∧sd E (Plx L M i)=s∧p=fdT k (tov (M i)) i j:=fun s p=>by
  constructor
  ·rintro ⟨i,q,⟨hi,hq⟩,r1,r2,r3,b,n⟩;have:=jl_pos hq;refine ⟨i,q.2.toNat,kd q.1,(cmx_jl g).2 ⟨hi,q,hq,γ,r2,rfl⟩,r3, ?_,n⟩;rw [← a i hi];exact b
  ·rintro ⟨i,j,k,c,l,hs,hp⟩
   have f:∀ i j,Cmx kd L M i j E k→i<j→sd E (Plx L M i)=s→p=fdT k (tov (M i)) i j→∃ i q,(i<L.length∧q∈jl L (L.getD i (0,0,0)) i 3)∧RF kd M pl s E p i q:=fun i j c d hs hp=>by
    obtain ⟨hi,q,hq,e1,e2,e3⟩:=(cmx_jl g).1 c;refine ⟨i,q,⟨hi,hq⟩,γ,e2,by rw [← e3];exact l,by rw [a i hi];exact hs, ?_⟩;rw [← e3,e1];exact hp
   rcases Nat.lt_or_gt_of_ne (H.ne c) with d | d
   ·exact f i j c d hs hp
   ·exact f j i (H.sym c) d (by rw [← H.fold c l];exact hs) (by rw [hp];exact (H.fd c l).symm)
 refine ⟨G.len E,fun x y=>?_,fun p=>(G.f0 E p).trans (m 0 p),fun p=>(G.f1 E p).trans (m 1 p),G.n0 E,G.n1 E⟩;rw [G.on E x y];constructor
 ·rintro ⟨i,q,⟨hi,hq⟩,r1,r2,r3,b⟩;have:=jl_pos hq;have c:Cmx kd L M i q.2.toNat E 0:=(cmx_jl g).2 ⟨hi,q,hq,γ,r2,r3.symm⟩;rw [a i hi] at b;split at b
  ·rename_i hs
   simp only [Prod.mk.injEq] at b;obtain ⟨rfl,rfl⟩:=b;exact ⟨c,hs⟩
  ·rename_i hs
   simp only [Prod.mk.injEq] at b;obtain ⟨rfl,rfl⟩:=b;refine ⟨H.sym c, ?_⟩;have h1:=H.on c;have h2:=sd01 E (Plx L M y);omega
 ·rintro ⟨c,hs⟩;rcases Nat.lt_or_gt_of_ne (H.ne c) with d | d
  ·obtain ⟨hi,q,hq,e1,e2,e3⟩:=(cmx_jl g).1 c;refine ⟨x,q,⟨hi,hq⟩,γ,e2,e3.symm, ?_⟩;rw [a x hi,if_pos hs,e1];rfl
  ·have h1:=H.on c;obtain ⟨hi,q,hq,e1,e2,e3⟩:=(cmx_jl g).1 (H.sym c);refine ⟨y,q,⟨hi,hq⟩,γ,e2,e3.symm, ?_⟩;rw [a y hi,if_neg γ,e1];rfl
end
structure PBx (w:World) (b n cc ra0 rk gm cm pc:Nat) (ad pa:Option Addr):Prop where
 c0:At w b 0 (.slice ad n cc)
 c1:At w b 1 (.map (some ra0))
 c2:At w b 2 (.map (some rk))
 c3:At w b 3 (.slice (Az gm) n cm)
 c4:At w b 4 (.slice pa n pc)
theorem PBx.kept {n:Nat} (h:PBx w b n e c j g f i d pa) (a:Bl w w'):PBx w' b n e c j g f i d pa:=⟨Qa a h.c0,Qa a h.c1,Qa a h.c2,Qa a h.c3,Qa a h.c4⟩
theorem PBx.sam {R:Nat→Prop} {n:Nat} (h:PBx w b n e c j g f i d pa) (hs:Sam w w' R) (a:¬ R b):PBx w' b n e c j g f i d pa:=⟨hs.cell h.c0 a,hs.cell h.c1 a,hs.cell h.c2 a,hs.cell h.c3 a,hs.cell h.c4 a⟩
structure MtI (w wx:World) (n cc ra0 rk gm cm pc:Nat) (ad pa:Option Addr) (G:E4→MD) (c:Nat) (X:Nat→Prop):Prop where
 m:MGP wx (w.heap.size+2) (w.heap.size+1) G c X
 le:MdLe G c
 bx:PBx wx w.heap.size n cc ra0 rk gm cm pc ad pa
 bl:Bl w wx
 sz:w.heap.size+2≤wx.heap.size
theorem MtI.kept {k:World} {n:Nat} {G:E4→MD} {X:Nat→Prop} (h:MtI w k n e a j g f i d pa G c X) (b:Bl k w'):MtI w w' n e a j g f i d pa G c X :=
 ⟨h.m.kept b,h.le,h.bx.kept b,Qc h.bl b,Nt h.sz b.size⟩
theorem MtI.mono {o:World} {n l:Nat} {b:Option Addr} {G:E4→MD} {d:Nat} {X:Nat→Prop} (h:MtI w o n f a l i g j b pa G c X) (p:c≤d):MtI w o n f a l i g j b pa G d X:=by
 refine ⟨?_,fun e=>by have:=h.le e;omega,h.bx,h.bl,h.sz⟩;obtain ⟨ls,k,h1,h2,h3,h4⟩:=h.m;exact ⟨ls,k,h1,h2,γ,h4⟩
theorem JRow.sam {R:Nat→Prop} {a:Option Addr} {l:List (E4×Int)} (h:JRow w a l) (hs:Sam w w' R) (b:∀ g,a=Az g→¬ R g):JRow w' a l:=fun i hi=>by
 obtain ⟨g,e,h0,h1,h2,h3,h4⟩:=h i hi;have hg:=b g e;exact ⟨g,e,hs.cell h0 hg,hs.cell h1 hg,hs.cell h2 hg,hs.cell h3 hg,hs.cell h4 hg⟩
theorem edge_bdM {x y p q r s:Int} (a:(0≤x∧x≤8)∧(0≤y∧y≤8)∧(0≤k∧k≤3)) (h:hasT (x,y,k) (p,q,r,s)=true):(0≤p∧p≤20)∧(0≤q∧q≤20)∧(0≤r∧r≤20)∧(0≤s∧s≤20):=by
 unfold hasT at h;rw [Qx] at h;dsimp only at h;rcases Xm a.2.2 with rfl | rfl | rfl | rfl <;> simp only [Zt,Zs,Zp,Zo,Zn,Zm,Zl,Zk,Zj,Zi,Zh,Zg] at h <;> omega
theorem map_smM {a b c d u v:Int} (h:mapM (a,b,c,d,u,v)=true):Sm a b c d∧(-1000000≤u∧u≤1000000)∧(-1000000≤v∧v≤1000000):=by
 have h:mapB a b c d u v=true:=h;have h2:=Xz h;simp only [mapB,evenB,Bool.and_eq_true,decide_eq_true_eq] at h;unfold Sm;omega
def Eb4 (w:World) (b:Nat) (p q r s:Int):Prop:=At w b 0 (I p)∧At w b 1 (I q)∧At w b 2 (I r)∧At w b 3 (I s)
def MtsTo (w w':World) (G:E4→MD) (e:Ending):Prop := ∃ ra base m,e=.returned (.map (some ra))∧MGP w' base ra G m (fun _=>False)∧w.heap.size≤ra∧ra<base∧m≤300000∧Bl w w'
theorem meetings_any (w:World) (n O o T u H X:Nat) (N pa:Option Addr) (L:List T3) (kd:E4→Int) (M:Nat→M6) (hP:PileAt w N O o T u H pa X L kd M) (hn:n=L.length) (hL:n≤300) (bn:∀ t∈L,(0≤t.1∧t.1≤8)∧(0≤t.2.1∧t.2.1≤8)∧(0≤t.2.2∧t.2.2≤3)) (bf:∀ i,i<L.length→MOk1 L M i) (hs:Steps w) :
  Cl 38 #[.agg #[.slice N n O,.map (some o),.map (some T),.slice (Az u) n H,.slice pa n X]] w fun e w'=>MtsTo w w' (gA kd L M (pls L M L.length) n) e:=by
 have HR:Hid (PileAt w N O o T u H pa X L kd M∧n=L.length∧(∀ t∈L,(0≤t.1∧t.1≤8)∧(0≤t.2.1∧t.2.1≤8)∧(0≤t.2.2∧t.2.2≤3))∧(∀ i,i<L.length→MOk1 L M i)∧Steps w):=⟨hP,hn,bn,bf,hs⟩;clear hP hn bn bf hs;have cj:=@run_makeMap Tryz.prog;go_enter Tryz.func38,Tryz.ntmps38;go_wp2;go_loopg [13] n (fun gk cd wx=>∃ i:Nat,i≤n∧gk=n - i∧cd=I (i:Int)∧MtI w wx n O o T u H X N pa (gA kd L M (pls L M L.length) i) (i*900) (fun _=>False))
 case atStart =>
  refine ⟨0,γ,rfl,rfl, ?_⟩;refine ⟨?_,fun e=>by simp [gA,mdZ], ?_, ?_, ?_⟩
  ·have:=MGP.made (w.alloc (.cells #[.slice N n O,.map (some o),.map (some T),.slice (Az u) n H,.slice pa n X] 100)) (w.heap.size+2);rw [World.size_alloc] at this;simpa [gA] using this
  ·constructor <;> simp [go_sem]
  ·exact Qb β1
  ·simp
 case round =>
  obtain ⟨i,hi,rfl,rfl,hI⟩:=hrel;have HI:Hid (MtI w wr n O o T u H X N pa (gA kd L M (pls L M L.length) i) (i*900) (fun _=>False)):=hI;clear hI;by_cases h1:i<n
  ·have i1:(i:Int)<(n:Int):=γ;have i0:(0:Int)≤(i:Int):=γ;have Q:i<L.length:=HR.out.2.1 ▸ h1;obtain ⟨x,y,z,hx⟩:∃ x y z,L[i]=(x,y,z):=⟨_,_,_,rfl⟩;obtain ⟨l,hl⟩:∃ l,l=jl L (x,y,z) i 3:=⟨_,rfl⟩;have HL:Hid (L.getD i (0,0,0)=(x,y,z)∧l=jl L (x,y,z) i 3∧l.length≤900):=⟨by rw [Qz L i Q,hx],hl,by rw [hl];have:=jl_len L (x,y,z) i 3;have:=HR.out.2.1;omega⟩
   have CJ:Hid (∀ V:World,Bl wr V→Cl 99 #[.agg #[.slice N n O,.map (some o),.map (some T)],I (i:Int)] V fun e w'=>∃ v,e=.returned v∧w'.ownsRow (V.heap.size+1) 165 5 v l.length (flatJ l)∧Bl V w'):=fun V hV=>by
    have hB:=Qc HI.out.bl hV;have:=Uv V O o T i N L x y z (HR.out.2.2.2.2.kept hB) (HR.out.1.kept hB).tr Q hx.symm (by have:=HR.out.2.1;omega) (by have:=HR.out.2.2.1 _ (Lm Q);rw [hx] at this;exact this);rw [← hl,← HR.out.2.1] at this;exact this
   clear hx hl;have b0:=HI.out.bx.c0;have b1:=HI.out.bx.c1;have b2:=HI.out.bx.c2;go_wp2_with (go_at_call 99;(with_reducible refine (CJ.out _ (Qe _)).mono ?_);rintro e w2 ⟨v,rfl,ho,bj⟩;obtain ⟨ja,jc,rfl,hJ⟩:=own_joints ho;have HJ:Hid (JRow w2 ja l∧(∀ g,ja=Az g→g<w2.heap.size∧w.heap.size+2≤g∧wr.heap.size≤g)∧Bl wr w2):=⟨hJ,fun g e=>by have:=ho.lt g (by rw [e];rfl);have:=HI.out.sz;omega,bj⟩;clear hJ ho bj)
   go_loopg [21] l.length (fun gk ce wx=>∃ k:Nat,k≤l.length∧gk=l.length - k∧ce=I (k:Int)∧MtI w wx n O o T u H X N pa (gJ kd M (pls L M L.length) i (gA kd L M (pls L M L.length) i) (l.take k)) (i*900+k) (fun b=>ja=Az b)∧JRow wx ja l∧(∀ g,ja=Az g→g<wx.heap.size∧w.heap.size+2≤g))
   case atStart =>
    refine ⟨0,γ,rfl,rfl, ?_,HJ.out.1,fun g e=>⟨(HJ.out.2.1 g e).1,(HJ.out.2.1 g e).2.1⟩⟩;have:=HI.out;exact (⟨this.m.avoid fun b hb=>(HJ.out.2.1 b hb).2.2,this.le,this.bx,this.bl,this.sz⟩:MtI w wr n O o T u H X N pa _ _ _).kept HJ.out.2.2
   case round =>
    clear HJ CJ b0 b1 b2;obtain ⟨k,hk,rfl,rfl,hM,hJ,hg⟩:=hrel;have HM:Hid (MtI w wr n O o T u H X N pa (gJ kd M (pls L M L.length) i (gA kd L M (pls L M L.length) i) (l.take k)) (i*900+k) (fun b=>ja=Az b)):=hM;have HJ:Hid (JRow wr ja l∧∀ g,ja=Az g→g<wr.heap.size∧w.heap.size+2≤g):=⟨hJ,hg⟩;clear hM hJ hg;by_cases hk1:k<l.length
    ·have k1:(k:Int)<(l.length:Int):=γ;have k0:(0:Int)≤(k:Int):=γ;obtain ⟨gj,rfl,e0,e1,e2,e3,e4⟩:=HJ.out.1 k hk1;obtain ⟨A,B,C,E,To,hq⟩:∃ A B C E To,l[k]=((A,B,C,E),To):=⟨_,_,_,_,_,rfl⟩;rw [hq] at e0 e1 e2 e3 e4;dsimp only at e0 e1 e2 e3 e4;have aq:((A,B,C,E),To)∈jl L (x,y,z) i 3:=by rw [← HL.out.2.1,← hq];exact Lm hk1
     obtain ⟨m,ca,bp,j,bu,rfl,bw,bv⟩:=Yz.1 aq;have HQ:Hid (l[k]=((A,B,C,E),(j:Int))∧hasT (x,y,z) (A,B,C,E)=true∧j<L.length):=⟨hq,by rw [bp];exact Jc _ _,bu⟩;clear hq aq bp ca bv bw;have h9:=HL.out.2.2;have zj:=Bt e0;have zb:w.heap.size<wr.heap.size:=by have:=HM.out.sz;omega
     by_cases hij:(i:Int)<(j:Int)
     ·go_upto_region 9 with fail
      refine Qi (fun F a7=>?_)
      have ac:Hid (Bl wr F∧Bl w F∧F.heap.size=wr.heap.size+1):=by
       rw [a7];exact ⟨Qb (Qe _),Qb HM.out.bl,ξ⟩
      have q0:At F wr.heap.size 0 (I A):=by rw [a7];simp [go_sem]
      have q1:At F wr.heap.size 1 (I B):=by rw [a7];simp [go_sem]
      have q2:At F wr.heap.size 2 (I C):=by rw [a7];simp [go_sem]
      have q3:At F wr.heap.size 3 (I E):=by rw [a7];simp [go_sem]
      have q4:At F wr.heap.size 4 (I (j:Int)):=by rw [a7];simp [go_sem]
      clear a7 e0 e1 e2 e3 e4;have bx:=HM.out.bx.kept ac.out.1;have c0:=bx.c0;have c1:=bx.c1;have c2:=bx.c2;have c3:=bx.c3;have c4:=bx.c4;have cb:=((HR.out.1.mr.kept ac.out.2.1) i Q).1;have ak:=(HR.out.2.2.2.1 i Q);obtain ⟨mA,mB,mC,mD,mU,mV,ag⟩:∃ a b c d e f,M i=(a,b,c,d,e,f):=⟨_,_,_,_,_,_,rfl⟩;obtain ⟨p,q,r,s,ax⟩:∃ p q r s,bro (M i) (A,B,C,E)=(p,q,r,s):=⟨_,_,_,_,rfl⟩;have b8:Hid (bro (M i) (A,B,C,E)=(p,q,r,s)∧M i=(mA,mB,mC,mD,mU,mV)):=⟨ax,ag⟩;obtain ⟨y0,y1,y2,y3,y4,y5⟩:=cb;rw [ag] at y0 y1 y2 y3 y4 y5;dsimp only at y0 y1 y2 y3 y4 y5
      have ba:Hid ((0≤x∧x≤8)∧(0≤y∧y≤8)∧(0≤z∧z≤3)):=by
       have:=HR.out.2.2.1 _ (Lm Q);have e:L[i]=(x,y,z):=by rw [← Qz L i Q (d:=(0,0,0))];exact HL.out.1
       rw [e] at this;exact this
      have CB:Hid (∀ V:World,Rt 100 #[.agg #[I A,I B,I C,I E],.agg #[I mA,I mB,I mC,I mD,I mU,I mV]] V (.agg #[I p,I q,I r,I s])):=fun V=>by
       have az:=map_smM (by have:=ak.1;rw [ag] at this;exact this);have cg:=edge_bdM ba.out HQ.out.2.1;have:=brought_any A B C E mA mB mC mD mU mV V az.1 az.2.1 az.2.2 γ γ γ γ;rw [← ag,ax] at this;exact this
      clear ag ax;have zg:=Bt y0;have z8:wr.heap.size<F.heap.size:=by have:=ac.out.2.2;omega
      have z9:w.heap.size<F.heap.size:=γ;have iw:(i:Int)<(n:Int):=i1;have a2:Hid (∀ V:World,Bl F V→(fun w'=>At w' wr.heap.size 0 (I A)∧At w' wr.heap.size 1 (I B)∧At w' wr.heap.size 2 (I C)∧At w' wr.heap.size 3 (I E)∧At w' w.heap.size 3 (.slice (Az u) n H)∧At w' u (i*6) (I mA)∧At w' u (i*6+1) (I mB)∧At w' u (i*6+2) (I mC)∧At w' u (i*6+3) (I mD)∧At w' u (i*6+4) (I mU)∧At w' u (i*6+5) (I mV)) V):=fun V hV=>⟨Qa hV q0,Qa hV q1,Qa hV q2,Qa hV q3,Qa hV c3,Qa hV y0,Qa hV y1,Qa hV y2,Qa hV y3,Qa hV y4,Qa hV y5⟩;go_cut [7] (fun s7 wx=>∃ Y:Nat,s7=.pointer (Az Y)∧Eb4 wx Y p q r s∧Bl F wx∧F.heap.size≤Y)
      case first =>
       refine wp_region_held_drew (S:=fun w'=>At w' wr.heap.size 0 (I A)∧At w' wr.heap.size 1 (I B)∧At w' wr.heap.size 2 (I C)∧At w' wr.heap.size 3 (I E)∧At w' w.heap.size 3 (.slice (Az u) n H)∧At w' u (i*6) (I mA)∧At w' u (i*6+1) (I mB)∧At w' u (i*6+2) (I mC)∧At w' u (i*6+3) (I mD)∧At w' u (i*6+4) (I mU)∧At w' u (i*6+5) (I mV)) η (a2.out _ (Qg (Qe _))) (fun bt=>?_);refine Tk 0 (.pointer (Az wr.heap.size)) ?_;refine Tk 1 (.agg #[I A,I B,I C,I E]) ?_;refine Tk 2 (.pointer (Ad w.heap.size 3)) ?_;refine Tk 3 (.slice (Az u) n H) ?_;refine Tk 4 (I (i:Int)) ?_;refine Tk 5 (.pointer (Ad u (i*6))) ?_;refine Tk 6 (.agg #[I mA,I mB,I mC,I mD,I mU,I mV]) ?_;refine wpAnyH_ready (rs:=[7,8]) η ξ ?_;refine AllReadyH.cons rfl (fun K hK=>?_) (AllReadyH.cons rfl (fun K hK=>?_) AllReadyH.nil)
       ·refine Qp Ω 100 #[.agg #[I A,I B,I C,I E],.agg #[I mA,I mB,I mC,I mD,I mU,I mV]] η (CB.out _) ?_;rintro e w5 ⟨rfl,bm⟩;refine ⟨_,rfl, ?_⟩;have ab:Hid (Bl F w5):=Qc (Qg (Qe _)) bm;clear bm;refine hK.out _ _ (a2.out _ ab.out) (fun ae=>?_);clear hK K;try simp only [Ap]
        refine Rd 8 rfl (fun K hK=>?_);go_simp;refine hK.out _ _ (a2.out _ (Qb ab.out)) (fun ae=>?_);clear hK K;try simp only [Ap]
        refine Rd 9 rfl (fun K hK=>?_);go_simp;refine hK.out _ _ (a2.out (w5.alloc (.cells #[I p,I q,I r,I s] 42)) (Qb ab.out)) (fun ae=>?_);clear hK K;try simp only [Ap]
        refine wpAnyH_done η ?_ _;go_wp2;go_meet
        case rel=>exact ⟨_,rfl,⟨δ,δ,δ,δ⟩,Qb ab.out,ab.out.size⟩
       ·go_simp;refine hK.out _ _ (a2.out (F.alloc (.cells #[I 0,I 0,I 0,I 0] 42)) β1) (fun ae=>?_);clear hK K;try simp only [Ap]
        refine Rd 7 rfl (fun K hK=>?_);refine Qp Ω 100 #[.agg #[I A,I B,I C,I E],.agg #[I mA,I mB,I mC,I mD,I mU,I mV]] η (CB.out _) ?_;rintro e w6 ⟨rfl,P⟩;refine ⟨_,rfl, ?_⟩;have b5:Hid (Bl F w6):=Qc (Qg β1) P;have t0:At w6 F.heap.size 0 (I 0):=Qa P δ;have u0:Fn w6 F.heap.size 0:=(P.frozen ξ).trans δ;have t1:At w6 F.heap.size 1 (I 0):=Qa P δ;have u1:Fn w6 F.heap.size 1:=(P.frozen ξ).trans δ;have t2:At w6 F.heap.size 2 (I 0):=Qa P δ;have u2:Fn w6 F.heap.size 2:=(P.frozen ξ).trans δ;have t3:At w6 F.heap.size 3 (I 0):=Qa P δ;have u3:Fn w6 F.heap.size 3:=(P.frozen ξ).trans δ;clear P;refine hK.out _ _ (a2.out _ b5.out) (fun ae=>?_);clear hK K;try simp only [Ap]
        have b6:Hid (Bl F ((((w6.setCell ⟨F.heap.size,0,none⟩ (I p)).setCell ⟨F.heap.size,1,none⟩ (I q)).setCell ⟨F.heap.size,2,none⟩ (I r)).setCell ⟨F.heap.size,3,none⟩ (I s))):=Qh (Qh (Qh (Qh b5.out (Nr _)) (Nr _)) (Nr _)) (Nr _);refine Rd 9 rfl (fun K hK=>?_);go_simp;refine hK.out _ _ (a2.out ((((w6.setCell ⟨F.heap.size,0,none⟩ (I p)).setCell ⟨F.heap.size,1,none⟩ (I q)).setCell ⟨F.heap.size,2,none⟩ (I r)).setCell ⟨F.heap.size,3,none⟩ (I s)) b6.out) (fun ae=>?_);clear hK K;try simp only [Ap]
        refine wpAnyH_done η ?_ _;go_wp2;go_meet
        case rel=>exact ⟨_,rfl,⟨by simp [go_sem,t0],by simp [go_sem,t1],by simp [go_sem,t2],by simp [go_sem,t3]⟩,b6.out,Nr _⟩
      case rest =>
       obtain ⟨Y,rfl,hE,G,cf⟩:=hcut;have Z:Hid (Bl F wc∧Bl wr wc∧Bl w wc):=⟨G,Qc ac.out.1 G,Qc ac.out.2.1 G⟩;have b9:=HM.out.kept Z.out.2.1;obtain ⟨s0,s1,s2,s3,af,bh,au,bi,ar⟩:=HM.out.m.step γ (p,q,r,s);have aa:Hid (Ow wr (w.heap.size+2) s0 s1 s2 s3 (gJ kd M (pls L M L.length) i (gA kd L M (pls L M L.length) i) (l.take k) (p,q,r,s))∧(∀ W:World,W.heap[w.heap.size+1]?=wr.heap[w.heap.size+1]?→(Instr.lookup 108 (.map (some (w.heap.size+1))) (.agg #[I p,I q,I r,I s]) false).run Tryz.prog W=.ok (.agg #[s0,s1,s2,s3]) W)∧(∀ k,mtB s0 s1 s2 s3 k→¬ (some (⟨gj,0,none⟩:Addr)=Az k))):=⟨bh,af,bi⟩;have an:Hid (∀ (W w':World) (t0 t1 t2 t3:Value) (D:MD),Bl wr W→Ow w' (w.heap.size+2) t0 t1 t2 t3 D→Sam W w' (mtB s0 s1 s2 s3)→(∀ k,mtB t0 t1 t2 t3 k→mtB s0 s1 s2 s3 k∨W.heap.size≤k)→(∀ k,some (⟨gj,0,none⟩:Addr)=Az k→k<W.heap.size)→D≠mdZ→∃ W4,(Instr.mapUpdate 108 (.map (some (w.heap.size+1))) (.agg #[I p,I q,I r,I s]) (.agg #[t0,t1,t2,t3])).run Tryz.prog w'=.ok () W4∧MGP W4 (w.heap.size+2) (w.heap.size+1) (fun j=>if j=(p,q,r,s) then D else gJ kd M (pls L M L.length) i (gA kd L M (pls L M L.length) i) (l.take k) j) (i*900+k+1) (fun b=>some (⟨gj,0,none⟩:Addr)=Az b)∧w'.grownBy W4 (some (w.heap.size+1))):=ar;have aj:Hid (MtI w wc n O o T u H X N pa (gJ kd M (pls L M L.length) i (gA kd L M (pls L M L.length) i) (l.take k)) (i*900+k) (fun b=>some (⟨gj,0,none⟩:Addr)=Az b)):=b9
       have ai:(pls L M L.length).getD i (0,0,0)=mvt (M i) (x,y,z):=by
        have e:L[i]=(x,y,z):=by rw [← Qz L i Q (d:=(0,0,0))];exact HL.out.1
        have:=plF_pls (L:=L) (M:=M) Q;rw [e] at this;exact this
       have ah:mapM (M i)=true:=ak.1;have bz:Kd (x,y,z):=ba.out.2.2
       have ap:hasT ((pls L M L.length).getD i (0,0,0)) (p,q,r,s)=true:=by
        rw [ai,← b8.out.1];exact Qbs ah bz HQ.out.2.1
       have av:triT ((pls L M L.length).getD i (0,0,0))=true:=by
        rw [ai];have:=ak.2;rw [HL.out.1] at this;exact this
       have CM:Hid (∀ V:World,Bl wc V→Cl 101 #[.agg #[.slice N n O,.map (some o),.map (some T),.slice (Az u) n H,.slice pa n X],.agg #[s0,s1,s2,s3],.agg #[I p,I q,I r,I s],I (i:Int),.agg #[I A,I B,I C,I E,I (j:Int)]] V fun e w'=>MtTo V w' (w.heap.size+2) s0 s1 s2 s3 (mt (gJ kd M (pls L M L.length) i (gA kd L M (pls L M L.length) i) (l.take k) (p,q,r,s)) (kd (A,B,C,E)) (tov (M i)) (sd (p,q,r,s) ((pls L M L.length).getD i (0,0,0))) i j) e):=fun V hV=>by
        have bc:Bl w V:=Qc Z.out.2.2 hV;have ch:=aj.out.le (p,q,r,s);have aw:=HR.out.1.kept bc;refine met_any V (w.heap.size+2) n O o T u H X N pa s0 s1 s2 s3 p q r s A B C E i j (sd (p,q,r,s) ((pls L M L.length).getD i (0,0,0))) (kd (A,B,C,E)) (tov (M i)) _ (aa.out.1.sam (Sam.below (R:=fun _=>False) (Qc Z.out.2.1 hV)) fun _ _=>id) (by have:=hV.size;have:=aj.out.sz;omega) (sd_le _ _) γ γ γ γ (fun U hU=>?_) (fun U hU=>?_) (fun U hU=>?_)
        ·exact side_any U _ _ _ _ pa n X i (pls L M L.length) p q r s (aw.kept hU).pl (by rw [Yj];exact Q) (by rw [Yj];exact HR.out.2.1) av ap (HR.out.2.2.2.2.kept (Qc bc hU))
        ·exact kind_any U N n O o T kd A B C E (aw.kept hU).kl
        ·exact foldedP_any U _ _ _ _ u n H i j (kd (A,B,C,E)) M (by have:=(aw.kept hU).mr;rw [← HR.out.2.1] at this;exact this) h1 hL ah
       obtain ⟨x0,x1,x2,x3⟩:=hE;replace bx:=bx.kept G;replace q0:=Qa G q0;replace q1:=Qa G q1;replace q2:=Qa G q2;replace q3:=Qa G q3;replace q4:=Qa G q4;replace c0:=Qa G c0;replace c1:=Qa G c1;replace c2:=Qa G c2;replace c3:=Qa G c3;replace c4:=Qa G c4;have J:(fun w'=>At w' w.heap.size 0 (.slice N n O)∧At w' w.heap.size 1 (.map (some o))∧At w' w.heap.size 2 (.map (some T))∧At w' w.heap.size 3 (.slice (Az u) n H)∧At w' w.heap.size 4 (.slice pa n X)∧At w' wr.heap.size 0 (I A)∧At w' wr.heap.size 1 (I B)∧At w' wr.heap.size 2 (I C)∧At w' wr.heap.size 3 (I E)∧At w' wr.heap.size 4 (I (j:Int))∧At w' Y 0 (I p)∧At w' Y 1 (I q)∧At w' Y 2 (I r)∧At w' Y 3 (I s)∧(Instr.lookup 108 (.map (some (w.heap.size+1))) (.agg #[I p,I q,I r,I s]) false).run Tryz.prog w'=.ok (.agg #[s0,s1,s2,s3]) w') wc.drew:=⟨c0,c1,c2,c3,c4,q0,q1,q2,q3,q4,x0,x1,x2,x3,aa.out.2.1 _ (Z.out.2.1.block _ au)⟩;have HZ:Hid (wr.heap.size<wc.heap.size∧Y<wc.heap.size∧wr.heap.size≤Y):=⟨bk q0,bk x0,γ⟩;have a8:Hid ((∀ k,mtB s0 s1 s2 s3 k→w.heap.size+2≤k∧k<wr.heap.size)∧w.heap.size+1<wr.heap.size):=⟨fun k hk=>aa.out.1.low hk,au⟩;clear y0 y1 y2 y3 y4 y5 ar af bh bi ai ap av b9 G a2 CB ak ah;go_upto_region 10 with fail
       refine Jz (S:=fun w'=>At w' w.heap.size 0 (.slice N n O)∧At w' w.heap.size 1 (.map (some o))∧At w' w.heap.size 2 (.map (some T))∧At w' w.heap.size 3 (.slice (Az u) n H)∧At w' w.heap.size 4 (.slice pa n X)∧At w' wr.heap.size 0 (I A)∧At w' wr.heap.size 1 (I B)∧At w' wr.heap.size 2 (I C)∧At w' wr.heap.size 3 (I E)∧At w' wr.heap.size 4 (I (j:Int))∧At w' Y 0 (I p)∧At w' Y 1 (I q)∧At w' Y 2 (I r)∧At w' Y 3 (I s)∧(Instr.lookup 108 (.map (some (w.heap.size+1))) (.agg #[I p,I q,I r,I s]) false).run Tryz.prog w'=.ok (.agg #[s0,s1,s2,s3]) w') (late:=fun j=>decide (j=10)) η ?_;refine Lk 0 (.map (some (w.heap.size+1))) J ?_;refine Lk 1 (.agg #[I p,I q,I r,I s]) J ?_;refine Lk 2 (.agg #[.slice N n O,.map (some o),.map (some T),.slice (Az u) n H,.slice pa n X]) J ?_;refine Lk 3 (.map (some (w.heap.size+1))) J ?_;refine Lk 4 (.agg #[I p,I q,I r,I s]) J ?_;refine Lk 5 (.agg #[s0,s1,s2,s3]) J ?_;refine Lk 6 (.agg #[I p,I q,I r,I s]) J ?_;refine Lk 7 (I (i:Int)) J ?_;refine Lk 8 (.agg #[I A,I B,I C,I E,I (j:Int)]) J ?_;refine Lt.one (i:=9) η rfl rfl ?_;refine Qag 101 #[.agg #[.slice N n O,.map (some o),.map (some T),.slice (Az u) n H,.slice pa n X],.agg #[s0,s1,s2,s3],.agg #[I p,I q,I r,I s],I (i:Int),.agg #[I A,I B,I C,I E,I (j:Int)]] η (CM.out _ (Qg (Qe _))) ?_;rintro e w9 ⟨t0,t1,t2,t3,rfl,bg,a6,bq,bb⟩;have hd:∀ (a:Addr) (v:Value),(a.block=w.heap.size∨wr.heap.size≤a.block)→wc.cell? a=some v→w9.cell? a=some v:=fun a v hl hc=>a6.cell (w:=wc.drew) hc fun hk=>by have:=a8.out.1 _ hk;omega
       have br:w9.heap[w.heap.size+1]?=wr.heap[w.heap.size+1]?:=(a6.blk _ (by have:=a8.out.2;have:=HZ.out;show _<wc.heap.size;omega) fun hk=>by have:=a8.out.1 _ hk;omega).trans (Z.out.2.1.block _ a8.out.2);have ao:(fun w'=>At w' w.heap.size 0 (.slice N n O)∧At w' w.heap.size 1 (.map (some o))∧At w' w.heap.size 2 (.map (some T))∧At w' w.heap.size 3 (.slice (Az u) n H)∧At w' w.heap.size 4 (.slice pa n X)∧At w' wr.heap.size 0 (I A)∧At w' wr.heap.size 1 (I B)∧At w' wr.heap.size 2 (I C)∧At w' wr.heap.size 3 (I E)∧At w' wr.heap.size 4 (I (j:Int))∧At w' Y 0 (I p)∧At w' Y 1 (I q)∧At w' Y 2 (I r)∧At w' Y 3 (I s)∧(Instr.lookup 108 (.map (some (w.heap.size+1))) (.agg #[I p,I q,I r,I s]) false).run Tryz.prog w'=.ok (.agg #[s0,s1,s2,s3]) w') w9:=⟨hd _ _ (Or.inl rfl) c0,hd _ _ (Or.inl rfl) c1,hd _ _ (Or.inl rfl) c2,hd _ _ (Or.inl rfl) c3,hd _ _ (Or.inl rfl) c4,hd _ _ (Or.inr (Nr _)) q0,hd _ _ (Or.inr (Nr _)) q1,hd _ _ (Or.inr (Nr _)) q2,hd _ _ (Or.inr (Nr _)) q3,hd _ _ (Or.inr (Nr _)) q4,hd _ _ (Or.inr HZ.out.2.2) x0,hd _ _ (Or.inr HZ.out.2.2) x1,hd _ _ (Or.inr HZ.out.2.2) x2,hd _ _ (Or.inr HZ.out.2.2) x3,aa.out.2.1 _ br⟩;refine ⟨_,rfl,fun _=>ao, ?_⟩;try simp only [Ap]
       obtain ⟨W4,bs,be,ay⟩:=an.out wc.drew w9 t0 t1 t2 t3 _ (Qg Z.out.2.1) bg a6 bq (fun b e=>by simp only [Option.some.injEq,Addr.mk.injEq,and_true] at e;have:=(HJ.out.2 gj rfl).1;have:=HZ.out;show b<wc.heap.size;omega) (mt_ne _ _ _ _ _ _);refine Lt.one (i:=10) η rfl rfl ?_;refine Zw (w':=W4) (by first | go_simp | simp [go_sem,bs]) ?_;refine ⟨fun h=>absurd h ψ, ?_⟩;try simp only [Ap]
       refine Lt.done η ?_;have am:Sam w9 W4 (fun b=>b=w.heap.size+1):=(Sam.grown ay).mono fun b _ h=>by simpa using h.symm
       have HT:Hid (gJ kd M (pls L M L.length) i (gA kd L M (pls L M L.length) i) (l.take (k+1))=fun j'=>if j'=(p,q,r,s) then (mt (gJ kd M (pls L M L.length) i (gA kd L M (pls L M L.length) i) (l.take k) (p,q,r,s)) (kd (A,B,C,E)) (tov (M i)) (sd (p,q,r,s) ((pls L M L.length).getD i (0,0,0))) i j) else gJ kd M (pls L M L.length) i (gA kd L M (pls L M L.length) i) (l.take k) j'):=by
        have:=gJ_succ kd M (pls L M L.length) i (gA kd L M (pls L M L.length) i) l hk1;rw [HQ.out.1] at this;rw [this];unfold stJ;rw [if_pos hij,b8.out.1];rfl
       have HF:Hid (MtI w W4 n O o T u H X N pa (gJ kd M (pls L M L.length) i (gA kd L M (pls L M L.length) i) (l.take (k+1))) (i*900+(k+1)) (fun b=>some (⟨gj,0,none⟩:Addr)=Az b)∧JRow W4 (Az gj) l∧∀ g,some (⟨gj,0,none⟩:Addr)=Az g→g<W4.heap.size∧w.heap.size+2≤g):=by
        have bo:Bl w w9:=(Qg Z.out.2.2).trans (bb.mono γ);have cl:wc.heap.size≤w9.heap.size:=a6.size;have cn:=am.size;have co:=HZ.out;have ci:=a8.out.2;refine ⟨⟨?_, ?_, ?_, ?_, ?_⟩, ?_,fun g e=>?_⟩
        ·rw [HT.out];exact be
        ·have:=gJ_succ kd M (pls L M L.length) i (gA kd L M (pls L M L.length) i) l hk1;rw [this];exact MdLe.step aj.out.le _
        ·exact (PBx.sam (w:=wc.drew) (w':=w9) ⟨c0,c1,c2,c3,c4⟩ a6 (fun hk=>by have:=a8.out.1 _ hk;omega)).sam am γ
        ·exact bo.grown ay bo.size (fun b e=>by simp at e;omega)
        ·omega
        ·exact ((HJ.out.1.kept Z.out.2.1).sam (⟨a6.size,a6.blk⟩:Sam wc w9 (mtB s0 s1 s2 s3)) (fun g e hk=>aa.out.2.2 g hk e)).sam am (fun g e=>by have:=(HJ.out.2 g e).2;omega)
        ·have:=HJ.out.2 g e;exact ⟨γ,this.2⟩
       clear bs be ay am HT bg a6 bq bb hd br ao J CM an aa aj bx c0 c1 c2 c3 c4 q0 q1 q2 q3 q4 x0 x1 x2 x3;go_wp2;go_roundg (l.length - (k+1))
       case measure=>omega
       case rel=>exact ⟨k+1,γ,rfl,σ,HF.out.1,HF.out.2.1,HF.out.2.2⟩
     ·have HT:Hid (gJ kd M (pls L M L.length) i (gA kd L M (pls L M L.length) i) (l.take (k+1))=gJ kd M (pls L M L.length) i (gA kd L M (pls L M L.length) i) (l.take k)):=by
       have:=gJ_succ kd M (pls L M L.length) i (gA kd L M (pls L M L.length) i) l hk1;rw [HQ.out.1] at this;rw [this];exact if_neg hij
      go_wp2;go_roundg (l.length - (k+1))
      case measure=>omega
      case rel =>
       refine ⟨k+1,γ,rfl,σ, ?_,fun i hi=>?_,fun g e=>?_⟩
       ·rw [HT.out];exact (HM.out.kept β1).mono γ
       ·exact (HJ.out.1.kept β1) i hi
       ·have:=HJ.out.2 g e;exact ⟨ω,this.2⟩
    ·have k1:¬ (k:Int)<(l.length:Int):=γ
     have HE:Hid (gJ kd M (pls L M L.length) i (gA kd L M (pls L M L.length) i) (l.take k)=gA kd L M (pls L M L.length) (i+1)):=by
      have e:k=l.length:=γ;rw [e,List.take_length,HL.out.2.1,← HL.out.1];rfl
     have h9:=HL.out.2.2;go_wp2;go_roundg (n - (i+1))
     case measure=>omega
     case rel =>
      refine ⟨i+1,γ,rfl,σ, ?_⟩;rw [← HE.out];have:=HM.out.mono (d:=(i+1)*900) γ;exact ⟨this.m.less (fun _ h=>h.elim),this.le,this.bx,this.bl,this.sz⟩
  ·have i1:¬ (i:Int)<(n:Int):=γ
   have HE:Hid (i=n):=by
    have:i=n:=γ;exact this
   go_wp2;go_ret;rw [← HE.out];have:=HI.out.sz;exact ⟨_,_,_,rfl,HI.out.m,γ,γ,γ,HI.out.bl⟩
theorem state_eitherv (W H:Int) (a c F K:Option Addr) (B C n p J X:Nat) (zs x:List Int) (M:Nat→M6) (S:List (T3×List T3)) (w:World) (hz:Row w a zs) (hk:Row w c x) (hn:x.length=n*5) (_h1:zs.length≤17592186044416) (h2:n≤3518437208883) (hM:MRowG w F p M) (_ac:p≤2932031007402) (hS:SRowG w K S) (ab:S.length≤2932031007402) (P:∀ s∈S,s.2.length≤5864062014805) (E:Steps w) :
  ((∀ V:World,Bl w V→Rt 12 #[.agg #[I W,I H,.slice a zs.length B,.slice c n C,.slice F p J,.slice K S.length X]] V (.bool false))
   ∧ ∀ (V:World) (r q y t:Option Addr) (j l m u:Nat),Bl w V→CopyAt V p zs x M S r q y t→Cl 36 #[.agg #[I W,I H,.slice r zs.length j,.slice q n l,.slice y p m,.slice t S.length u]] V fun e w'=>OfNf V w' e)
  ∨ ∃ g f b off:Nat,W=(g:Int)∧H=(f:Int)∧a=Ad b off∧(1≤g∧g≤8)∧(1≤f∧f≤8)∧zs.length=g*f∧maskB zs=true∧Joined (ty zs g f)∧(∀ i,i<n→CrOk (ty zs g f) x i)∧SOk (kdn x n) (ty zs g f) p M S
   ∧ (∀ V:World,Bl w V→Rt 12 #[.agg #[I W,I H,.slice a zs.length B,.slice c n C,.slice F p J,.slice K S.length X]] V (.bool true))
   ∧ ∀ (V:World) (r q y t:Option Addr) (j l m u:Nat),Bl w V→CopyAt V p zs x M S r q y t→Cl 36 #[.agg #[I W,I H,.slice r zs.length j,.slice q n l,.slice y p m,.slice t S.length u]] V fun e w'=>∃ Y k ra rk gm cm pa pc Z h,e=.returned (.tuple #[.agg #[.slice Y (ty zs g f).length k,.map (some ra),.map (some rk),.slice (Az gm) (ty zs g f).length cm,.slice pa (ty zs g f).length pc],ABv Z,.bool true])∧PileAt w' Y k ra rk gm cm pa pc (ty zs g f) (kdn x n) M∧Hg w' Z (ty zs g f).length h∧Lv S (ty zs g f) h S.length 0∧Bl V w':=by
 rcases sheet_either W H a c B C n zs x w hz hk hn h2 E with ⟨q1,q2⟩ | ⟨g,f,b,off,rfl,rfl,rfl,G,N,T,hm,hJ,hC,O⟩
 ·refine Or.inl ⟨fun V o=>stateMay_no W H a c F K zs.length B n C p J S.length X V (fun z d=>q2 z (Qc o d)),fun V r q y t j l m u o A=>?_⟩;exact of_nof W H r q y t zs.length j n l p m S.length u V (fun z d=>q1 z r q j l (Qc o d) (A.1.kept d) (A.2.1.kept d))
 ·have U:(ty zs g f).length≤256:=by have:=Yu zs g f G.2;omega
  have a7:=Yl zs g f;have R:=Kg (zs:=zs) G.2 N.2
  have aa:0<zs.length:=by
   rw [T];exact Nat.mul_pos γ γ
  have LS:∀ V:World,Bl w V→Cl 12 #[.agg #[I (g:Int),I (f:Int),.slice (Ad b off) zs.length B,.slice c n C,.slice F p J,.slice K S.length X]] V fun e w'=>SmTo (kdn x n) (ty zs g f) p M S V w' e:=fun V o =>
   stateMay_yes (g:Int) (f:Int) (Ad b off) c F K zs.length B n C p J X V (kdn x n) (ty zs g f) M S (fun z d=>O z (Qc o d))
    (fun z d=>mapsMay_any g f b off B n C p J c F zs x M z (hz.kept (Qc o d)) G N T hm ((Xu hk hn).kept (Qc o d)) (cr_one hC) h2 (hM.kept (Qc o d)))
    (fun z d=>(Yv g f b off B zs (.slice c n C) z (hz.kept (Qc o d)) G N T hm).mono fun e w' ⟨v,D,ho,Q⟩=>by
     obtain ⟨a9,c9,rfl,hT⟩:=Xc ho;exact ⟨a9,c9,D,hT,Q⟩)
    (hM.kept o) (hS.kept o) a7 U R γ (fun s hs=>by have:=P s hs;omega)
  have LO:∀ (V:World) (r q y t:Option Addr) (j l m u:Nat),Bl w V→CopyAt V p zs x M S r q y t→Cl 36 #[.agg #[I (g:Int),I (f:Int),.slice r zs.length j,.slice q n l,.slice y p m,.slice t S.length u]] V fun e w'=>OfTv V w' (kdn x n) (ty zs g f) p M S e:=fun V r q y t j l m u o A=>by
   refine of_yesv (g:Int) (f:Int) r q y t zs.length j n l p m u V x n (ty zs g f) M S (E.kept o) (fun z d=>?_) A.2.2.1 A.2.2.2 (ty_up zs g f) hJ.1 γ R γ (fun s hs=>by have:=P s hs;omega);have r1:=A.1.kept d;obtain ⟨ba,oa,rfl,_⟩:=r1 0 aa;exact lay_yes g f ba oa j n l q zs x z r1 G N T hm (A.2.1.kept d) hn h2 (E.kept (Qc o d)) hJ hC
  by_cases hok:SOk (kdn x n) (ty zs g f) p M S
  ·refine Or.inr ⟨g,f,b,off,rfl,rfl,rfl,G,N,T,hm,hJ,hC,hok,fun V o=>(LS V o).mono fun e w' ⟨bq,D,Q,L⟩=>⟨by rw [D,Q.2 hok],L⟩,fun V r q y t j l m u o A=>(LO V r q y t j l m u o A).mono fun e w' h=>?_⟩;rcases h with ⟨_,a8⟩ | ⟨_,Y,k,ra,rk,gm,cm,pa,pc,Z,h,D,hp,a2,a6,L⟩
   ·exact absurd hok a8
   ·exact ⟨Y,k,ra,rk,gm,cm,pa,pc,Z,h,D,hp,a2,a6,L⟩
  ·refine Or.inl ⟨fun V o=>(LS V o).mono fun e w' ⟨bq,D,Q,L⟩=>⟨?_,L⟩,fun V r q y t j l m u o A=>(LO V r q y t j l m u o A).mono fun e w' h=>?_⟩
   ·cases bq
    ·exact D
    ·exact absurd (Q.1 rfl) hok
   ·rcases h with ⟨h,_⟩ | ⟨h,_⟩
    ·exact h
    ·exact absurd h hok
end Go.Proofs.YtnpboeodhpenmaaGreatDoor
