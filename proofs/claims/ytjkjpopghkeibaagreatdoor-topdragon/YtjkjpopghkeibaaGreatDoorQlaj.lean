/- A part of it. -/
import Derived.Test.YtjkjpopghkeibaaGreatDoorQlah
import Derived.Test.YtjkjpopghkeibaaGreatDoorQlai
import Derived.Shelf.SlSortCmp.Kit1
set_option maxRecDepth 100000
set_option maxHeartbeats 40000000
namespace Go.Proofs.YtjkjpopghkeibaaGreatDoor
open Go.RowKit Go.ChangeMaps
variable {L:List T3} {kd:E4→Int} {M:Nat→M6} {i j k m n:Nat} {e:E4} {t:T3} {B c:Int}
theorem Ys {α:Type} {l:List α} (h:l.Nodup) (hi:i<l.length) (a:j<l.length) (e:l[i]=l[j]):i=j:=by
 have hp:=List.pairwise_iff_getElem.1 h;rcases Nat.lt_trichotomy i j with q | q | q
 ·exact absurd e (hp i j hi a q)
 ·exact q
 ·exact absurd e.symm (hp j i a hi q)
def allS (S:List (T3×List T3)):List T3:=S.flatMap fun s=>s.2
structure StOk (L:List T3) (P:Nat→Int×Int×Int) (S:List (T3×List T3)):Prop where
 ne:∀ s∈S,s.2≠[]
 up:∀ n (h:n+1<S.length),ltT S[n].1 S[n+1].1
 pl:∀ s∈S,∀ t∈s.2,∃ i,∃ h:i<L.length,L[i]=t∧P i=s.1
 nd:∀ s∈S,s.2.Nodup
 al:(allS S).length=L.length
theorem up_pair {S:List (T3×List T3)} (h:∀ n (h:n+1<S.length),ltT S[n].1 S[n+1].1):S.Pairwise fun a b=>ltT a.1 b.1:=by
 rw [List.pairwise_iff_getElem];intro i j hi e c;obtain ⟨d,rfl⟩:∃ d,j=i+1+d:=⟨j - (i+1),γ⟩;clear c;induction d with
 | zero=>exact h i e
 | succ d ih=>exact Xq _ _ _ (ih γ) (h (i+1+d) e)
theorem Zv:∀ (F L:List T3),F.Nodup→(∀ x∈F,x∈L)→F.length≤L.length
 | [],_,_,_=>by simp
 | a :: F,L,hn,hs=>by
  rw [List.nodup_cons] at hn;have h1:=Zv F (L.erase a) hn.2 fun x c=>(List.mem_erase_of_ne (fun e:x=a=>hn.1 (e ▸ c))).2 (hs x (List.mem_cons_of_mem _ c));have b:=hs a ξ;have h2:=List.length_erase_of_mem b;have h3:=List.length_pos_of_mem b;simp only [List.length_cons];omega
theorem StOk.nodup {P:Nat→Int×Int×Int} {S:List (T3×List T3)} (g:L.Nodup) (h:StOk L P S):(allS S).Nodup:=by
 unfold allS List.Nodup;rw [List.pairwise_flatMap];refine ⟨h.nd, ?_⟩;have hp:=up_pair h.up;rw [List.pairwise_iff_getElem] at hp ⊢;intro i j hi d c x m y n e;subst e;obtain ⟨a,k,e1,e2⟩:=h.pl _ (Lm hi) x m;obtain ⟨b,l,e3,f⟩:=h.pl _ (Lm d) x n;have:=Ys g k l (e1.trans e3.symm);subst this;have h3:=hp i j hi d c;rw [← e2,← f] at h3;exact Jr _ h3
theorem StOk.mem {P:Nat→Int×Int×Int} {S:List (T3×List T3)} (h:StOk L P S):∀ t∈allS S,t∈L:=fun t a=>by
 unfold allS at a;rw [List.mem_flatMap] at a;obtain ⟨s,hs,a⟩:=a;obtain ⟨i,hi,e,_⟩:=h.pl s hs t a;exact e ▸ Lm hi
theorem StOk.cov {P:Nat→Int×Int×Int} {S:List (T3×List T3)} (c:L.Nodup) (h:StOk L P S):∀ t∈L,t∈allS S:=fun t d=>by
 refine Classical.byContradiction fun a=>?_
 have:=Zv (t :: allS S) L (List.nodup_cons.2 ⟨a,h.nodup c⟩) fun x b=>by
  rcases List.mem_cons.1 b with e | b
  ·exact e ▸ d
  ·exact h.mem x b
 simp only [List.length_cons] at this;have:=h.al;omega
theorem Uh {S:List (T3×List T3)} (h:n<S.length):allS (S.take (n+1))=allS (S.take n) ++ S[n].2:=by
 unfold allS;rw [List.take_succ_eq_append_getElem h,List.flatMap_append];simp
theorem allS_cut {S:List (T3×List T3)} (h:n<S.length):∃ r,allS S=allS (S.take n) ++ S[n].2 ++ r:=by
 refine ⟨allS (S.drop (n+1)), ?_⟩;rw [← Uh h];unfold allS;rw [← List.flatMap_append,List.take_append_drop]
theorem twice_not {S:List (T3×List T3)} (h:n<S.length) (c:k<S[n].2.length) (b:S[n].2[k]∈allS (S.take n) ++ S[n].2.take k):¬ (allS S).Nodup:=fun a=>by
 obtain ⟨r,e⟩:=allS_cut h;rw [e] at a
 have e2:S[n].2=S[n].2.take k ++ [S[n].2[k]] ++ S[n].2.drop (k+1):=by
  rw [List.append_assoc,List.singleton_append,List.getElem_cons_drop,List.take_append_drop]
 rw [e2,← List.append_assoc,← List.append_assoc] at a;have h1:=(List.nodup_append.1 (List.nodup_append.1 (List.nodup_append.1 a).1).1);exact h1.2.2 _ b _ ξ rfl
structure Pre (L:List T3) (P:Nat→Int×Int×Int) (S:List (T3×List T3)) (m:Nat):Prop where
 ne:∀ n (h:n<S.length),n<m→S[n].2≠[]
 up:∀ n (h:n+1<S.length),n+1<m→ltT S[n].1 S[n+1].1
 pl:∀ n (h:n<S.length),n<m→∀ t∈S[n].2,∃ i,∃ h:i<L.length,L[i]=t∧P i=S[n].1
 nd:(allS (S.take m)).Nodup
structure Pri (L:List T3) (P:Nat→Int×Int×Int) (S:List (T3×List T3)) (m k:Nat) (hm:m<S.length):Prop where
 pre:Pre L P S m
 ne:S[m].2≠[]
 up:∀ q (h:q+1=m),ltT (S[q]'γ).1 S[m].1
 pl:∀ j (h:j<S[m].2.length),j<k→∃ i,∃ h':i<L.length,L[i]=S[m].2[j]∧P i=S[m].1
 nd:(allS (S.take m) ++ S[m].2.take k).Nodup
theorem pre_zero (L:List T3) (P:Nat→Int×Int×Int) (S:List (T3×List T3)):Pre L P S 0 :=
 ⟨fun n _ h=>by omega,fun n _ h=>by omega,fun n _ h=>by omega,by simp [allS]⟩
theorem Pre.start {P:Nat→Int×Int×Int} {S:List (T3×List T3)} (h:Pre L P S m) (c:m<S.length) (a:S[m].2≠[]) (b:∀ q (h:q+1=m),ltT (S[q]'γ).1 S[m].1):Pri L P S m 0 c :=
 ⟨h,a,b,fun j _ h=>by omega,by simpa using h.nd⟩
theorem Pri.step {P:Nat→Int×Int×Int} {S:List (T3×List T3)} {d:m<S.length} (h:Pri L P S m k d) (n:k<S[m].2.length) (o:∃ i,∃ h':i<L.length,L[i]=S[m].2[k]∧P i=S[m].1) (p:S[m].2[k] ∉ allS (S.take m) ++ S[m].2.take k):Pri L P S m (k+1) d:=by
 refine ⟨h.pre,h.ne,h.up,fun j g l=>?_, ?_⟩
 ·by_cases e:j=k
  ·subst e;exact o
  ·exact h.pl j g γ
 ·rw [List.take_succ_eq_append_getElem n,← List.append_assoc];rw [List.nodup_append];refine ⟨h.nd,ξ,fun a f b c e=>?_⟩;simp at c;subst c;exact p (e ▸ f)
theorem Pri.fin {P:Nat→Int×Int×Int} {S:List (T3×List T3)} {c:m<S.length} (h:Pri L P S m k c) (g:k=S[m].2.length):Pre L P S (m+1):=by
 refine ⟨fun n a b=>?_,fun n a b=>?_,fun n a b t d=>?_, ?_⟩
 ·by_cases e:n=m
  ·subst e;exact h.ne
  ·exact h.pre.ne n a γ
 ·by_cases e:n+1=m
  ·subst e;exact h.up n rfl
  ·exact h.pre.up n a γ
 ·by_cases e:n=m
  ·subst e;obtain ⟨j,f,e⟩:=List.getElem_of_mem d;rw [← e];exact h.pl j f γ
  ·exact h.pre.pl n a γ t d
 ·have:=h.nd;rw [g,List.take_length] at this;rw [Uh c];exact this
theorem Pre.ok {P:Nat→Int×Int×Int} {S:List (T3×List T3)} (h:Pre L P S m) (c:m=S.length) (b:(allS S).length=L.length):StOk L P S:=by
 subst c;refine ⟨fun s hs=>?_,fun n a=>h.up n a a,fun s hs=>?_,fun s hs=>?_,b⟩
 ·obtain ⟨n,a,e⟩:=List.getElem_of_mem hs;rw [← e];exact h.ne n a a
 ·obtain ⟨n,a,e⟩:=List.getElem_of_mem hs;rw [← e];exact h.pl n a a
 ·have:=h.nd;rw [List.take_length] at this;unfold allS List.Nodup at this;rw [List.pairwise_flatMap] at this;exact this.1 s hs
theorem Pre.all {P:Nat→Int×Int×Int} {S:List (T3×List T3)} (d:L.Nodup) (h:Pre L P S m) (c:m=S.length) (f:∀ t∈L,t∈allS S):StOk L P S:=by
 refine h.ok c ?_;subst c;have a:=h.nd;rw [List.take_length] at a
 have h1:=Zv (allS S) L a fun t b=>by
  unfold allS at b;rw [List.mem_flatMap] at b;obtain ⟨s,hs,b⟩:=b;obtain ⟨n,a,e⟩:=List.getElem_of_mem hs;obtain ⟨i,hi,e2,_⟩:=h.pl n a a t (e ▸ b);exact e2 ▸ Lm hi
 have h2:=Zv L (allS S) d f;omega
theorem not_ne {P:Nat→Int×Int×Int} {S:List (T3×List T3)} (a:m<S.length) (h:S[m].2.length=0):¬ StOk L P S:=fun k=>k.ne _ (Lm a) (List.eq_nil_of_length_eq_zero h)
theorem not_nd {P:Nat→Int×Int×Int} {S:List (T3×List T3)} (a:L.Nodup) (c:m<S.length) (b:j<S[m].2.length) (h:S[m].2[j]∈allS (S.take m) ++ S[m].2.take j):¬ StOk L P S:=fun k=>twice_not c b h (k.nodup a)
theorem up_nodup (h:L.Pairwise ltT):L.Nodup:=by
 unfold List.Nodup;refine h.imp ?_;intro a b c e;rw [e] at c;exact Jr b c
def idM:M6:=(1,0,0,1,0,0)
def noM:M6:=(0,0,0,0,0,0)
def aft (m n:M6):M6 :=
 (dot n.1 n.2.1 m.1 m.2.2.1,dot n.1 n.2.1 m.2.1 m.2.2.2.1,dot n.2.2.1 n.2.2.2.1 m.1 m.2.2.1,dot n.2.2.1 n.2.2.2.1 m.2.1 m.2.2.2.1,dot n.1 n.2.1 m.2.2.2.2.1 m.2.2.2.2.2+n.2.2.2.2.1,dot n.2.2.1 n.2.2.2.1 m.2.2.2.2.1 m.2.2.2.2.2+n.2.2.2.2.2)
def lnW (e:E4):Int:=if e.1=e.2.2.1 then 0 else if e.2.1=e.2.2.2 then 1 else if e.2.2.2<e.2.1 then 2 else 3
def lnC (e:E4):Int:=if e.1=e.2.2.1 then e.1 else if e.2.1=e.2.2.2 then e.2.1 else if e.2.2.2<e.2.1 then e.1+e.2.1 else e.1 - e.2.1
def mir (v c:Int):M6:=(mA v,mB v,mB v,mD v,mE v c,mF v c)
def farM (kd:E4→Int) (e:E4) (m:M6):M6:=if kd e=0 then m else aft (mir (lnW e) (lnC e)) m
def mapM (m:M6):Bool:=mapB m.1 m.2.1 m.2.2.1 m.2.2.2.1 m.2.2.2.2.1 m.2.2.2.2.2
def GoodM (m:M6) (B:Int):Prop:=mapM m=true∧(-B≤m.2.2.2.2.1∧m.2.2.2.2.1≤B)∧(-B≤m.2.2.2.2.2∧m.2.2.2.2.2≤B)
theorem GoodM.mono {m:M6} {C:Int} (h:GoodM m B) (a:B≤C):GoodM m C:=⟨h.1,⟨by have:=h.2.1;omega,by have:=h.2.1;omega⟩,⟨by have:=h.2.2;omega,by have:=h.2.2;omega⟩⟩
theorem idM_good:GoodM idM 0:=⟨ψ,ψ,ψ⟩
theorem Vu (h:hasT t e=true) (b:(0≤t.1∧t.1≤8)∧(0≤t.2.1∧t.2.1≤8)∧(0≤t.2.2∧t.2.2≤3)):lineB (lnW e) (lnC e)=true∧-40≤lnC e∧lnC e≤40:=by
 obtain ⟨x,y,k⟩:=t;obtain ⟨p,q,r,s⟩:=e;simp only [hasT] at h b;rw [Qx] at h;obtain ⟨f,g,d⟩:=b;have a:k=0∨k=1∨k=2∨k=3:=γ
 have c:(p=r→p % 2=0)∧(q=s→q % 2=0)∧(p+q) % 2=0∧(0≤p∧p≤18)∧(0≤q∧q≤18):=by
  rcases a with rfl | rfl | rfl | rfl <;> simp only [Zt,Zs,Zp,Zo,Zn,Zm,Zl,Zk,Zj,Zi,Zh,Zg] at h <;> omega
 clear h a;by_cases c1:p=r
 ·simp only [lineB,lnW,lnC,if_pos c1,decide_eq_true_eq];omega
 ·by_cases c2:q=s
  ·simp only [lineB,lnW,lnC,if_neg c1,if_pos c2,decide_eq_true_eq];omega
  ·by_cases c3:s<q
   ·simp only [lineB,lnW,lnC,if_neg c1,if_neg c2,if_pos c3,decide_eq_true_eq];omega
   ·simp only [lineB,lnW,lnC,if_neg c1,if_neg c2,if_neg c3,decide_eq_true_eq];omega
theorem Qbm {v:Int} (h:lineB v c=true) (a : -40≤c∧c≤40):GoodM (mir v c) 80:=by
 obtain ⟨h0,h3,b1,b2,b3⟩:=line_bd h;have hv:v=0∨v=1∨v=2∨v=3:=γ;rcases hv with rfl | rfl | rfl | rfl <;> simp [GoodM,mapM,mir,mapB,mA,mB,mD,mE,mF,unitB,evenB] <;> omega
theorem Xz {a b d e f:Int} (h:mapB a b c d e f=true):((a=1∨a=-1)∧b=0∧c=0∧(d=1∨d=-1))∨(a=0∧(b=1∨b=-1)∧(c=1∨c=-1)∧d=0):=by
 simp only [mapB,unitB,Bool.and_eq_true,Bool.or_eq_true,decide_eq_true_eq] at h;omega
theorem map_of {a b d e f:Int} (h:((a=1∨a=-1)∧b=0∧c=0∧(d=1∨d=-1))∨(a=0∧(b=1∨b=-1)∧(c=1∨c=-1)∧d=0)) (g:e % 2=0∧-1000000≤e∧e≤1000000) (i:f % 2=0∧-1000000≤f∧f≤1000000):mapB a b c d e f=true:=by
 simp only [mapB,unitB,evenB,Bool.and_eq_true,Bool.or_eq_true,decide_eq_true_eq];omega
theorem aft_good {m n:M6} (p:GoodM m 80) (q:GoodM n B) (s:B≤900000):GoodM (aft m n) (B+160):=by
 obtain ⟨a,b,c,d,e,f⟩:=m;obtain ⟨A,g,C,D,E,F⟩:=n;obtain ⟨h,k,l⟩:=p;obtain ⟨n1,n2,n3⟩:=q;simp only [mapM] at h k l n1 n2 n3;have r:=(Ju h).2.2;have ne:=(Ju n1).2.2;have o:=Xz h;have i:=Xz n1
 have j:(((dot A g a c=1∨dot A g a c=-1)∧dot A g b d=0∧dot C D a c=0∧(dot C D b d=1∨dot C D b d=-1))∨(dot A g a c=0∧(dot A g b d=1∨dot A g b d=-1)∧(dot C D a c=1∨dot C D a c=-1)∧dot C D b d=0))∧(dot A g e f=e∨dot A g e f=-e∨dot A g e f=f∨dot A g e f=-f)∧(dot C D e f=e∨dot C D e f=-e∨dot C D e f=f∨dot C D e f=-f):=by
  clear h k l n1 n2 n3 r ne;refine ⟨?_, ?_, ?_⟩
  ·rcases o with ⟨rfl | rfl,rfl,rfl,rfl | rfl⟩ | ⟨rfl,rfl | rfl,rfl | rfl,rfl⟩ <;> rcases i with ⟨rfl | rfl,rfl,rfl,rfl | rfl⟩ | ⟨rfl,rfl | rfl,rfl | rfl,rfl⟩ <;> decide
  ·rcases i with ⟨rfl | rfl,rfl,rfl,rfl | rfl⟩ | ⟨rfl,rfl | rfl,rfl | rfl,rfl⟩ <;> simp [dot]
  ·rcases i with ⟨rfl | rfl,rfl,rfl,rfl | rfl⟩ | ⟨rfl,rfl | rfl,rfl | rfl,rfl⟩ <;> simp [dot]
 obtain ⟨k1,k2,k3⟩:=j;clear o i h n1;refine ⟨?_, ?_, ?_⟩
 ·refine map_of (by simp only [aft];exact k1) ?_ ?_ <;> simp only [aft] <;> omega
 ·simp only [aft];omega
 ·simp only [aft];omega
theorem far_good {m:M6} (h:hasT t e=true) (a:(0≤t.1∧t.1≤8)∧(0≤t.2.1∧t.2.1≤8)∧(0≤t.2.2∧t.2.2≤3)) (b:GoodM m B) (c:B≤900000):GoodM (farM kd e m) (B+160):=by
 unfold farM;split
 ·exact b.mono γ
 ·exact aft_good (Qbm (Vu h a).1 (Vu h a).2) b c
def Cons (kd:E4→Int) (L:List T3) (N:Nat→M6):Prop :=
 N 0=idM∧∀ i j (hi:i<L.length) (hj:j<L.length) e,i≠j→hasT L[i] e=true→hasT L[j] e=true→N j=farM kd e (N i)
def MI (kd:E4→Int) (L:List T3) (K:List Nat) (M:Nat→M6):Prop :=
 0∈K∧K.Nodup∧M 0=idM∧(∀ i∈K,i<L.length∧GoodM (M i) (160*(K.length:Int)))∧∀ N,Cons kd L N→∀ i∈K,M i=N i
theorem MI.start (h0:0<L.length) (a:M 0=idM):MI kd L [0] M:=by
 refine ⟨ξ,ξ,a,fun i hi=>?_,fun N b i hi=>?_⟩
 ·simp at hi;subst hi;rw [a];exact ⟨h0,idM_good.mono ξ⟩
 ·simp at hi;subst hi;rw [a,b.1]
theorem MI.len {K:List Nat} (h:MI kd L K M):K.length≤L.length:=Gz _ _ h.2.1 (fun i hi=>(h.2.2.2.1 i hi).1)
theorem snoc_nodup {K:List Nat} (h:K.Nodup) (f:j ∉ K):(K ++ [j]).Nodup:=by
 rw [List.nodup_append];refine ⟨h,ξ,fun a d b c=>?_⟩;simp at c;subst c;exact fun e=>f (e ▸ d)
theorem MI.found {K:List Nat} (h:MI kd L K M) (o:L.length≤300) (d:∀ t∈L,(0≤t.1∧t.1≤8)∧(0≤t.2.1∧t.2.1≤8)∧(0≤t.2.2∧t.2.2≤3)) (hi:i∈K) (k:j<L.length) (b:j ∉ K) (h1:∀ a:i<L.length,hasT L[i] e=true) (h2:hasT L[j] e=true):MI kd L (K ++ [j]) (fun q=>if q=j then farM kd e (M i) else M q):=by
 have l:=h.len;obtain ⟨a1,m,a3,a4,a5⟩:=h;obtain ⟨a,f⟩:=a4 i hi;have g:i≠j:=fun e=>b (e ▸ hi);have h0:(0:Nat)≠j:=fun e=>b (e ▸ a1);refine ⟨List.mem_append_left _ a1,snoc_nodup m b, ?_,fun q hq=>?_,fun N c q hq=>?_⟩
 ·simp only [if_neg h0];exact a3
 ·have n:((K ++ [j]).length:Int)=(K.length:Int)+1:=ξ;rw [n];rcases List.mem_append.1 hq with hq | hq
  ·have:q≠j:=fun e=>b (e ▸ hq);simp only [if_neg this];exact ⟨(a4 q hq).1,(a4 q hq).2.mono γ⟩
  ·simp at hq;subst hq;simp only [if_true];exact ⟨k,(far_good (h1 a) (d _ (Lm a)) f γ).mono γ⟩
 ·rcases List.mem_append.1 hq with hq | hq
  ·have:q≠j:=fun e=>b (e ▸ hq);simp only [if_neg this];exact a5 N c q hq
  ·simp at hq;subst hq;simp only [if_true];rw [c.2 i q a k e g (h1 a) h2,a5 N c i hi]
theorem MI.tear {K:List Nat} (h:MI kd L K M) (hi:i∈K) (f:j∈K) (d:i≠j) (h1:∀ a:i<L.length,hasT L[i] e=true) (h2:∀ b:j<L.length,hasT L[j] e=true) (g:M j≠farM kd e (M i)):¬ ∃ N,Cons kd L N:=by
 rintro ⟨N,c⟩;obtain ⟨a1,k,a3,a4,a5⟩:=h;have a:=(a4 i hi).1;have b:=(a4 j f).1;apply g;rw [a5 N c i hi,a5 N c j f];exact c.2 i j a b e d (h1 a) (h2 b)
def EdK (kd:E4→Int) (L:List T3) (K:List Nat) (M:Nat→M6) (i:Nat) (e:E4):Prop := ∀ j (hj:j<L.length),i≠j→hasT L[j] e=true→j∈K∧M j=farM kd e (M i)
def EdN (kd:E4→Int) (L:List T3) (K:List Nat) (M:Nat→M6) (i n:Nat):Prop := ∀ k,k<n→∀ hi:i<L.length,EdK kd L K M i (edg L[i] k)
theorem EdK.mono {K d:List Nat} {f:Nat→M6} (h:EdK kd L K M i e) (hi:i∈K) (hs:∀ q∈K,q∈d∧f q=M q):EdK kd L d f i e:=fun j g c k=>by
 obtain ⟨a,b⟩:=h j g c k;exact ⟨(hs j a).1,by rw [(hs j a).2,(hs i hi).2];exact b⟩
theorem EdN.mono {K b:List Nat} {c:Nat→M6} (h:EdN kd L K M i n) (hi:i∈K) (hs:∀ q∈K,q∈b∧c q=M q):EdN kd L b c i n:=fun k d a=>(h k d a).mono hi hs
theorem EdN.step {K:List Nat} (h:EdN kd L K M i n) (a:∀ hi:i<L.length,EdK kd L K M i (edg L[i] n)):EdN kd L K M i (n+1):=fun k b hi=>by
 by_cases e:k=n
 ·subst e;exact a hi
 ·exact h k γ hi
theorem closed_all (h:Joined L) (g:L.Nodup) (S:Nat→Prop) (h0:S 0) (m:∀ i j (hi:i<L.length) (n:j<L.length),S i→Adj L[i] L[j]→S j):∀ i,i<L.length→S i:=by
 obtain ⟨hp,hr⟩:=h;intro i hi
 obtain ⟨c,d,e,hs⟩:=(hr i hi).2 (fun u=>∃ c,∃ d:c<L.length,L[c]=u∧S c) ⟨0,hp,rfl,h0⟩ (fun a b k l f=>by
  obtain ⟨c,d,e,hs⟩:=k;obtain ⟨q,hq,e2⟩:=List.getElem_of_mem l;subst e e2;exact ⟨q,hq,rfl,m c q d hq hs f⟩)
 have:=Jj g d hi e;subst this;exact hs
theorem EdN.adj {K:List Nat} (h:EdN kd L K M i 3) (hi:i<L.length) (b:j<L.length) (a:i≠j) (h1:hasT L[i] e=true) (h2:hasT L[j] e=true):j∈K∧M j=farM kd e (M i):=by
 obtain ⟨k,c,rfl⟩:=Vw h1;exact h k c hi j b a h2
theorem adj_ne {hi:i<L.length} {a:j<L.length} (h:Adj L[i] L[j]):i≠j:=fun e=>by
 subst e;exact h.1 rfl
theorem closed_k {K a:List Nat} (g:Joined L) (d:L.Nodup) (h0:0∈a) (b:∀ i∈K,i∈a) (c:∀ i∈a,EdN kd L K M i 3):∀ i,i<L.length→i∈a :=
 closed_all g d (fun i=>i∈a) h0 (fun i j hi h hs f=>by
  obtain ⟨e,h1,h2⟩:=f.2;exact b _ ((c i hs).adj hi h (adj_ne f) h1 h2).1)
theorem MI.cons {K:List Nat} (f:Joined L) (b:L.Nodup) (h:MI kd L K M) (a:∀ i∈K,EdN kd L K M i 3):(∀ i,i<L.length→i∈K)∧Cons kd L M:=by
 have d:=closed_k f b h.1 (fun _ h=>h) a;exact ⟨d,h.2.2.1,fun i j hi g e c h1 h2=>((a i (d i hi)).adj hi g c h1 h2).2⟩
theorem cons_one {N a:Nat→M6} (g:Joined L) (c:L.Nodup) (h:Cons kd L N) (d:Cons kd L a):∀ i,i<L.length→N i=a i :=
 closed_all g c (fun i=>N i=a i) (h.1.trans d.1.symm) (fun i j hi f hs b=>by
  obtain ⟨e,h1,h2⟩:=b.2;rw [h.2 i j hi f e (adj_ne b) h1 h2,d.2 i j hi f e (adj_ne b) h1 h2,hs])
theorem Qbq (h:hasT t e=true) (b:(0≤t.1∧t.1≤8)∧(0≤t.2.1∧t.2.1≤8)∧(0≤t.2.2∧t.2.2≤3)):(0≤e.1∧e.1≤100)∧(0≤e.2.1∧e.2.1≤100)∧(0≤e.2.2.1∧e.2.2.1≤100)∧(0≤e.2.2.2∧e.2.2.2≤100):=by
 obtain ⟨x,y,k⟩:=t;obtain ⟨p,q,r,s⟩:=e;simp only [hasT] at h b;rw [Qx] at h;obtain ⟨d,f,c⟩:=b;have a:k=0∨k=1∨k=2∨k=3:=γ;dsimp only;rcases a with rfl | rfl | rfl | rfl <;> simp only [Zt,Zs,Zp,Zo,Zn,Zm,Zl,Zk,Zj,Zi,Zh,Zg] at h <;> omega
theorem len_of_all:∀ (n:Nat) (R:List Nat),(∀ i,i<n→i∈R)→n≤R.length
 | 0,_,_=>Nat.zero_le _
 | n+1,R,h=>by
  have a:=h n γ;have h1:=len_of_all n (R.erase n) (fun i hi=>(List.mem_erase_of_ne γ).2 (h i γ));rw [List.length_erase_of_mem a] at h1;have:=List.length_pos_of_mem a;omega
theorem good_walk (h0:0<L.length) (p:L.length≤300) (d:∀ t∈L,(0≤t.1∧t.1≤8)∧(0≤t.2.1∧t.2.1≤8)∧(0≤t.2.2∧t.2.2≤3)) (g:Cons kd L M) :
  ∀ m,m≤L.length→∃ K:List Nat,K.Nodup∧0∈K∧(∀ i∈K,i<L.length∧GoodM (M i) (160*(K.length:Int)))∧(m+1≤K.length∨∀ i j (hi:i<L.length) (c:j<L.length),i∈K→Adj L[i] L[j]→j∈K)
 | 0,_=>⟨[0],ξ,ξ,fun i hi=>by
   simp at hi;subst hi;rw [g.1];exact ⟨h0,idM_good.mono ξ⟩,Or.inl ξ⟩
 | m+1,hm=>by
  obtain ⟨K,h1,h2,h3,h4⟩:=good_walk h0 p d g m γ;by_cases hc:∀ i j (hi:i<L.length) (c:j<L.length),i∈K→Adj L[i] L[j]→j∈K
  ·exact ⟨K,h1,h2,h3,Or.inr hc⟩
  ·have n:m+1≤K.length:=h4.resolve_right hc
   have:∃ i j,∃ (hi:i<L.length) (c:j<L.length),i∈K∧Adj L[i] L[j]∧j ∉ K:=by
    refine Classical.byContradiction fun l=>hc fun i j hi c a h=>Classical.byContradiction fun b=>l ⟨i,j,hi,c,a,h,b⟩
   obtain ⟨i,j,hi,c,a,h,b⟩:=this;obtain ⟨_,e,f,k⟩:=h;have o:K.length≤L.length:=Gz _ _ h1 (fun i hi=>(h3 i hi).1);refine ⟨K ++ [j],snoc_nodup h1 b,List.mem_append_left _ h2,fun q hq=>?_,Or.inl ω⟩;rw [List.length_append,List.length_singleton];rcases List.mem_append.1 hq with hq | hq
   ·exact ⟨(h3 q hq).1,(h3 q hq).2.mono γ⟩
   ·simp at hq;subst hq;refine ⟨c, ?_⟩;rw [g.2 i q hi c e (fun e=>b (e ▸ a)) f k];exact (far_good f (d _ (Lm hi)) (h3 i a).2 γ).mono γ
theorem cons_good (d:Joined L) (c:L.Nodup) (g:L.length≤300) (a:∀ t∈L,(0≤t.1∧t.1≤8)∧(0≤t.2.1∧t.2.1≤8)∧(0≤t.2.2∧t.2.2≤3)) (e:Cons kd L M):∀ i,i<L.length→GoodM (M i) 48000:=fun i hi=>by
 obtain ⟨K,h1,h2,h3,h4⟩:=good_walk d.1 g a e L.length (Nr _);have f:K.length≤L.length:=Gz _ _ h1 (fun i hi=>(h3 i hi).1);have b:=h4.resolve_left γ;have:=closed_all d c (· ∈ K) h2 b i hi;exact ((h3 i this).2).mono γ
def ltP (p q:Int×Int):Prop:=p.1<q.1∨(p.1=q.1∧p.2<q.2)
def SPt (pts:List (Int×Int)) (Cs:List (Int×Int)):Prop:=pts.Pairwise ltP∧∀ p,p∈pts↔p∈Cs
theorem SPt.put {d r:List (Int×Int)} {c:Int×Int} (h:SPt d r) (A:k≤d.length) (h1:∀ m (n:m<d.length),m<k→ltP d[m] c) (h2:∀ n:k<d.length,¬ ltP d[k] c∧d[k]≠c):SPt (d.take k ++ c :: d.drop k) (r ++ [c]):=by
 have hp:=h.1;refine ⟨?_,fun p=>?_⟩
 ·have hs:(d.take k ++ d.drop k).Pairwise ltP:=by rw [List.take_append_drop];exact hp
  rw [List.pairwise_append] at hs;obtain ⟨x,o,y⟩:=hs
  have i:∀ q∈d.take k,ltP q c:=fun q hq=>by
   obtain ⟨m,n,e⟩:=List.getElem_of_mem hq;rw [List.length_take] at n;rw [List.getElem_take] at e;rw [← e];exact h1 m γ γ
  have g:∀ q∈d.drop k,ltP c q:=fun q hq=>by
   have j:k<d.length:=by
    rcases Nat.lt_or_ge k d.length with h | h
    ·exact h
    ·rw [List.drop_eq_nil_of_le h] at hq
     cases hq
   obtain ⟨n1,n2⟩:=h2 j
   have f:ltP c d[k]:=by
    have e:d[k]≠c:=n2;obtain ⟨a,b⟩:=c;generalize d[k]=u at n1 e;obtain ⟨t,v⟩:=u;simp only [ltP] at n1 ⊢;simp only [ne_eq,Prod.mk.injEq] at e;omega
   rw [List.drop_eq_getElem_cons j] at hq o;rcases List.mem_cons.1 hq with rfl | hq
   ·exact f
   ·have h5:=(List.pairwise_cons.1 o).1 q hq;obtain ⟨a,b⟩:=c;generalize d[k]=u at f h5;obtain ⟨t,v⟩:=u;obtain ⟨z,b2⟩:=q;simp only [ltP] at f h5 ⊢;omega
  rw [List.pairwise_append];refine ⟨x,List.pairwise_cons.2 ⟨g,o⟩,fun a s b l=>?_⟩;rcases List.mem_cons.1 l with rfl | l
  ·exact i a s
  ·exact y a s b l
 ·rw [List.mem_append,List.mem_append,List.mem_singleton,List.mem_cons,← h.2 p];have:p∈d↔p∈d.take k∨p∈d.drop k:=by rw [← List.mem_append,List.take_append_drop]
  rw [this];constructor
  ·rintro (h | h | h)
   ·exact Or.inl (Or.inl h)
   ·exact Or.inr h
   ·exact Or.inl (Or.inr h)
  ·rintro ((h | h) | h)
   ·exact Or.inl h
   ·exact Or.inr (Or.inr h)
   ·exact Or.inr (Or.inl h)
def cnr (t:T3):List (Int×Int):=[(2*t.1+1,2*t.2.1+1),(c1x t.1 t.2.2,c1y t.2.1 t.2.2),(c2x t.1 t.2.2,c2y t.2.1 t.2.2)]
def P3 (w:World) (g:Nat) (t:T3):Prop := ∀ k (h:k<(cnr t).length),At w g (k*2) (I (cnr t)[k].1)∧At w g (k*2+1) (I (cnr t)[k].2)
theorem P3.of {w:World} {g:Nat} {x y k:Int} (h:Mp w g (2*x+1) (2*y+1) (c1x x k) (c1y y k) (c2x x k) (c2y y k)):P3 w g (x,y,k):=fun n a=>by
 obtain ⟨h0,h1,h2,h3,h4,h5⟩:=h;have:n=0∨n=1∨n=2:=by simp [cnr] at a;omega
 rcases this with rfl | rfl | rfl
 ·exact ⟨h0,h1⟩
 ·exact ⟨h2,h3⟩
 ·exact ⟨h4,h5⟩
theorem P3.grown {w w':World} {g:Nat} {row:Option Nat} (h:P3 w g t) (hg:w.grownBy w' row) (a:some g≠row):P3 w' g t:=fun k b=>⟨hg.cell (h k b).1 a,hg.cell (h k b).2 a⟩
end Go.Proofs.YtjkjpopghkeibaaGreatDoor
namespace Go.Proofs.YtjkjpopghkeibaaGreatDoor.Pm
open Go.RowKit Go.ChangeMaps
variable {v:Value} {a c r:Nat} {w:World}
def ek (e:Int×Int):Value:=.agg #[I e.1,I e.2]
def toE (x:(Int×Int)×Value×Nat):MapEntry:=⟨ek x.1,x.2.1,x.2.2⟩
theorem equal27 (a b:Int×Int) (w:World):(Op.equal 45 (ek a) (ek b)).run Tryz.prog w=.ok (decide (a=b)) w:=by
 obtain ⟨a0,a1⟩:=a;obtain ⟨b0,b1⟩:=b;have h:=eql25 a0 a1 b0 b1 w;have e:decide (a0=b0∧a1=b1)=decide ((a0,a1)=(b0,b1)):=ξ;rw [e] at h;unfold ek;simp only [binOp,Sem.run_bind,Sem.run_pure] at h
 cases hr:(Op.equal 45 (.agg #[I a0,I a1]) (.agg #[I b0,I b1])).run Tryz.prog w with
 | ok r w1 =>
  rw [hr] at h;simpa [Result.andThen] using h
 | halt x w1 =>
  rw [hr] at h;simp [Result.andThen] at h
theorem check27 (em:Bool) (a:Int×Int) (w:World):(Instr.checkKey em 10000 45 (ek a)).run Tryz.prog w=.ok () w:=check25 em 9998 _ _ w
theorem stays27 (a:Int×Int) (w:World):(Instr.keyThatStays (ek a) (ek a)).run Tryz.prog w=.ok (ek a) w:=by
 have:Instr.sameBits 10000 (ek a) (ek a)=true:=by
  unfold ek;show Instr.sameBits (9999+1) _ _=true
  simp [Instr.sameBits]
 simp [Instr.keyThatStays,this]
theorem find27 (k:Int×Int) (w:World):∀ (ls:List ((Int×Int)×Value×Nat)) (i:Nat),
  ((Instr.findAsking 45 (ek k) (ls.map toE) i).run Tryz.prog w=.ok none w∧∀ x∈ls,x.1≠k) ∨
  ∃ j x,(Instr.findAsking 45 (ek k) (ls.map toE) i).run Tryz.prog w=.ok (some (i+j,x.2.1)) w∧ls[j]?=some x∧x.1=k
 | [],i=>Or.inl ⟨by simp [Instr.findAsking],ξ⟩
 | x :: r,i=>by
  by_cases h:k=x.1
  ·refine Or.inr ⟨0,x, ?_,rfl,h.symm⟩;have hq:=equal27 k x.1 w;rw [decide_eq_true h] at hq;rw [List.map_cons];simp only [Instr.findAsking,toE,Sem.run_bind,hq,Result.andThen];rfl
  ·have hq:=equal27 k x.1 w;rw [decide_eq_false h] at hq;rcases find27 k w r (i+1) with ⟨h1,h2⟩ | ⟨j,y,h1,h2,h3⟩
   ·refine Or.inl ⟨?_, ?_⟩
    ·rw [List.map_cons];simp only [Instr.findAsking,toE,Sem.run_bind,hq,Result.andThen];exact h1
    ·intro y a;rcases List.mem_cons.1 a with rfl | a
     ·exact fun e=>h e.symm
     ·exact h2 y a
   ·refine Or.inr ⟨j+1,y, ?_,by simpa using h2,h3⟩;rw [List.map_cons];simp only [Instr.findAsking,toE,Sem.run_bind,hq,Result.andThen];rw [show i+(j+1)=i+1+j by omega];exact h1
def EM (w:World) (r:Nat) (ls:List ((Int×Int)×Value×Nat)) (clock:Nat):Prop:=w.heap[r]?=some (.map (ls.map toE).toArray clock)
def Good (ls:List ((Int×Int)×Value×Nat)) (clock:Nat):Prop:=(ls.map (fun x=>x.1)).Nodup∧(ls.map (fun x=>x.2.2)).Nodup∧∀ x∈ls,x.2.2<clock
def lk:List ((Int×Int)×Value×Nat)→Int×Int→Option Value
 | [],_=>none
 | x :: r,k=>if x.1=k then some x.2.1 else lk r k
theorem Vh {k:Int×Int}:∀ {ls:List ((Int×Int)×Value×Nat)},(∀ x∈ls,x.1≠k)→lk ls k=none
 | [],_=>rfl
 | x :: r,h=>by simp [lk,h x ξ,Vh (ls:=r) (fun y a=>h y (by simp [a]))]
theorem Kw {k:Int×Int}:∀ {ls:List ((Int×Int)×Value×Nat)} {j:Nat} {x:(Int×Int)×Value×Nat},(ls.map (fun x=>x.1)).Nodup→ls[j]?=some x→x.1=k→lk ls k=some x.2.1
 | [],_,_,_,h,_=>by simp at h
 | y :: r,0,x,_,h,hk=>by
  simp at h;subst h;simp [lk,hk]
 | y :: r,j+1,x,hn,h,hk=>by
  simp only [List.getElem?_cons_succ] at h;simp only [List.map_cons,List.nodup_cons] at hn;have a:y.1≠k:=fun e=>hn.1 (List.mem_map.2 ⟨x,List.mem_of_getElem? h,hk.trans e.symm⟩);simp [lk,a,Kw hn.2 h hk]
theorem lk_mem {k:Int×Int}:∀ {ls:List ((Int×Int)×Value×Nat)},lk ls k=some v→∃ b,(k,v,b)∈ls
 | [],h=>by simp [lk] at h
 | y :: r,h=>by
  unfold lk at h;split at h
  ·rename_i e
   simp at h;subst h;subst e;exact ⟨y.2.2,ξ⟩
  ·obtain ⟨b,a⟩:=lk_mem h;exact ⟨b,by simp [a]⟩
theorem Qbo {ls:List ((Int×Int)×Value×Nat)} {k j:Int×Int} (h:∀ x∈ls,x.1≠k):lk (ls ++ [(k,v,c)]) j=if j=k then some v else lk ls j:=by
 induction ls with
 | nil=>
      by_cases e:j=k
      ·simp [lk,e]
      ·have b:¬ k=j:=fun h=>e h.symm;simp [lk,e,b]
 | cons y r a =>
  have a:=a (fun x d=>h x (by simp [d]));simp only [List.cons_append,lk,a];by_cases e:j=k
  ·subst e;simp [h y ξ]
  ·simp [e]
theorem Qac:∀ {ls:List ((Int×Int)×Value×Nat)} {i:Nat} {x:(Int×Int)×Value×Nat} {k j:Int×Int} {v:Value},(ls.map (fun x=>x.1)).Nodup→ls[i]?=some x→x.1=k→lk (ls.set i (k,v,x.2.2)) j=if j=k then some v else lk ls j
 | [],_,_,_,_,_,_,h,_=>by simp at h
 | y :: r,0,x,k,j,v,_,h,hk=>by
  simp at h;subst h;by_cases e:j=k
  ·simp [lk,e]
  ·have b:¬ k=j:=fun h=>e h.symm;simp [lk,e,hk,b]
 | y :: r,i+1,x,k,j,v,hn,h,hk=>by
  simp only [List.getElem?_cons_succ] at h;simp only [List.map_cons,List.nodup_cons] at hn;have a:y.1≠k:=fun e=>hn.1 (List.mem_map.2 ⟨x,List.mem_of_getElem? h,hk.trans e.symm⟩);have c:=Qac (j:=j) (v:=v) hn.2 h hk;simp only [List.set_cons_succ,lk,c];by_cases e:j=k
  ·subst e;simp [a]
  ·simp [e]
theorem set_keys {ls:List ((Int×Int)×Value×Nat)} {i:Nat} {x:(Int×Int)×Value×Nat} (h:ls[i]?=some x) (v:Value):(ls.set i (x.1,v,x.2.2)).map (fun x=>x.1)=ls.map (fun x=>x.1)∧(ls.set i (x.1,v,x.2.2)).map (fun x=>x.2.2)=ls.map (fun x=>x.2.2):=by
 constructor
 ·rw [List.map_set];exact WideElems.set_self _ _ _ (by simp [h])
 ·rw [List.map_set];exact WideElems.set_self _ _ _ (by simp [h])
theorem Vf {ls:List ((Int×Int)×Value×Nat)} {k:Int×Int} (hg:Good ls c) (h:∀ x∈ls,x.1≠k):Good (ls ++ [(k,v,c)]) (c+1):=by
 obtain ⟨g,i,g3⟩:=hg;refine ⟨?_, ?_, ?_⟩
 ·rw [List.map_append,List.nodup_append];refine ⟨g,ξ,fun a f b e=>?_⟩;obtain ⟨x,d,rfl⟩:=List.mem_map.1 f;simp at e;subst e;exact h x d
 ·rw [List.map_append,List.nodup_append];refine ⟨i,ξ,fun a f b e=>?_⟩;obtain ⟨x,d,rfl⟩:=List.mem_map.1 f;simp at e;subst e;have:=g3 x d;omega
 ·intro x d;rcases List.mem_append.1 d with d | d
  ·have:=g3 x d;omega
  ·simp at d;subst d;simp
theorem Kz {ls:List ((Int×Int)×Value×Nat)} {i:Nat} {x:(Int×Int)×Value×Nat} (hg:Good ls a) (h:ls[i]?=some x) (v:Value):Good (ls.set i (x.1,v,x.2.2)) a:=by
 obtain ⟨c,d,g3⟩:=hg;have b:=set_keys h v;refine ⟨b.1 ▸ c,b.2 ▸ d,fun y f=>?_⟩;have:y.2.2∈(ls.set i (x.1,v,x.2.2)).map (fun x=>x.2.2):=List.mem_map.2 ⟨y,f,rfl⟩;rw [b.2] at this;obtain ⟨z,g,e⟩:=List.mem_map.1 this;have:=g3 z g;omega
theorem findKey27 (x:Value) (a:List MapEntry) (w:World):(Instr.findKey 45 x a).run Tryz.prog w=(Instr.findAsking 45 x a).run Tryz.prog w:=by
 cases a with
 | nil=>simp [Instr.findKey,run_underlying Tryz.underlying45,Instr.findNow,Instr.findAsking]
 | cons e a=>simp [Instr.findKey,run_underlying Tryz.underlying45,Instr.findNow,Instr.sameNow]
theorem lookup27 {T E:TypeId} {z:Value} (d:Tryz.prog.underlying T=some (.map 45 E)) (e:∀ u:World,(zeroValue E).run Tryz.prog u=.ok z u) {ls:List ((Int×Int)×Value×Nat)} (h:EM w r ls a) (hg:Good ls a) (k:Int×Int) :
  (Instr.lookup T (.map (some r)) (ek k) false).run Tryz.prog w=.ok ((lk ls k).getD z) w:=by
 unfold EM at h;have c:=fun em=>check27 em k w;rcases find27 k w ls 0 with ⟨h1,h2⟩ | ⟨j,x,h1,h2,h3⟩
 ·rw [Vh h2];have b:(Instr.findKey 45 (ek k) (ls.map toE)).run Tryz.prog w=.ok none w:=(findKey27 _ _ _).trans h1;simp [Instr.lookup,run_underlying d,MapKept.run_getObj_map h,c,b,e,Result.andThen]
 ·rw [Kw hg.1 h2 h3];have b:(Instr.findKey 45 (ek k) (ls.map toE)).run Tryz.prog w=.ok (some (j,x.2.1)) w:=(findKey27 _ _ _).trans (by simpa using h1);simp [Instr.lookup,run_underlying d,MapKept.run_getObj_map h,c,b,Result.andThen]
theorem Yf {a:Array MapEntry} (h:w.heap[r]?=some (.map a c)) (o:Obj):w.grownBy (setBlock w r o) (some r) :=
 ⟨rfl,rfl,rfl,by simp [setBlock],fun _ _ hi=>heap_setBlock_other h _ (fun e1=>hi (by rw [e1]))⟩
theorem update27 {T E:TypeId} (n:Tryz.prog.underlying T=some (.map 45 E)) {ls:List ((Int×Int)×Value×Nat)} (h:EM w r ls a) (hg:Good ls a) (k:Int×Int) (val:Value) :
  ∃ ls' clock',(Instr.mapUpdate T (.map (some r)) (ek k) val).run Tryz.prog w=.ok () (setBlock w r (.map (ls'.map toE).toArray clock'))∧Good ls' clock'∧(∀ j,lk ls' j=if j=k then some val else lk ls j)∧(ls'.length=ls.length+if lk ls k=none then 1 else 0):=by
 have c:=h;unfold EM at c;have m:=fun em=>check27 em k w;rcases find27 k w ls 0 with ⟨h1,h2⟩ | ⟨j,x,h1,h2,h3⟩
 ·have b:(Instr.findKey 45 (ek k) (ls.map toE)).run Tryz.prog w=.ok none w:=(findKey27 _ _ _).trans h1;refine ⟨ls ++ [(k,val,a)],a+1, ?_,Vf hg h2,fun j=>Qbo h2,by simp [Vh h2]⟩;simp [Instr.mapUpdate,run_underlying n,MapKept.run_getObj_map c,m,b,MapKept.run_setObj_map _ c,Result.andThen,setBlock,toE]
 ·have b:(Instr.findKey 45 (ek k) (ls.map toE)).run Tryz.prog w=.ok (some (j,x.2.1)) w:=(findKey27 _ _ _).trans (by simpa using h1);have o:((ls.map toE).toArray)[j]?=some (toE x):=by simp [h2]
  have g:(ls.map toE)[j]?=some (toE x):=by simp [h2]
  have d:(toE x).key=ek k:=by simp [toE,h3]
  have e1:lk ls k=some x.2.1:=Kw hg.1 h2 h3
  have f:(ls.map toE).toArray.modify j (fun e=>{ e with key:=ek k,val:=val })=((ls.set j (x.1,val,x.2.2)).map toE).toArray:=by
   apply Array.ext';rw [Array.toList_modify];show (ls.map toE).modify j _=(ls.set j (x.1,val,x.2.2)).map toE
   rw [modify_eq_set _ _ _ _ g,List.map_set,← d];rfl
  have l:=stays27 k w;refine ⟨ls.set j (x.1,val,x.2.2),a, ?_,Kz hg h2 val,fun i=>by have:=Qac (j:=i) (v:=val) hg.1 h2 h3;rwa [← h3] at this ⊢,by simp [e1]⟩;simp only [Instr.mapUpdate,Sem.run_bind,run_underlying n,MapKept.run_getObj_map c,m,b,Result.andThen,o,Option.map_some,Option.getD_some,d,l,f,MapKept.run_setObj_map _ c,setBlock]
theorem Qbp (w:World):EM (w.alloc (.map #[] 0)) w.heap.size [] 0:=(MapKept.heap_alloc w _).1
theorem Ga:Good [] 0:=⟨ξ,ξ,ξ⟩
end Go.Proofs.YtjkjpopghkeibaaGreatDoor.Pm
namespace Go.Proofs.YtjkjpopghkeibaaGreatDoor
open Go.RowKit Go.ChangeMaps
variable {w:World} {B:Nat} {b:Nat→Bool} {k:Nat→Int}
def arv (b:Nat→Bool) (k:Nat→Int):Value:=.agg #[.bool (b 0),I (k 0),.bool (b 1),I (k 1),.bool (b 2),I (k 2),.bool (b 3),I (k 3),.bool (b 4),I (k 4),.bool (b 5),I (k 5),.bool (b 6),I (k 6),.bool (b 7),I (k 7)]
def AB (w:World) (B:Nat) (b:Nat→Bool) (k:Nat→Int):Prop := ∀ d,d<8→At w B (d*2) (.bool (b d))∧At w B (d*2+1) (I (k d))∧Fn w B (d*2)∧Fn w B (d*2+1)
theorem AB.kept {w':World} (h:AB w B b k) (a:Bl w w'):AB w' B b k:=fun d e=>by
 obtain ⟨h0,h1,h2,h3⟩:=h d e;have c:=bk h0;exact ⟨Qa a h0,Qa a h1,(a.frozen (p:=⟨B,d*2,none⟩) c).trans h2,(a.frozen (p:=⟨B,d*2+1,none⟩) c).trans h3⟩
theorem AB.set (h:AB w B b k) {e:Nat} (c:e<8):AB (w.setCell ⟨B,e*2,none⟩ (.bool true)) B (fun d=>b d || decide (d=e)) k:=fun d a=>by
 obtain ⟨h0,h1,h2,h3⟩:=h d a;refine ⟨?_, ?_,by (try simp only [Fn]);rw [Fz];exact h2,by (try simp only [Fn]);rw [Fz];exact h3⟩
 ·by_cases q:d=e
  ·subst q;(try simp only [At]);rw [Cs _ _ _ h0]
   simp
  ·(try simp only [At]);rw [Co _ _ _ _ π,h0]
   simp [q]
 ·(try simp only [At,I]);rw [Co _ _ _ _ π]
  exact h1
theorem AB.far {c o:Nat} {v:Value} (h:AB w B b k) (a:B≠c):AB (w.setCell ⟨c,o,none⟩ v) B b k:=fun d e=>by
 obtain ⟨h0,h1,h2,h3⟩:=h d e;exact ⟨Qo h0 a,Qo h1 a,by (try simp only [Fn]);rw [Fz];exact h2,by (try simp only [Fn]);rw [Fz];exact h3⟩
def fillJ (b:Nat→Bool) (fr:Nat):Nat→Nat→Bool
 | 0=>b
 | j+1=>fun d=>fillJ b fr j d || decide (d=(fr+j) % 8)
theorem spread_faces (V w:World) (g X U rk f:Nat) (Q:Option Addr) (L:List T3) (a:Nat→Int) (d:Int) (pb:Nat) (T:E4→Bool) (hs:Steps V) (b8:PA V Q U L) (hB:Bl V w) (ba:V.heap.size≤g) (hZ:ZRow w g L.length a) (hf:f<L.length) (hp:a f<0) (bi:0≤d∧d≤1000) (hL:L.length≤300) (bh:L.Nodup) (b9:∀ t∈L,(0≤t.1∧t.1≤8)∧(0≤t.2.1∧t.2.1≤8)∧(0≤t.2.2∧t.2.2≤3))
  (b7:∀ (nr G H K M qt:Int) (c:World),Bl V c→Rt 47 #[I nr,.agg #[I G,I H,I K,I M,I qt],.pointer (Az pb)] c (.bool (T (G,H,K,M)))) :
  Cl 95 #[.agg #[.slice Q L.length X,.map (some U),.map (some rk)],.slice (Az g) L.length L.length,I (f:Int),I d,.func (.func 47) #[] #[.pointer (Az pb)]] w fun e w'=>e=.returned (.tuple #[])∧∃ R,Sp T L a f R∧ZRow w' g L.length (lab a d R)∧(∀ i∈R,∀ h:i<L.length,DoneT T L a R L[i] 3)∧Bl V w':=by
 have ar:=Hd b7;have bn:Hid (∀ (c:World) (i:Nat) (hi:i<L.length),Bl V c→Cl 102 #[.agg #[.slice Q L.length X,.map (some U),.map (some rk)],I (i:Int)] c fun e w'=>∃ v,e=.returned v∧w'.ownsRow (c.heap.size+1) 105 5 v (jl L L[i] i 3).length (flatJ (jl L L[i] i 3))∧Bl c w'):=fun c i hi s=>Uv c X U rk i Q L L[i].1 L[i].2.1 L[i].2.2 (hs.kept s) (b8.kept s) hi rfl hL (b9 _ (Lm hi));have bp:=Hd bh;obtain ⟨z0,zf⟩:=hZ f hf;have bu:=Bt z0;have HZ:=H2 hZ hB
 have az:Hid (Sp T L a f [f]):=⟨ξ,ξ,fun i hi=>by
  simp at hi;subst hi;exact ⟨hf,hp,hf,.here (Lm hf)⟩⟩
 obtain ⟨i3,bb,ah,ai,aj⟩:=info_parts inf3;have HI:=H4 bb ah ai aj;obtain ⟨n0,n1⟩:=bi;have d6:(f:Int)<(L.length:Int):=γ;have cz:(0:Int)≤(f:Int):=γ;clear hs b8 b9 bh hZ hB bb ah ai aj hp b7;go_enter Tryz.func95,Tryz.ntmps95;go_wp2;go_loopg [10,11] L.length (fun gk ao cf wx=>∃ (n:Nat) (R:List Nat),n≤R.length∧L.length - n≤gk∧cf=I (n:Int)∧Sp T L a f R∧(∀ m (hm:m<R.length),m<n→∀ h:R[m]<L.length,DoneT T L a R L[R[m]] 3)∧SpM V wx w g Q X U rk L a d R ao)
 case atStart =>
  refine ⟨0,[f],ξ,γ,rfl,az.out,fun m _ h=>by omega, ?_⟩;refine ⟨?_, ?_, ?_,⟨?_, ?_, ?_⟩, ?_⟩
  ·have hz:=(HZ.out.1.set d hf).kept (Qb (o:=.cells #[I (f:Int)] 3) (Qb (o:=.cells #[.slice Q L.length X,.map (some U),.map (some rk)] 59) (Qe _)))
   have e:lab a d [f]=fun j=>if j=f then d else a j:=by
    funext j
    simp [lab]
   rw [e];exact hz
  ·have:=owns_one ((w.setCell ⟨g,f,none⟩ (I d)).alloc (.cells #[.slice Q L.length X,.map (some U),.map (some rk)] 59)) (w.heap.size+1) (I (f:Int)) ξ;simpa [rowN] using this
  ·have bs:Bl V (w.setCell ⟨g,f,none⟩ (I d)):=HZ.out.2.setCell (p:=⟨g,f,none⟩) ba _;exact Qb (Qb bs)
  ·simp [go_sem]
  ·simp [go_sem]
  ·simp [go_sem]
  ·simp
 case round =>
  clear az HZ z0 zf;obtain ⟨n,R,hn,cu,rfl,B,hD,hM⟩:=hrel;obtain ⟨vA,cb⟩:∃ u,u=u10:=⟨_,rfl⟩;subst cb;have br:0<R.length:=List.length_pos_of_mem B.1;obtain ⟨rb,rc,rfl,ca,an⟩:=hM.slice br;have ct:=B.len;have a8:Hid (Sp T L a f R∧∀ m (hm:m<R.length),m<n→∀ h:R[m]<L.length,DoneT T L a R L[R[m]] 3):=⟨B,hD⟩;have N:=Hd hM;obtain ⟨p0,p1,p2⟩:=hM.2.2.2.1;have zp:=Bt p0;by_cases h1:n<R.length
  ·have ac:=an n h1;have zr:=Bt ac;have ak:R[n]∈R:=Lm h1;obtain ⟨hi,_⟩:=B.2.2 R[n] ak;obtain ⟨i,ab⟩:∃ i,i=R[n]:=⟨_,rfl⟩;rw [← ab] at ac hi;have au:=Hd ab;have av:Hid (i∈R):=by rw [ab];exact ak
   clear B hD hM an ab ak;have i1:(n:Int)<(R.length:Int):=γ;have i0:(0:Int)≤(n:Int):=γ;obtain ⟨J,hJ⟩:∃ J,J=jl L L[i] i 3:=⟨_,rfl⟩
   have cp:J.length≤900:=by
    have:=jl_len L L[i] i 3;rw [hJ];omega
   have CJ:Hid (∀ c:World,Bl wr c→Cl 102 #[.agg #[.slice Q L.length X,.map (some U),.map (some rk)],I (i:Int)] c fun e w'=>∃ v,e=.returned v∧w'.ownsRow (c.heap.size+1) 105 5 v J.length (flatJ J)∧Bl c w'):=fun c s=>by
    rw [hJ];exact bn.out c i hi (Qc N.out.2.2.1 s)
   have HJ:=Hd hJ;clear hJ;go_wp2;go_cut [31,32,33] (fun cg ch ap wx=>∃ ja jc,cg=.slice ja J.length jc∧ch=I (J.length:Int)∧ap=I 0∧JW wx (w.heap.size+1) ja J∧Bl wr wx)
   case first =>
    go_region_held3 (fun w'=>At w' w.heap.size 0 (.slice Q L.length X)∧At w' w.heap.size 1 (.map (some U))∧At w' w.heap.size 2 (.map (some rk))∧At w' rb n (I (i:Int)))
     ((refine ⟨?_, ?_, ?_, ?_⟩ <;> (first | (with_reducible (repeat (first | assumption | refine Qk ?_ | refine Qq ?_));done) | (simp [go_sem];done))))
     ((go_at_call 102;refine (CJ.out _ φ).mono ?_;rintro e w8 ⟨v8,rfl,z,hb⟩;obtain ⟨ja,jc,rfl,E⟩:=own_jw z;have P:Bl wr w8:=Qc φ hb;have HQ:Hid (JW w8 wr.heap.size ja J∧Bl wr w8):=⟨E.mono ξ,P⟩;have cj:=Qa P p0;have cl:=Qa P p1;have cm:=Qa P p2;have cn:=Qa P ac;clear z E hb P))
    all_goals
     go_wp2;go_meet
     case rel=>exact ⟨_,_,rfl,rfl,rfl,(HQ.out.1.mono γ).kept φ,by with_reducible repeat (first | exact HQ.out.2 | refine Qg ?_)⟩
   case rest =>
    obtain ⟨ja,jc,rfl,rfl,rfl,E,b6⟩:=hcut;have ax:=Hd E;have b5:Hid (Bl wc wc):=Qe _;have a7:=Hd (N.out.kept b6);obtain ⟨WC,aa⟩:∃ W,W=wc:=⟨_,rfl⟩;rw [← aa] at ax a7 b5;clear E b6 p0 p1 p2 zp ca zr ac CJ N;have ae:Hid (Bl WC wc∧w.heap.size+1≤WC.heap.size):=⟨by rw [aa];exact Qe _,a7.out.2.2.2.2⟩;have ay:Hid (SpM V wc w g Q X U rk L a d R (.slice (Az rb) R.length rc)):=by rw [← aa];exact a7.out
    clear b5 a7 aa;go_wp2;go_loopg [10,33] J.length (fun gk ao ap wx=>∃ (m:Nat) (Y:List Nat),m≤J.length∧gk=J.length - m∧ap=I (m:Int)∧Sp T L a f (R ++ Y)∧(∀ F (h:F<J.length),F<m→∀ j:Nat,J[F].2=(j:Int)→T J[F].1=true→j∈R ++ Y∨0≤a j)∧SpM V wx w g Q X U rk L a d (R ++ Y) ao∧JW wx (w.heap.size+1) ja J)
    case atStart=>exact ⟨0,[],γ,rfl,rfl,by simpa using a8.out.1,fun F _ h=>by omega,by simpa using ay.out,ax.out.kept ae.out.1⟩
    case round =>
     clear ay ae;obtain ⟨m,Y,hm,rfl,rfl,B,hE,hM,E⟩:=hrel;obtain ⟨vC,cd⟩:∃ u,u=u10:=⟨_,rfl⟩;subst cd;have A:=H2 B hE;have N:=Hd hM;have HR:=Hd E;clear B hE hM E;by_cases hm1:m<J.length
     ·have im:(m:Int)<(J.length:Int):=γ;have d8:(0:Int)≤(m:Int):=γ;obtain ⟨jb,rfl,c0,c1,c2,c3,c4⟩:=HR.out.1 m hm1;have dd:=Bt c0;obtain ⟨q,hq⟩:∃ q,q=J[m]:=⟨_,rfl⟩;obtain ⟨⟨G,H,K,M⟩,qj⟩:=q;rw [← hq] at c0 c1 c2 c3 c4;dsimp only at c0 c1 c2 c3 c4;have HQ:=Hd hq;have ag:((G,H,K,M),qj)∈jl L L[i] i 3:=by rw [← HJ.out,hq];exact Lm hm1
      obtain ⟨k,hk,bf,j,hj,rfl,cw,be⟩:=Yz.1 ag;have aw:=H2 bf be;obtain ⟨lc,lf⟩:=N.out.1 j hj;have zg:=Bt lc;have db:g<wr.heap.size+1:=γ;have ij:(j:Int)<(L.length:Int):=γ;have d7:(0:Int)≤(j:Int):=γ;clear ag bf be hq;by_cases hlt:lab a d (R ++ Y) j<0
      ·have bc:j ∉ R ++ Y:=fun hh=>by
        simp only [lab,if_pos hh] at hlt;omega
       obtain ⟨sb,sc,rfl,cy,bk⟩:=N.out.slice (by rw [List.length_append];omega);have bw:n<(R ++ Y).length:=by rw [List.length_append];omega
       have sn:=bk n bw;rw [show (R ++ Y)[n]=i by rw [List.getElem_append_left h1];exact au.out.symm] at sn;have df:=Bt sn;have d9:(n:Int)<((R ++ Y).length:Int):=γ;clear bk;have bz:a j<0:=by simpa [lab,bc] using hlt
       obtain ⟨lv,O⟩:∃ lv,lv=lab a d (R ++ Y) j:=⟨_,rfl⟩;rw [← O] at lc hlt;have co:=Hd O;clear O
       cases hcr:T (G,H,K,M)
       ·have CC:Hid (∀ c:World,Bl wr c→Rt 47 #[I (i:Int),.agg #[I G,I H,I K,I M,I (j:Int)],.pointer (Az pb)] c (.bool false)):=fun c s=>hcr ▸ ar.out (i:Int) G H K M (j:Int) c (Qc N.out.2.2.1 s);go_wp2;refine Qi (fun r hW1=>?_);have b:Bl wr r:=by rw [hW1];exact Qb (Qe _)
        have d0:At r wr.heap.size 0 (I G):=γ2;have d1:At r wr.heap.size 1 (I H):=γ2;have d2:At r wr.heap.size 2 (I K):=γ2;have d3:At r wr.heap.size 3 (I M):=γ2;have d4:At r wr.heap.size 4 (I (j:Int)):=γ2;have a6:=Qa b lc;have zn:=Bt d0;have bm:=Bt a6;have aq:=Qa b sn;have ci:=Bt aq;have D:=H2 (N.out.kept b) (HR.out.kept b);have bj:decide (lv<0)=true:=decide_eq_true hlt;have C1:Hid (∀ c:World,Bl r c→Rt 47 #[I (i:Int),.agg #[I G,I H,I K,I M,I (j:Int)],.pointer (Az pb)] c (.bool false)):=fun c s=>CC.out c (Qc b s);clear hW1 b c0 c1 c2 c3 c4 lc lf sn;obtain ⟨kc,kn⟩:=kcn r;refine wk ?_;repeat (go_big_quiet_step ((go_at_call 47;exact Qf (C1.out _ (Kin.h _)))))
        refine kq1 (fun w5 hq=>?_);clear kc kn;have l:=H2 (D.out.1.kept hq) (D.out.2.kept hq);go_wp2;go_roundg (J.length - (m+1))
        case measure=>omega
        case rel =>
         refine ⟨m+1,Y,γ,rfl,σ,A.out.1,fun F h' Z j' y x=>?_,l.out.1,l.out.2⟩;by_cases em:F=m
         ·subst em;rw [← HQ.out] at x;simp only at x;rw [hcr] at x;exact absurd x ξ
         ·exact A.out.2 F h' γ j' y x
       ·have CC:Hid (∀ c:World,Bl wr c→Rt 47 #[I (i:Int),.agg #[I G,I H,I K,I M,I (j:Int)],.pointer (Az pb)] c (.bool true)):=fun c s=>hcr ▸ ar.out (i:Int) G H K M (j:Int) c (Qc N.out.2.2.1 s)
        have HF:Hid (Sp T L a f (R ++ (Y ++ [j]))):=by
         have:=A.out.1.found bp.out (i:=i) (j:=j) (List.mem_append_left _ av.out) hj bc bz (e:=(G,H,K,M)) hcr (fun cv=>by
          rw [aw.out.1];exact Jc _ _) aw.out.2
         rwa [List.append_assoc] at this
        have af:(R ++ Y).length+1≤1000:=by
         have:=A.out.1.len;omega
        go_wp2;refine Qi (fun r hW1=>?_);have b:Bl wr r:=by rw [hW1];exact Qb (Qe _)
        have d0:At r wr.heap.size 0 (I G):=γ2;have d1:At r wr.heap.size 1 (I H):=γ2;have d2:At r wr.heap.size 2 (I K):=γ2;have d3:At r wr.heap.size 3 (I M):=γ2;have d4:At r wr.heap.size 4 (I (j:Int)):=γ2;have a6:=Qa b lc;have zn:=Bt d0;have bm:=Bt a6;have aq:=Qa b sn;have ci:=Bt aq;have D:=H2 (N.out.kept b) (HR.out.kept b);have bj:decide (lv<0)=true:=decide_eq_true hlt;have C1:Hid (∀ c:World,Bl r c→Rt 47 #[I (i:Int),.agg #[I G,I H,I K,I M,I (j:Int)],.pointer (Az pb)] c (.bool true)):=fun c s=>CC.out c (Qc b s);clear hW1 b c0 c1 c2 c3 c4 lc lf sn;obtain ⟨kc,kn⟩:=kcn r;refine wk ?_;repeat (go_big_quiet_step ((go_at_call 47;exact Qf (C1.out _ (Kin.h _)))))
        refine kq1 (fun w5 hq=>?_);clear kc kn;have l:=H2 (D.out.1.kept hq) (D.out.2.kept hq);have d5:=Qa hq d4;have de:=Bt d5;obtain ⟨ce,da⟩:=l.out.1.1 j hj;have dc:=Bt ce;clear hq;go_wp2_with (at_builtin;refine wpList_append_own _ rfl (.tmp 57) (.tmp 60) 22 rfl (w.heap.size+1) 3 i3 (I 0) 1 8 Tryz.underlying22 HI.out.1 HI.out.2.1 HI.out.2.2.1 HI.out.2.2.2 rfl ψ (.slice (Az sb) (R ++ Y).length sc) (R ++ Y).length (rowN (R ++ Y)) rfl ?own ⟨w5.heap.size,0,none⟩ 1 1 [I (j:Int)] rfl rfl ?c1 ?c2 ?b1 ?b2 ?b3 ?grow)
        case own =>
         try rw [← List.length_append]
         exact (l.out.1.2.1.kept (Ql _ g j _) (by
          cases hu:(Value.slice (Az sb) (R ++ Y).length sc).ownBlock with
          | none=>exact Or.inl rfl
          | some q =>
           refine Or.inr (fun e1=>?_);have:=(l.out.1.2.1.lt q hu).1;simp at e1;omega)).alloc _
        case c1=>exact Yd _ δ
        case c2=>exact Xx _
        case b1 =>
         unfold maxLen;first | omega | (rw [List.length_append] at af;omega)
        case b2=>first | omega | (rw [List.length_append] at af;omega)
        case b3 =>
         have:=l.out.1.2.2.2.2;simp;omega
        case grow =>
         intro v' w3 z C _;rw [← List.length_append] at z;try rw [← List.length_append] at C
         have bo:Hid (SpM V w3 w g Q X U rk L a d (R ++ (Y ++ [j])) v'):=by
          have:=l.out.1.more bu ba hj β1 C z;rwa [List.append_assoc] at this
         have bq:Hid (JW w3 (w.heap.size+1) (Az jb) J):=by
          have h0:=l.out.2.grown (Ql w5 g j (I d)) (fun g' bt e1=>by
           have h2:=(l.out.2.2 g' e1).1;simp at bt;omega)
          have h1:JW w3 (w.heap.size+1) (Az jb) J:=(h0.kept β1).grown C (l.out.2.not_row l.out.1.2.1);exact h1
         clear z C;go_wp2;go_roundg (J.length - (m+1))
         case measure=>omega
         case rel =>
          have a2:∀ q∈R ++ Y,q∈R ++ (Y ++ [j]):=fun q hq=>by
           rw [← List.append_assoc];exact List.mem_append_left _ hq
          refine ⟨m+1,Y ++ [j],γ,rfl,σ,HF.out,fun F h' Z j' y x=>?_,bo.out,bq.out⟩;by_cases em:F=m
          ·subst em;rw [← HQ.out] at y;simp only at y;have:j'=j:=γ;subst this;exact Or.inl ξ
          ·exact (A.out.2 F h' γ j' y x).imp (a2 j') id
      ·have am:Hid (j∈R ++ Y∨0≤a j):=by
        by_cases hh:j∈R ++ Y
        ·exact Or.inl hh
        ·exact Or.inr (by simp only [lab,if_neg hh] at hlt;omega)
       obtain ⟨lv,O⟩:∃ lv,lv=lab a d (R ++ Y) j:=⟨_,rfl⟩;rw [← O] at lc hlt;clear O;go_wp2;refine Qi (fun r hW1=>?_);have b:Bl wr r:=by rw [hW1];exact Qb (Qe _)
       have d0:At r wr.heap.size 0 (I G):=γ2;have d1:At r wr.heap.size 1 (I H):=γ2;have d2:At r wr.heap.size 2 (I K):=γ2;have d3:At r wr.heap.size 3 (I M):=γ2;have d4:At r wr.heap.size 4 (I (j:Int)):=γ2;have a6:=Qa b lc;have zn:=Bt d0;have bm:=Bt a6;have D:=H2 (N.out.kept b) (HR.out.kept b);have bj:decide (lv<0)=false:=decide_eq_false γ;clear hW1 b c0 c1 c2 c3 c4 lc lf;obtain ⟨kc,kn⟩:=kcn r;refine wk ?_;repeat (go_big_quiet_step (fail))
       refine kq1 (fun w5 hq=>?_);clear kc kn;have l:=H2 (D.out.1.kept hq) (D.out.2.kept hq);go_wp2;go_roundg (J.length - (m+1))
       case measure=>omega
       case rel =>
        refine ⟨m+1,Y,γ,rfl,σ,A.out.1,fun F h' Z j' y x=>?_,l.out.1,l.out.2⟩;by_cases em:F=m
        ·subst em;rw [← HQ.out] at y;simp only at y;have:j'=j:=γ;subst this;exact am.out
        ·exact A.out.2 F h' γ j' y x
     ·have im:¬ (m:Int)<(J.length:Int):=γ;obtain rfl:m=J.length:=γ;go_wp2;go_roundg (L.length - (n+1))
      case measure=>omega
      case rel =>
       have a2:∀ q∈R,q∈R ++ Y:=fun q hq=>List.mem_append_left _ hq;refine ⟨n+1,R ++ Y,by rw [List.length_append];omega,γ,σ,A.out.1,fun m hm cx bv=>?_,N.out⟩;by_cases em:m=n
       ·subst em;have e1:(R ++ Y)[m]=i:=by rw [List.getElem_append_left h1];exact au.out.symm
        simp only [e1];refine DoneT.joints (i:=i) (List.mem_append_left _ av.out) (fun F Z j' y x=>?_);have h8:=A.out.2;rw [HJ.out] at h8;exact h8 F Z Z j' y x
       ·have bg:m<R.length:=γ;have e1:(R ++ Y)[m]=R[m]:=List.getElem_append_left bg;have h7:=(a8.out.2 m bg γ (by rw [← e1];exact bv)).mono a2;simp only [e1];exact h7
  ·have i1:¬ (n:Int)<(R.length:Int):=γ;clear hM B hD an;go_wp2;go_end0
   refine ⟨rfl,R,a8.out.1,N.out.1,fun i hi h=>?_,N.out.2.2.1⟩;obtain ⟨m,hm,he⟩:=List.getElem_of_mem hi;subst he;exact a8.out.2 m hm γ h
def nuV (l:List Nat):List Value:=l.map fun (n:Nat)=>I (n:Int)
def whL (f:Nat→Bool) (n:Nat):List Nat:=(List.range n).filter f
theorem whL_yes {f:Nat→Bool} {n:Nat} (h:f n=true):whL f (n+1)=whL f n ++ [n]:=by
 unfold whL;rw [List.range_succ,List.filter_append];simp [h]
theorem whL_no {f:Nat→Bool} {n:Nat} (h:f n=false):whL f (n+1)=whL f n:=by
 unfold whL;rw [List.range_succ,List.filter_append];simp [h]
theorem whL_le (f:Nat→Bool) (n:Nat):(whL f n).length≤n:=by
 unfold whL;have:=List.length_filter_le f (List.range n);simpa using this
theorem infI:(Tryz.prog.info? 3).map (fun i=>(i.zero,i.size,i.bytes))=some (some (I 0),1,8):=η
theorem one_int (w:World) (v:Value) (T:TypeId):∀ j u,([v])[j]?=some u→(w.alloc (.cells #[v] T)).cell? ((⟨w.heap.size,0,none⟩:Addr).add j)=some u:=by
 intro j u a;match j,a with
 | 0,a=>simp at a;subst a;simp [Addr.add,go_sem]
theorem where_any (a k m l mv:Value) (A pa:Option Addr) (N B u z:Nat) (C c sd t p s o:Int) (y:Bool) (f:Nat→Bool) (w:World) (hN:N≤300)
  (G:∀ (V:World) (i:Nat),Bl w V→i<N→Rt 64 #[.agg #[.slice A N B,a,k,m,.slice pa u z,l,I C,I c,I sd,.bool y,I t,I p,I s,I o,mv],I (i:Int)] V (.bool (f i))) :
  Cl 63 #[.agg #[.slice A N B,a,k,m,.slice pa u z,l,I C,I c,I sd,.bool y,I t,I p,I s,I o,mv],.func (.func 64) #[.agg #[.slice A N B,a,k,m,.slice pa u z,l,I C,I c,I sd,.bool y,I t,I p,I s,I o,mv]] #[]] w fun e w'=>∃ v,e=.returned v∧w'.ownsRow w.heap.size 3 1 v (whL f N).length (nuV (whL f N))∧Bl w w':=by
 obtain ⟨i3,hi,K,L,M⟩:=info_parts infI;have O:=H4 hi K L M;have D:=Hd G;clear hi K L M G;have j:Hid (((w.alloc (.cells #[.slice A N B,a,k,m,.slice pa u z,l,I C,I c,I sd,.bool y,I t,I p,I s,I o,mv] 66)).ownsRow w.heap.size 3 1 SN (whL f 0).length (nuV (whL f 0)))∧Bl w (w.alloc (.cells #[.slice A N B,a,k,m,.slice pa u z,l,I C,I c,I sd,.bool y,I t,I p,I s,I o,mv] 66))):=⟨by simpa [whL,nuV] using World.ownsRow_nil _ _ _ _,Qb (Qe _)⟩;go_enter Tryz.func63,Tryz.ntmps63;go_wp2;go_loopg [5,6,12] N (fun gk s5 s6 T wx=>∃ i:Nat,i≤N∧gk=N - i∧T=I (i:Int)∧wx.ownsRow w.heap.size 3 1 s5 (whL f i).length (nuV (whL f i))∧Bl w wx)
 case atStart=>exact ⟨0,γ,rfl,rfl,j.out.1,j.out.2⟩
 case round =>
  clear j;obtain ⟨i,hi,rfl,rfl,X,W⟩:=hrel;obtain ⟨Z,R⟩:∃ x,x=u5:=⟨_,rfl⟩;subst R;have d:=H2 X W;clear X W;have Q:=whL_le f i;by_cases h1:i<N
  ·have i1:(i:Int)<(N:Int):=γ;have i0:(0:Int)≤(i:Int):=γ
   cases hf:f i with
   | false =>
    have CA:Hid (∀ V:World,Bl w V→Rt 64 #[.agg #[.slice A N B,a,k,m,.slice pa u z,l,I C,I c,I sd,.bool y,I t,I p,I s,I o,mv],I (i:Int)] V (.bool false)):=fun V P=>by
     have h:=D.out V i P h1;rw [hf] at h;exact h
    have E:=whL_no hf
    go_wp2_with (first
     | (go_at_call 64;(with_reducible refine (CA.out _ d.out.2).mono ?_);rintro e U ⟨rfl,b⟩;have g:=Hd b;clear b)
     | fail)
    go_roundg (N - (i+1))
    case measure=>omega
    case rel=>exact ⟨i+1,γ,rfl,σ,by rw [E];exact Qj d.out.1 g.out,Qc d.out.2 g.out⟩
   | true =>
    have CA:Hid (∀ V:World,Bl w V→Rt 64 #[.agg #[.slice A N B,a,k,m,.slice pa u z,l,I C,I c,I sd,.bool y,I t,I p,I s,I o,mv],I (i:Int)] V (.bool true)):=fun V P=>by
     have h:=D.out V i P h1;rw [hf] at h;exact h
    have E:Hid (nuV (whL f (i+1))=nuV (whL f i) ++ [I (i:Int)]∧(whL f (i+1)).length=(whL f i).length+1):=by
     rw [whL_yes hf];exact ⟨by simp [nuV],ξ⟩
    obtain ⟨n0,J⟩:∃ n,n=(whL f i).length:=⟨_,rfl⟩;rw [← J] at d E Q;clear hf J
    go_wp2_with (first
     | (go_at_call 64;(with_reducible refine (CA.out _ d.out.2).mono ?_);rintro e U ⟨rfl,b⟩;have g:=H2 (Qj d.out.1 b) (Qc d.out.2 b);clear b)
     | (at_builtin;refine wpList_append_own _ rfl (.tmp 18) (.tmp 20) 22 rfl w.heap.size 3 i3 (I 0) 1 8 Tryz.underlying22 O.out.1 O.out.2.1 O.out.2.2.1 O.out.2.2.2 rfl ψ Z n0 (nuV (whL f i)) rfl (Qj g.out.1 β1) ⟨U.heap.size,0,none⟩ 1 1 [I (i:Int)] rfl rfl (one_int _ _ _) (by intro q hq;simp at hq;subst hq;rfl) Ξ γ (by have:=g.out.2.size;simp;omega) ?gA)
     | fail)
    case gA =>
     intro v' w3 Y hg _
     have F:Hid (w3.ownsRow w.heap.size 3 1 v' (whL f (i+1)).length (nuV (whL f (i+1)))∧Bl w w3):=by
      refine ⟨?_, ?_⟩
      ·rw [E.out.1,E.out.2];exact Y
      ·have H:Bl w (U.alloc (.cells #[I (i:Int)] 3)):=Qb g.out.2;exact H.grown hg H.size (fun r e=>(g.out.1.lt r e).1)
     clear Y hg;go_wp2;go_roundg (N - (i+1))
     case measure=>omega
     case rel=>exact ⟨i+1,γ,rfl,σ,F.out.1,F.out.2⟩
  ·have i1:¬ (i:Int)<(N:Int):=γ;obtain rfl:i=N:=γ;go_wp2;go_ret;exact ⟨Z,rfl,d.out.1,d.out.2⟩
end Go.Proofs.YtjkjpopghkeibaaGreatDoor
namespace Go.Proofs.YtjkjpopghkeibaaGreatDoor
open Go.RowKit Go.Shelf Go.Lib
open Go.Sort hiding Below
variable {v w:World}
attribute [local go_sem ↓] Go.wp_at_zero Go.wp_at_succ
def GD (w w':World):Prop := ∃ q os,w'=grow (w.drewN q) os
theorem Zd (w:World):GD w w:=⟨0,#[],by rw [grow_empty];rfl⟩
theorem Jy {o:Obj} (h:GD w v):GD w (v.alloc o):=by
 obtain ⟨q,os,rfl⟩:=h;exact ⟨q,os ++ #[o],by rw [alloc_eq_grow,grow_grow]⟩
theorem Yq (h:GD w v):GD w v.drew:=by
 obtain ⟨q,os,rfl⟩:=h;exact ⟨q+1,os,rfl⟩
theorem Vi {u:World} (h:GD w v) (k:GD v u):GD w u:=by
 obtain ⟨q,os,rfl⟩:=h;obtain ⟨b,a,rfl⟩:=k;refine ⟨q+b,os ++ a, ?_⟩;rw [← grow_grow]
 have e:(grow (w.drewN q) os).drewN b=grow (w.drewN (q+b)) os:=by
  simp [grow,World.drewN,Nat.add_assoc]
 rw [e]
theorem gd_below (h:GD w v):Bl w v:=by
 obtain ⟨q,os,rfl⟩:=h;exact ⟨rfl,rfl,rfl,by simp [grow,World.drewN],fun k a=>heap_grow_old (w.drewN q) os a⟩
theorem compareTris_gd (a b c p q r:Int) (w:World) :
  Cl 87 #[.agg #[I a,I b,I c],.agg #[I p,I q,I r]] w fun e w'=>e=.returned (I (cmpT a b c p q r))∧GD w w':=by
 go_enter Tryz.func87,Tryz.ntmps87;go_wp2
 go_region_held3 (fun w'=>At w' w.heap.size 0 (I a)∧At w' w.heap.size 1 (I b)∧At w' w.heap.size 2 (I c)∧At w' (w.heap.size+1) 0 (I p)∧At w' (w.heap.size+1) 1 (I q)∧At w' (w.heap.size+1) 2 (I r))
  ((refine ⟨?_, ?_, ?_, ?_, ?_, ?_⟩ <;> (repeat' (first | (with_reducible assumption) | (dsimp only;omega) | (simp [go_sem];done) | (with_reducible refine Qk ?_) | (with_reducible refine Qq ?_)))))
  (first | (go_at_call 61;refine (Yn _ _ _).mono ?_;rintro e d ⟨rfl,rfl⟩) | (go_at_call 59;refine (or3_any (cmp3 b q) (cmp3 a p) (cmp3 c r) _ _ _ ε ε ε).mono ?_;rintro e f ⟨rfl,rfl⟩))
 all_goals
  go_wp2;go_ret;refine ⟨rfl, ?_⟩;with_reducible repeat' (first | exact Zd _ | refine Jy ?_ | refine Yq ?_)
structure Kig (W:World) where
 w:World
 h:GD W w
theorem Kig.cells (W:World):∀ (n:Kig W) (b o:Nat),b<W.heap.size→n.w.cell? ⟨b,o,none⟩=W.cell? ⟨b,o,none⟩:=fun n b o a=>(gd_below n.h).cell (p:=⟨b,o,none⟩) a
theorem wp_region_kig {P:Program} {e:Nat} {Q:Exit→Act→World→Prop} {a:Act} {W:World} {l:List Oper} (d:P.follows .mixedOrders=true) (c:Region.lexB .any l.toArray=true)
  (h:wpQuiet P l.toArray (fun w'=>∃ n:Kig W,w'=n.w) (fun b=>∀ w',(∃ n:Kig W,w'=n.w)→Q .normal b w') l a):(Code.region e l.toArray true).wp P Q a W :=
 wp_region_quiet (C:=fun w'=>∃ n:Kig W,w'=n.w) d c ⟨⟨W.drew,Yq (Zd _)⟩,rfl⟩ (by simpa using h)
theorem kig_of {P:Program} {f:FuncId} {args:Array Value} {W:World} {n:Kig W} {v:Value}
  (h:Calls P f args n.w fun e w'=>e=.returned v∧GD n.w w'):Calls P f args n.w fun e a=>e=.returned v∧∃ m:Kig W,a=m.w :=
 h.mono fun _ w' ⟨c,b⟩=>⟨c,⟨w',Vi n.h b⟩,rfl⟩
def At3 (w:World) (g o:Nat) (t:T3):Prop:=At w g o (I t.1)∧At w g (o+1) (I t.2.1)∧At w g (o+2) (I t.2.2)
theorem piledCmp_gd (w:World) (x c n N q f A r g B i j:Nat) (s t:T3) (hp:At w x 4 (.slice (Az c) n N)) (F:0<f) (G:0<g) (D:At w q 0 (I (i:Int))) (E:At w r 0 (I (j:Int))) (hi:i<n) (T:j<n) (hs:At3 w c (i*3) s) (H:At3 w c (j*3) t) :
  Cl 124 #[.slice (Az q) f A,.slice (Az r) g B,.pointer (Az x)] w fun e w'=>e=.returned (I (cmpT s.1 s.2.1 s.2.2 t.1 t.2.1 t.2.2))∧GD w w':=by
 obtain ⟨k,l,m⟩:=s;obtain ⟨o,p,t3⟩:=t;obtain ⟨v,L,M⟩:=hs;obtain ⟨O,P,Q⟩:=H;dsimp only at v L M O P Q;dsimp only;have C:Hid (∀ b:World,Cl 87 #[.agg #[I k,I l,I m],.agg #[I o,I p,I t3]] b fun e w'=>e=.returned (I (cmpT k l m o p t3))∧GD b w'):=fun b=>compareTris_gd _ _ _ _ _ _ b;generalize cmpT k l m o p t3=z at C ⊢;have z1:=Bt hp;have z2:=Bt D;have z3:=Bt E;have z4:=Bt v;have U:(i:Int)<(n:Int):=γ;have V:(j:Int)<(n:Int):=γ;have W:(0:Int)<(f:Int):=γ;have X:(0:Int)<(g:Int):=γ;have k1:(0:Int)≤(i:Int):=γ;have k2:(0:Int)≤(j:Int):=γ;go_enter Tryz.func124,Tryz.ntmps124;go_wp2;have J:=Kig.cells w;have K:Nonempty (Kig w):=⟨⟨w,Zd _⟩⟩;refine wp_region_kig η η ?_;repeat (go_big_quiet_step ((go_at_call 87;exact kig_of (C.out _))))
 refine wpQuiet_nil ?_;intro R d;obtain ⟨u,a⟩:=d;have hq:GD w R:=a ▸ u.h;clear a u J K;have y:=Hd hq;clear hq;go_wp2;go_ret;exact ⟨rfl,y.out⟩
end Go.Proofs.YtjkjpopghkeibaaGreatDoor
namespace Go.Proofs.YtjkjpopghkeibaaGreatDoor
open Go.RowKit Go.ChangeMaps
variable {w:World}
def TGP (w:World) (base ra:Nat) (vt:Value) (G:T3→List Int):Prop :=
 ∃ ls clock,TEM w ra ls clock∧TGood ls clock∧(∀ e,Tlk ls e=none→G e=[]) ∧
  (∀ e v,Tlk ls e=some v→w.ownsRow base 3 1 v (G e).length ((G e).map (Value.int .i64))∧G e≠[]∧(vt.ownBlock=none∨v.ownBlock≠vt.ownBlock)) ∧
  (∀ e e' v v',e≠e'→Tlk ls e=some v→Tlk ls e'=some v'→v.ownBlock≠v'.ownBlock)
theorem TEM.lt {r:Nat} {ls:List (T3×Value×Nat)} {c:Nat} (h:TEM w r ls c):r<w.heap.size:=(Array.getElem?_eq_some_iff.1 h).1
theorem TEM.grown {w':World} {r:Nat} {ls:List (T3×Value×Nat)} {c:Nat} {row:Option Nat} (h:TEM w r ls c) (hg:w.grownBy w' row) (a:some r≠row):TEM w' r ls c:=(hg.block r h.lt a).trans h
theorem TGP.kept {w':World} {base b:Nat} {d:Value} {G:T3→List Int} (h:TGP w base b d G) (a:Bl w w'):TGP w' base b d G:=by
 obtain ⟨ls,c,h1,h2,h3,h4,h5⟩:=h;refine ⟨ls,c,h1.grown (Qy a) ξ,h2,h3,fun e v g=>?_,h5⟩;obtain ⟨a1,f,a3⟩:=h4 e v g;exact ⟨Qj a1 a,f,a3⟩
theorem TGP.entry {base l:Nat} {L:Value} {G:T3→List Int} (h:TGP w base l L G) (V:l<base) (O:∀ g,L.ownBlock=some g→g<w.heap.size) (e:T3) (n:Int) :
  ∃ v0 K W2,(Instr.mapEntry 187 (.map (some l)) (Tek e)).run Tryz.prog w=.ok (.tuple #[v0,I K]) W2∧w.grownBy W2 (some l)∧W2.heap.size=w.heap.size∧W2.ownsRow base 3 1 v0 (G e).length ((G e).map (Value.int .i64)) ∧
   ∀ v' r,W2.grownBy r v0.ownBlock→r.ownsRow base 3 1 v' ((G e).length+1) ((G e).map (Value.int .i64) ++ [I n])→(v'.ownBlock=v0.ownBlock∨v'.ownBlock=some W2.heap.size) →
    ∃ W4,(Instr.entryStore 187 (.map (some l)) (I K) v').run Tryz.prog r=.ok () W4∧r.grownBy W4 (some l)∧TGP W4 base l L (fun j=>if j=e then G e ++ [n] else G j):=by
 obtain ⟨ls,c,h1,h2,h3,h4,h5⟩:=h;obtain ⟨K,k,c1,A,N⟩:=Tentry27 Tryz.underlying187 zero70 h1 h2 e;have M:=h1;unfold TEM at M;have x:=Yf M (.map (k.map TtoE).toArray c1)
 have o:∀ {W:World} {v:Value} {n:Nat} {R:List Value},W.ownsRow base 3 1 v n R→v.ownBlock=none∨v.ownBlock≠some l:=fun {W v n R} U=>by
  cases H:v.ownBlock with
  | none=>exact Or.inl rfl
  | some g =>
   refine Or.inr (fun e1=>?_);have:=(U.lt g H).1;simp at e1;omega
 have C:(setBlock w l (.map (k.map TtoE).toArray c1)).ownsRow base 3 1 ((Tlk ls e).getD SN) (G e).length ((G e).map (Value.int .i64)):=by
  cases f:Tlk ls e with
  | none =>
   rw [h3 e f];exact World.ownsRow_nil _ _ _ _
  | some v =>
   have a:=(h4 e v f).1;exact a.kept x (o a)
 have B:(setBlock w l (.map (k.map TtoE).toArray c1)).heap.size=w.heap.size:=by simp [setBlock]
 refine ⟨_,(K:Int),_,A,x,B,C,fun v' r z p s=>?_⟩;obtain ⟨D,P,T,F,_,g3⟩:=N v'
 have t:TEM r l k c1:=by
  have e0:TEM (setBlock w l (.map (k.map TtoE).toArray c1)) l k c1:=heap_setBlock_same M _;refine e0.grown z ?_;rcases o C with e1 | e1
  ·rw [e1];simp
  ·exact fun e2=>e1 e2.symm
 have q:=Yf t (.map (D.map TtoE).toArray P);refine ⟨_,g3 r t,q,D,P,heap_setBlock_same t _,T,fun j b=>?_,fun j v b=>?_,fun j J v Q y b d=>?_⟩
 ·rw [F j] at b;by_cases e1:j=e
  ·rw [if_pos e1] at b
   cases b
  ·rw [if_neg e1] at b;dsimp only;rw [if_neg e1];exact h3 j b
 ·rw [F j] at b;by_cases e1:j=e
  ·dsimp only;rw [if_pos e1] at b ⊢;simp at b;subst b;refine ⟨?_,ξ, ?_⟩
   ·have:=p.kept q (o p);simpa using this
   ·rcases s with f | f
    ·cases hlk:Tlk ls e with
     | none =>
      rw [hlk] at f;have:v'.ownBlock=none:=by rw [f];rfl
      obtain ⟨g,hg,_⟩:=Ym p γ;rw [hg] at this
      cases this
     | some v =>
      rw [hlk] at f;rw [f];exact (h4 e v hlk).2.2
    ·rw [f]
     cases hvb:L.ownBlock with
     | none=>exact Or.inl rfl
     | some g =>
      have:=O g hvb;refine Or.inr (fun e2=>?_);simp at e2;omega
  ·dsimp only;rw [if_neg e1] at b ⊢;obtain ⟨a1,E,a3⟩:=h4 j v b;refine ⟨?_,E,a3⟩;have b1:=a1.kept x (o a1)
   have b2:r.ownsRow base 3 1 v (G j).length ((G j).map (Value.int .i64)):=by
    refine b1.kept z ?_
    cases hlk:Tlk ls e with
    | none =>
     obtain ⟨g,hg,_⟩:=Ym a1 (List.length_pos_iff.2 E);rw [hg];exact Or.inr δ2
    | some v0=>exact Or.inr (h5 j e v v0 e1 b hlk)
   exact b2.kept q (o b2)
 ·rw [F j] at b;rw [F J] at d
  have m:∀ i u,i≠e→Tlk ls i=some u→u.ownBlock≠v'.ownBlock:=fun i u hi H=>by
   obtain ⟨a1,E,_⟩:=h4 i u H;obtain ⟨g,hg,_,q⟩:=Ym a1 (List.length_pos_iff.2 E);rcases s with f | f
   ·cases hlk:Tlk ls e with
    | none =>
     rw [hlk] at f;rw [f,hg];simp [Value.ownBlock]
    | some v0 =>
     rw [hlk] at f;rw [f];exact h5 i e u v0 hi H hlk
   ·rw [f,hg,B];intro e2;simp at e2;omega
  by_cases e1:j=e
  ·rw [if_pos e1] at b;rw [if_neg (fun e2=>y (e1.trans e2.symm))] at d;simp at b;subst b;exact fun e2=>m J Q (fun e3=>y (e1.trans e3.symm)) d e2.symm
  ·rw [if_neg e1] at b;by_cases e3:J=e
   ·rw [if_pos e3] at d;simp at d;subst d;exact m j v e1 b
   ·rw [if_neg e3] at d;exact h5 j J v Q y b d
end Go.Proofs.YtjkjpopghkeibaaGreatDoor
