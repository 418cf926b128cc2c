/- A part of it. -/
import Derived.Test.YtjkjpopghkeibaaGreatDoorQlaj
import Derived.Test.YtjkjpopghkeibaaGreatDoorQlak
set_option maxRecDepth 100000
set_option maxHeartbeats 40000000
namespace Go.Proofs.YtjkjpopghkeibaaGreatDoor
open Go.RowKit
variable {a c w w':World} {g i j n o:Nat} {M:Nat→M6} {u v:Value} {d:Array Nat}
def IdxTo (n:Nat) (f:Nat→Int) (v:Int) (w w':World) (e:Ending):Prop := ∃ i:Int,e=.returned (I i)∧(0≤i↔∃ j,j<n∧f j=v)∧Bl w w'
theorem index_any (w:World) (g n a:Nat) (f:Nat→Int) (v:Int) (l:ZRow w g n f) (x:n≤300) :
  Cl 137 #[.slice (Az g) n a,I v] w fun e w'=>IdxTo n f v w w' e:=by
 have o:=Hd l;clear l;go_enter Tryz.func137,Tryz.ntmps137;go_wp2;go_loopg [8] n (fun p s t=>∃ i:Nat,i≤n∧p=n - i∧s=I (i:Int)∧(∀ j,j<i→f j≠v)∧t=w)
 case atStart=>exact ⟨0,γ,rfl,rfl,fun j h=>by omega,rfl⟩
 case round =>
  obtain ⟨i,hi,rfl,rfl,k,rfl⟩:=hrel;have c:=Hd k;clear k;by_cases h1:i<n
  ·have r:(i:Int)<(n:Int):=γ;have y:(0:Int)≤(i:Int):=γ;obtain ⟨z0,_⟩:=o.out i h1;obtain ⟨u,b⟩:∃ u,u=f i:=⟨_,rfl⟩;rw [← b] at z0;have d:=Hd b;clear b;by_cases hv:v=u
   ·have m:(v == u)=true:=by simpa using hv
    clear hv;go_wp2;go_ret;refine ⟨(i:Int),rfl,⟨fun _=>⟨i,h1, ?_⟩,fun _=>by omega⟩,Qe _⟩;rw [← d.out];exact (beq_iff_eq.1 m).symm
   ·have m:(v == u)=false:=by simpa using hv
    go_wp2;go_roundg (n - (i+1))
    case measure=>omega
    case rel =>
     refine ⟨i+1,γ,rfl,σ,fun j q=>?_,rfl⟩;by_cases e:j=i
     ·subst e;rw [← d.out];exact fun e=>hv e.symm
     ·exact c.out j γ
  ·have r:¬ (i:Int)<(n:Int):=γ;go_wp2;go_ret;exact ⟨-1,rfl,⟨fun h=>by omega,fun ⟨j,q,e⟩=>absurd e (c.out j γ)⟩,Qe _⟩
def ConTo (n:Nat) (f:Nat→Int) (v:Int) (w w':World) (e:Ending):Prop := ∃ b:Bool,e=.returned (.bool b)∧(b=true↔∃ j,j<n∧f j=v)∧Bl w w'
theorem contains_any (w:World) (g n a:Nat) (f:Nat→Int) (v:Int) (c:ZRow w g n f) (j:n≤300) :
  Cl 89 #[.slice (Az g) n a,I v] w fun e w'=>ConTo n f v w w' e:=by
 have h:=Hd (index_any w g n a f v c j);clear c;go_enter Tryz.func89,Tryz.ntmps89;go_wp2_with (go_at_call 137;refine h.out.mono ?_;rintro e k ⟨i,rfl,h1,d⟩;have b:=H2 h1 d;clear h1 d)
 go_ret;exact ⟨_,rfl,by rw [decide_eq_true_eq];exact b.out.1,b.out.2⟩
open Go.ChangeMaps
def kdn (ks:List Int):Nat→Int×Int×Int×Int→Int
 | 0,_=>0
 | i+1,e=>if e=(ck ks i 0,ck ks i 1,ck ks i 2,ck ks i 3) then ck ks i 4 else kdn ks i e
theorem kf_kdn (a:List Int) (e:E4):∀ n,(kf a n e).getD (I 0)=I (kdn a n e)
 | 0=>rfl
 | i+1=>by
  unfold kf kdn;split
  ·rfl
  ·exact kf_kdn a e i
def KL (w:World) (rk:Nat) (kd:E4→Int):Prop := ∀ (e:E4) (wx:World),Bl w wx→(Instr.lookup 57 (.map (some rk)) (ek e) false).run Tryz.prog wx=.ok (I (kd e)) wx
theorem KL.kept {a:Nat} {kd:E4→Int} (h:KL w a kd) (b:Bl w w'):KL w' a kd:=fun e d c=>h e d (Qc b c)
theorem zero3 (w:World):(zeroValue 3).run Tryz.prog w=.ok (I 0) w:=η
theorem PK.kl {k:World} {base f:Nat} {j:Value} {L:List T3} {G:E4→List Int} {d:List Int} (h:PK k w base i f j L G (kf d n)):KL w f (kdn d n):=fun e l g=>by
 obtain ⟨ls,c,h4,a,b⟩:=h.2.2.1;have:=lookup27 Tryz.underlying57 zero3 (h4.grown (Qy g) ξ) a e;rw [b e,kf_kdn] at this;exact this
theorem kind_any (w:World) (b:Option Addr) (n c e a:Nat) (kd:E4→Int) (p q r s:Int) (d:KL w a kd) :
  Rt 48 #[.agg #[.slice b n c,.map (some e),.map (some a)],.agg #[I p,I q,I r,I s]] w (I (kd (p,q,r,s))):=by
 have f:=d (p,q,r,s) ((w.alloc (.cells #[.slice b n c,.map (some e),.map (some a)] 59)).alloc (.cells #[I p,I q,I r,I s] 47)) β2;simp only [ek] at f;clear d;go_enter Tryz.func48,Tryz.ntmps48;go_wp2;go_ret;exact ⟨rfl,Qb β1⟩
theorem Kn {a b c d:Int} (h1:a=c) (h2:b=d):Ending.returned (.agg #[I a,I b])=.returned (.agg #[I c,I d]):=by subst h1 h2;rfl
theorem paperLine_any (p q r s:Int) (w:World) (h1:0≤p∧p≤100) (h2:0≤q∧q≤100) :
  Rt 121 #[.agg #[I p,I q,I r,I s]] w (.agg #[I (lnW (p,q,r,s)),I (lnC (p,q,r,s))]):=by
 obtain ⟨a1,a⟩:=h1;obtain ⟨b1,b2⟩:=h2;by_cases c1:p=r
 ·subst c1;go_enter Tryz.func121,Tryz.ntmps121;go_wp2;refine bodyPost_ret (v:=.agg #[_,_]) (by simp [results,Tryz.results121,go_sem];exact ⟨rfl,rfl⟩) rfl ⟨?_, ?_⟩
  ·exact Kn (by simp [lnW]) (by simp [lnC])
  ·with_reducible repeat (first | exact Qe _ | refine Qb ?_ | refine Qh ?_ ?_)
   all_goals (simp)
 ·by_cases c2:q=s
  ·subst c2;go_enter Tryz.func121,Tryz.ntmps121;go_wp2;refine bodyPost_ret (v:=.agg #[_,_]) (by simp [results,Tryz.results121,go_sem];exact ⟨rfl,rfl⟩) rfl ⟨?_, ?_⟩
   ·exact Kn (by simp [lnW,c1]) (by simp [lnC,c1])
   ·with_reducible repeat (first | exact Qe _ | refine Qb ?_ | refine Qh ?_ ?_)
    all_goals (simp)
  ·by_cases c3:s<q
   ·go_enter Tryz.func121,Tryz.ntmps121;go_wp2;refine bodyPost_ret (v:=.agg #[_,_]) (by simp [results,Tryz.results121,go_sem];exact ⟨rfl,rfl⟩) rfl ⟨?_, ?_⟩
    ·exact Kn (by simp [lnW,c1,c2,c3]) (by simp [lnC,c1,c2,c3])
    ·with_reducible repeat (first | exact Qe _ | refine Qb ?_ | refine Qh ?_ ?_)
     all_goals (simp)
   ·go_enter Tryz.func121,Tryz.ntmps121;go_wp2;refine bodyPost_ret (v:=.agg #[_,_]) (by simp [results,Tryz.results121,go_sem];exact ⟨rfl,rfl⟩) rfl ⟨?_, ?_⟩
    ·exact Kn (by simp only [lnW,if_neg c1,if_neg c2,if_neg (show ¬ s<q by omega)]) (by simp only [lnC,if_neg c1,if_neg c2,if_neg (show ¬ s<q by omega)])
    ·with_reducible repeat (first | exact Qe _ | refine Qb ?_ | refine Qh ?_ ?_)
     all_goals (simp)
def mv (m:M6):Value:=.agg #[I m.1,I m.2.1,I m.2.2.1,I m.2.2.2.1,I m.2.2.2.2.1,I m.2.2.2.2.2]
theorem six_cases (h:o<6):o=0∨o=1∨o=2∨o=3∨o=4∨o=5:=γ
theorem beyond_any (w:World) (N:Option Addr) (n O P L:Nat) (kd:E4→Int) (p q r s A B C D E F:Int) (Q:KL w L kd) (h1:0≤p∧p≤100) (h2:0≤q∧q≤100) (K:lineB (lnW (p,q,r,s)) (lnC (p,q,r,s))=true∧-40≤lnC (p,q,r,s)∧lnC (p,q,r,s)≤40) (R:GoodM (A,B,C,D,E,F) 800000) :
  Rt 132 #[.agg #[.slice N n O,.map (some P),.map (some L)],.agg #[I p,I q,I r,I s],.agg #[I A,I B,I C,I D,I E,I F]] w (mv (farM kd (p,q,r,s) (A,B,C,D,E,F))):=by
 have k:=Qbm K.1 K.2;have m:=aft_good k R γ;by_cases hz:kd (p,q,r,s)=0
 ·have T:Hid (∀ l:World,Bl w l→Rt 48 #[.agg #[.slice N n O,.map (some P),.map (some L)],.agg #[I p,I q,I r,I s]] l (I 0)):=fun l G=>hz ▸ kind_any l N n O P L kd p q r s (Q.kept G)
  have M:Hid (farM kd (p,q,r,s) (A,B,C,D,E,F)=(A,B,C,D,E,F)):=by
   have:farM kd (p,q,r,s) (A,B,C,D,E,F)=(A,B,C,D,E,F):=by simp [farM,hz]
   exact this
  clear Q K R k m h1 h2 hz;go_enter Tryz.func132,Tryz.ntmps132;go_wp2_with (go_at_call 48;refine (T.out _ (by with_reducible exact Qb β3)).mono ?_;rintro e j ⟨rfl,g⟩;have U:=Hd (Qc β4 g);have Y:At j (w.heap.size+1+1) 0 (I A):=Qa g δ;have Z:At j (w.heap.size+1+1) 1 (I B):=Qa g δ;have m2:At j (w.heap.size+1+1) 2 (I C):=Qa g δ;have m3:At j (w.heap.size+1+1) 3 (I D):=Qa g δ;have m4:At j (w.heap.size+1+1) 4 (I E):=Qa g δ;have m5:At j (w.heap.size+1+1) 5 (I F):=Qa g δ;have r0:At j (w.heap.size+1+1+1) 0 (I 0):=Qa g δ;have r1:At j (w.heap.size+1+1+1) 1 (I 0):=Qa g δ;have r2:At j (w.heap.size+1+1+1) 2 (I 0):=Qa g δ;have r3:At j (w.heap.size+1+1+1) 3 (I 0):=Qa g δ;have r4:At j (w.heap.size+1+1+1) 4 (I 0):=Qa g δ;have r5:At j (w.heap.size+1+1+1) 5 (I 0):=Qa g δ;have fz:∀ o,o<6→Fn j (w.heap.size+1+1+1) o:=fun o X=>(g.frozen (p:=⟨w.heap.size+1+1+1,o,none⟩) ξ).trans δ;have f0:=fz 0 γ;have f1:=fz 1 γ;have f2:=fz 2 γ;have f3:=fz 3 γ;have f4:=fz 4 γ;have f5:=fz 5 γ;have J:=Bt r0;clear fz g)
  refine bodyPost_ret (v:=.agg #[I A,I B,I C,I D,I E,I F]) (by simp [results,Tryz.results132,go_sem,r0,r1,r2,r3,r4,r5]) rfl ⟨by rw [M.out];rfl, ?_⟩;with_reducible repeat (first | exact U.out | refine Qh ?_ ?_)
  all_goals (dsimp only;omega)
 ·obtain ⟨z,H⟩:∃ z,z=kd (p,q,r,s):=⟨_,rfl⟩;have T:Hid (∀ l:World,Bl w l→Rt 48 #[.agg #[.slice N n O,.map (some P),.map (some L)],.agg #[I p,I q,I r,I s]] l (I z)):=fun l G=>H ▸ kind_any l N n O P L kd p q r s (Q.kept G)
  have M:Hid (farM kd (p,q,r,s) (A,B,C,D,E,F)=aft (mir (lnW (p,q,r,s)) (lnC (p,q,r,s))) (A,B,C,D,E,F)):=by
   have:farM kd (p,q,r,s) (A,B,C,D,E,F)=aft (mir (lnW (p,q,r,s)) (lnC (p,q,r,s))) (A,B,C,D,E,F):=by simp [farM,hz]
   exact this
  rw [← H] at hz;obtain ⟨v,hv⟩:∃ v,v=lnW (p,q,r,s):=⟨_,rfl⟩;obtain ⟨c,W⟩:∃ c,c=lnC (p,q,r,s):=⟨_,rfl⟩
  have CL:Hid (∀ l:World,Rt 121 #[.agg #[I p,I q,I r,I s]] l (.agg #[I v,I c])):=fun l=>by
   rw [hv,W];exact paperLine_any p q r s l h1 h2
  rw [← hv,← W] at K k m M;obtain ⟨a,b,x,d,e,f,y⟩:∃ a b x d e f,mir v c=(a,b,x,d,e,f):=⟨_,_,_,_,_,_,rfl⟩
  have CM:Hid (∀ l:World,Cl 133 #[.agg #[I v,I c]] l fun e' w'=>e'=.returned (.tuple #[.agg #[I a,I b,I x,I d,I e,I f],I 0])∧Bl l w'):=fun l=>by
   have h:=Kf v c l K.1 k.1;simp only [mir,Prod.mk.injEq] at y;obtain ⟨rfl,rfl,rfl,rfl,rfl,rfl⟩:=y;exact h
  rw [y] at k m M;have CA:Hid (∀ l:World,Rt 134 #[.agg #[I a,I b,I x,I d,I e,I f],.agg #[I A,I B,I C,I D,I E,I F]] l (.tuple #[.agg #[I (dot A B a x),I (dot A B b d),I (dot C D a x),I (dot C D b d),I (dot A B e f+E),I (dot C D e f+F)],I 0])):=fun l=>After_yes a b x d e f A B C D E F l k.1 R.1 m.1;clear Q K R k m h1 h2 H hv W y;go_enter Tryz.func132,Tryz.ntmps132
  go_wp2_with (first
   | (go_at_call 48;refine (T.out _ (by with_reducible exact Qb β3)).mono ?_;rintro e j ⟨rfl,g⟩;have U:=Hd (Qc β4 g);have e0:At j (w.heap.size+1) 0 (I p):=Qa g δ;have e1:At j (w.heap.size+1) 1 (I q):=Qa g δ;have e2:At j (w.heap.size+1) 2 (I r):=Qa g δ;have e3:At j (w.heap.size+1) 3 (I s):=Qa g δ;have Y:At j (w.heap.size+1+1) 0 (I A):=Qa g δ;have Z:At j (w.heap.size+1+1) 1 (I B):=Qa g δ;have m2:At j (w.heap.size+1+1) 2 (I C):=Qa g δ;have m3:At j (w.heap.size+1+1) 3 (I D):=Qa g δ;have m4:At j (w.heap.size+1+1) 4 (I E):=Qa g δ;have m5:At j (w.heap.size+1+1) 5 (I F):=Qa g δ;have r0:At j (w.heap.size+1+1+1) 0 (I 0):=Qa g δ;have u:Hid (∀ o,o<6→At j (w.heap.size+1+1+1) o (I 0)∧Fn j (w.heap.size+1+1+1) o):=fun o X=>⟨Qa g (by rcases six_cases X with rfl | rfl | rfl | rfl | rfl | rfl <;> simp [go_sem]),(g.frozen (p:=⟨w.heap.size+1+1+1,o,none⟩) ξ).trans δ⟩;have J:=Bt r0;clear g)
   | (go_at_call 121;refine (CL.out _).mono ?_;rintro e w3 ⟨rfl,g⟩;have V:=Hd g;clear g)
   | (go_at_call 133;refine (CM.out _).mono ?_;rintro e w4 ⟨rfl,g⟩;have t:=Hd (Qc V.out g);have n0:=Qa t.out Y;have n1:=Qa t.out Z;have n2:=Qa t.out m2;have n3:=Qa t.out m3;have n4:=Qa t.out m4;have n5:=Qa t.out m5;have z4:=Bt n0;clear g)
   | (go_at_call 134;refine (CA.out _).mono ?_;rintro e w5 ⟨rfl,g⟩;have i:=Hd (Qc (Qb t.out) g);have s0:=Qa i.out (u.out 0 γ).1;have f0:=(i.out.frozen (p:=⟨w.heap.size+1+1+1,0,none⟩) J).trans (u.out 0 γ).2;have s1:=Qa i.out (u.out 1 γ).1;have f1:=(i.out.frozen (p:=⟨w.heap.size+1+1+1,1,none⟩) J).trans (u.out 1 γ).2;have s2:=Qa i.out (u.out 2 γ).1;have f2:=(i.out.frozen (p:=⟨w.heap.size+1+1+1,2,none⟩) J).trans (u.out 2 γ).2;have s3:=Qa i.out (u.out 3 γ).1;have f3:=(i.out.frozen (p:=⟨w.heap.size+1+1+1,3,none⟩) J).trans (u.out 3 γ).2;have s4:=Qa i.out (u.out 4 γ).1;have f4:=(i.out.frozen (p:=⟨w.heap.size+1+1+1,4,none⟩) J).trans (u.out 4 γ).2;have s5:=Qa i.out (u.out 5 γ).1;have f5:=(i.out.frozen (p:=⟨w.heap.size+1+1+1,5,none⟩) J).trans (u.out 5 γ).2;have z5:=Bt s0;clear g))
  refine bodyPost_ret (v:=.agg #[I (dot A B a x),I (dot A B b d),I (dot C D a x),I (dot C D b d),I (dot A B e f+E),I (dot C D e f+F)]) ?_ rfl ⟨by rw [M.out];rfl, ?_⟩
  ·simp [results,Tryz.results132,go_sem,s0,s1,s2,s3,s4,s5,Ca,z5]
  ·with_reducible repeat (first | exact Qc U.out i.out | refine Qh ?_ ?_ | refine Qb ?_)
   all_goals (dsimp only;omega)
def sameM (a b c d e f A B C D E F:Int):Bool:=decide (a=A∧b=B∧c=C∧d=D∧e=E∧f=F)
theorem eqlM (a b c d e f A B C D E F:Int) (w:World) :
  (binOp .eql 114 (.agg #[I a,I b,I c,I d,I e,I f]) (.agg #[I A,I B,I C,I D,I E,I F])).run Tryz.prog w=.ok (.bool (sameM a b c d e f A B C D E F)) w:=by
 by_cases h1:a=A
 ·subst h1;by_cases h2:b=B
  ·subst h2;by_cases h3:c=C
   ·subst h3;by_cases h4:d=D
    ·subst h4;by_cases h5:e=E
     ·subst h5;by_cases h6:f=F
      ·subst h6;simp [go_sem,sameM]
      ·have g:(f == F)=false:=by simpa using h6
       simp [go_sem,sameM,g,h6]
     ·have g:(e == E)=false:=by simpa using h5
      simp [go_sem,sameM,g,h5]
    ·have g:(d == D)=false:=by simpa using h4
     simp [go_sem,sameM,g,h4]
   ·have g:(c == C)=false:=by simpa using h3
    simp [go_sem,sameM,g,h3]
  ·have g:(b == B)=false:=by simpa using h2
   simp [go_sem,sameM,g,h2]
 ·have g:(a == A)=false:=by simpa using h1
  simp [go_sem,sameM,g,h1]
theorem neqM (a b c d e f A B C D E F:Int) (w:World) :
  (binOp .neq 114 (.agg #[.int .i64 a,.int .i64 b,.int .i64 c,.int .i64 d,.int .i64 e,.int .i64 f]) (.agg #[.int .i64 A,.int .i64 B,.int .i64 C,.int .i64 D,.int .i64 E,.int .i64 F])).run Tryz.prog w=.ok (.bool (!sameM a b c d e f A B C D E F)) w:=by
 by_cases h1:a=A
 ·subst h1
  by_cases h2:b=B
  ·subst h2
   by_cases h3:c=C
   ·subst h3
    by_cases h4:d=D
    ·subst h4
     by_cases h5:e=E
     ·subst h5
      by_cases h6:f=F
      ·subst h6
       simp [go_sem,sameM]
      ·have e':(f == F)=false:=by simpa using h6
       simp [go_sem,sameM,e',h6]
     ·have e':(e == E)=false:=by simpa using h5
      simp [go_sem,sameM,e',h5]
    ·have e':(d == D)=false:=by simpa using h4
     simp [go_sem,sameM,e',h4]
   ·have e':(c == C)=false:=by simpa using h3
    simp [go_sem,sameM,e',h3]
  ·have e':(b == B)=false:=by simpa using h2
   simp [go_sem,sameM,e',h2]
 ·have e':(a == A)=false:=by simpa using h1
  simp [go_sem,sameM,e',h1]
def MCell (w:World) (g i:Nat) (m:M6):Prop:=At w g (i*6) (I m.1)∧At w g (i*6+1) (I m.2.1)∧At w g (i*6+2) (I m.2.2.1)∧At w g (i*6+3) (I m.2.2.2.1)∧At w g (i*6+4) (I m.2.2.2.2.1)∧At w g (i*6+5) (I m.2.2.2.2.2)
def MFree (w:World) (g i:Nat):Prop:=Fn w g (i*6)∧Fn w g (i*6+1)∧Fn w g (i*6+2)∧Fn w g (i*6+3)∧Fn w g (i*6+4)∧Fn w g (i*6+5)
def MRow (w:World) (g n:Nat) (M:Nat→M6):Prop := ∀ i,i<n→MCell w g i (M i)∧MFree w g i
theorem MRow.grown {row:Option Nat} (h:MRow w g n M) (hg:w.grownBy w' row) (b:some g≠row):MRow w' g n M:=fun i hi=>by
 obtain ⟨⟨a0,a1,c,a3,a4,a5⟩,f0,f1,f2,f3,f4,f5⟩:=h i hi;have q:∀ o,w'.frozen? ⟨g,o,none⟩=w.frozen? ⟨g,o,none⟩:=fun o=>Fo (a:=⟨g,o,none⟩) (hg.block g (bk a0) b);exact ⟨⟨hg.cell a0 b,hg.cell a1 b,hg.cell c b,hg.cell a3 b,hg.cell a4 b,hg.cell a5 b⟩,(q _).trans f0,(q _).trans f1,(q _).trans f2,(q _).trans f3,(q _).trans f4,(q _).trans f5⟩
theorem MRow.kept (h:MRow w g n M) (a:Bl w w'):MRow w' g n M:=h.grown (Qy a) ξ
def set6 (w:World) (g j:Nat) (m:M6):World:=(((((w.setCell ⟨g,j*6,none⟩ (I m.1)).setCell ⟨g,j*6+1,none⟩ (I m.2.1)).setCell ⟨g,j*6+2,none⟩ (I m.2.2.1)).setCell ⟨g,j*6+3,none⟩ (I m.2.2.2.1)).setCell ⟨g,j*6+4,none⟩ (I m.2.2.2.2.1)).setCell ⟨g,j*6+5,none⟩ (I m.2.2.2.2.2)
theorem Jq {k:Nat} (h:At w g k u):(w.setCell ⟨g,k,none⟩ v).cell? ⟨g,k,none⟩=some v:=Cs _ _ _ h
theorem Qn {k a:Nat} (h:At w g k u) (b:k≠a):(w.setCell ⟨g,a,none⟩ v).cell? ⟨g,k,none⟩=some u:=by
 rw [Co _ _ _ _ π];exact h
theorem MRow.set6 (h:MRow w g n M) (d:j<n) (m:M6):MRow (set6 w g j m) g n (fun q=>if q=j then m else M q):=fun i hi=>by
 obtain ⟨⟨a0,a1,a,a3,a4,a5⟩,b⟩:=h i hi;refine ⟨?_,by simpa only [Fn,MFree,YtjkjpopghkeibaaGreatDoor.set6,Fz] using b⟩;by_cases e:i=j
 ·subst e;simp only [if_true];unfold YtjkjpopghkeibaaGreatDoor.set6;refine ⟨?_, ?_, ?_, ?_, ?_, ?_⟩
  ·exact Qn (Qn (Qn (Qn (Qn (Jq a0) γ) γ) γ) γ) γ
  ·exact Qn (Qn (Qn (Qn (Jq (Qn a1 γ)) γ) γ) γ) γ
  ·exact Qn (Qn (Qn (Jq (Qn (Qn a γ) γ)) γ) γ) γ
  ·exact Qn (Qn (Jq (Qn (Qn (Qn a3 γ) γ) γ)) γ) γ
  ·exact Qn (Jq (Qn (Qn (Qn (Qn a4 γ) γ) γ) γ)) γ
  ·exact Jq (Qn (Qn (Qn (Qn (Qn a5 γ) γ) γ) γ) γ)
 ·simp only [if_neg e];unfold YtjkjpopghkeibaaGreatDoor.set6
  have q:∀ {o:Nat} {u:Value},At w g (i*6+o) u→o<6→((((((w.setCell ⟨g,j*6,none⟩ (I m.1)).setCell ⟨g,j*6+1,none⟩ (I m.2.1)).setCell ⟨g,j*6+2,none⟩ (I m.2.2.1)).setCell ⟨g,j*6+3,none⟩ (I m.2.2.2.1)).setCell ⟨g,j*6+4,none⟩ (I m.2.2.2.2.1)).setCell ⟨g,j*6+5,none⟩ (I m.2.2.2.2.2)).cell? ⟨g,i*6+o,none⟩=some u:=fun {o u} c f =>
   Qn (Qn (Qn (Qn (Qn (Qn c γ) γ) γ) γ) γ) γ
  exact ⟨q (o:=0) a0 γ,q a1 γ,q a γ,q a3 γ,q a4 γ,q a5 γ⟩
theorem set6_grown (w:World) (g j:Nat) (m:M6):w.grownBy (set6 w g j m) (some g):=Ji (Ji (Ji (Ji (Ji (Ql _ _ _ _) (Ql _ _ _ _)) (Ql _ _ _ _)) (Ql _ _ _ _)) (Ql _ _ _ _)) (Ql _ _ _ _)
theorem made_zero (n k:Nat) (a:k<n*6):(madeCells #[I 0,I 0,I 0,I 0,I 0,I 0] (n*6)).toList[k]?=some (I 0):=by
 rw [Array.getElem?_toList];unfold madeCells;have h6:k % 6=0∨k % 6=1∨k % 6=2∨k % 6=3∨k % 6=4∨k % 6=5:=γ;rcases h6 with h | h | h | h | h | h <;> simp [a,h]
theorem maps_made {base:Nat} (h:w.ownsRow base 114 6 (.slice (Az g) n n) n (madeCells #[I 0,I 0,I 0,I 0,I 0,I 0] (n*6)).toList):MRow w g n (fun _=>noM):=fun i hi=>by
 have q:∀ k,k<n*6→At w g k (I 0):=fun k a=>(h.cellAt k a).trans (made_zero n k a)
 have f:∀ k,Fn w g k:=fun k=>by
  rcases h.2 with ⟨e1,_⟩ | ⟨b,c,d,e1,_,e,_⟩
  ·simp at e1
  ·simp only [Value.slice.injEq,Option.some.injEq,Addr.mk.injEq] at e1;obtain ⟨⟨rfl,_⟩,_⟩:=e1;simp [World.frozen?,e]
 exact ⟨⟨q _ γ,q _ γ,q _ γ,q _ γ,q _ γ,q _ γ⟩,f _,f _,f _,f _,f _,f _⟩
theorem inf59:(Tryz.prog.info? 114).map (fun i=>(i.zero,i.size,i.bytes))=some (some (.agg #[I 0,I 0,I 0,I 0,I 0,I 0]),6,48):=η
def SRow (w:World) (a:Option Addr) (S:List (T3×List T3)):Prop :=
 ∀ i (h:i<S.length),∃ g sa sc,a=Az g∧At w g (i*4) (I S[i].1.1)∧At w g (i*4+1) (I S[i].1.2.1)∧At w g (i*4+2) (I S[i].1.2.2)∧At w g (i*4+3) (.slice sa S[i].2.length sc)∧TRow w sa S[i].2
theorem SRow.kept {a:Option Addr} {S:List (T3×List T3)} (h:SRow w a S) (b:Bl w w'):SRow w' a S:=fun i hi=>by
 obtain ⟨g,d,f,e,c0,c1,c2,c3,c⟩:=h i hi;exact ⟨g,d,f,e,Qa b c0,Qa b c1,Qa b c2,Qa b c3,c.kept b⟩
def pbox (w:World) (ad:Option Addr) (n cc ra rk:Nat) (vm vp:Value):World:=w.alloc (.cells #[.slice ad n cc,.map (some ra),.map (some rk),vm,vp] 61)
theorem fits_any (w:World) (x n o gm cm:Nat) (l pa:Option Addr) (pn pc:Nat) (L:List T3) (kd:E4→Int) (M:Nat→M6) (hs:Steps w) (a6:PA w l n L) (hK:KL w o kd) (hL:L.length≤300) (y:∀ t∈L,(0≤t.1∧t.1≤8)∧(0≤t.2.1∧t.2.1≤8)∧(0≤t.2.2∧t.2.2≤3)) (hM:MRow w gm L.length M) (hC:Cons kd L M) (hG:∀ i,i<L.length→GoodM (M i) 48000) :
  Rt 81 #[.agg #[.slice l L.length x,.map (some n),.map (some o),.slice (Az gm) L.length cm,.slice pa pn pc]] w (.bool true):=by
 have ai:Hid (∀ (a:World) (i:Nat) (hi:i<L.length),Bl w a→Cl 102 #[.agg #[.slice l L.length x,.map (some n),.map (some o)],I (i:Int)] a fun e w'=>∃ v,e=.returned v∧w'.ownsRow (a.heap.size+1) 105 5 v (jl L L[i] i 3).length (flatJ (jl L L[i] i 3))∧Bl a w'):=fun a i hi d=>Uv a x n o i l L L[i].1 L[i].2.1 L[i].2.2 (hs.kept d) (a6.kept d) hi rfl hL (y _ (Lm hi))
 have ah:Hid (∀ (a:World) (i:Nat) (hi:i<L.length) (p q r s A B C D E F:Int),Bl w a→hasT L[i] (p,q,r,s)=true→GoodM (A,B,C,D,E,F) 800000→Rt 132 #[.agg #[.slice l L.length x,.map (some n),.map (some o)],.agg #[I p,I q,I r,I s],.agg #[I A,I B,I C,I D,I E,I F]] a (mv (farM kd (p,q,r,s) (A,B,C,D,E,F)))):=fun a i hi p q r s A B C D E F d hh hm =>
  beyond_any a l L.length x n o kd p q r s A B C D E F (hK.kept d) (Qbq hh (y _ (Lm hi))).1 (Qbq hh (y _ (Lm hi))).2.1 (Vu hh (y _ (Lm hi))) hm
 have HC:Hid (Cons kd L M∧MRow w gm L.length M∧∀ i,i<L.length→GoodM (M i) 48000):=⟨hC,hM,hG⟩;have hn:=neqM;clear hs a6 hK y hM hC hG;obtain ⟨Y,H⟩:∃ W,W=pbox w l L.length x n o (.slice (Az gm) L.length cm) (.slice pa pn pc):=⟨_,rfl⟩
 have hx:At Y w.heap.size 0 (.slice l L.length x)∧At Y w.heap.size 1 (.map (some n))∧At Y w.heap.size 2 (.map (some o))∧At Y w.heap.size 3 (.slice (Az gm) L.length cm):=by
  rw [H];simp [pbox,go_sem]
 have HX:=Hd hx;clear hx
 have a7:Bl w Y:=by
  rw [H];exact Qb (Qe _)
 have z:=Hd a7;clear a7;have O:w.alloc (.cells #[.slice l L.length x,.map (some n),.map (some o),.slice (Az gm) L.length cm,.slice pa pn pc] 61)=Y:=H.symm;have aj:=Hd O;clear H O;go_enter Tryz.func81,Tryz.ntmps81;go_wp2;go_loopg [10] L.length (fun gk ak wx=>∃ i:Nat,i≤L.length∧gk=L.length - i∧ak=I (i:Int)∧Bl Y wx)
 case atStart=>exact ⟨0,γ,rfl,rfl,by rw [aj.out];exact Qe _⟩
 case round =>
  obtain ⟨i,hi,rfl,rfl,hB⟩:=hrel;have Z:=Hd hB;clear hB;by_cases h1:i<L.length
  ·have i1:(i:Int)<(L.length:Int):=γ;have i0:(0:Int)≤(i:Int):=γ;obtain ⟨J,hJ⟩:∃ J,J=jl L L[i] i 3:=⟨_,rfl⟩
   have ao:J.length≤900:=by
    have:=jl_len L L[i] i 3;rw [hJ];omega
   have CJ:Hid (∀ a:World,Bl wr a→Cl 102 #[.agg #[.slice l L.length x,.map (some n),.map (some o)],I (i:Int)] a fun e w'=>∃ v,e=.returned v∧w'.ownsRow (a.heap.size+1) 105 5 v J.length (flatJ J)∧Bl a w'):=fun a d=>by
    rw [hJ];exact ai.out a i h1 (Qc z.out (Qc Z.out d))
   have HJ:=Hd hJ;clear hJ;have p0:=Qa Z.out HX.out.1;have p1:=Qa Z.out HX.out.2.1;have p2:=Qa Z.out HX.out.2.2.1;have zp:=Bt p0;go_wp2_with (go_at_call 102;refine (CJ.out _ (by with_reducible exact Qe _)).mono ?_;rintro e w8 ⟨v8,rfl,N,hb⟩;obtain ⟨ja,jc,rfl,aa⟩:=own_jw N;have a2:=H2 aa (Qc Z.out hb);clear N aa hb)
   clear p0 p1 p2 zp;go_loopg [18] J.length (fun gk am wx=>∃ m:Nat,m≤J.length∧gk=J.length - m∧am=I (m:Int)∧Bl w8 wx)
   case atStart=>exact ⟨0,γ,rfl,rfl,Qe _⟩
   case round =>
    obtain ⟨m,hm,rfl,rfl,hB⟩:=hrel;have u:=H2 (Qc a2.out.2 hB) hB;clear hB;by_cases hm1:m<J.length
    ·have im:(m:Int)<(J.length:Int):=γ;have ar:(0:Int)≤(m:Int):=γ;obtain ⟨jb,rfl,c0,c1,c2,c3,c4⟩:=(a2.out.1.kept u.out.2).1 m hm1;have an:=Bt c0;obtain ⟨q,hq⟩:∃ q,q=J[m]:=⟨_,rfl⟩;obtain ⟨⟨T,U,V,X⟩,qj⟩:=q;rw [← hq] at c0 c1 c2 c3 c4;dsimp only at c0 c1 c2 c3 c4;have K:((T,U,V,X),qj)∈jl L L[i] i 3:=by rw [← HJ.out,hq];exact Lm hm1
     obtain ⟨k,hk,ac,j,hj,rfl,a8,ab⟩:=Yz.1 K;have R:hasT L[i] (T,U,V,X)=true:=by rw [ac];exact Jc _ _
     have g:=HC.out.1.2 i j h1 hj (T,U,V,X) (fun e=>a8 e.symm) R ab;obtain ⟨⟨y0,y1,y2,y3,y4,y5⟩,_⟩:=HC.out.2.1 i h1;obtain ⟨⟨v0,v1,v2,v3,v4,v5⟩,_⟩:=HC.out.2.1 j hj;have Q:=(HC.out.2.2 i h1).mono (C:=800000) γ;obtain ⟨A,B,C,D,E,F,ae⟩:∃ A B C D E F,M i=(A,B,C,D,E,F):=⟨_,_,_,_,_,_,rfl⟩;obtain ⟨f0,f1,f2,f3,f4,f5,af⟩:∃ f0 f1 f2 f3 f4 f5,M j=(f0,f1,f2,f3,f4,f5):=⟨_,_,_,_,_,_,rfl⟩;rw [ae] at y0 y1 y2 y3 y4 y5 Q g;rw [af] at v0 v1 v2 v3 v4 v5 g;dsimp only at y0 y1 y2 y3 y4 y5 v0 v1 v2 v3 v4 v5
     have CB:Hid (∀ a:World,Bl wr a→Rt 132 #[.agg #[.slice l L.length x,.map (some n),.map (some o)],.agg #[I T,I U,I V,I X],.agg #[I A,I B,I C,I D,I E,I F]] a (.agg #[I f0,I f1,I f2,I f3,I f4,I f5])):=fun a d=>by
      have h:=ah.out a i h1 T U V X A B C D E F (Qc z.out (Qc u.out.1 d)) R Q;rw [← g] at h;exact h
     have ap:sameM f0 f1 f2 f3 f4 f5 f0 f1 f2 f3 f4 f5=true:=by simp [sameM]
     have ij:(j:Int)<(L.length:Int):=γ;have aq:(0:Int)≤(j:Int):=γ;clear K ac ab hq a8 R Q ae af g;go_wp2;refine Qi (fun G hW0=>?_)
     have P:Hid (Bl wr G):=by
      have:Bl wr G:=γ4;exact this
     obtain ⟨B9,f⟩:∃ b,b=wr.heap.size:=⟨_,rfl⟩;have x0:At G B9 0 (I T):=by rw [hW0,f];simp [go_sem]
     have x1:At G B9 1 (I U):=by rw [hW0,f];simp [go_sem]
     have x2:At G B9 2 (I V):=by rw [hW0,f];simp [go_sem]
     have x3:At G B9 3 (I X):=by rw [hW0,f];simp [go_sem]
     have x4:At G B9 4 (I (j:Int)):=by rw [hW0,f];simp [go_sem]
     clear hW0;rw [← f];clear f;have bw:=Qc u.out.1 P.out;have p0:=Qa bw HX.out.1;have p1:=Qa bw HX.out.2.1;have p2:=Qa bw HX.out.2.2.1;have p3:=Qa bw HX.out.2.2.2;have c:=Qc z.out bw;replace y0:=Qa c y0;replace y1:=Qa c y1;replace y2:=Qa c y2;replace y3:=Qa c y3;replace y4:=Qa c y4;replace y5:=Qa c y5;replace v0:=Qa c v0;replace v1:=Qa c v1;replace v2:=Qa c v2;replace v3:=Qa c v3;replace v4:=Qa c v4;replace v5:=Qa c v5;have zW:=Bt p0;have au:=Bt y0;have av:=Bt x0;have ag:Hid (∀ a:World,Bl G a→Rt 132 #[.agg #[.slice l L.length x,.map (some n),.map (some o)],.agg #[I T,I U,I V,I X],.agg #[I A,I B,I C,I D,I E,I F]] a (.agg #[I f0,I f1,I f2,I f3,I f4,I f5])):=fun a d=>CB.out a (Qc P.out d);clear c0 c1 c2 c3 c4 an bw c;obtain ⟨kc,kn⟩:=kcn G;refine wk ?_;repeat (go_big_quiet_step ((go_at_call 132;exact Qf (ag.out _ (Kin.h _)))))
     refine kq1 (fun wq hq=>?_);clear kc kn x0 x1 x2 x3 x4 p0 p1 p2 p3 y0 y1 y2 y3 y4 y5 v0 v1 v2 v3 v4 v5;go_wp2;go_roundg (J.length - (m+1))
     case measure=>omega
     case rel=>exact ⟨m+1,γ,rfl,σ,Qc u.out.2 (Qc P.out hq)⟩
    ·have im:¬ (m:Int)<(J.length:Int):=γ;go_wp2;go_roundg (L.length - (i+1))
     case measure=>omega
     case rel=>exact ⟨i+1,γ,rfl,σ,u.out.1⟩
  ·have i1:¬ (i:Int)<(L.length:Int):=γ;go_wp2;go_ret;exact ⟨rfl,Qc z.out Z.out⟩
def PlM (w wx:World) (ad:Option Addr) (n cc ra rk:Nat) (M:Nat→M6) (R:List Nat) (v:Value):Prop :=
 MRow wx (w.heap.size+1) n M∧wx.ownsRow (w.heap.size+1+1) 3 1 v R.length (rowN R)∧Bl w wx∧PB wx w.heap.size ad n cc ra rk∧w.heap.size+1+1≤wx.heap.size
theorem PlM.kept {f:World} {b:Option Addr} {c d e:Nat} {R:List Nat} (h:PlM w f b n c d e M R v) (a:Bl f w'):PlM w w' b n c d e M R v :=
 ⟨h.1.kept a,Qj h.2.1 a,Qc h.2.2.1 a,h.2.2.2.1.kept a,Nt h.2.2.2.2 a.size⟩
theorem PlM.slice {d:Option Addr} {e:Nat} {R:List Nat} (h:PlM w c d n e g j M R v) (k:0<R.length):∃ b a,v=.slice (some ⟨b,0,none⟩) R.length a∧w.heap.size+1+1≤b∧∀ i (hi:i<R.length),c.cell? ⟨b,i,none⟩=some (I ((R[i]:Nat):Int)):=by
 rcases h.2.1.2 with ⟨_,h0⟩ | ⟨b,a,f,hv,h2,h3⟩
 ·omega
 ·refine ⟨b,a,hv,h2,fun i hi=>?_⟩;subst hv;have:=h.2.1.cellAt i γ;(try simp only [I]);rw [this,rowN_at R i hi]
theorem PlM.more {y i:World} {r:Option Addr} {s t x:Nat} {R:List Nat} {v':Value} {m:M6} (h:PlM w c r n s t x M R v) (z:j<n)
  (g:Below (set6 c (w.heap.size+1) j m).heap.size (set6 c (w.heap.size+1) j m) y) (hg:y.grownBy i v.ownBlock) (f:i.ownsRow (w.heap.size+1+1) 3 1 v' (R.length+1) (rowN R ++ [I (j:Int)])) :
  PlM w i r n s t x (fun q=>if q=j then m else M q) (R ++ [j]) v':=by
 obtain ⟨h1,h2,h3,⟨B,C,D⟩,h5⟩:=h;have a:∀ k,v.ownBlock=some k→w.heap.size+1+1≤k:=fun k d=>(h2.lt k d).1
 have p:some (w.heap.size+1)≠v.ownBlock:=fun e=>by
  have:=a _ e.symm;omega
 have l:some w.heap.size≠v.ownBlock:=fun e=>by
  have:=a _ e.symm;omega
 have b:=set6_grown c (w.heap.size+1) j m;have z1:=((h1.set6 z m).kept g).grown hg p
 have q:∀ {o:Nat} {u:Value},At c w.heap.size o u→At i w.heap.size o u:=fun {o u} A =>
  hg.cell (Qa g (b.cell A ξ)) l
 have k1:Bl w (set6 c (w.heap.size+1) j m):=h3.grown b (Nt h3.size (Nr _)) (fun k d=>by simp at d;omega);have E:=b.size;have F:=g.size;have G:=hg.size;refine ⟨z1, ?_, ?_,⟨q B,q C,q D⟩,γ⟩
 ·rw [List.length_append,List.length_singleton];have:rowN (R ++ [j])=rowN R ++ [I (j:Int)]:=by simp [rowN]
  rw [this];exact f
 ·have k2:=k1.trans (g.mono k1.size)
  exact k2.grown hg k2.size (fun k d=>by
   have:=a k d;omega)
def M1 (w:World) (g:Nat) (a b c d e f:Int):Prop:=At w g 0 (I a)∧At w g 1 (I b)∧At w g 2 (I c)∧At w g 3 (I d)∧At w g 4 (I e)∧At w g 5 (I f)
theorem fresh6_a {v:World} (hg:v.heap.size=g) (b:Below ((v.alloc (.cells #[I 0,I 0,I 0,I 0,I 0,I 0] 114))).heap.size ((v.alloc (.cells #[I 0,I 0,I 0,I 0,I 0,I 0] 114))) a):M1 a g 0 0 0 0 0 0∧(Fn a g 0∧Fn a g 1∧Fn a g 2∧Fn a g 3∧Fn a g 4∧Fn a g 5)∧g<a.heap.size:=by
 subst hg;have c0:At a v.heap.size 0 (I 0):=Qa b δ;refine ⟨⟨c0,Qa b δ,Qa b δ,Qa b δ,Qa b δ,Qa b δ⟩,⟨?_, ?_, ?_, ?_, ?_, ?_⟩,bk c0⟩
 all_goals exact (b.frozen ξ).trans δ
theorem fresh6_d {v:World} (hg:v.heap.size=g) (b:Below ((v.alloc (.cells #[I 0,I 0,I 0,I 0,I 0,I 0] 114)).drew).heap.size ((v.alloc (.cells #[I 0,I 0,I 0,I 0,I 0,I 0] 114)).drew) a):M1 a g 0 0 0 0 0 0∧(Fn a g 0∧Fn a g 1∧Fn a g 2∧Fn a g 3∧Fn a g 4∧Fn a g 5)∧g<a.heap.size:=by
 subst hg;have c0:At a v.heap.size 0 (I 0):=Qa b δ;refine ⟨⟨c0,Qa b δ,Qa b δ,Qa b δ,Qa b δ,Qa b δ⟩,⟨?_, ?_, ?_, ?_, ?_, ?_⟩,bk c0⟩
 all_goals exact (b.frozen ξ).trans δ
theorem fresh6_dd {v:World} (hg:v.heap.size=g) (b:Below ((v.alloc (.cells #[I 0,I 0,I 0,I 0,I 0,I 0] 114)).drew.drew).heap.size ((v.alloc (.cells #[I 0,I 0,I 0,I 0,I 0,I 0] 114)).drew.drew) a):M1 a g 0 0 0 0 0 0∧(Fn a g 0∧Fn a g 1∧Fn a g 2∧Fn a g 3∧Fn a g 4∧Fn a g 5)∧g<a.heap.size:=by
 subst hg;have c0:At a v.heap.size 0 (I 0):=Qa b δ;refine ⟨⟨c0,Qa b δ,Qa b δ,Qa b δ,Qa b δ,Qa b δ⟩,⟨?_, ?_, ?_, ?_, ?_, ?_⟩,bk c0⟩
 all_goals exact (b.frozen ξ).trans δ
theorem parts_faces (w:World) (cc ra rk:Nat) (ad:Option Addr) (L:List (Int×Int×Int)) (pb:Nat) (cr:Int×Int×Int×Int→Bool) (hs:Steps w) (hPA:PA w ad ra L) (hL:L.length≤300) (hnd:L.Nodup) (hbd:∀ t∈L,(0≤t.1∧t.1≤8)∧(0≤t.2.1∧t.2.1≤8)∧(0≤t.2.2∧t.2.2≤3))
  (hCL:∀ (nr q0 q1 q2 q3 qt:Int) (W':World),Below w.heap.size w W'→Calls Tryz.prog 47 #[.int .i64 nr,.agg #[.int .i64 q0,.int .i64 q1,.int .i64 q2,.int .i64 q3,.int .i64 qt],.pointer (some ⟨pb,0,none⟩)] W' fun e w'=>e=.returned (.bool (cr (q0,q1,q2,q3)))∧Below W'.heap.size W' w') :
  Calls Tryz.prog 46 #[.agg #[.slice ad L.length cc,.map (some ra),.map (some rk)],.func (.func 47) #[] #[.pointer (some ⟨pb,0,none⟩)]] w fun e w'=>∃ g part,e=.returned (.slice (some ⟨g,0,none⟩) L.length L.length)∧ZRow w' g L.length part∧PartsOk cr L part∧w.heap.size≤g∧Below w.heap.size w w':=by
 have hbE:Below w.heap.size w ((w.alloc (.cells #[.slice ad L.length cc,.map (some ra),.map (some rk)] 59)).alloc (.cells #[.int .i64 (-1)] 3)):=Qb (Qb (Qe _))
 have CSP:Hid (∀ (g f:Nat) (part:Nat→Int) (num:Int) (wx:World),Below ((w.alloc (.cells #[.slice ad L.length cc,.map (some ra),.map (some rk)] 59)).alloc (.cells #[.int .i64 (-1)] 3)).heap.size ((w.alloc (.cells #[.slice ad L.length cc,.map (some ra),.map (some rk)] 59)).alloc (.cells #[.int .i64 (-1)] 3)) wx→((w.alloc (.cells #[.slice ad L.length cc,.map (some ra),.map (some rk)] 59)).alloc (.cells #[.int .i64 (-1)] 3)).heap.size≤g→ZRow wx g L.length part→f<L.length→part f<0→(0≤num∧num≤1000)→Calls Tryz.prog 95 #[.agg #[.slice ad L.length cc,.map (some ra),.map (some rk)],.slice (some ⟨g,0,none⟩) L.length L.length,.int .i64 (f:Int),.int .i64 num,.func (.func 47) #[] #[.pointer (some ⟨pb,0,none⟩)]] wx fun e w'=>e=.returned (.tuple #[])∧∃ R,Sp cr L part f R∧ZRow w' g L.length (lab part num R)∧(∀ i∈R,∀ h:i<L.length,DoneT cr L part R L[i] 3)∧Below ((w.alloc (.cells #[.slice ad L.length cc,.map (some ra),.map (some rk)] 59)).alloc (.cells #[.int .i64 (-1)] 3)).heap.size ((w.alloc (.cells #[.slice ad L.length cc,.map (some ra),.map (some rk)] 59)).alloc (.cells #[.int .i64 (-1)] 3)) w'):=fun g f part num wx h1 h2 h3 h4 h5 h6 =>
  spread_faces ((w.alloc (.cells #[.slice ad L.length cc,.map (some ra),.map (some rk)] 59)).alloc (.cells #[.int .i64 (-1)] 3)) wx g cc ra rk f ad L part num pb cr (hs.kept hbE) (hPA.kept hbE) h1 h2 h3 h4 h5 h6 hL hnd hbd (fun nr q0 q1 q2 q3 qt W' hW'=>hCL nr q0 q1 q2 q3 qt W' (Qc hbE hW'))
 have HPB:Hid (∀ t∈L,Kd t):=fun t ht=>(hbd t ht).2.2
 have HND:Hid (L.Nodup):=hnd
 clear hs hPA hbE hnd hbd hCL
 go_enter Tryz.func46,Tryz.ntmps46
 go_wp2_with (go_at_call 86;refine (repeat_any (-1) (w.heap.size+1) L.length _ (by omega) (by simp [go_sem])).mono ?_;rintro e w1 ⟨rfl,hrow,hb⟩;have HW1:Hid (ZRow w1 ((w.alloc (.cells #[.slice ad L.length cc,.map (some ra),.map (some rk)] 59)).alloc (.cells #[.int .i64 (-1)] 3)).heap.size L.length (fun _=>-1)∧Below ((w.alloc (.cells #[.slice ad L.length cc,.map (some ra),.map (some rk)] 59)).alloc (.cells #[.int .i64 (-1)] 3)).heap.size ((w.alloc (.cells #[.slice ad L.length cc,.map (some ra),.map (some rk)] 59)).alloc (.cells #[.int .i64 (-1)] 3)) w1):=⟨rp_zrow hrow,hb⟩;have p0:w1.cell? ⟨w.heap.size,0,none⟩=some (.slice ad L.length cc):=Qa hb (by simp [go_sem]);clear hrow hb)
 obtain ⟨WE,hWE⟩:∃ W,W=((w.alloc (.cells #[.slice ad L.length cc,.map (some ra),.map (some rk)] 59)).alloc (.cells #[.int .i64 (-1)] 3)):=⟨_,rfl⟩
 have q0:WE.cell? ⟨w.heap.size,0,none⟩=some (.slice ad L.length cc):=by (try simp only [At,I,Fn,Az,Ad]);rw [hWE];simp [go_sem]
 have q1:WE.cell? ⟨w.heap.size,1,none⟩=some (.map (some ra)):=by (try simp only [At,I,Fn,Az,Ad]);rw [hWE];simp [go_sem]
 have q2:WE.cell? ⟨w.heap.size,2,none⟩=some (.map (some rk)):=by (try simp only [At,I,Fn,Az,Ad]);rw [hWE];simp [go_sem]
 have hz:WE.heap.size=w.heap.size+2:=by (try simp only [At,I,Fn,Az,Ad]);rw [hWE];simp
 have HBW:Hid (Below w.heap.size w WE):=by (try simp only [At,I,Fn,Az,Ad]);rw [hWE];exact Qb (Qb (Qe _))
 (try simp only [At,I,Fn,Az,Ad] at CSP HW1);rw [← hWE] at CSP HW1
 have HQ:Hid (WE.cell? ⟨w.heap.size,0,none⟩=some (.slice ad L.length cc)∧WE.cell? ⟨w.heap.size,1,none⟩=some (.map (some ra))∧WE.cell? ⟨w.heap.size,2,none⟩=some (.map (some rk))):=⟨q0,q1,q2⟩
 obtain ⟨g,hg⟩:∃ g,g=w.heap.size+1+1:=⟨_,rfl⟩
 (try simp only [At,I,Fn,Az,Ad] at HW1);rw [show WE.heap.size=g by omega] at HW1
 have HG:Hid (g=w.heap.size+1+1∧WE.heap.size=g):=⟨hg,by omega⟩
 (try simp only [At,I,Fn,Az,Ad]);rw [← hg]
 clear hWE q0 q1 q2 hg hz
 go_wp2
 go_loopg [6,16] L.length (fun gk s6 s16 wx=>∃ (i:Nat) (c:Nat) (part:Nat→Int),i≤L.length∧gk=L.length - i∧s16=.int .i64 (i:Int)∧s6=.int .i64 (c:Int)∧c≤i∧PInv cr L part i c∧ZRow wx g L.length part∧Below WE.heap.size WE wx)
 case atStart=>exact ⟨0,0,_,by omega,rfl,rfl,rfl,by omega,pinv_start _ _,HW1.out.1,by (try simp only [At,I,Fn,Az,Ad]);rw [HG.out.2];exact HW1.out.2⟩
 case round =>
  clear HW1 p0
  obtain ⟨i,c,part,hi,rfl,rfl,rfl,hci,hI,hZ,hB⟩:=hrel
  have HI:Hid (PInv cr L part i c∧ZRow wr g L.length part∧Below WE.heap.size WE wr):=⟨hI,hZ,hB⟩
  clear hI hZ hB
  have p0:wr.cell? ⟨w.heap.size,0,none⟩=some (.slice ad L.length cc):=Qa HI.out.2.2 HQ.out.1
  have p1:wr.cell? ⟨w.heap.size,1,none⟩=some (.map (some ra)):=Qa HI.out.2.2 HQ.out.2.1
  have p2:wr.cell? ⟨w.heap.size,2,none⟩=some (.map (some rk)):=Qa HI.out.2.2 HQ.out.2.2
  by_cases h1:i<L.length
  ·have i1:(i:Int)<(L.length:Int):=by omega
   have i0:(0:Int)≤(i:Int):=by omega
   obtain ⟨zc,_⟩:=HI.out.2.1 i h1
   obtain ⟨lv,hlv⟩:∃ lv,lv=part i:=⟨_,rfl⟩
   (try simp only [At,I] at zc);rw [← hlv] at zc
   have HLV:Hid (lv=part i):=hlv
   clear hlv
   by_cases hneg:lv<0
   ·go_wp2_with (go_at_call 95;refine (CSP.out g i part (c:Int) _ HI.out.2.2 (by (try simp only [At,I,Fn,Az,Ad]);rw [HG.out.2];exact Nat.le_refl _) HI.out.2.1 h1 (by (try simp only [At,I,Fn,Az,Ad]);rw [← HLV.out];exact hneg) (by omega)).mono ?_;rintro e w2 ⟨rfl,R,hSp,hZ2,hD,hb2⟩;have HN:Hid (PInv cr L (lab part (c:Int) R) (i+1) (c+1)∧ZRow w2 g L.length (lab part (c:Int) R)∧Below WE.heap.size WE w2):=⟨HI.out.1.next HPB.out HND.out h1 (by (try simp only [At,I,Fn,Az,Ad]);rw [← HLV.out];exact hneg) hSp hD,hZ2,hb2⟩;clear hSp hZ2 hD hb2)
    go_roundg (L.length - (i+1))
    case measure=>omega
    case rel=>exact ⟨i+1,c+1,_,by omega,rfl,by go_num,by go_num,by omega,HN.out⟩
   ·go_wp2
    go_roundg (L.length - (i+1))
    case measure=>omega
    case rel=>exact ⟨i+1,c,part,by omega,rfl,by go_num,rfl,by omega,HI.out.1.skip (by (try simp only [At,I,Fn,Az,Ad]);rw [← HLV.out];omega),HI.out.2⟩
  ·have i1:¬ (i:Int)<(L.length:Int):=by omega
   obtain rfl:i=L.length:=by omega
   go_wp2
   go_ret
   exact ⟨g,rfl,part,HI.out.2.1,HI.out.1.done,by have:=HG.out.1;omega,Qc HBW.out HI.out.2.2⟩
theorem spread_c (X w:World) (g Z V rk f:Nat) (T:Option Addr) (L:List T3) (a:Nat→Int) (d:Int) (pb:Nat) (U:E4→Bool) (hs:Steps X) (b8:PA X T V L) (hB:Bl X w) (ba:X.heap.size≤g) (hZ:ZRow w g L.length a) (hf:f<L.length) (hp:a f<0) (bj:0≤d∧d≤1000) (hL:L.length≤300) (bi:L.Nodup) (b9:∀ t∈L,(0≤t.1∧t.1≤8)∧(0≤t.2.1∧t.2.1≤8)∧(0≤t.2.2∧t.2.2≤3))
  (b7:∀ (i j:Nat) (hi:i<L.length) (hj:j<L.length) (F G H K:Int) (c:World),j≠i→hasT L[i] (F,G,H,K)=true→hasT L[j] (F,G,H,K)=true→Bl X c→Rt 69 #[I (i:Int),.agg #[I F,I G,I H,I K,I (j:Int)],.pointer (Az pb)] c (.bool (U (F,G,H,K)))) :
  Cl 95 #[.agg #[.slice T L.length Z,.map (some V),.map (some rk)],.slice (Az g) L.length L.length,I (f:Int),I d,.func (.func 69) #[] #[.pointer (Az pb)]] w fun e w'=>e=.returned (.tuple #[])∧∃ R,Sp U L a f R∧ZRow w' g L.length (lab a d R)∧(∀ i∈R,∀ h:i<L.length,DoneT U L a R L[i] 3)∧Bl X w':=by
 have au:=Hd b7;have bo:Hid (∀ (c:World) (i:Nat) (hi:i<L.length),Bl X c→Cl 102 #[.agg #[.slice T L.length Z,.map (some V),.map (some rk)],I (i:Int)] c fun e w'=>∃ v,e=.returned v∧w'.ownsRow (c.heap.size+1) 105 5 v (jl L L[i] i 3).length (flatJ (jl L L[i] i 3))∧Bl c w'):=fun c i hi s=>Uv c Z V rk i T L L[i].1 L[i].2.1 L[i].2.2 (hs.kept s) (b8.kept s) hi rfl hL (b9 _ (Lm hi));have bq:=Hd bi;obtain ⟨z0,zf⟩:=hZ f hf;have bv:=Bt z0;have HZ:=H2 hZ hB
 have az:Hid (Sp U L a f [f]):=⟨ξ,ξ,fun i hi=>by
  simp at hi;subst hi;exact ⟨hf,hp,hf,.here (Lm hf)⟩⟩
 obtain ⟨i3,bb,ai,aj,ak⟩:=info_parts inf3;have HI:=H4 bb ai aj ak;obtain ⟨n0,n1⟩:=bj;have d6:(f:Int)<(L.length:Int):=γ;have cz:(0:Int)≤(f:Int):=γ;clear hs b8 b9 bi hZ hB bb ai aj ak hp b7;go_enter Tryz.func95,Tryz.ntmps95;go_wp2;go_loopg [10,11] L.length (fun gk ap cg wx=>∃ (n:Nat) (R:List Nat),n≤R.length∧L.length - n≤gk∧cg=I (n:Int)∧Sp U L a f R∧(∀ m (hm:m<R.length),m<n→∀ h:R[m]<L.length,DoneT U L a R L[R[m]] 3)∧SpM X wx w g T Z V rk L a d R ap)
 case atStart =>
  refine ⟨0,[f],ξ,γ,rfl,az.out,fun m _ h=>by omega, ?_⟩;refine ⟨?_, ?_, ?_,⟨?_, ?_, ?_⟩, ?_⟩
  ·have hz:=(HZ.out.1.set d hf).kept (Qb (o:=.cells #[I (f:Int)] 3) (Qb (o:=.cells #[.slice T L.length Z,.map (some V),.map (some rk)] 59) (Qe _)))
   have e:lab a d [f]=fun j=>if j=f then d else a j:=by
    funext j
    simp [lab]
   rw [e];exact hz
  ·have:=owns_one ((w.setCell ⟨g,f,none⟩ (I d)).alloc (.cells #[.slice T L.length Z,.map (some V),.map (some rk)] 59)) (w.heap.size+1) (I (f:Int)) ξ;simpa [rowN] using this
  ·have bt:Bl X (w.setCell ⟨g,f,none⟩ (I d)):=HZ.out.2.setCell (p:=⟨g,f,none⟩) ba _;exact Qb (Qb bt)
  ·simp [go_sem]
  ·simp [go_sem]
  ·simp [go_sem]
  ·simp
 case round =>
  clear az HZ z0 zf;obtain ⟨n,R,hn,cv,rfl,B,hD,hM⟩:=hrel;obtain ⟨vA,cd⟩:∃ u,u=u10:=⟨_,rfl⟩;subst cd;have bs:0<R.length:=List.length_pos_of_mem B.1;obtain ⟨rb,rc,rfl,cb,ao⟩:=hM.slice bs;have cu:=B.len;have aa:Hid (Sp U L a f R∧∀ m (hm:m<R.length),m<n→∀ h:R[m]<L.length,DoneT U L a R L[R[m]] 3):=⟨B,hD⟩;have N:=Hd hM;obtain ⟨p0,p1,p2⟩:=hM.2.2.2.1;have zp:=Bt p0;by_cases h1:n<R.length
  ·have ae:=ao n h1;have zr:=Bt ae;have am:R[n]∈R:=Lm h1;obtain ⟨hi,_⟩:=B.2.2 R[n] am;obtain ⟨i,ac⟩:∃ i,i=R[n]:=⟨_,rfl⟩;rw [← ac] at ae hi;have av:=Hd ac;have aw:Hid (i∈R):=by rw [ac];exact am
   clear B hD hM ao ac am;have i1:(n:Int)<(R.length:Int):=γ;have i0:(0:Int)≤(n:Int):=γ;obtain ⟨J,hJ⟩:∃ J,J=jl L L[i] i 3:=⟨_,rfl⟩
   have ct:J.length≤900:=by
    have:=jl_len L L[i] i 3;rw [hJ];omega
   have CJ:Hid (∀ c:World,Bl wr c→Cl 102 #[.agg #[.slice T L.length Z,.map (some V),.map (some rk)],I (i:Int)] c fun e w'=>∃ v,e=.returned v∧w'.ownsRow (c.heap.size+1) 105 5 v J.length (flatJ J)∧Bl c w'):=fun c s=>by
    rw [hJ];exact bo.out c i hi (Qc N.out.2.2.1 s)
   have HJ:=Hd hJ;clear hJ;go_wp2;go_cut [31,32,33] (fun ch ci aq wx=>∃ ja jc,ch=.slice ja J.length jc∧ci=I (J.length:Int)∧aq=I 0∧JW wx (w.heap.size+1) ja J∧Bl wr wx)
   case first =>
    go_region_held3 (fun w'=>At w' w.heap.size 0 (.slice T L.length Z)∧At w' w.heap.size 1 (.map (some V))∧At w' w.heap.size 2 (.map (some rk))∧At w' rb n (I (i:Int)))
     ((refine ⟨?_, ?_, ?_, ?_⟩ <;> (first | (with_reducible (repeat (first | assumption | refine Qk ?_ | refine Qq ?_));done) | (simp [go_sem];done))))
     ((go_at_call 102;refine (CJ.out _ φ).mono ?_;rintro e w8 ⟨v8,rfl,z,hb⟩;obtain ⟨ja,jc,rfl,E⟩:=own_jw z;have Q:Bl wr w8:=Qc φ hb;have HQ:Hid (JW w8 wr.heap.size ja J∧Bl wr w8):=⟨E.mono ξ,Q⟩;have cl:=Qa Q p0;have cm:=Qa Q p1;have cn:=Qa Q p2;have co:=Qa Q ae;clear z E hb Q))
    all_goals
     go_wp2;go_meet
     case rel=>exact ⟨_,_,rfl,rfl,rfl,(HQ.out.1.mono γ).kept φ,by with_reducible repeat (first | exact HQ.out.2 | refine Qg ?_)⟩
   case rest =>
    obtain ⟨ja,jc,rfl,rfl,rfl,E,b6⟩:=hcut;have ax:=Hd E;have b5:Hid (Bl wc wc):=Qe _;have a8:=Hd (N.out.kept b6);obtain ⟨WC,ab⟩:∃ W,W=wc:=⟨_,rfl⟩;rw [← ab] at ax a8 b5;clear E b6 p0 p1 p2 zp cb zr ae CJ N;have af:Hid (Bl WC wc∧w.heap.size+1≤WC.heap.size):=⟨by rw [ab];exact Qe _,a8.out.2.2.2.2⟩;have ay:Hid (SpM X wc w g T Z V rk L a d R (.slice (Az rb) R.length rc)):=by rw [← ab];exact a8.out
    clear b5 a8 ab;go_wp2;go_loopg [10,33] J.length (fun gk ap aq wx=>∃ (m:Nat) (Y:List Nat),m≤J.length∧gk=J.length - m∧aq=I (m:Int)∧Sp U L a f (R ++ Y)∧(∀ M (h:M<J.length),M<m→∀ j:Nat,J[M].2=(j:Int)→U J[M].1=true→j∈R ++ Y∨0≤a j)∧SpM X wx w g T Z V rk L a d (R ++ Y) ap∧JW wx (w.heap.size+1) ja J)
    case atStart=>exact ⟨0,[],γ,rfl,rfl,by simpa using aa.out.1,fun M _ h=>by omega,by simpa using ay.out,ax.out.kept af.out.1⟩
    case round =>
     clear ay af;obtain ⟨m,Y,hm,rfl,rfl,B,hE,hM,E⟩:=hrel;obtain ⟨vC,ce⟩:∃ u,u=u10:=⟨_,rfl⟩;subst ce;have A:=H2 B hE;have N:=Hd hM;have HR:=Hd E;clear B hE hM E;by_cases hm1:m<J.length
     ·have im:(m:Int)<(J.length:Int):=γ;have d8:(0:Int)≤(m:Int):=γ;obtain ⟨jb,rfl,c0,c1,c2,c3,c4⟩:=HR.out.1 m hm1;have dd:=Bt c0;obtain ⟨q,hq⟩:∃ q,q=J[m]:=⟨_,rfl⟩;obtain ⟨⟨F,G,H,K⟩,qj⟩:=q;rw [← hq] at c0 c1 c2 c3 c4;dsimp only at c0 c1 c2 c3 c4;have HQ:=Hd hq;have ah:((F,G,H,K),qj)∈jl L L[i] i 3:=by rw [← HJ.out,hq];exact Lm hm1
      obtain ⟨k,hk,bg,j,hj,rfl,be,bf⟩:=Yz.1 ah;have O:=H2 bg bf;obtain ⟨lc,lf⟩:=N.out.1 j hj;have zg:=Bt lc;have db:g<wr.heap.size+1:=γ;have ij:(j:Int)<(L.length:Int):=γ;have d7:(0:Int)≤(j:Int):=γ;clear ah bg bf hq;by_cases hlt:lab a d (R ++ Y) j<0
      ·have bc:j ∉ R ++ Y:=fun hh=>by
        simp only [lab,if_pos hh] at hlt;omega
       obtain ⟨sb,sc,rfl,cy,bm⟩:=N.out.slice (by rw [List.length_append];omega);have bz:n<(R ++ Y).length:=by rw [List.length_append];omega
       have sn:=bm n bz;rw [show (R ++ Y)[n]=i by rw [List.getElem_append_left h1];exact av.out.symm] at sn;have df:=Bt sn;have d9:(n:Int)<((R ++ Y).length:Int):=γ;clear bm;have ca:a j<0:=by simpa [lab,bc] using hlt
       obtain ⟨lv,P⟩:∃ lv,lv=lab a d (R ++ Y) j:=⟨_,rfl⟩;rw [← P] at lc hlt;have cp:=Hd P;clear P
       cases hcr:U (F,G,H,K)
       ·have CC:Hid (∀ c:World,Bl wr c→Rt 69 #[I (i:Int),.agg #[I F,I G,I H,I K,I (j:Int)],.pointer (Az pb)] c (.bool false)):=fun c s=>hcr ▸ au.out i j χ hj F G H K c be (by rw [O.out.1];exact Jc _ _) O.out.2 (Qc N.out.2.2.1 s);go_wp2;refine Qi (fun r hW1=>?_);have b:Bl wr r:=by rw [hW1];exact Qb (Qe _)
        have d0:At r wr.heap.size 0 (I F):=γ2;have d1:At r wr.heap.size 1 (I G):=γ2;have d2:At r wr.heap.size 2 (I H):=γ2;have d3:At r wr.heap.size 3 (I K):=γ2;have d4:At r wr.heap.size 4 (I (j:Int)):=γ2;have a7:=Qa b lc;have zn:=Bt d0;have bn:=Bt a7;have ar:=Qa b sn;have cj:=Bt ar;have D:=H2 (N.out.kept b) (HR.out.kept b);have bk:decide (lv<0)=true:=decide_eq_true hlt;have C1:Hid (∀ c:World,Bl r c→Rt 69 #[I (i:Int),.agg #[I F,I G,I H,I K,I (j:Int)],.pointer (Az pb)] c (.bool false)):=fun c s=>CC.out c (Qc b s);clear hW1 b c0 c1 c2 c3 c4 lc lf sn;obtain ⟨kc,kn⟩:=kcn r;refine wk ?_;repeat (go_big_quiet_step ((go_at_call 69;exact Qf (C1.out _ (Kin.h _)))))
        refine kq1 (fun w5 hq=>?_);clear kc kn;have l:=H2 (D.out.1.kept hq) (D.out.2.kept hq);go_wp2;go_roundg (J.length - (m+1))
        case measure=>omega
        case rel =>
         refine ⟨m+1,Y,γ,rfl,σ,A.out.1,fun M h' a2 j' y x=>?_,l.out.1,l.out.2⟩;by_cases em:M=m
         ·subst em;rw [← HQ.out] at x;simp only at x;rw [hcr] at x;exact absurd x ξ
         ·exact A.out.2 M h' γ j' y x
       ·have CC:Hid (∀ c:World,Bl wr c→Rt 69 #[I (i:Int),.agg #[I F,I G,I H,I K,I (j:Int)],.pointer (Az pb)] c (.bool true)):=fun c s=>hcr ▸ au.out i j χ hj F G H K c be (by rw [O.out.1];exact Jc _ _) O.out.2 (Qc N.out.2.2.1 s)
        have HF:Hid (Sp U L a f (R ++ (Y ++ [j]))):=by
         have:=A.out.1.found bq.out (i:=i) (j:=j) (List.mem_append_left _ aw.out) hj bc ca (e:=(F,G,H,K)) hcr (fun cw=>by
          rw [O.out.1];exact Jc _ _) O.out.2
         rwa [List.append_assoc] at this
        have ag:(R ++ Y).length+1≤1000:=by
         have:=A.out.1.len;omega
        go_wp2;refine Qi (fun r hW1=>?_);have b:Bl wr r:=by rw [hW1];exact Qb (Qe _)
        have d0:At r wr.heap.size 0 (I F):=γ2;have d1:At r wr.heap.size 1 (I G):=γ2;have d2:At r wr.heap.size 2 (I H):=γ2;have d3:At r wr.heap.size 3 (I K):=γ2;have d4:At r wr.heap.size 4 (I (j:Int)):=γ2;have a7:=Qa b lc;have zn:=Bt d0;have bn:=Bt a7;have ar:=Qa b sn;have cj:=Bt ar;have D:=H2 (N.out.kept b) (HR.out.kept b);have bk:decide (lv<0)=true:=decide_eq_true hlt;have C1:Hid (∀ c:World,Bl r c→Rt 69 #[I (i:Int),.agg #[I F,I G,I H,I K,I (j:Int)],.pointer (Az pb)] c (.bool true)):=fun c s=>CC.out c (Qc b s);clear hW1 b c0 c1 c2 c3 c4 lc lf sn;obtain ⟨kc,kn⟩:=kcn r;refine wk ?_;repeat (go_big_quiet_step ((go_at_call 69;exact Qf (C1.out _ (Kin.h _)))))
        refine kq1 (fun w5 hq=>?_);clear kc kn;have l:=H2 (D.out.1.kept hq) (D.out.2.kept hq);have d5:=Qa hq d4;have de:=Bt d5;obtain ⟨cf,da⟩:=l.out.1.1 j hj;have dc:=Bt cf;clear hq;go_wp2_with (at_builtin;refine wpList_append_own _ rfl (.tmp 57) (.tmp 60) 22 rfl (w.heap.size+1) 3 i3 (I 0) 1 8 Tryz.underlying22 HI.out.1 HI.out.2.1 HI.out.2.2.1 HI.out.2.2.2 rfl ψ (.slice (Az sb) (R ++ Y).length sc) (R ++ Y).length (rowN (R ++ Y)) rfl ?own ⟨w5.heap.size,0,none⟩ 1 1 [I (j:Int)] rfl rfl ?c1 ?c2 ?b1 ?b2 ?b3 ?grow)
        case own =>
         try rw [← List.length_append]
         exact (l.out.1.2.1.kept (Ql _ g j _) (by
          cases hu:(Value.slice (Az sb) (R ++ Y).length sc).ownBlock with
          | none=>exact Or.inl rfl
          | some q =>
           refine Or.inr (fun e1=>?_);have:=(l.out.1.2.1.lt q hu).1;simp at e1;omega)).alloc _
        case c1=>exact Yd _ δ
        case c2=>exact Xx _
        case b1 =>
         unfold maxLen;first | omega | (rw [List.length_append] at ag;omega)
        case b2=>first | omega | (rw [List.length_append] at ag;omega)
        case b3 =>
         have:=l.out.1.2.2.2.2;simp;omega
        case grow =>
         intro v' w3 z C _;rw [← List.length_append] at z;try rw [← List.length_append] at C
         have bp:Hid (SpM X w3 w g T Z V rk L a d (R ++ (Y ++ [j])) v'):=by
          have:=l.out.1.more bv ba hj β1 C z;rwa [List.append_assoc] at this
         have br:Hid (JW w3 (w.heap.size+1) (Az jb) J):=by
          have h0:=l.out.2.grown (Ql w5 g j (I d)) (fun g' bu e1=>by
           have h2:=(l.out.2.2 g' e1).1;simp at bu;omega)
          have h1:JW w3 (w.heap.size+1) (Az jb) J:=(h0.kept β1).grown C (l.out.2.not_row l.out.1.2.1);exact h1
         clear z C;go_wp2;go_roundg (J.length - (m+1))
         case measure=>omega
         case rel =>
          have a6:∀ q∈R ++ Y,q∈R ++ (Y ++ [j]):=fun q hq=>by
           rw [← List.append_assoc];exact List.mem_append_left _ hq
          refine ⟨m+1,Y ++ [j],γ,rfl,σ,HF.out,fun M h' a2 j' y x=>?_,bp.out,br.out⟩;by_cases em:M=m
          ·subst em;rw [← HQ.out] at y;simp only at y;have:j'=j:=γ;subst this;exact Or.inl ξ
          ·exact (A.out.2 M h' γ j' y x).imp (a6 j') id
      ·have an:Hid (j∈R ++ Y∨0≤a j):=by
        by_cases hh:j∈R ++ Y
        ·exact Or.inl hh
        ·exact Or.inr (by simp only [lab,if_neg hh] at hlt;omega)
       obtain ⟨lv,P⟩:∃ lv,lv=lab a d (R ++ Y) j:=⟨_,rfl⟩;rw [← P] at lc hlt;clear P;go_wp2;refine Qi (fun r hW1=>?_);have b:Bl wr r:=by rw [hW1];exact Qb (Qe _)
       have d0:At r wr.heap.size 0 (I F):=γ2;have d1:At r wr.heap.size 1 (I G):=γ2;have d2:At r wr.heap.size 2 (I H):=γ2;have d3:At r wr.heap.size 3 (I K):=γ2;have d4:At r wr.heap.size 4 (I (j:Int)):=γ2;have a7:=Qa b lc;have zn:=Bt d0;have bn:=Bt a7;have D:=H2 (N.out.kept b) (HR.out.kept b);have bk:decide (lv<0)=false:=decide_eq_false γ;clear hW1 b c0 c1 c2 c3 c4 lc lf;obtain ⟨kc,kn⟩:=kcn r;refine wk ?_;repeat (go_big_quiet_step (fail))
       refine kq1 (fun w5 hq=>?_);clear kc kn;have l:=H2 (D.out.1.kept hq) (D.out.2.kept hq);go_wp2;go_roundg (J.length - (m+1))
       case measure=>omega
       case rel =>
        refine ⟨m+1,Y,γ,rfl,σ,A.out.1,fun M h' a2 j' y x=>?_,l.out.1,l.out.2⟩;by_cases em:M=m
        ·subst em;rw [← HQ.out] at y;simp only at y;have:j'=j:=γ;subst this;exact an.out
        ·exact A.out.2 M h' γ j' y x
     ·have im:¬ (m:Int)<(J.length:Int):=γ;obtain rfl:m=J.length:=γ;go_wp2;go_roundg (L.length - (n+1))
      case measure=>omega
      case rel =>
       have a6:∀ q∈R,q∈R ++ Y:=fun q hq=>List.mem_append_left _ hq;refine ⟨n+1,R ++ Y,by rw [List.length_append];omega,γ,σ,A.out.1,fun m hm cx bw=>?_,N.out⟩;by_cases em:m=n
       ·subst em;have e1:(R ++ Y)[m]=i:=by rw [List.getElem_append_left h1];exact av.out.symm
        simp only [e1];refine DoneT.joints (i:=i) (List.mem_append_left _ aw.out) (fun M a2 j' y x=>?_);have h8:=A.out.2;rw [HJ.out] at h8;exact h8 M a2 a2 j' y x
       ·have bh:m<R.length:=γ;have e1:(R ++ Y)[m]=R[m]:=List.getElem_append_left bh;have h7:=(aa.out.2 m bh γ (by rw [← e1];exact bw)).mono a6;simp only [e1];exact h7
  ·have i1:¬ (n:Int)<(R.length:Int):=γ;clear hM B hD ao;go_wp2;go_end0
   refine ⟨rfl,R,aa.out.1,N.out.1,fun i hi h=>?_,N.out.2.2.1⟩;obtain ⟨m,hm,he⟩:=List.getElem_of_mem hi;subst he;exact aa.out.2 m hm γ h
theorem parts_c (w:World) (cc ra rk:Nat) (ad:Option Addr) (L:List (Int×Int×Int)) (pb:Nat) (cr:Int×Int×Int×Int→Bool) (hs:Steps w) (hPA:PA w ad ra L) (hL:L.length≤300) (hnd:L.Nodup) (hbd:∀ t∈L,(0≤t.1∧t.1≤8)∧(0≤t.2.1∧t.2.1≤8)∧(0≤t.2.2∧t.2.2≤3))
  (hCL:∀ (i j:Nat) (hi:i<L.length) (hj:j<L.length) (q0 q1 q2 q3:Int) (W':World),j≠i→hasT L[i] (q0,q1,q2,q3)=true→hasT L[j] (q0,q1,q2,q3)=true→Below w.heap.size w W'→Calls Tryz.prog 69 #[.int .i64 (i:Int),.agg #[.int .i64 q0,.int .i64 q1,.int .i64 q2,.int .i64 q3,.int .i64 (j:Int)],.pointer (some ⟨pb,0,none⟩)] W' fun e w'=>e=.returned (.bool (cr (q0,q1,q2,q3)))∧Below W'.heap.size W' w') :
  Calls Tryz.prog 46 #[.agg #[.slice ad L.length cc,.map (some ra),.map (some rk)],.func (.func 69) #[] #[.pointer (some ⟨pb,0,none⟩)]] w fun e w'=>∃ g part,e=.returned (.slice (some ⟨g,0,none⟩) L.length L.length)∧ZRow w' g L.length part∧PartsOk cr L part∧w.heap.size≤g∧Below w.heap.size w w':=by
 have hbE:Below w.heap.size w ((w.alloc (.cells #[.slice ad L.length cc,.map (some ra),.map (some rk)] 59)).alloc (.cells #[.int .i64 (-1)] 3)):=Qb (Qb (Qe _))
 have CSP:Hid (∀ (g f:Nat) (part:Nat→Int) (num:Int) (wx:World),Below ((w.alloc (.cells #[.slice ad L.length cc,.map (some ra),.map (some rk)] 59)).alloc (.cells #[.int .i64 (-1)] 3)).heap.size ((w.alloc (.cells #[.slice ad L.length cc,.map (some ra),.map (some rk)] 59)).alloc (.cells #[.int .i64 (-1)] 3)) wx→((w.alloc (.cells #[.slice ad L.length cc,.map (some ra),.map (some rk)] 59)).alloc (.cells #[.int .i64 (-1)] 3)).heap.size≤g→ZRow wx g L.length part→f<L.length→part f<0→(0≤num∧num≤1000)→Calls Tryz.prog 95 #[.agg #[.slice ad L.length cc,.map (some ra),.map (some rk)],.slice (some ⟨g,0,none⟩) L.length L.length,.int .i64 (f:Int),.int .i64 num,.func (.func 69) #[] #[.pointer (some ⟨pb,0,none⟩)]] wx fun e w'=>e=.returned (.tuple #[])∧∃ R,Sp cr L part f R∧ZRow w' g L.length (lab part num R)∧(∀ i∈R,∀ h:i<L.length,DoneT cr L part R L[i] 3)∧Below ((w.alloc (.cells #[.slice ad L.length cc,.map (some ra),.map (some rk)] 59)).alloc (.cells #[.int .i64 (-1)] 3)).heap.size ((w.alloc (.cells #[.slice ad L.length cc,.map (some ra),.map (some rk)] 59)).alloc (.cells #[.int .i64 (-1)] 3)) w'):=fun g f part num wx h1 h2 h3 h4 h5 h6 =>
  spread_c ((w.alloc (.cells #[.slice ad L.length cc,.map (some ra),.map (some rk)] 59)).alloc (.cells #[.int .i64 (-1)] 3)) wx g cc ra rk f ad L part num pb cr (hs.kept hbE) (hPA.kept hbE) h1 h2 h3 h4 h5 h6 hL hnd hbd (fun i j hi hj q0 q1 q2 q3 W' e1 e2 e3 hW'=>hCL i j hi hj q0 q1 q2 q3 W' e1 e2 e3 (Qc hbE hW'))
 have HPB:Hid (∀ t∈L,Kd t):=fun t ht=>(hbd t ht).2.2
 have HND:Hid (L.Nodup):=hnd
 clear hs hPA hbE hnd hbd hCL
 go_enter Tryz.func46,Tryz.ntmps46
 go_wp2_with (go_at_call 86;refine (repeat_any (-1) (w.heap.size+1) L.length _ (by omega) (by simp [go_sem])).mono ?_;rintro e w1 ⟨rfl,hrow,hb⟩;have HW1:Hid (ZRow w1 ((w.alloc (.cells #[.slice ad L.length cc,.map (some ra),.map (some rk)] 59)).alloc (.cells #[.int .i64 (-1)] 3)).heap.size L.length (fun _=>-1)∧Below ((w.alloc (.cells #[.slice ad L.length cc,.map (some ra),.map (some rk)] 59)).alloc (.cells #[.int .i64 (-1)] 3)).heap.size ((w.alloc (.cells #[.slice ad L.length cc,.map (some ra),.map (some rk)] 59)).alloc (.cells #[.int .i64 (-1)] 3)) w1):=⟨rp_zrow hrow,hb⟩;have p0:w1.cell? ⟨w.heap.size,0,none⟩=some (.slice ad L.length cc):=Qa hb (by simp [go_sem]);clear hrow hb)
 obtain ⟨WE,hWE⟩:∃ W,W=((w.alloc (.cells #[.slice ad L.length cc,.map (some ra),.map (some rk)] 59)).alloc (.cells #[.int .i64 (-1)] 3)):=⟨_,rfl⟩
 have q0:WE.cell? ⟨w.heap.size,0,none⟩=some (.slice ad L.length cc):=by (try simp only [At,I,Fn,Az,Ad]);rw [hWE];simp [go_sem]
 have q1:WE.cell? ⟨w.heap.size,1,none⟩=some (.map (some ra)):=by (try simp only [At,I,Fn,Az,Ad]);rw [hWE];simp [go_sem]
 have q2:WE.cell? ⟨w.heap.size,2,none⟩=some (.map (some rk)):=by (try simp only [At,I,Fn,Az,Ad]);rw [hWE];simp [go_sem]
 have hz:WE.heap.size=w.heap.size+2:=by (try simp only [At,I,Fn,Az,Ad]);rw [hWE];simp
 have HBW:Hid (Below w.heap.size w WE):=by (try simp only [At,I,Fn,Az,Ad]);rw [hWE];exact Qb (Qb (Qe _))
 (try simp only [At,I,Fn,Az,Ad] at CSP HW1);rw [← hWE] at CSP HW1
 have HQ:Hid (WE.cell? ⟨w.heap.size,0,none⟩=some (.slice ad L.length cc)∧WE.cell? ⟨w.heap.size,1,none⟩=some (.map (some ra))∧WE.cell? ⟨w.heap.size,2,none⟩=some (.map (some rk))):=⟨q0,q1,q2⟩
 obtain ⟨g,hg⟩:∃ g,g=w.heap.size+1+1:=⟨_,rfl⟩
 (try simp only [At,I,Fn,Az,Ad] at HW1);rw [show WE.heap.size=g by omega] at HW1
 have HG:Hid (g=w.heap.size+1+1∧WE.heap.size=g):=⟨hg,by omega⟩
 (try simp only [At,I,Fn,Az,Ad]);rw [← hg]
 clear hWE q0 q1 q2 hg hz
 go_wp2
 go_loopg [6,16] L.length (fun gk s6 s16 wx=>∃ (i:Nat) (c:Nat) (part:Nat→Int),i≤L.length∧gk=L.length - i∧s16=.int .i64 (i:Int)∧s6=.int .i64 (c:Int)∧c≤i∧PInv cr L part i c∧ZRow wx g L.length part∧Below WE.heap.size WE wx)
 case atStart=>exact ⟨0,0,_,by omega,rfl,rfl,rfl,by omega,pinv_start _ _,HW1.out.1,by (try simp only [At,I,Fn,Az,Ad]);rw [HG.out.2];exact HW1.out.2⟩
 case round =>
  clear HW1 p0
  obtain ⟨i,c,part,hi,rfl,rfl,rfl,hci,hI,hZ,hB⟩:=hrel
  have HI:Hid (PInv cr L part i c∧ZRow wr g L.length part∧Below WE.heap.size WE wr):=⟨hI,hZ,hB⟩
  clear hI hZ hB
  have p0:wr.cell? ⟨w.heap.size,0,none⟩=some (.slice ad L.length cc):=Qa HI.out.2.2 HQ.out.1
  have p1:wr.cell? ⟨w.heap.size,1,none⟩=some (.map (some ra)):=Qa HI.out.2.2 HQ.out.2.1
  have p2:wr.cell? ⟨w.heap.size,2,none⟩=some (.map (some rk)):=Qa HI.out.2.2 HQ.out.2.2
  by_cases h1:i<L.length
  ·have i1:(i:Int)<(L.length:Int):=by omega
   have i0:(0:Int)≤(i:Int):=by omega
   obtain ⟨zc,_⟩:=HI.out.2.1 i h1
   obtain ⟨lv,hlv⟩:∃ lv,lv=part i:=⟨_,rfl⟩
   (try simp only [At,I] at zc);rw [← hlv] at zc
   have HLV:Hid (lv=part i):=hlv
   clear hlv
   by_cases hneg:lv<0
   ·go_wp2_with (go_at_call 95;refine (CSP.out g i part (c:Int) _ HI.out.2.2 (by (try simp only [At,I,Fn,Az,Ad]);rw [HG.out.2];exact Nat.le_refl _) HI.out.2.1 h1 (by (try simp only [At,I,Fn,Az,Ad]);rw [← HLV.out];exact hneg) (by omega)).mono ?_;rintro e w2 ⟨rfl,R,hSp,hZ2,hD,hb2⟩;have HN:Hid (PInv cr L (lab part (c:Int) R) (i+1) (c+1)∧ZRow w2 g L.length (lab part (c:Int) R)∧Below WE.heap.size WE w2):=⟨HI.out.1.next HPB.out HND.out h1 (by (try simp only [At,I,Fn,Az,Ad]);rw [← HLV.out];exact hneg) hSp hD,hZ2,hb2⟩;clear hSp hZ2 hD hb2)
    go_roundg (L.length - (i+1))
    case measure=>omega
    case rel=>exact ⟨i+1,c+1,_,by omega,rfl,by go_num,by go_num,by omega,HN.out⟩
   ·go_wp2
    go_roundg (L.length - (i+1))
    case measure=>omega
    case rel=>exact ⟨i+1,c,part,by omega,rfl,by go_num,rfl,by omega,HI.out.1.skip (by (try simp only [At,I,Fn,Az,Ad]);rw [← HLV.out];omega),HI.out.2⟩
  ·have i1:¬ (i:Int)<(L.length:Int):=by omega
   obtain rfl:i=L.length:=by omega
   go_wp2
   go_ret
   exact ⟨g,rfl,part,HI.out.2.1,HI.out.1.done,by have:=HG.out.1;omega,Qc HBW.out HI.out.2.2⟩
theorem lineOf_wide (p q r s:Int) (w:World) (h1 : -4000000≤p∧p≤4000000) (h2 : -4000000≤q∧q≤4000000) :
  Rt 121 #[.agg #[I p,I q,I r,I s]] w (.agg #[I (lnW (p,q,r,s)),I (lnC (p,q,r,s))]):=by
 obtain ⟨a1,a⟩:=h1;obtain ⟨b1,b2⟩:=h2;by_cases c1:p=r
 ·subst c1;go_enter Tryz.func121,Tryz.ntmps121;go_wp2;refine bodyPost_ret (v:=.agg #[_,_]) (by simp [results,Tryz.results121,go_sem];exact ⟨rfl,rfl⟩) rfl ⟨?_, ?_⟩
  ·exact Kn (by simp [lnW]) (by simp [lnC])
  ·with_reducible repeat (first | exact Qe _ | refine Qb ?_ | refine Qh ?_ ?_)
   all_goals (simp)
 ·by_cases c2:q=s
  ·subst c2;go_enter Tryz.func121,Tryz.ntmps121;go_wp2;refine bodyPost_ret (v:=.agg #[_,_]) (by simp [results,Tryz.results121,go_sem];exact ⟨rfl,rfl⟩) rfl ⟨?_, ?_⟩
   ·exact Kn (by simp [lnW,c1]) (by simp [lnC,c1])
   ·with_reducible repeat (first | exact Qe _ | refine Qb ?_ | refine Qh ?_ ?_)
    all_goals (simp)
  ·by_cases c3:s<q
   ·go_enter Tryz.func121,Tryz.ntmps121;go_wp2;refine bodyPost_ret (v:=.agg #[_,_]) (by simp [results,Tryz.results121,go_sem];exact ⟨rfl,rfl⟩) rfl ⟨?_, ?_⟩
    ·exact Kn (by simp [lnW,c1,c2,c3]) (by simp [lnC,c1,c2,c3])
    ·with_reducible repeat (first | exact Qe _ | refine Qb ?_ | refine Qh ?_ ?_)
     all_goals (simp)
   ·go_enter Tryz.func121,Tryz.ntmps121;go_wp2;refine bodyPost_ret (v:=.agg #[_,_]) (by simp [results,Tryz.results121,go_sem];exact ⟨rfl,rfl⟩) rfl ⟨?_, ?_⟩
    ·exact Kn (by simp only [lnW,if_neg c1,if_neg c2,if_neg (show ¬ s<q by omega)]) (by simp only [lnC,if_neg c1,if_neg c2,if_neg (show ¬ s<q by omega)])
    ·with_reducible repeat (first | exact Qe _ | refine Qb ?_ | refine Qh ?_ ?_)
     all_goals (simp)
theorem cell_any {a:Addr} (b:Bl w w') (h:w.cell? a=some u):w'.cell? a=some u:=(b.cell (bk h)).trans h
theorem inf_ints:(Tryz.prog.info? 3).map (fun i=>(i.zero,i.size,i.bytes))=some (some (I 0),1,8):=η
theorem clone_ints (w:World) (b off m c:Nat) (d:List Value) (p:d.length=m*1) (g:∀ j u,d[j]?=some u→w.cell? ((⟨b,off,none⟩:Addr).add j)=some u) (h1:∀ u∈d,u.oneCell'=true) (E:m*8≤140737488355328) :
  Cl 99 #[.slice (Ad b off) m c] w fun e w'=>∃ v,e=.returned v∧w'.ownsRow w.heap.size 3 1 v m d∧Bl w w':=by
 obtain ⟨D,i,k,l,n⟩:=info_parts inf_ints;have o:=H4 i k l n;have y:Hid (∀ j u,d[j]?=some u→(w.alloc (.cells #[] 3)).cell? ((⟨b,off,none⟩:Addr).add j)=some u):=fun j u C=>cell_any β1 (g j u C);have z:=Hd h1;have x:=Hd p;have A:(w.alloc (.cells #[] 3)).ownsRow w.heap.size 3 1 (.slice (Az w.heap.size) 0 0) 0 []:=⟨ξ,.inr ⟨w.heap.size,0,#[],rfl,Nr _,heap_alloc_new w _,Nr _,Ξ,ξ,ξ⟩⟩;have B:∀ (a:Option Addr) (q r:Nat) (W:World),(binOp .eql 22 (.slice a q r) SN).run Tryz.prog W=.ok (.bool a.isNone) W:=fun a q r W=>Lib.run_eql_slice_nil W 22 3 a q r 0 0 Tryz.underlying22;clear i k l n g h1 p;go_enter Tryz.func99,Tryz.ntmps99;go_wp2_with (at_builtin;refine wpList_append_own _ rfl (.tmp 5) (.tmp 6) 22 rfl w.heap.size 3 D (I 0) 1 8 Tryz.underlying22 o.out.1 o.out.2.1 o.out.2.2.1 o.out.2.2.2 rfl ψ (.slice (Az w.heap.size) 0 0) 0 [] rfl A ⟨b,off,none⟩ m c d rfl x.out y.out z.out Ξ γ ξ ?grow)
 case grow =>
  intro v' s h f _
  have t:Hid (s.ownsRow w.heap.size 3 1 v' m d∧Bl w s):=by
   refine ⟨by simpa using h, ?_⟩;have k1:Bl w (w.alloc (.cells #[] 3)):=Qb (Qe _);exact k1.grown f k1.size (fun r e=>by simp [Value.ownBlock] at e;omega)
  clear h f;go_wp2;refine bodyPost_ret (v:=v') (by simp [results,Tryz.results99,go_sem]) rfl ⟨v',rfl,t.out⟩
theorem clone_ints_nil (w:World) (c:Nat):Cl 99 #[.slice none 0 c] w fun e w'=>e=.returned SN∧w'=w:=by
 have b:∀ (a:Option Addr) (q r:Nat) (W:World),(binOp .eql 22 (.slice a q r) SN).run Tryz.prog W=.ok (.bool a.isNone) W:=fun a q r W=>Lib.run_eql_slice_nil W 22 3 a q r 0 0 Tryz.underlying22;go_enter Tryz.func99,Tryz.ntmps99;go_wp2;go_ret;exact ⟨rfl,rfl⟩
theorem inf_creases:(Tryz.prog.info? 49).map (fun i=>(i.zero,i.size,i.bytes))=some (some (.agg #[I 0,I 0,I 0,I 0,I 0]),5,40):=η
theorem clone_creases (w:World) (b off m c:Nat) (d:List Value) (p:d.length=m*5) (g:∀ j u,d[j]?=some u→w.cell? ((⟨b,off,none⟩:Addr).add j)=some u) (h1:∀ u∈d,u.oneCell'=true) (E:m*40≤140737488355328) :
  Cl 100 #[.slice (Ad b off) m c] w fun e w'=>∃ v,e=.returned v∧w'.ownsRow w.heap.size 49 5 v m d∧Bl w w':=by
 obtain ⟨D,i,k,l,n⟩:=info_parts inf_creases;have o:=H4 i k l n;have y:Hid (∀ j u,d[j]?=some u→(w.alloc (.cells #[] 49)).cell? ((⟨b,off,none⟩:Addr).add j)=some u):=fun j u C=>cell_any β1 (g j u C);have z:=Hd h1;have x:=Hd p;have A:(w.alloc (.cells #[] 49)).ownsRow w.heap.size 49 5 (.slice (Az w.heap.size) 0 0) 0 []:=⟨ξ,.inr ⟨w.heap.size,0,#[],rfl,Nr _,heap_alloc_new w _,Nr _,Ξ,ξ,ξ⟩⟩;have B:∀ (a:Option Addr) (q r:Nat) (W:World),(binOp .eql 23 (.slice a q r) SN).run Tryz.prog W=.ok (.bool a.isNone) W:=fun a q r W=>Lib.run_eql_slice_nil W 23 49 a q r 0 0 Tryz.underlying23;clear i k l n g h1 p;go_enter Tryz.func100,Tryz.ntmps100;go_wp2_with (at_builtin;refine wpList_append_own _ rfl (.tmp 5) (.tmp 6) 23 rfl w.heap.size 49 D (.agg #[I 0,I 0,I 0,I 0,I 0]) 5 40 Tryz.underlying23 o.out.1 o.out.2.1 o.out.2.2.1 o.out.2.2.2 rfl ψ (.slice (Az w.heap.size) 0 0) 0 [] rfl A ⟨b,off,none⟩ m c d rfl x.out y.out z.out Ξ γ ξ ?grow)
 case grow =>
  intro v' s h f _
  have t:Hid (s.ownsRow w.heap.size 49 5 v' m d∧Bl w s):=by
   refine ⟨by simpa using h, ?_⟩;have k1:Bl w (w.alloc (.cells #[] 49)):=Qb (Qe _);exact k1.grown f k1.size (fun r e=>by simp [Value.ownBlock] at e;omega)
  clear h f;go_wp2;refine bodyPost_ret (v:=v') (by simp [results,Tryz.results100,go_sem]) rfl ⟨v',rfl,t.out⟩
theorem Gf (w:World) (c:Nat):Cl 100 #[.slice none 0 c] w fun e w'=>e=.returned SN∧w'=w:=by
 have b:∀ (a:Option Addr) (q r:Nat) (W:World),(binOp .eql 23 (.slice a q r) SN).run Tryz.prog W=.ok (.bool a.isNone) W:=fun a q r W=>Lib.run_eql_slice_nil W 23 49 a q r 0 0 Tryz.underlying23;go_enter Tryz.func100,Tryz.ntmps100;go_wp2;go_ret;exact ⟨rfl,rfl⟩
theorem inf_maps:(Tryz.prog.info? 114).map (fun i=>(i.zero,i.size,i.bytes))=some (some (.agg #[I 0,I 0,I 0,I 0,I 0,I 0]),6,48):=η
theorem clone_maps (w:World) (b off m c:Nat) (d:List Value) (p:d.length=m*6) (g:∀ j u,d[j]?=some u→w.cell? ((⟨b,off,none⟩:Addr).add j)=some u) (h1:∀ u∈d,u.oneCell'=true) (E:m*48≤140737488355328) :
  Cl 53 #[.slice (Ad b off) m c] w fun e w'=>∃ v,e=.returned v∧w'.ownsRow w.heap.size 114 6 v m d∧Bl w w':=by
 obtain ⟨D,i,k,l,n⟩:=info_parts inf_maps;have o:=H4 i k l n;have y:Hid (∀ j u,d[j]?=some u→(w.alloc (.cells #[] 114)).cell? ((⟨b,off,none⟩:Addr).add j)=some u):=fun j u C=>cell_any β1 (g j u C);have z:=Hd h1;have x:=Hd p;have A:(w.alloc (.cells #[] 114)).ownsRow w.heap.size 114 6 (.slice (Az w.heap.size) 0 0) 0 []:=⟨ξ,.inr ⟨w.heap.size,0,#[],rfl,Nr _,heap_alloc_new w _,Nr _,Ξ,ξ,ξ⟩⟩;have B:∀ (a:Option Addr) (q r:Nat) (W:World),(binOp .eql 26 (.slice a q r) SN).run Tryz.prog W=.ok (.bool a.isNone) W:=fun a q r W=>Lib.run_eql_slice_nil W 26 114 a q r 0 0 Tryz.underlying26;clear i k l n g h1 p;go_enter Tryz.func53,Tryz.ntmps53;go_wp2_with (at_builtin;refine wpList_append_own _ rfl (.tmp 5) (.tmp 6) 26 rfl w.heap.size 114 D (.agg #[I 0,I 0,I 0,I 0,I 0,I 0]) 6 48 Tryz.underlying26 o.out.1 o.out.2.1 o.out.2.2.1 o.out.2.2.2 rfl ψ (.slice (Az w.heap.size) 0 0) 0 [] rfl A ⟨b,off,none⟩ m c d rfl x.out y.out z.out Ξ γ ξ ?grow)
 case grow =>
  intro v' s h f _
  have t:Hid (s.ownsRow w.heap.size 114 6 v' m d∧Bl w s):=by
   refine ⟨by simpa using h, ?_⟩;have k1:Bl w (w.alloc (.cells #[] 114)):=Qb (Qe _);exact k1.grown f k1.size (fun r e=>by simp [Value.ownBlock] at e;omega)
  clear h f;go_wp2;refine bodyPost_ret (v:=v') (by simp [results,Tryz.results53,go_sem]) rfl ⟨v',rfl,t.out⟩
structure SrtW (w wx:World) (g o:Nat) (d:Array Nat):Prop where
 row:∀ j,j<d.size→At wx g (o+j) (I ((d[j]! : Nat):Int))∧Fn wx g (o+j)
 gr:w.grownBy wx (some g)
 lt:g<wx.heap.size
theorem SrtW.kept (h:SrtW w c g o d) (a:Bl c w'):SrtW w w' g o d :=
 ⟨fun j b=>⟨Qa a (h.row j b).1,(a.frozen h.lt).trans (h.row j b).2⟩,Ji h.gr (by
  have:=Qy a;exact ⟨this.os,this.tape,this.output,this.size,fun k e _=>this.block k e ξ⟩),Nl h.lt a.size⟩
theorem SrtW.swap (h:SrtW w a g o d) (hi:i<d.size) (f:j<d.size) (m:i≠j):SrtW w ((a.setCell ⟨g,o+i,none⟩ (I ((d[j]! : Nat):Int))).setCell ⟨g,o+j,none⟩ (I ((d[i]! : Nat):Int))) g o (Sort.swp d i j):=by
 have b:=Ql a g (o+i) (I ((d[j]! : Nat):Int));have c:=Ql (a.setCell ⟨g,o+i,none⟩ (I ((d[j]! : Nat):Int))) g (o+j) (I ((d[i]! : Nat):Int));refine ⟨fun k l=>?_,Ji h.gr (Ji b c),Nl h.lt (Nt b.size c.size)⟩;rw [Sort.size_swp] at l;obtain ⟨r1,r2⟩:=h.row k l;obtain ⟨p,_⟩:=h.row i hi;obtain ⟨n,_⟩:=h.row j f;constructor
 ·have e:=Sort.swp_get d hi f k;rw [e];by_cases e1:k=j
  ·rw [if_pos e1,e1];exact Jq (Qn n γ)
  ·rw [if_neg e1];by_cases e2:k=i
   ·rw [if_pos e2,e2];exact Qn (Jq p) γ
   ·rw [if_neg e2];exact Qn (Qn r1 γ) γ
 ·simp [go_sem,r2]
def CmpF (w:World) (g N:Nat) (rv:Value) (cf:Nat→Nat→Int):Prop := ∀ wx:World,w.grownBy wx (some g)→∀ x y:Nat,x<N→y<N→Cl 67 #[rv,I (x:Int),I (y:Int)] wx fun e w'=>e=.returned (I (cf x y))∧Bl wx w'
theorem Jv {N:Nat} (h:∀ k,k<d.size→d[k]! < N) (hi:i<d.size) (a:j<d.size):∀ k,k<(Sort.swp d i j).size→(Sort.swp d i j)[k]! < N:=fun k b=>by
 rw [Sort.size_swp] at b;rw [Sort.swp_get d hi a k];split
 ·exact h i hi
 ·split
  ·exact h j a
  ·exact h k b
end Go.Proofs.YtjkjpopghkeibaaGreatDoor
