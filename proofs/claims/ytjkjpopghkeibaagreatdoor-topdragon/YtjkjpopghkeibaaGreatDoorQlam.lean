/- A part of it. -/
import Derived.Test.YtjkjpopghkeibaaGreatDoorQlal
set_option maxRecDepth 100000
set_option maxHeartbeats 40000000
namespace Go.Proofs.YtjkjpopghkeibaaGreatDoor
open Go.RowKit Go.ChangeMaps
variable {w w':World} {b n:Nat} {a:Option Addr} {l:List T3} {zs:List Int}
def bynd (kd:E4→Int) (e:E4) (m:M6):M6:=if kd e=0 then m else bif mapM (aft (mir (lnW e) (lnC e)) m) then aft (mir (lnW e) (lnC e)) m else noM
theorem beyond_gen (w:World) (M:Option Addr) (n N P L:Nat) (kd:E4→Int) (p q r s A B C D E F:Int) (Q:KL w L kd) (h1:0≤p∧p≤100) (h2:0≤q∧q≤100) (K:lineB (lnW (p,q,r,s)) (lnC (p,q,r,s))=true∧-40≤lnC (p,q,r,s)∧lnC (p,q,r,s)≤40) (T:mapM (A,B,C,D,E,F)=true) :
  Rt 132 #[.agg #[.slice M n N,.map (some P),.map (some L)],.agg #[I p,I q,I r,I s],.agg #[I A,I B,I C,I D,I E,I F]] w (mv (bynd kd (p,q,r,s) (A,B,C,D,E,F))):=by
 have l:=Qbm K.1 K.2;by_cases hz:kd (p,q,r,s)=0
 ·have CK:Hid (∀ k:World,Bl w k→Rt 48 #[.agg #[.slice M n N,.map (some P),.map (some L)],.agg #[I p,I q,I r,I s]] k (I 0)):=fun k G=>hz ▸ kind_any k M n N P L kd p q r s (Q.kept G)
  have HF:Hid (bynd kd (p,q,r,s) (A,B,C,D,E,F)=(A,B,C,D,E,F)):=by
   have:bynd kd (p,q,r,s) (A,B,C,D,E,F)=(A,B,C,D,E,F):=by simp [bynd,hz]
   exact this
  clear Q K T l h1 h2 hz;go_enter Tryz.func132,Tryz.ntmps132;go_wp2_with (go_at_call 48;refine (CK.out _ (by with_reducible exact Qb β3)).mono ?_;rintro e j ⟨rfl,g⟩;have HB:=Hd (Qc β4 g);have m0:At j (w.heap.size+1+1) 0 (I A):=Qa g δ;have m1:At j (w.heap.size+1+1) 1 (I B):=Qa g δ;have m2:At j (w.heap.size+1+1) 2 (I C):=Qa g δ;have m3:At j (w.heap.size+1+1) 3 (I D):=Qa g δ;have m4:At j (w.heap.size+1+1) 4 (I E):=Qa g δ;have m5:At j (w.heap.size+1+1) 5 (I F):=Qa g δ;have r0:At j (w.heap.size+1+1+1) 0 (I 0):=Qa g δ;have r1:At j (w.heap.size+1+1+1) 1 (I 0):=Qa g δ;have r2:At j (w.heap.size+1+1+1) 2 (I 0):=Qa g δ;have r3:At j (w.heap.size+1+1+1) 3 (I 0):=Qa g δ;have r4:At j (w.heap.size+1+1+1) 4 (I 0):=Qa g δ;have r5:At j (w.heap.size+1+1+1) 5 (I 0):=Qa g δ;have fz:∀ o,o<6→Fn j (w.heap.size+1+1+1) o:=fun o ho=>(g.frozen (p:=⟨w.heap.size+1+1+1,o,none⟩) ξ).trans δ;have f0:=fz 0 γ;have f1:=fz 1 γ;have f2:=fz 2 γ;have f3:=fz 3 γ;have f4:=fz 4 γ;have f5:=fz 5 γ;have J:=Bt r0;clear fz g)
  refine bodyPost_ret (v:=.agg #[I A,I B,I C,I D,I E,I F]) (by simp [results,Tryz.results132,go_sem,r0,r1,r2,r3,r4,r5]) rfl ⟨by rw [HF.out];rfl, ?_⟩;with_reducible repeat (first | exact HB.out | refine Qh ?_ ?_)
  all_goals (dsimp only;omega)
 ·obtain ⟨z,y⟩:∃ z,z=kd (p,q,r,s):=⟨_,rfl⟩;have CK:Hid (∀ k:World,Bl w k→Rt 48 #[.agg #[.slice M n N,.map (some P),.map (some L)],.agg #[I p,I q,I r,I s]] k (I z)):=fun k G=>y ▸ kind_any k M n N P L kd p q r s (Q.kept G);rw [← y] at hz;obtain ⟨v,hv⟩:∃ v,v=lnW (p,q,r,s):=⟨_,rfl⟩;obtain ⟨c,R⟩:∃ c,c=lnC (p,q,r,s):=⟨_,rfl⟩
  have CL:Hid (∀ k:World,Rt 121 #[.agg #[I p,I q,I r,I s]] k (.agg #[I v,I c])):=fun k=>by
   rw [hv,R];exact paperLine_any p q r s k h1 h2
  rw [← hv,← R] at K l;obtain ⟨a,b,u,d,e,f,x⟩:∃ a b u d e f,mir v c=(a,b,u,d,e,f):=⟨_,_,_,_,_,_,rfl⟩
  have CM:Hid (∀ k:World,Cl 133 #[.agg #[I v,I c]] k fun e' w'=>e'=.returned (.tuple #[.agg #[I a,I b,I u,I d,I e,I f],I 0])∧Bl k w'):=fun k=>by
   have h:=Kf v c k K.1 l.1;simp only [mir,Prod.mk.injEq] at x;obtain ⟨rfl,rfl,rfl,rfl,rfl,rfl⟩:=x;exact h
  rw [x] at l
  obtain ⟨U,V,W,X,Y,Z,cd,HF,CA⟩:∃ U V W X Y Z cd:Int,Hid (bynd kd (p,q,r,s) (A,B,C,D,E,F)=(U,V,W,X,Y,Z))∧Hid (∀ k:World,Rt 134 #[.agg #[I a,I b,I u,I d,I e,I f],.agg #[I A,I B,I C,I D,I E,I F]] k (.tuple #[.agg #[I U,I V,I W,I X,I Y,I Z],I cd])):=by
   have O:kd (p,q,r,s)≠0:=by rw [← y];exact hz
   have H:aft (mir (lnW (p,q,r,s)) (lnC (p,q,r,s))) (A,B,C,D,E,F)=(dot A B a u,dot A B b d,dot C D a u,dot C D b d,dot A B e f+E,dot C D e f+F):=by
    rw [← hv,← R,x];rfl
   cases hma:mapM (aft (mir (lnW (p,q,r,s)) (lnC (p,q,r,s))) (A,B,C,D,E,F))
   ·refine ⟨0,0,0,0,0,0,2, ?_,fun k=>After_no a b u d e f A B C D E F k l.1 T ?_⟩
    ·exact by
      have:bynd kd (p,q,r,s) (A,B,C,D,E,F)=(0,0,0,0,0,0):=by
       unfold bynd;rw [if_neg O,hma];rfl
      exact this
    ·rw [H] at hma;exact hma
   ·refine ⟨dot A B a u,dot A B b d,dot C D a u,dot C D b d,dot A B e f+E,dot C D e f+F,0, ?_,fun k=>After_yes a b u d e f A B C D E F k l.1 T ?_⟩
    ·exact by
      have:bynd kd (p,q,r,s) (A,B,C,D,E,F)=(dot A B a u,dot A B b d,dot C D a u,dot C D b d,dot A B e f+E,dot C D e f+F):=by
       unfold bynd;rw [if_neg O,hma,H];rfl
      exact this
    ·rw [H] at hma;exact hma
  clear Q K T l h1 h2 y hv R x;go_enter Tryz.func132,Tryz.ntmps132
  go_wp2_with (first
   | (go_at_call 48;refine (CK.out _ (by with_reducible exact Qb β3)).mono ?_;rintro e j ⟨rfl,g⟩;have HB:=Hd (Qc β4 g);have e0:At j (w.heap.size+1) 0 (I p):=Qa g δ;have e1:At j (w.heap.size+1) 1 (I q):=Qa g δ;have e2:At j (w.heap.size+1) 2 (I r):=Qa g δ;have e3:At j (w.heap.size+1) 3 (I s):=Qa g δ;have m0:At j (w.heap.size+1+1) 0 (I A):=Qa g δ;have m1:At j (w.heap.size+1+1) 1 (I B):=Qa g δ;have m2:At j (w.heap.size+1+1) 2 (I C):=Qa g δ;have m3:At j (w.heap.size+1+1) 3 (I D):=Qa g δ;have m4:At j (w.heap.size+1+1) 4 (I E):=Qa g δ;have m5:At j (w.heap.size+1+1) 5 (I F):=Qa g δ;have r0:At j (w.heap.size+1+1+1) 0 (I 0):=Qa g δ;have t:Hid (∀ o,o<6→At j (w.heap.size+1+1+1) o (I 0)∧Fn j (w.heap.size+1+1+1) o):=fun o ho=>⟨Qa g (by rcases six_cases ho with rfl | rfl | rfl | rfl | rfl | rfl <;> simp [go_sem]),(g.frozen (p:=⟨w.heap.size+1+1+1,o,none⟩) ξ).trans δ⟩;have J:=Bt r0;clear g)
   | (go_at_call 121;refine (CL.out _).mono ?_;rintro e w3 ⟨rfl,g⟩;have a2:=Hd g;clear g)
   | (go_at_call 133;refine (CM.out _).mono ?_;rintro e w4 ⟨rfl,g⟩;have m:=Hd (Qc a2.out g);have n0:=Qa m.out m0;have n1:=Qa m.out m1;have n2:=Qa m.out m2;have n3:=Qa m.out m3;have n4:=Qa m.out m4;have n5:=Qa m.out m5;have z4:=Bt n0;clear g)
   | (go_at_call 134;refine (CA.out _).mono ?_;rintro e w5 ⟨rfl,g⟩;have i:=Hd (Qc (Qb m.out) g);have s0:=Qa i.out (t.out 0 γ).1;have f0:=(i.out.frozen (p:=⟨w.heap.size+1+1+1,0,none⟩) J).trans (t.out 0 γ).2;have s1:=Qa i.out (t.out 1 γ).1;have f1:=(i.out.frozen (p:=⟨w.heap.size+1+1+1,1,none⟩) J).trans (t.out 1 γ).2;have s2:=Qa i.out (t.out 2 γ).1;have f2:=(i.out.frozen (p:=⟨w.heap.size+1+1+1,2,none⟩) J).trans (t.out 2 γ).2;have s3:=Qa i.out (t.out 3 γ).1;have f3:=(i.out.frozen (p:=⟨w.heap.size+1+1+1,3,none⟩) J).trans (t.out 3 γ).2;have s4:=Qa i.out (t.out 4 γ).1;have f4:=(i.out.frozen (p:=⟨w.heap.size+1+1+1,4,none⟩) J).trans (t.out 4 γ).2;have s5:=Qa i.out (t.out 5 γ).1;have f5:=(i.out.frozen (p:=⟨w.heap.size+1+1+1,5,none⟩) J).trans (t.out 5 γ).2;have z5:=Bt s0;clear g))
  refine bodyPost_ret (v:=.agg #[I U,I V,I W,I X,I Y,I Z]) ?_ rfl ⟨by rw [HF.out];rfl, ?_⟩
  ·simp [results,Tryz.results132,go_sem,s0,s1,s2,s3,s4,s5,Ca,z5]
  ·with_reducible repeat (first | exact Qc HB.out i.out | refine Qh ?_ ?_ | refine Qb ?_)
   all_goals (dsimp only;omega)
def FitJ (kd:E4→Int) (M:Nat→M6) (i:Nat) (q:E4×Int):Prop := ∀ j:Nat,q.2=(j:Int)→M j=bynd kd q.1 (M i)
theorem Qz {α:Type} (l:List α) (i:Nat) (h:i<l.length) {d : α}:l.getD i d=l[i]:=by rw [List.getD_eq_getElem?_getD,List.getElem?_eq_getElem h];rfl
def FitI (kd:E4→Int) (L:List T3) (M:Nat→M6) (i:Nat):Prop := ∀ q∈jl L (L.getD i (0,0,0)) i 3,FitJ kd M i q
def FitTo (kd:E4→Int) (L:List T3) (M:Nat→M6) (w w':World) (e:Ending):Prop:=(∃ b:Bool,e=.returned (.bool b)∧(b=true↔∀ i,i<L.length→FitI kd L M i))∧Bl w w'
theorem fits_gen (w:World) (x n o gm cm:Nat) (l pa:Option Addr) (pn pc:Nat) (L:List T3) (kd:E4→Int) (M:Nat→M6) (hs:Steps w) (ac:PA w l n L) (hK:KL w o kd) (hL:L.length≤300) (y:∀ t∈L,(0≤t.1∧t.1≤8)∧(0≤t.2.1∧t.2.1≤8)∧(0≤t.2.2∧t.2.2≤3)) (hM:MRow w gm L.length M) (hG:∀ i,i<L.length→mapM (M i)=true) :
  Cl 81 #[.agg #[.slice l L.length x,.map (some n),.map (some o),.slice (Az gm) L.length cm,.slice pa pn pc]] w fun e w'=>FitTo kd L M w w' e:=by
 have an:Hid (∀ (a:World) (i:Nat) (hi:i<L.length),Bl w a→Cl 102 #[.agg #[.slice l L.length x,.map (some n),.map (some o)],I (i:Int)] a fun e w'=>∃ v,e=.returned v∧w'.ownsRow (a.heap.size+1) 105 5 v (jl L L[i] i 3).length (flatJ (jl L L[i] i 3))∧Bl a w'):=fun a i hi d=>Uv a x n o i l L L[i].1 L[i].2.1 L[i].2.2 (hs.kept d) (ac.kept d) hi rfl hL (y _ (Lm hi))
 have am:Hid (∀ (a:World) (i:Nat) (hi:i<L.length) (p q r s A B C D E F:Int),Bl w a→hasT L[i] (p,q,r,s)=true→mapM (A,B,C,D,E,F)=true→Rt 132 #[.agg #[.slice l L.length x,.map (some n),.map (some o)],.agg #[I p,I q,I r,I s],.agg #[I A,I B,I C,I D,I E,I F]] a (mv (bynd kd (p,q,r,s) (A,B,C,D,E,F)))):=fun a i hi p q r s A B C D E F d hh hm =>
  beyond_gen a l L.length x n o kd p q r s A B C D E F (hK.kept d) (Qbq hh (y _ (Lm hi))).1 (Qbq hh (y _ (Lm hi))).2.1 (Vu hh (y _ (Lm hi))) hm
 have HC:Hid (MRow w gm L.length M∧∀ i,i<L.length→mapM (M i)=true):=⟨hM,hG⟩;have hn:=neqM;clear hs ac hK y hM hG;obtain ⟨w0,T⟩:∃ W,W=pbox w l L.length x n o (.slice (Az gm) L.length cm) (.slice pa pn pc):=⟨_,rfl⟩
 have hx:At w0 w.heap.size 0 (.slice l L.length x)∧At w0 w.heap.size 1 (.map (some n))∧At w0 w.heap.size 2 (.map (some o))∧At w0 w.heap.size 3 (.slice (Az gm) L.length cm):=by
  rw [T];simp [pbox,go_sem]
 have HX:=Hd hx;clear hx
 have af:Bl w w0:=by
  rw [T];exact Qb (Qe _)
 have u:=Hd af;clear af;have Z:w.alloc (.cells #[.slice l L.length x,.map (some n),.map (some o),.slice (Az gm) L.length cm,.slice pa pn pc] 61)=w0:=T.symm;have ao:=Hd Z;clear T Z;go_enter Tryz.func81,Tryz.ntmps81;go_wp2;go_loopg [10] L.length (fun gk au wx=>∃ i:Nat,i≤L.length∧gk=L.length - i∧au=I (i:Int)∧(∀ U,U<i→FitI kd L M U)∧Bl w0 wx)
 case atStart=>exact ⟨0,γ,rfl,rfl,fun U ag=>by omega,by rw [ao.out];exact Qe _⟩
 case round =>
  obtain ⟨i,hi,rfl,rfl,hF,hB⟩:=hrel;have HF:=Hd hF;clear hF;have HB:=Hd hB;clear hB;by_cases h1:i<L.length
  ·have i1:(i:Int)<(L.length:Int):=γ;have i0:(0:Int)≤(i:Int):=γ;obtain ⟨J,hJ⟩:∃ J,J=jl L L[i] i 3:=⟨_,rfl⟩
   have ax:J.length≤900:=by
    have:=jl_len L L[i] i 3;rw [hJ];omega
   have CJ:Hid (∀ a:World,Bl wr a→Cl 102 #[.agg #[.slice l L.length x,.map (some n),.map (some o)],I (i:Int)] a fun e w'=>∃ v,e=.returned v∧w'.ownsRow (a.heap.size+1) 105 5 v J.length (flatJ J)∧Bl a w'):=fun a d=>by
    rw [hJ];exact an.out a i h1 (Qc u.out (Qc HB.out d))
   have HJ:=Hd hJ;clear hJ;have p0:=Qa HB.out HX.out.1;have p1:=Qa HB.out HX.out.2.1;have p2:=Qa HB.out HX.out.2.2.1;have zp:=Bt p0;go_wp2_with (go_at_call 102;refine (CJ.out _ (by with_reducible exact Qe _)).mono ?_;rintro e w8 ⟨v8,rfl,Y,hb⟩;obtain ⟨ja,jc,rfl,ai⟩:=own_jw Y;have aa:=H2 ai (Qc HB.out hb);clear Y ai hb)
   clear p0 p1 p2 zp;go_loopg [18] J.length (fun gk av wx=>∃ m:Nat,m≤J.length∧gk=J.length - m∧av=I (m:Int)∧(∀ V,V<m→FitJ kd M i (J.getD V ((0,0,0,0),0)))∧Bl w8 wx)
   case atStart=>exact ⟨0,γ,rfl,rfl,fun V a6=>by omega,Qe _⟩
   case round =>
    obtain ⟨m,hm,rfl,rfl,ab,hB⟩:=hrel;have a8:=Hd ab;clear ab;have g:=H2 (Qc aa.out.2 hB) hB;clear hB;by_cases hm1:m<J.length
    ·have im:(m:Int)<(J.length:Int):=γ;have az:(0:Int)≤(m:Int):=γ;obtain ⟨jb,rfl,c0,c1,c2,c3,c4⟩:=(aa.out.1.kept g.out.2).1 m hm1;have aw:=Bt c0;obtain ⟨q,hq⟩:∃ q,q=J[m]:=⟨_,rfl⟩;obtain ⟨⟨z,G,H,K⟩,qj⟩:=q;rw [← hq] at c0 c1 c2 c3 c4;dsimp only at c0 c1 c2 c3 c4;have X:((z,G,H,K),qj)∈jl L L[i] i 3:=by rw [← HJ.out,hq];exact Lm hm1
     obtain ⟨k,hk,aj,j,hj,rfl,aq,ar⟩:=Yz.1 X;have ah:hasT L[i] (z,G,H,K)=true:=by rw [aj];exact Jc _ _
     have HQ:Hid (J.getD m ((0,0,0,0),0)=((z,G,H,K),(j:Int))):=by
      have:J.getD m ((0,0,0,0),0)=((z,G,H,K),(j:Int)):=by rw [List.getD_eq_getElem?_getD,List.getElem?_eq_getElem hm1,← hq];rfl
      exact this
     obtain ⟨⟨y0,y1,y2,y3,y4,y5⟩,_⟩:=HC.out.1 i h1;obtain ⟨⟨v0,v1,v2,v3,v4,v5⟩,_⟩:=HC.out.1 j hj;have a2:=HC.out.2 i h1;obtain ⟨A,B,C,D,E,F,Q⟩:∃ A B C D E F,M i=(A,B,C,D,E,F):=⟨_,_,_,_,_,_,rfl⟩;obtain ⟨f0,f1,f2,f3,f4,f5,R⟩:∃ f0 f1 f2 f3 f4 f5,M j=(f0,f1,f2,f3,f4,f5):=⟨_,_,_,_,_,_,rfl⟩;rw [Q] at y0 y1 y2 y3 y4 y5 a2;rw [R] at v0 v1 v2 v3 v4 v5;dsimp only at y0 y1 y2 y3 y4 y5 v0 v1 v2 v3 v4 v5;obtain ⟨g0,g1,g2,g3,g4,g5,P⟩:∃ g0 g1 g2 g3 g4 g5,bynd kd (z,G,H,K) (A,B,C,D,E,F)=(g0,g1,g2,g3,g4,g5):=⟨_,_,_,_,_,_,rfl⟩
     have CB:Hid (∀ a:World,Bl wr a→Rt 132 #[.agg #[.slice l L.length x,.map (some n),.map (some o)],.agg #[I z,I G,I H,I K],.agg #[I A,I B,I C,I D,I E,I F]] a (.agg #[I g0,I g1,I g2,I g3,I g4,I g5])):=fun a d=>by
      have h:=am.out a i h1 z G H K A B C D E F (Qc u.out (Qc g.out.1 d)) ah a2;rw [P] at h;exact h
     have a7:Hid (sameM f0 f1 f2 f3 f4 f5 g0 g1 g2 g3 g4 g5=true↔FitJ kd M i ((z,G,H,K),(j:Int))):=by
      have:sameM f0 f1 f2 f3 f4 f5 g0 g1 g2 g3 g4 g5=true↔FitJ kd M i ((z,G,H,K),(j:Int)):=by
       constructor
       ·intro h j' ap;have:j'=j:=by dsimp only at ap;omega
        subst this;dsimp only;rw [Q,R,P];simp only [sameM,decide_eq_true_eq] at h;simp only [Prod.mk.injEq];exact h
       ·intro h;have h:=h j rfl;dsimp only at h;rw [Q,R,P] at h;simp only [Prod.mk.injEq] at h;obtain ⟨rfl,rfl,rfl,rfl,rfl,rfl⟩:=h;simp [sameM]
      exact this
     have ij:(j:Int)<(L.length:Int):=γ;have ay:(0:Int)≤(j:Int):=γ;clear X aj ar hq aq ah a2 Q R P;go_wp2;refine Qi (fun O hW0=>?_)
     have N:Hid (Bl wr O):=by
      have:Bl wr O:=γ4;exact this
     obtain ⟨B9,f⟩:∃ b,b=wr.heap.size:=⟨_,rfl⟩;have x0:At O B9 0 (I z):=by rw [hW0,f];simp [go_sem]
     have x1:At O B9 1 (I G):=by rw [hW0,f];simp [go_sem]
     have x2:At O B9 2 (I H):=by rw [hW0,f];simp [go_sem]
     have x3:At O B9 3 (I K):=by rw [hW0,f];simp [go_sem]
     have x4:At O B9 4 (I (j:Int)):=by rw [hW0,f];simp [go_sem]
     clear hW0;rw [← f];clear f;have bw:=Qc g.out.1 N.out;have p0:=Qa bw HX.out.1;have p1:=Qa bw HX.out.2.1;have p2:=Qa bw HX.out.2.2.1;have p3:=Qa bw HX.out.2.2.2;have c:=Qc u.out bw;replace y0:=Qa c y0;replace y1:=Qa c y1;replace y2:=Qa c y2;replace y3:=Qa c y3;replace y4:=Qa c y4;replace y5:=Qa c y5;replace v0:=Qa c v0;replace v1:=Qa c v1;replace v2:=Qa c v2;replace v3:=Qa c v3;replace v4:=Qa c v4;replace v5:=Qa c v5;have zW:=Bt p0;have b5:=Bt y0;have b6:=Bt x0;have ak:Hid (∀ a:World,Bl O a→Rt 132 #[.agg #[.slice l L.length x,.map (some n),.map (some o)],.agg #[I z,I G,I H,I K],.agg #[I A,I B,I C,I D,I E,I F]] a (.agg #[I g0,I g1,I g2,I g3,I g4,I g5])):=fun a d=>CB.out a (Qc N.out d);clear c0 c1 c2 c3 c4 aw bw c;obtain ⟨kc,kn⟩:=kcn O;refine wk ?_;repeat (go_big_quiet_step ((go_at_call 132;exact Qf (ak.out _ (Kin.h _)))))
     refine kq1 (fun wq hq=>?_);clear kc kn x0 x1 x2 x3 x4 p0 p1 p2 p3 y0 y1 y2 y3 y4 y5 v0 v1 v2 v3 v4 v5
     cases hsm:sameM f0 f1 f2 f3 f4 f5 g0 g1 g2 g3 g4 g5
     ·go_wp2;go_ret;refine ⟨⟨false,rfl, ?_⟩,Qc u.out (Qc g.out.1 (Qc N.out hq))⟩;simp only [Bool.false_eq_true,false_iff];intro ae
      have h2:=(ae i h1) (J.getD m ((0,0,0,0),0)) (by
       rw [Qz J m hm1,Qz L i h1,← HJ.out];exact Lm hm1)
      rw [HQ.out] at h2;have:=a7.out.2 h2;rw [hsm] at this
      cases this
     ·go_wp2;go_roundg (J.length - (m+1))
      case measure=>omega
      case rel =>
       refine ⟨m+1,γ,rfl,σ,fun V a6=>?_,Qc g.out.2 (Qc N.out hq)⟩;by_cases e:V=m
       ·subst e;rw [HQ.out];exact a7.out.1 hsm
       ·exact a8.out V γ
    ·have im:¬ (m:Int)<(J.length:Int):=γ;go_wp2;go_roundg (L.length - (i+1))
     case measure=>omega
     case rel =>
      refine ⟨i+1,γ,rfl,σ,fun U ag=>?_,g.out.1⟩;by_cases e:U=i
      ·subst e;intro q hq;rw [Qz L U h1] at hq;have hq:q∈J:=by rw [HJ.out];exact hq
       obtain ⟨V,a6,e⟩:=List.getElem_of_mem hq;have:=a8.out V γ;rw [Qz J V a6] at this;rw [← e];exact this
      ·exact HF.out U γ
  ·have i1:¬ (i:Int)<(L.length:Int):=γ;go_wp2;go_ret;exact ⟨⟨true,rfl,by simp only [true_iff];exact fun U ag=>HF.out U γ⟩,Qc u.out HB.out⟩
def BRow (w:World) (g n:Nat) (K:List Nat):Prop := ∀ i,i<n→At w g i (.bool (decide (i∈K)))∧Fn w g i
theorem BRow.grown {g:Nat} {K:List Nat} {row:Option Nat} (h:BRow w g n K) (hg:w.grownBy w' row) (b:some g≠row):BRow w' g n K:=fun i hi =>
 ⟨hg.cell (h i hi).1 b,(Fo (a:=⟨g,i,none⟩) (hg.block g (bk (h i hi).1) b)).trans (h i hi).2⟩
theorem BRow.set {g:Nat} {K a:List Nat} (h:BRow w g n K) {j:Nat} (c:j<n) (b:∀ q,q∈a↔q∈K∨q=j):BRow (w.setCell ⟨g,j,none⟩ (.bool true)) g n a:=fun i hi=>by
 refine ⟨?_,by (try simp only [Fn]);rw [Fz];exact (h i hi).2⟩;by_cases e:i=j
 ·subst e;(try simp only [At]);rw [Cs _ _ _ (h i hi).1]
  simp [b]
 ·(try simp only [At]);rw [Co _ _ _ _ π,(h i hi).1]
  simp [b,e]
def AM (w1 wx:World) (g5 g6 n:Nat) (M:Nat→M6) (K:List Nat):Prop:=MRow wx g5 n M∧BRow wx g6 n K∧Bl w1 wx∧(w1.heap.size≤g5∧g5<g6∧g6<wx.heap.size)
theorem AM.kept {w1 d:World} {c:Nat} {M:Nat→M6} {K:List Nat} (h:AM w1 d b c n M K) (a:Bl d w'):AM w1 w' b c n M K :=
 ⟨h.1.kept a,h.2.1.grown (Qy a) ξ,Qc h.2.2.1 a,h.2.2.2.1,h.2.2.2.2.1,Nl h.2.2.2.2.2 a.size⟩
def E3 (w:World) (ge:Nat) (t:T3):Prop := ∀ k,k<3→At w ge (k*4) (I (edg t k).1)∧At w ge (k*4+1) (I (edg t k).2.1)∧At w ge (k*4+2) (I (edg t k).2.2.1)∧At w ge (k*4+3) (I (edg t k).2.2.2)
theorem E3.grown {t:T3} {row:Option Nat} (h:E3 w b t) (hg:w.grownBy w' row) (a:some b≠row):E3 w' b t:=fun k c=>by
 obtain ⟨h0,h1,h2,h3⟩:=h k c;exact ⟨hg.cell h0 a,hg.cell h1 a,hg.cell h2 a,hg.cell h3 a⟩
theorem E3.kept {a:Nat} {t:T3} (h:E3 w a t) (b:Bl w w'):E3 w' a t:=h.grown (Qy b) ξ
def TRowG (w:World) (a:Option Addr) (l:List T3):Prop :=
 ∀ i (h:i<l.length),∃ g o,a=Ad g o∧At w g (o+i*3) (I l[i].1)∧At w g (o+i*3+1) (I l[i].2.1)∧At w g (o+i*3+2) (I l[i].2.2)
theorem TRowG.kept {c:World} (h:TRowG w a l) (b:Bl w c):TRowG c a l:=fun i hi=>by
 obtain ⟨g,o,e,h0,h1,h2⟩:=h i hi;exact ⟨g,o,e,Qa b h0,Qa b h1,Qa b h2⟩
theorem TRowG.take (h:TRowG w a l) (k:Nat):TRowG w a (l.take k):=fun i hi=>by
 rw [List.length_take] at hi;obtain ⟨g,o,e,h0,h1,h2⟩:=h i γ;simp only [List.getElem_take];exact ⟨g,o,e,h0,h1,h2⟩
theorem TRow.any (h:TRow w a l):TRowG w a l:=fun i hi=>by
 obtain ⟨g,e,h0,h1,h2⟩:=h i hi;exact ⟨g,0,e,by rw [Nat.zero_add];exact h0,by rw [Nat.zero_add];exact h1,by rw [Nat.zero_add];exact h2⟩
def SRowG (w:World) (a:Option Addr) (S:List (T3×List T3)):Prop :=
 ∀ i (h:i<S.length),∃ g o sa sc,a=Ad g o∧At w g (o+i*4) (I S[i].1.1)∧At w g (o+i*4+1) (I S[i].1.2.1)∧At w g (o+i*4+2) (I S[i].1.2.2)∧At w g (o+i*4+3) (.slice sa S[i].2.length sc)∧S[i].2.length≤sc∧TRowG w sa S[i].2
theorem SRowG.kept {S:List (T3×List T3)} (h:SRowG w a S) (b:Bl w w'):SRowG w' a S:=fun i hi=>by
 obtain ⟨g,o,f,j,e,c0,c1,c2,c3,c,d⟩:=h i hi;exact ⟨g,o,f,j,e,Qa b c0,Qa b c1,Qa b c2,Qa b c3,c,d.kept b⟩
theorem own_rowf {base e size:Nat} {v:Value} (h:w.ownsRow base e size v n (zs.map (fun z=>I z))) (hs:zs.length=n*size):∃ a c,v=.slice a n c∧RowF w base a zs:=by
 by_cases hn:0<n
 ·obtain ⟨g,b,e1,_,e3⟩:=own_row h hn;exact ⟨_,b,e1,e3⟩
 ·have h0:n=0:=γ;subst h0;have f:zs=[]:=List.length_eq_zero_iff.1 γ;subst f;rcases h.2 with ⟨e1,_⟩ | ⟨g,b,d,e1,_⟩
  ·exact ⟨none,0,e1,Ua _ _ _⟩
  ·exact ⟨_,b,e1,Ua _ _ _⟩
theorem ints_one (zs:List Int):∀ u∈zs.map (fun z=>I z),u.oneCell'=true:=by
 intro u a;obtain ⟨z,_,rfl⟩:=List.mem_map.1 a;rfl
theorem row_none (h:Row w none zs):zs=[]:=by
 cases zs with
 | nil=>rfl
 | cons z r =>
  obtain ⟨b,off,e,_⟩:=h 0 ξ
  cases e
theorem row_cells {off:Nat} (h:Row w (Ad b off) zs):∀ j u,(zs.map (fun z=>I z))[j]?=some u→w.cell? ((⟨b,off,none⟩:Addr).add j)=some u:=by
 intro j u a
 have g:j<zs.length:=by
  have:=List.getElem?_eq_some_iff.1 a;simpa using this.1
 obtain ⟨f,c,e,d⟩:=row_at h γ
 cases e;exact d j u a
def CPW (w W:World) (u0 u1 u2 u3:Value):Prop:=Sh W w.heap.size u0 u1 u2 u3∧Fr W w.heap.size∧Sh W (w.heap.size+1) (I 0) (I 0) SN SN∧Fr W (w.heap.size+1)∧Bl w W
theorem CPW.kept {W b:World} {c d e f:Value} (h:CPW w W c d e f) (a:Bl W b):CPW w b c d e f:=⟨h.1.kept a,h.2.1.kept h.1.lt a,h.2.2.1.kept a,h.2.2.2.1.kept h.2.2.1.lt a,Qc h.2.2.2.2 a⟩
theorem CPW.new (w:World) (W H:Int) (a v3:Value):CPW w ((w.alloc (.cells #[I W,I H,a,v3] 25)).alloc (.cells #[I 0,I 0,SN,SN] 25)) (I W) (I H) a v3:=by
 refine ⟨⟨?_, ?_, ?_, ?_⟩, ?_,⟨?_, ?_, ?_, ?_⟩, ?_,Qb β1⟩
 ·simp [go_sem]
 ·simp [go_sem]
 ·simp [go_sem]
 ·simp [go_sem]
 ·simp [Fr,go_sem]
 ·simp [go_sem]
 ·simp [go_sem]
 ·simp [go_sem]
 ·simp [go_sem]
 ·simp [Fr,go_sem]
theorem CPW.set {W:World} {b c g i:Value} (h:CPW w W b c g i) (a v3:Value):CPW w ((W.setCell ⟨w.heap.size,2,none⟩ a).setCell ⟨w.heap.size,3,none⟩ v3) b c a v3:=by
 obtain ⟨⟨c0,c1,c2,c3⟩,e,⟨d0,d1,d2,d3⟩,hg,d⟩:=h;obtain ⟨f0,f1,f2,f3,f4,f5⟩:=e;obtain ⟨j,k,l,g3,m,n⟩:=hg;have far:∀ {o:Nat} {u:Value},W.cell? ⟨w.heap.size+1,o,none⟩=some u→((W.setCell ⟨w.heap.size,2,none⟩ a).setCell ⟨w.heap.size,3,none⟩ v3).cell? ⟨w.heap.size+1,o,none⟩=some u:=fun f=>Qo (Qo f ξ) ξ;refine ⟨⟨?_, ?_, ?_, ?_⟩,⟨?_, ?_, ?_, ?_, ?_, ?_⟩,⟨far d0,far d1,far d2,far d3⟩,⟨?_, ?_, ?_, ?_, ?_, ?_⟩,(d.setCell (p:=⟨w.heap.size,2,none⟩) (Nr _) _).setCell (p:=⟨w.heap.size,3,none⟩) (Nr _) _⟩
 ·(try simp only [At]);rw [Co _ _ _ _ ξ,Co _ _ _ _ ξ]
  exact c0
 ·(try simp only [At]);rw [Co _ _ _ _ ξ,Co _ _ _ _ ξ]
  exact c1
 ·(try simp only [At]);rw [Co _ _ _ _ ξ]
  exact Jq c2
 ·exact Jq (by (try simp only [At]);rw [Co _ _ _ _ ξ];exact c3)
 all_goals ((try simp only [Fn]);rw [Fz,Fz];assumption)
def ltF (cf:Nat→Nat→Int) (x y:Nat):Bool:=decide (cf x y<0)
theorem insertion_any (w:World) (g o n K a b N:Nat) (P:Value) (f:Nat→Nat→Int) (hc:CmpF w g N P f) (d:Array Nat) (hd:d.size=n) (Y:∀ k,k<d.size→d[k]! < N) (a2:a≤b) (a7:b≤n) (hn:n≤300) (w1:World) (hw:SrtW w w1 g o d) :
  Cl 167 #[.slice (Ad g o) n K,I (a:Int),I (b:Int),.func (.func 67) #[P] #[]] w1 fun e w'=>e=.returned (.tuple #[])∧SrtW w w' g o (Sort.insertionSort (ltF f) d a b):=by
 have HC:=Hd hc;have J:=H3 hw Y hd;obtain ⟨T,hT⟩:∃ T,T=Sort.insertionSort (ltF f) d a b:=⟨_,rfl⟩;have HT:=Hd hT.symm;rw [← hT];clear hc hw Y hd hT;go_enter Tryz.func167,Tryz.ntmps167;go_wp2;go_loopg [8] (b+1 - (a+1)) (fun L s8 R=>∃ (i:Nat) (d1:Array Nat),i≤b+1∧a+1≤i∧L=b+1 - i∧s8=I (i:Int)∧SrtW w R g o d1∧(∀ k,k<d1.size→d1[k]! < N)∧d1.size=n∧Sort.insOuter (ltF f) a b i d1=T)
 case atStart=>exact ⟨a+1,d,γ,γ,rfl,σ,J.out.1,J.out.2.1,J.out.2.2,HT.out⟩
 case round =>
  obtain ⟨i,d1,hi,a6,rfl,rfl,Z,t,A,z⟩:=hrel;have l:=H4 Z t A z;clear Z t A z;by_cases h1:i<b
  ·have i1:(i:Int)<(b:Int):=γ;go_wp2;go_loopg [9] i (fun L s9 R=>∃ (j:Nat) (d2:Array Nat),j≤i∧j=L∧s9=I (j:Int)∧SrtW w R g o d2∧(∀ k,k<d2.size→d2[k]! < N)∧d2.size=n∧Sort.insInner (ltF f) a j d2=Sort.insInner (ltF f) a i d1)
   case atStart=>exact ⟨i,d1,γ,rfl,rfl,l.out.1,l.out.2.1,l.out.2.2.1,rfl⟩
   case round =>
    obtain ⟨j,d2,hj,rfl,rfl,v,u,B,X⟩:=hrel;have H2:=H4 v u B X
    have V:Hid (Sort.insOuter (ltF f) a b (i+1) (Sort.insInner (ltF f) a i d1)=T):=by
     have:Sort.insOuter (ltF f) a b (i+1) (Sort.insInner (ltF f) a i d1)=T:=by
      rw [← l.out.2.2.2];conv=>rhs;rw [Sort.insOuter,if_pos h1]
     exact this
    clear l v u B X;by_cases h2:a<j
    ·obtain ⟨p,rfl⟩:∃ p,j=p+1:=⟨j - 1,γ⟩;have a8:=H2.out.2.2.1;obtain ⟨r1,f1⟩:=H2.out.1.row (p+1) γ;obtain ⟨r0,f0⟩:=H2.out.1.row p γ;have l1:=H2.out.2.1 (p+1) γ;have l0:=H2.out.2.1 p γ;have U:=H2.out.1.lt
     have G:Hid (Sort.insInner (ltF f) a (p+1) d2=if ltF f d2[p+1]! d2[p]! = true then Sort.insInner (ltF f) a p (Sort.swp d2 (p+1) p) else d2):=by
      have:Sort.insInner (ltF f) a (p+1) d2=if ltF f d2[p+1]! d2[p]! = true then Sort.insInner (ltF f) a p (Sort.swp d2 (p+1) p) else d2:=by
       rw [Sort.insInner];have:decide (p+1 > a)=true:=by simpa using h2
       rw [this,Bool.true_and]
      exact this
     obtain ⟨x,M⟩:∃ x,x=d2[p+1]!:=⟨_,rfl⟩;obtain ⟨y,O⟩:∃ y,y=d2[p]!:=⟨_,rfl⟩;rw [← M] at r1 l1 G;rw [← O] at r0 l0 G;have s:Hid (x=d2[p+1]! ∧ y=d2[p]!):=⟨M,O⟩;have F:Hid (∀ W:World,Bl wr W→Rt 67 #[P,I (x:Int),I (y:Int)] W (I (f x y))):=fun W hW=>HC.out W (H2.out.1.kept hW).gr x y l1 l0;obtain ⟨c,m⟩:∃ c,c=f x y:=⟨_,rfl⟩
     have r:Hid (ltF f x y=decide (c<0)):=by
      have:ltF f x y=decide (c<0):=by rw [m];rfl
      exact this
     rw [← m] at F;have j1:(a:Int)<(p:Int)+1:=γ;have e1:(p:Int)+1 - 1=(p:Int):=γ;have aa:IntKind.i64.wrap ((p:Int)+1 - 1)=(p:Int):=υ;have ab:IntKind.i64.wrap (p:Int)=(p:Int):=υ;have i2:(p:Int)+1<(n:Int):=γ;have i3:(p:Int)<(n:Int):=γ;have k2:(0:Int)≤(p:Int)+1:=γ;have k3:(0:Int)≤(p:Int):=γ;clear M O m l1 l0;by_cases q:c<0
     ·go_wp2;obtain ⟨D,E⟩:=kcn wr;refine wk ?_;repeat (go_big_quiet_step ((go_at_call 67;exact Qf (F.out _ (Kin.h _)))))
      refine kq1 (fun Q hq=>?_);clear D E;replace r1:=Qa hq r1;replace r0:=Qa hq r0;replace f1:=(hq.frozen U).trans f1;replace f0:=(hq.frozen U).trans f0;have zq:g<Q.heap.size:=Nl U hq.size;have HQ:=Hd (H2.out.1.kept hq);clear hq F;go_wp2;go_region
      all_goals
       go_wp2;go_roundg p
       case measure=>omega
       case rel =>
        have C:=HQ.out.swap (i:=p+1) (j:=p) γ γ γ;rw [← s.out.1,← s.out.2] at C;refine ⟨p,Sort.swp d2 (p+1) p,γ,rfl,σ,C.kept (Qg (Qe _)),Jv H2.out.2.1 γ γ,by rw [Sort.size_swp];exact H2.out.2.2.1, ?_⟩;rw [← H2.out.2.2.2,G.out,r.out,if_pos (by simpa using q)]
     ·go_wp2;obtain ⟨D,E⟩:=kcn wr;refine wk ?_;repeat (go_big_quiet_step ((go_at_call 67;exact Qf (F.out _ (Kin.h _)))))
      refine kq1 (fun Q hq=>?_);clear D E r1 r0 f1 f0
      have H:Hid (Sort.insInner (ltF f) a i d1=d2):=by
       have:Sort.insInner (ltF f) a i d1=d2:=by
        rw [← H2.out.2.2.2,G.out,r.out,if_neg (by simpa using q)]
       exact this
      go_wp2;go_roundg (b+1 - (i+1))
      case measure=>omega
      case rel=>exact ⟨i+1,d2,γ,γ,rfl,σ,H2.out.1.kept hq,H2.out.2.1,H2.out.2.2.1,by rw [← H.out];exact V.out⟩
    ·have j1:¬ (a:Int)<(j:Int):=γ
     have H:Hid (Sort.insInner (ltF f) a i d1=d2):=by
      have:Sort.insInner (ltF f) a i d1=d2:=by
       rw [← H2.out.2.2.2]
       cases j with
       | zero=>rfl
       | succ p =>
        rw [Sort.insInner];have:decide (p+1 > a)=false:=by simpa using h2
        rw [this,Bool.false_and,if_neg ξ]
      exact this
     go_wp2;obtain ⟨D,E⟩:=kcn wr;refine wk ?_;repeat (go_big_quiet_step (fail))
     refine kq1 (fun Q hq=>?_);clear D E;go_wp2;go_roundg (b+1 - (i+1))
     case measure=>omega
     case rel=>exact ⟨i+1,d2,γ,γ,rfl,σ,H2.out.1.kept hq,H2.out.2.1,H2.out.2.2.1,by rw [← H.out];exact V.out⟩
  ·have i1:¬ (i:Int)<(b:Int):=γ
   have HE:Hid (d1=T):=by
    have:d1=T:=by
     rw [← l.out.2.2.2,Sort.insOuter,if_neg h1]
    exact this
   go_wp2;go_end0
   exact ⟨rfl,HE.out ▸ l.out.1⟩
theorem facesCl_any (w:World) (a n j o g:Nat) (i:Option Addr) (kd:E4→Int) (q b c d f s:Int) (k:KL w g kd) (r:At w a 0 (.slice i n j)) (t:At w a 1 (.map (some o))) (u:At w a 2 (.map (some g))) :
  Rt 47 #[I q,.agg #[I b,I c,I d,I f,I s],.pointer (Az a)] w (.bool (decide (kd (b,c,d,f)=0))):=by
 have h:=Hd (fun (W':World) hW'=>kind_any W' i n j o g kd b c d f (k.kept hW'));have y:=Bt r;clear k;obtain ⟨z,m⟩:∃ z,z=kd (b,c,d,f):=⟨_,rfl⟩;rw [← m] at h ⊢;clear m;go_enter Tryz.func47,Tryz.ntmps47;go_wp2_with (go_at_call 48;refine (h.out _ Θ).mono ?_;rintro e x ⟨rfl,l⟩;have p:=Hd (Qc β1 l);clear l)
 exact bodyPost_ret (v:=.bool (decide (z=0))) (by simp [results,Tryz.results47,go_sem];rw [Bool.eq_iff_iff];simp) rfl ⟨rfl,p.out⟩
theorem pfaces_any (w:World) (i f h:Nat) (d:Option Addr) (L:List T3) (kd:E4→Int) (hs:Steps w) (j:PA w d f L) (o:KL w h kd) (u:L.length≤300) (m:L.Nodup) (l:∀ t∈L,(0≤t.1∧t.1≤8)∧(0≤t.2.1∧t.2.1≤8)∧(0≤t.2.2∧t.2.2≤3)) :
  Cl 19 #[.agg #[.slice d L.length i,.map (some f),.map (some h)]] w fun e w'=>∃ g a,e=.returned (.slice (Az g) L.length L.length)∧ZRow w' g L.length a∧PartsOk (fun e=>decide (kd e=0)) L a∧w.heap.size≤g∧Bl w w':=by
 have r:Hid (∀ b:World,Bl w b→At b w.heap.size 0 (.slice d L.length i)→At b w.heap.size 1 (.map (some f))→At b w.heap.size 2 (.map (some h))→Cl 46 #[.agg #[.slice d L.length i,.map (some f),.map (some h)],.func (.func 47) #[] #[.pointer (Az w.heap.size)]] b fun e w'=>∃ g a,e=.returned (.slice (Az g) L.length L.length)∧ZRow w' g L.length a∧PartsOk (fun e=>decide (kd e=0)) L a∧b.heap.size≤g∧Bl b w'):=fun b c x y z =>
  parts_faces b i f h d L w.heap.size _ (hs.kept c) (j.kept c) u m l (fun v A B C D E s h2=>facesCl_any s w.heap.size L.length i f h d kd v A B C D E (o.kept (Qc c h2)) (Qa h2 x) (Qa h2 y) (Qa h2 z))
 clear hs j o m l;go_enter Tryz.func19,Tryz.ntmps19;go_wp2_with (go_at_call 46;refine (r.out _ Θ δ δ δ).mono ?_;rintro e w1 ⟨g,a,rfl,p,k,hg,q⟩;have n:Hid (ZRow w1 g L.length a∧PartsOk (fun e=>decide (kd e=0)) L a∧w.heap.size≤g∧Bl w w1):=⟨p,k,Nt ξ hg,Qc β1 q⟩;clear p k hg q)
 go_ret;exact ⟨g,a,rfl,n.out.1,n.out.2.1,n.out.2.2.1,n.out.2.2.2⟩
theorem placesOf_any (w:World) (z x y:Nat) (o:Option Addr) (L:List T3) (kd:E4→Int) (hs:Steps w) (cf:PA w o x L) (hK:KL w y kd) (hJ:Joined L) (hL:L.length≤300) (cp:L.Nodup) (ac:∀ t∈L,(0≤t.1∧t.1≤8)∧(0≤t.2.1∧t.2.1≤8)∧(0≤t.2.2∧t.2.2≤3)) :
  Cl 94 #[.agg #[.slice o L.length z,.map (some x),.map (some y)]] w fun e w'=>Bl w w'∧((∃ M,Cons kd L M∧e=.returned (.tuple #[.slice (Az (w.heap.size+1)) L.length L.length,I 0])∧MRow w' (w.heap.size+1) L.length M)∨((¬ ∃ N,Cons kd L N)∧e=.returned (.tuple #[SN,I 8]))):=by
 have cz:Hid (∀ (d:World) (i:Nat) (hi:i<L.length),Bl w d→Cl 102 #[.agg #[.slice o L.length z,.map (some x),.map (some y)],I (i:Int)] d fun e w'=>∃ v,e=.returned v∧w'.ownsRow (d.heap.size+1) 105 5 v (jl L L[i] i 3).length (flatJ (jl L L[i] i 3))∧Bl d w'):=fun d i hi G=>Uv d z x y i o L L[i].1 L[i].2.1 L[i].2.2 (hs.kept G) (cf.kept G) hi rfl hL (ac _ (Lm hi))
 have cx:Hid (∀ (d:World) (i:Nat) (hi:i<L.length) (p q r s A B C D E F:Int),Bl w d→hasT L[i] (p,q,r,s)=true→GoodM (A,B,C,D,E,F) 800000→Rt 132 #[.agg #[.slice o L.length z,.map (some x),.map (some y)],.agg #[I p,I q,I r,I s],.agg #[I A,I B,I C,I D,I E,I F]] d (mv (farM kd (p,q,r,s) (A,B,C,D,E,F)))):=fun d i hi p q r s A B C D E F G hh hm =>
  beyond_any d o L.length z x y kd p q r s A B C D E F (hK.kept G) (Qbq hh (ac _ (Lm hi))).1 (Qbq hh (ac _ (Lm hi))).2.1 (Vu hh (ac _ (Lm hi))) hm
 have af:Hid (L.Nodup∧Joined L∧∀ t∈L,(0≤t.1∧t.1≤8)∧(0≤t.2.1∧t.2.1≤8)∧(0≤t.2.2∧t.2.2≤3)):=⟨cp,hJ,ac⟩;have h0:0<L.length:=hJ.1;clear hJ;obtain ⟨i3,ci,az,b6,b7⟩:=info_parts inf3;have HI:=H4 ci az b6 b7;obtain ⟨i6,cj,b8,b9,ba⟩:=info_parts inf59;have ao:=H4 cj b8 b9 ba;have eo:(0:Int)<(L.length:Int):=γ;have he:=eqlM;have hn:=neqM;clear hs cf hK cp ac ci az b6 b7 cj b8 b9 ba;go_enter Tryz.func94,Tryz.ntmps94;go_wp2_with (at_make;refine wpList_make_full _ rfl (.tmp 13) (.tmp 13) 26 rfl (w.heap.size+1) 114 i6 (.agg #[I 0,I 0,I 0,I 0,I 0,I 0]) 6 Tryz.underlying26 ao.out.1 ao.out.2.1 ao.out.2.2.1 .i64 .i64 _ _ L.length rfl rfl rfl rfl ?b2 ?b3 ?b4 ?mk)
 case b2 =>
  rw [ao.out.2.2.2];omega
 case b3 =>
  unfold maxLen;omega
 case b4=>simp
 case mk =>
  intro w2 ho hg;have a8:=maps_made ho;have dg:w.heap.size+1<w2.heap.size:=bk (a8 0 h0).1.1
  have cg:Bl w w2:=by
   have:Below (w.alloc (.cells #[.slice o L.length z,.map (some x),.map (some y)] 59)).heap.size (w.alloc (.cells #[.slice o L.length z,.map (some x),.map (some y)] 59)) w2:=(Below.refl _ _).grown hg (Nr _) (fun k h=>by cases h);exact Qc β1 this
  have cr:PB w2 w.heap.size o L.length z x y:=by
   have h3:PB (w.alloc (.cells #[.slice o L.length z,.map (some x),.map (some y)] 59)) w.heap.size o L.length z x y:=by simp [PB,go_sem]
   exact ⟨hg.cell h3.1 ξ,hg.cell h3.2.1 ξ,hg.cell h3.2.2 ξ⟩
  have V:=H3 a8 cg cr;obtain ⟨⟨a0,a1,a2,a3,a4,a5⟩,b0,b1,b2,b3,b4,b5⟩:=a8 0 h0;simp only [Nat.zero_mul,Nat.zero_add,noM] at a0 a1 a2 a3 a4 a5 b0 b1 b2 b3 b4 b5;obtain ⟨p0,p1,p2⟩:=cr;clear ho hg a8 cg;have cn:w.heap.size<w2.heap.size:=γ;have co:w.heap.size<w2.heap.size+1:=γ;go_wp2;go_loopg [5,22] L.length (fun gk s5 ds wx=>∃ (n:Nat) (R:List Nat) (M:Nat→M6),n≤L.length∧gk=L.length - n∧ds=I (n:Int)∧MI kd L R M∧(∀ q,q ∉ R→M q=noM)∧(n≤R.length∧∀ m (hm:m<R.length),m<n→EdN kd L R M R[m] 3)∧PlM w wx o L.length z x y M R s5)
  case atStart =>
   refine ⟨0,[0],fun q=>if q=0 then idM else noM,γ,rfl,rfl,MI.start h0 ξ,fun q hq=>by simp at hq;simp [hq],⟨ξ,fun m _ h=>by omega⟩, ?_⟩;have aj:=set6_grown w2 (w.heap.size+1) 0 idM;have el:=aj.size;refine ⟨(V.out.1.set6 h0 idM).kept β1, ?_, ?_, ?_, ?_⟩
   ·have:=owns_one (set6 w2 (w.heap.size+1) 0 idM) (w.heap.size+1+1) (I 0) γ;simpa [rowN,set6,idM] using this
   ·exact Qb (V.out.2.1.grown aj V.out.2.1.size (fun k hk=>by simp at hk;omega))
   ·have h3:PB (set6 w2 (w.heap.size+1) 0 idM) w.heap.size o L.length z x y:=⟨aj.cell V.out.2.2.1 ξ,aj.cell V.out.2.2.2.1 ξ,aj.cell V.out.2.2.2.2 ξ⟩;exact h3.kept β1
   ·simp;omega
  case round =>
   clear V a0 a1 a2 a3 a4 a5 b0 b1 b2 b3 b4 b5 p0 p1 p2 dg cn co;obtain ⟨n,R,M,hn,rfl,rfl,hI,ae,hE,hM⟩:=hrel;obtain ⟨vA,dm⟩:∃ u,u=u5:=⟨_,rfl⟩;subst dm;have dc:0<R.length:=List.length_pos_of_mem hI.1;obtain ⟨rb,rc,rfl,dk,bj⟩:=hM.slice dc;have eh:=hI.len;have HM:=Hd hM;have ag:=H3 hI ae hE;obtain ⟨p0,p1,p2⟩:=hM.2.2.2.1;have zp:=Bt p0;by_cases h1:n<L.length
   ·have bi:n<R.length:=by
     rcases Nat.lt_or_ge n R.length with h | h
     ·exact h
     ·exfalso
      have ha:=(MI.cons af.out.2.1 af.out.1 hI (fun i hi=>by
       obtain ⟨m,hm,e⟩:=List.getElem_of_mem hi;subst e;exact hE.2 m hm γ)).1
      have:=len_of_all L.length R ha;omega
    have bm:=bj n bi;have zr:=Bt bm;have be:R[n]∈R:=Lm bi;obtain ⟨hi,ak⟩:=hI.2.2.2.1 R[n] be;obtain ⟨i,ar⟩:∃ i,i=R[n]:=⟨_,rfl⟩;rw [← ar] at bm hi;have cy:=Hd ar;have bb:Hid (i∈R):=by rw [ar];exact be
    clear hI ae hE hM bj ar be ak;have n1:(n:Int)<(L.length:Int):=γ;have i1:(n:Int)<(R.length:Int):=γ;have i0:(0:Int)≤(n:Int):=γ;have k1:(i:Int)<(L.length:Int):=γ;have k0:(0:Int)≤(i:Int):=γ;obtain ⟨J,hJ⟩:∃ J,J=jl L L[i] i 3:=⟨_,rfl⟩
    have eg:J.length≤900:=by
     have:=jl_len L L[i] i 3;rw [hJ];omega
    have CJ:Hid (∀ d:World,Bl wr d→Cl 102 #[.agg #[.slice o L.length z,.map (some x),.map (some y)],I (i:Int)] d fun e w'=>∃ v,e=.returned v∧w'.ownsRow (d.heap.size+1) 105 5 v J.length (flatJ J)∧Bl d w'):=fun d G=>by
     rw [hJ];exact cz.out d i hi (Qc HM.out.2.2.1 G)
    have HJ:=Hd hJ;clear hJ;go_wp2_with (go_at_call 102;refine (CJ.out _ (by with_reducible exact Qe _)).mono ?_;rintro e T ⟨v8,rfl,H,c⟩;obtain ⟨ja,jc,rfl,am⟩:=own_jw H;have bc:Hid (JW T (w.heap.size+1+1) ja J∧PlM w T o L.length z x y M R (.slice (Az rb) R.length rc)):=⟨am.mono (by have:=HM.out.2.2.2.2;omega),HM.out.kept c⟩;clear H am c)
    go_loopg [5,33] J.length (fun gk s5 dt wx=>∃ (m:Nat) (Y:List Nat) (O:Nat→M6),m≤J.length∧gk=J.length - m∧dt=I (m:Int)∧MI kd L (R ++ Y) O∧(∀ q,q ∉ R ++ Y→O q=noM)∧(∀ q∈R,O q=M q)∧(∀ K (h:K<J.length),K<m→∀ j:Nat,J[K].2=(j:Int)→j∈R ++ Y∧O j=farM kd J[K].1 (O i))∧PlM w wx o L.length z x y O (R ++ Y) s5∧JW wx (w.heap.size+1+1) ja J)
    case atStart=>exact ⟨0,[],M,γ,rfl,rfl,by simpa using ag.out.1,by simpa using ag.out.2.1,fun q _=>rfl,fun K _ h=>by omega,by simpa using bc.out.2,bc.out.1⟩
    case round =>
     clear HM bc CJ p0 p1 p2 zp zr bm dk;obtain ⟨m,Y,O,hm,rfl,rfl,hI,ae,an,hE,hM,am⟩:=hrel;obtain ⟨vC,dn⟩:∃ u,u=u5:=⟨_,rfl⟩;subst dn;have a:=H4 hI ae an hE;have HM:=Hd hM;have HR:=Hd am;clear hI ae an hE hM am;obtain ⟨p0,p1,p2⟩:=HM.out.2.2.2.1;have zp:=Bt p0;have dz:w.heap.size<wr.heap.size+1:=γ;by_cases hm1:m<J.length
     ·have im:(m:Int)<(J.length:Int):=γ;have ep:(0:Int)≤(m:Int):=γ;obtain ⟨jb,rfl,c0,c1,c2,c3,c4⟩:=HR.out.1 m hm1;have dy:=Bt c0;obtain ⟨q,hq⟩:∃ q,q=J[m]:=⟨_,rfl⟩;obtain ⟨⟨q0,q1,q2,q3⟩,qj⟩:=q;rw [← hq] at c0 c1 c2 c3 c4;dsimp only at c0 c1 c2 c3 c4;have HQ:=Hd hq;have a7:((q0,q1,q2,q3),qj)∈jl L L[i] i 3:=by rw [← HJ.out,hq];exact Lm hm1
      obtain ⟨k,hk,cm,j,hj,rfl,cl,au⟩:=Yz.1 a7;have bf:hasT L[i] (q0,q1,q2,q3)=true:=by rw [cm];exact Jc _ _
      have aa:=H3 cl bf au;have ak:=((a.out.1.2.2.2.1 i (List.mem_append_left _ bb.out)).2).mono (C:=800000) (by have:=a.out.1.len;omega);obtain ⟨⟨y0,y1,y2,y3,y4,y5⟩,_⟩:=HM.out.1 i hi;obtain ⟨A,B,C,D,E,F,aw⟩:∃ A B C D E F,O i=(A,B,C,D,E,F):=⟨_,_,_,_,_,_,rfl⟩;have ef:=Hd aw;rw [aw] at y0 y1 y2 y3 y4 y5 ak;dsimp only at y0 y1 y2 y3 y4 y5;obtain ⟨f0,f1,f2,f3,f4,f5,ah⟩:∃ f0 f1 f2 f3 f4 f5,farM kd (q0,q1,q2,q3) (A,B,C,D,E,F)=(f0,f1,f2,f3,f4,f5):=⟨_,_,_,_,_,_,rfl⟩;have a6:Hid (farM kd (q0,q1,q2,q3) (O i)=(f0,f1,f2,f3,f4,f5)):=by rw [aw];exact ah
      have CB:Hid (∀ d:World,Bl wr d→Rt 132 #[.agg #[.slice o L.length z,.map (some x),.map (some y)],.agg #[I q0,I q1,I q2,I q3],.agg #[I A,I B,I C,I D,I E,I F]] d (.agg #[I f0,I f1,I f2,I f3,I f4,I f5])):=fun d G=>by
       have h:=cx.out d i hi q0 q1 q2 q3 A B C D E F (Qc HM.out.2.2.1 G) bf ak;rw [ah] at h;exact h
      have zg:=Bt y0;have dx:w.heap.size+1<wr.heap.size+1:=γ;have ij:(j:Int)<(L.length:Int):=γ;have en:(0:Int)≤(j:Int):=γ;clear a7 cm au hq cl bf ak aw ah;go_wp2;refine Qi (fun l hW0=>?_)
      have f:Hid (Bl wr l):=by
       have:Bl wr l:=γ4;exact this
      obtain ⟨U,W⟩:∃ b,b=wr.heap.size:=⟨_,rfl⟩;have x0:At l U 0 (I q0):=by rw [hW0,W];simp [go_sem]
      have x1:At l U 1 (I q1):=by rw [hW0,W];simp [go_sem]
      have x2:At l U 2 (I q2):=by rw [hW0,W];simp [go_sem]
      have x3:At l U 3 (I q3):=by rw [hW0,W];simp [go_sem]
      have x4:At l U 4 (I (j:Int)):=by rw [hW0,W];simp [go_sem]
      clear hW0;rw [← W];have zB:w.heap.size+1<U:=γ;clear W;replace p0:At l w.heap.size 0 (.slice o L.length z):=Qa f.out p0;replace p1:At l w.heap.size 1 (.map (some x)):=Qa f.out p1;replace p2:At l w.heap.size 2 (.map (some y)):=Qa f.out p2;replace y0:At l (w.heap.size+1) (i*6) (I A):=Qa f.out y0;replace y1:At l (w.heap.size+1) (i*6+1) (I B):=Qa f.out y1;replace y2:At l (w.heap.size+1) (i*6+2) (I C):=Qa f.out y2;replace y3:At l (w.heap.size+1) (i*6+3) (I D):=Qa f.out y3;replace y4:At l (w.heap.size+1) (i*6+4) (I E):=Qa f.out y4;replace y5:At l (w.heap.size+1) (i*6+5) (I F):=Qa f.out y5;have zW:=Bt p0;have dv:=Bt y0;have dw:=Bt x0;have bn:Hid (∀ d:World,Bl l d→Rt 132 #[.agg #[.slice o L.length z,.map (some x),.map (some y)],.agg #[I q0,I q1,I q2,I q3],.agg #[I A,I B,I C,I D,I E,I F]] d (.agg #[I f0,I f1,I f2,I f3,I f4,I f5])):=fun d G=>CB.out d (Qc f.out G);go_cut [10] (fun dp wx=>∃ ab:Nat,dp=.pointer (Az ab)∧M1 wx ab f0 f1 f2 f3 f4 f5∧Bl l wx∧l.heap.size≤ab)
      case first =>
       go_region_held3 (fun w'=>At w' w.heap.size 0 (.slice o L.length z)∧At w' w.heap.size 1 (.map (some x))∧At w' w.heap.size 2 (.map (some y))∧At w' U 0 (I q0)∧At w' U 1 (I q1)∧At w' U 2 (I q2)∧At w' U 3 (I q3)∧At w' (w.heap.size+1) (i*6) (I A)∧At w' (w.heap.size+1) (i*6+1) (I B)∧At w' (w.heap.size+1) (i*6+2) (I C)∧At w' (w.heap.size+1) (i*6+3) (I D)∧At w' (w.heap.size+1) (i*6+4) (I E)∧At w' (w.heap.size+1) (i*6+5) (I F))
        ((refine ⟨?_, ?_, ?_, ?_, ?_, ?_, ?_, ?_, ?_, ?_, ?_, ?_, ?_⟩ <;> (repeat' (first | (with_reducible assumption) | (with_reducible refine Xh ?_ ?_) | (dsimp only;omega) | (simp [go_sem];done) | (with_reducible refine Qk ?_) | (with_reducible refine Qq ?_)))))
        ((go_at_call 132;refine (bn.out _ γ1).mono ?_;rintro e T ⟨rfl,c⟩;have ct:At T w.heap.size 0 (.slice o L.length z):=Qa c ζ;have e5:At T w.heap.size 1 (.map (some x)):=Qa c ζ;have e6:At T w.heap.size 2 (.map (some y)):=Qa c ζ;have cu:At T U 0 (I q0):=Qa c ζ;have e7:At T U 1 (I q1):=Qa c ζ;have e8:At T U 2 (I q2):=Qa c ζ;have e9:At T U 3 (I q3):=Qa c ζ;have cv:At T (w.heap.size+1) (i*6) (I A):=Qa c ζ;have ea:At T (w.heap.size+1) (i*6+1) (I B):=Qa c ζ;have eb:At T (w.heap.size+1) (i*6+2) (I C):=Qa c ζ;have ec:At T (w.heap.size+1) (i*6+3) (I D):=Qa c ζ;have ed:At T (w.heap.size+1) (i*6+4) (I E):=Qa c ζ;have ee:At T (w.heap.size+1) (i*6+5) (I F):=Qa c ζ;(first | (have ai:=fresh6_a (g:=l.heap.size) rfl c;obtain ⟨⟨bp,bq,br,bs,bt,bu⟩,⟨bv,bw,bz,ca,cb,cd⟩,ce⟩:=ai) | (have ai:=fresh6_d (g:=l.heap.size) rfl c;obtain ⟨⟨bp,bq,br,bs,bt,bu⟩,⟨bv,bw,bz,ca,cb,cd⟩,ce⟩:=ai) | (have ai:=fresh6_dd (g:=l.heap.size) rfl c;obtain ⟨⟨bp,bq,br,bs,bt,bu⟩,⟨bv,bw,bz,ca,cb,cd⟩,ce⟩:=ai) | skip);have hq:Bl l T:=(by with_reducible (first | exact c | exact Jb c | exact Jb (Jb c) | exact Qc β1 c | exact Qc (Qg β1) c | exact Qc (Qb (Qg (Qe _))) c | exact Qc (Qg (Qb (Qg (Qe _)))) c | exact Qc (Qg (Qg β1)) c | exact Qc (Qb (Qg (Qg (Qe _)))) c));have d8:=Hd hq;have et:=Bt ct;have eu:=Bt cv;have ew:=Bt cu;have ex:=hq.size;clear c hq))
       all_goals
        go_wp2;go_meet
        case rel =>
         refine ⟨_,rfl, ?_, ?_, ?_⟩
         ·first | (simp [M1,go_sem];done) | (simp [M1,go_sem, *];done)
         ·with_reducible repeat' (first | exact d8.out | refine Qh ?_ ?_ | refine Qb ?_ | refine Qg ?_)
          all_goals (first | omega | (dsimp only;omega) | (simp;done))
         ·first | exact Nr _ | omega | (simp;omega)
      case rest =>
       obtain ⟨ab,rfl,db,aq,ch⟩:=hcut;have Q:=Hd (HM.out.kept (Qc f.out aq));have ap:=Hd (HR.out.kept (Qc f.out aq));have du:=Qa aq x4;obtain ⟨g0,g1,g2,g3,g4,g5⟩:=db;have z10:=Bt g0;have er:=Bt du;obtain ⟨⟨v0,v1,v2,v3,v4,v5⟩,b0,b1,b2,b3,b4,b5⟩:=Q.out.1 j hj;have es:=Bt v0;have e4:w.heap.size+1≠U:=γ;have di:w.heap.size+1≠ab:=γ;have dj:U≠w.heap.size+1:=γ;have cw:ab≠w.heap.size+1:=γ;clear f CB bn aq HM HR p0 p1 p2 x0 x1 x2 x3 x4 y0 y1 y2 y3 y4 y5 c0 c1 c2 c3 c4 zp dz dy zg dx zW dv dw ch zB
       have bo:Hid (∀ K (h:K<J.length),K=m→J[K]=((q0,q1,q2,q3),(j:Int))):=fun K h e=>by
        subst e;exact HQ.out.symm
       by_cases hjm:j∈R ++ Y
       ·obtain ⟨a0,a1,a2,a3,a4,a5,P⟩:∃ a0 a1 a2 a3 a4 a5,O j=(a0,a1,a2,a3,a4,a5):=⟨_,_,_,_,_,_,rfl⟩;rw [P] at v0 v1 v2 v3 v4 v5;dsimp only at v0 v1 v2 v3 v4 v5
        have hz:sameM a0 a1 a2 a3 a4 a5 0 0 0 0 0 0=false:=by
         cases hc:sameM a0 a1 a2 a3 a4 a5 0 0 0 0 0 0 with
         | false=>rfl
         | true =>
          exfalso
          simp only [sameM,decide_eq_true_eq] at hc;obtain ⟨rfl,rfl,rfl,rfl,rfl,rfl⟩:=hc;have h9:=(a.out.1.2.2.2.1 j hjm).2.1;rw [P] at h9;exact absurd h9 ψ
        by_cases heq:(a0,a1,a2,a3,a4,a5)=(f0,f1,f2,f3,f4,f5)
        ·have dl:sameM a0 a1 a2 a3 a4 a5 f0 f1 f2 f3 f4 f5=true:=by
          simp only [Prod.mk.injEq] at heq;simp only [sameM,decide_eq_true_eq];exact heq
         have d7:Hid (j∈R ++ Y∧O j=farM kd (q0,q1,q2,q3) (O i)):=⟨hjm,by rw [P,heq];exact a6.out.symm⟩;clear heq P;go_wp2;go_quiet (fail)
         go_wp2;go_roundg (J.length - (m+1))
         case measure=>omega
         case rel =>
          refine ⟨m+1,Y,O,γ,rfl,σ,a.out.1,a.out.2.1,a.out.2.2.1,fun K h' av j' Z=>?_,Q.out.kept (Qr (Qe _)),ap.out.kept (Qr (Qe _))⟩;by_cases em:K=m
          ·rw [bo.out K h' em] at Z ⊢;simp only at Z;have:j'=j:=γ;subst this;exact d7.out
          ·exact a.out.2.2.2 K h' γ j' Z
        ·have dl:sameM a0 a1 a2 a3 a4 a5 f0 f1 f2 f3 f4 f5=false:=by
          simp only [Prod.mk.injEq] at heq;simp only [sameM,decide_eq_false_iff_not];exact heq
         have da:Hid (¬ ∃ N,Cons kd L N):=a.out.1.tear (i:=i) (j:=j) (List.mem_append_left _ bb.out) hjm (fun e=>aa.out.1 e.symm) (e:=(q0,q1,q2,q3)) (fun _=>aa.out.2.1) (fun _=>aa.out.2.2) (by rw [a6.out,P];exact heq);clear heq P;go_wp2;go_quiet (fail)
         go_wp2;exact bodyPost_ret (v:=.tuple #[SN,I 8]) (by simp [results,Tryz.results94,go_sem]) rfl ⟨Qr Q.out.2.2.1,Or.inr ⟨da.out,rfl⟩⟩
       ·have P:O j=noM:=a.out.2.1 j hjm;rw [P] at v0 v1 v2 v3 v4 v5;simp only [noM] at v0 v1 v2 v3 v4 v5;have hz:sameM 0 0 0 0 0 0 0 0 0 0 0 0=true:=ψ
        have HF:Hid (MI kd L (R ++ (Y ++ [j])) (fun q=>if q=j then (f0,f1,f2,f3,f4,f5) else O q)):=by
         have h9:=a.out.1.found hL af.out.2.2 (i:=i) (j:=j) (List.mem_append_left _ bb.out) hj hjm (e:=(q0,q1,q2,q3)) (fun _=>aa.out.2.1) aa.out.2.2;rw [a6.out,List.append_assoc] at h9;exact h9
        have ax:(R ++ Y).length+1≤1000:=by
         have:=a.out.1.len;omega
        have dd:=Q.out.2.2.2.2;clear P;go_wp2_with (at_builtin;refine wpList_append_own _ rfl (.tmp 57) (.tmp 60) 22 rfl (w.heap.size+1+1) 3 i3 (I 0) 1 8 Tryz.underlying22 HI.out.1 HI.out.2.1 HI.out.2.2.1 HI.out.2.2.2 rfl ψ vC (R ++ Y).length (rowN (R ++ Y)) rfl ?own ⟨wc.heap.size,0,none⟩ 1 1 [I (j:Int)] rfl rfl ?c1 ?c2 ?b1 ?b2 ?b3 ?grow)
        case own =>
         try rw [← List.length_append]
         exact (Q.out.2.1.kept (set6_grown wc (w.heap.size+1) j (f0,f1,f2,f3,f4,f5)) (by
          cases hu:vC.ownBlock with
          | none=>exact Or.inl rfl
          | some q =>
           refine Or.inr (fun e1=>?_);have:=(Q.out.2.1.lt q hu).1;simp at e1;omega)).alloc _
        case c1=>exact Yd _ δ
        case c2=>exact Xx _
        case b1 =>
         unfold maxLen;first | omega | (rw [List.length_append] at ax;omega)
        case b2=>first | omega | (rw [List.length_append] at ax;omega)
        case b3 =>
         simp;omega
        case grow =>
         intro v' w3 H X _;rw [← List.length_append] at H
         have d6:Hid (PlM w w3 o L.length z x y (fun q=>if q=j then (f0,f1,f2,f3,f4,f5) else O q) (R ++ (Y ++ [j])) v'):=by
          have:=Q.out.more (m:=(f0,f1,f2,f3,f4,f5)) hj β1 X H;rwa [List.append_assoc] at this
         have d9:Hid (JW w3 (w.heap.size+1+1) (Az jb) J):=by
          have h0:=ap.out.grown (set6_grown wc (w.heap.size+1) j (f0,f1,f2,f3,f4,f5)) (fun g' de e1=>by
           have h2:=(ap.out.2 g' e1).1;simp at de;omega)
          have h1:JW w3 (w.heap.size+1+1) (Az jb) J:=(h0.kept β1).grown X (ap.out.not_row Q.out.2.1);exact h1
         clear H X;go_wp2;go_roundg (J.length - (m+1))
         case measure=>omega
         case rel =>
          have ay:∀ q∈R ++ Y,q∈R ++ (Y ++ [j]):=fun q hq=>by
           rw [← List.append_assoc];exact List.mem_append_left _ hq
          have df:i≠j:=fun e=>aa.out.1 e.symm;refine ⟨m+1,Y ++ [j],(fun q=>if q=j then (f0,f1,f2,f3,f4,f5) else O q),γ,rfl,σ,HF.out,fun q hq=>?_,fun q hq=>?_,fun K h' av j' Z=>?_,d6.out,d9.out⟩
          ·have h8:q ∉ R ++ Y:=fun h=>hq (ay q h);have h7:q≠j:=fun e=>hq (by subst e;simp);simp only [if_neg h7];exact a.out.2.1 q h8
          ·have h7:q≠j:=fun e=>hjm (by subst e;exact List.mem_append_left _ hq);simp only [if_neg h7];exact a.out.2.2.1 q hq
          ·simp only [if_neg df];by_cases em:K=m
           ·rw [bo.out K h' em] at Z ⊢;simp only at Z;have:j'=j:=γ;subst this;simp only [if_true];exact ⟨ξ,a6.out.symm⟩
           ·have h6:=a.out.2.2.2 K h' γ j' Z;have h7:j'≠j:=fun e=>hjm (by subst e;exact h6.1);simp only [if_neg h7];exact ⟨ay j' h6.1,h6.2⟩
     ·have im:¬ (m:Int)<(J.length:Int):=γ;obtain rfl:m=J.length:=γ;go_wp2;go_roundg (L.length - (n+1))
      case measure=>omega
      case rel =>
       have bh:∀ q∈R,q∈R ++ Y∧O q=M q:=fun q hq=>⟨List.mem_append_left _ hq,a.out.2.2.1 q hq⟩;refine ⟨n+1,R ++ Y,O,γ,γ,σ,a.out.1,a.out.2.1,⟨by rw [List.length_append];omega,fun m hm ej=>?_⟩,HM.out⟩;by_cases em:m=n
       ·subst em;have e1:(R ++ Y)[m]=i:=by rw [List.getElem_append_left bi];exact cy.out.symm
        rw [e1];intro k hk ei j hj dh au;have a7:(edg L[i] k,(j:Int))∈J:=by rw [HJ.out];exact Yz.2 ⟨k,hk,rfl,j,hj,rfl,fun e=>dh e.symm,au⟩
        obtain ⟨K,av,e2⟩:=List.getElem_of_mem a7;have h9:=a.out.2.2.2 K av av j (by rw [e2]);rw [e2] at h9;exact h9
       ·have bg:m<R.length:=γ;have e1:(R ++ Y)[m]=R[m]:=List.getElem_append_left bg;rw [e1];exact (ag.out.2.2.2 m bg γ).mono (Lm bg) bh
   ·have n1:¬ (n:Int)<(L.length:Int):=γ;obtain rfl:n=L.length:=γ;clear hI ae hE hM bj;go_wp2;refine bodyPost_ret (v:=.tuple #[.slice (Az (w.heap.size+1)) L.length L.length,I 0]) (by simp [results,Tryz.results94,go_sem]) rfl ⟨HM.out.2.2.1,Or.inl ⟨M, ?_,rfl,HM.out.1⟩⟩
    exact (MI.cons af.out.2.1 af.out.1 ag.out.1 (fun i hi=>by
     obtain ⟨m,hm,e⟩:=List.getElem_of_mem hi;subst e;exact ag.out.2.2.2 m hm γ)).2
end Go.Proofs.YtjkjpopghkeibaaGreatDoor
