/- A part of it. -/
import Derived.Test.YtbjmnlefkbhbdaaGreatDoorQlak
import Derived.Test.YtbjmnlefkbhbdaaGreatDoorQlaj
set_option maxRecDepth 100000
set_option maxHeartbeats 40000000
namespace Go.Proofs.YtbjmnlefkbhbdaaGreatDoor
open Go.RowKit Go.ChangeMaps
variable {a w w':World} {v:Value} {b base g i j n o s:Nat} {d:Array Nat} {M:Nat→M6} {zs:List Int}
def bynd (kd:E4→Int) (e:E4) (m:M6):M6:=if kd e=0 then m else bif mapM (aft (mir (lnW e) (lnC e)) m) then aft (mir (lnW e) (lnC e)) m else noM
theorem bynd_iff {kd:E4→Int} {e:E4} {m n:M6} (a:mapM n=true):n=bynd kd e m↔n=farM kd e m:=by
 unfold bynd farM;split
 ·exact Iff.rfl
 ·cases h:mapM (aft (mir (lnW e) (lnC e)) m)
  ·constructor
   ·intro q;rw [q] at a;simp [noM_not] at a
   ·intro q;rw [q,h] at a;exact absurd a τ
  ·exact Iff.rfl
theorem beyond_gen (w:World) (J:Option Addr) (n K M H:Nat) (kd:E4→Int) (p q r s A B C D E F:Int) (N:KL w H kd) (h1:0≤p∧p≤100) (h2:0≤q∧q≤100) (hl:lineB (lnW (p,q,r,s)) (lnC (p,q,r,s))=true∧-40≤lnC (p,q,r,s)∧lnC (p,q,r,s)≤40) (P:mapM (A,B,C,D,E,F)=true) :
  Rt 131 #[.agg #[.slice J n K,.map (some M),.map (some H)],.agg #[I p,I q,I r,I s],.agg #[I A,I B,I C,I D,I E,I F]] w (mv (bynd kd (p,q,r,s) (A,B,C,D,E,F))):=by
 have k:=Gp hl.1 hl.2;by_cases hz:kd (p,q,r,s)=0
 ·have Y:Hid (∀ j:World,Bl w j→Rt 104 #[.agg #[.slice J n K,.map (some M),.map (some H)],.agg #[I p,I q,I r,I s]] j (I 0)):=fun j x=>hz ▸ Yj j J n K M H kd p q r s (N.kept x)
  have HF:Hid (bynd kd (p,q,r,s) (A,B,C,D,E,F)=(A,B,C,D,E,F)):=by
   have:bynd kd (p,q,r,s) (A,B,C,D,E,F)=(A,B,C,D,E,F):=by simp [bynd,hz]
   exact this
  clear N hl P k h1 h2 hz;go_enter Tryz.func131,Tryz.ntmps131;go_wp2_with (go_at_call 104;refine (Y.out _ γ9).mono ?_;rintro e i ⟨rfl,hb⟩;have Z:=Hd (Qb β4 hb);have m0:At i (w.heap.size+1+1) 0 (I A):=Qa hb ζ;have m1:At i (w.heap.size+1+1) 1 (I B):=Qa hb ζ;have m2:At i (w.heap.size+1+1) 2 (I C):=Qa hb ζ;have m3:At i (w.heap.size+1+1) 3 (I D):=Qa hb ζ;have m4:At i (w.heap.size+1+1) 4 (I E):=Qa hb ζ;have m5:At i (w.heap.size+1+1) 5 (I F):=Qa hb ζ;have r0:At i (w.heap.size+1+1+1) 0 (I 0):=Qa hb ζ;have r1:At i (w.heap.size+1+1+1) 1 (I 0):=Qa hb ζ;have r2:At i (w.heap.size+1+1+1) 2 (I 0):=Qa hb ζ;have r3:At i (w.heap.size+1+1+1) 3 (I 0):=Qa hb ζ;have r4:At i (w.heap.size+1+1+1) 4 (I 0):=Qa hb ζ;have r5:At i (w.heap.size+1+1+1) 5 (I 0):=Qa hb ζ;have fz:∀ o,o<6→Fn i (w.heap.size+1+1+1) o:=fun o ho=>(hb.frozen (p:=⟨w.heap.size+1+1+1,o,none⟩) ν).trans ζ;have f0:=fz 0 γ;have f1:=fz 1 γ;have f2:=fz 2 γ;have f3:=fz 3 γ;have f4:=fz 4 γ;have f5:=fz 5 γ;have G:=Bt r0;clear fz hb)
  refine bodyPost_ret (v:=.agg #[I A,I B,I C,I D,I E,I F]) (by simp [results,Tryz.results131,go_sem,r0,r1,r2,r3,r4,r5]) rfl ⟨by rw [HF.out];rfl, ?_⟩;with_reducible repeat (first | exact Z.out | refine Qk ?_ ?_)
  all_goals (dsimp only;omega)
 ·obtain ⟨z,u⟩:∃ z,z=kd (p,q,r,s):=⟨_,rfl⟩;have Y:Hid (∀ j:World,Bl w j→Rt 104 #[.agg #[.slice J n K,.map (some M),.map (some H)],.agg #[I p,I q,I r,I s]] j (I z)):=fun j x=>u ▸ Yj j J n K M H kd p q r s (N.kept x);rw [← u] at hz;obtain ⟨v,Q⟩:∃ v,v=lnW (p,q,r,s):=⟨_,rfl⟩;obtain ⟨c,O⟩:∃ c,c=lnC (p,q,r,s):=⟨_,rfl⟩
  have CL:Hid (∀ j:World,Rt 156 #[.agg #[I p,I q,I r,I s]] j (.agg #[I v,I c])):=fun j=>by
   rw [Q,O];exact Vd p q r s j h1 h2
  rw [← Q,← O] at hl k;obtain ⟨a,b,m,d,e,f,t⟩:∃ a b m d e f,mir v c=(a,b,m,d,e,f):=⟨_,_,_,_,_,_,rfl⟩
  have CM:Hid (∀ j:World,Cl 31 #[.agg #[I v,I c]] j fun e' w'=>e'=.returned (.tuple #[.agg #[I a,I b,I m,I d,I e,I f],I 0])∧Bl j w'):=fun j=>by
   have h:=Zf v c j hl.1 k.1;simp only [mir,Prod.mk.injEq] at t;obtain ⟨rfl,rfl,rfl,rfl,rfl,rfl⟩:=t;exact h
  rw [t] at k
  obtain ⟨R,T,U,V,W,X,cd,HF,CA⟩:∃ R T U V W X cd:Int,Hid (bynd kd (p,q,r,s) (A,B,C,D,E,F)=(R,T,U,V,W,X))∧Hid (∀ j:World,Rt 64 #[.agg #[I a,I b,I m,I d,I e,I f],.agg #[I A,I B,I C,I D,I E,I F]] j (.tuple #[.agg #[I R,I T,I U,I V,I W,I X],I cd])):=by
   have L:kd (p,q,r,s)≠0:=by rw [← u];exact hz
   have y:aft (mir (lnW (p,q,r,s)) (lnC (p,q,r,s))) (A,B,C,D,E,F)=(dot A B a m,dot A B b d,dot C D a m,dot C D b d,dot A B e f+E,dot C D e f+F):=by
    rw [← Q,← O,t];rfl
   cases hma:mapM (aft (mir (lnW (p,q,r,s)) (lnC (p,q,r,s))) (A,B,C,D,E,F))
   ·refine ⟨0,0,0,0,0,0,2, ?_,fun j=>After_no a b m d e f A B C D E F j k.1 P ?_⟩
    ·exact by
      have:bynd kd (p,q,r,s) (A,B,C,D,E,F)=(0,0,0,0,0,0):=by
       unfold bynd;rw [if_neg L,hma];rfl
      exact this
    ·rw [y] at hma;exact hma
   ·refine ⟨dot A B a m,dot A B b d,dot C D a m,dot C D b d,dot A B e f+E,dot C D e f+F,0, ?_,fun j=>Vc a b m d e f A B C D E F j k.1 P ?_⟩
    ·exact by
      have:bynd kd (p,q,r,s) (A,B,C,D,E,F)=(dot A B a m,dot A B b d,dot C D a m,dot C D b d,dot A B e f+E,dot C D e f+F):=by
       unfold bynd;rw [if_neg L,hma,y];rfl
      exact this
    ·rw [y] at hma;exact hma
  clear N hl P k h1 h2 u Q O t;go_enter Tryz.func131,Tryz.ntmps131
  go_wp2_with (first
   | (go_at_call 104;refine (Y.out _ γ9).mono ?_;rintro e i ⟨rfl,hb⟩;have Z:=Hd (Qb β4 hb);have e0:At i (w.heap.size+1) 0 (I p):=Qa hb ζ;have e1:At i (w.heap.size+1) 1 (I q):=Qa hb ζ;have e2:At i (w.heap.size+1) 2 (I r):=Qa hb ζ;have e3:At i (w.heap.size+1) 3 (I s):=Qa hb ζ;have m0:At i (w.heap.size+1+1) 0 (I A):=Qa hb ζ;have m1:At i (w.heap.size+1+1) 1 (I B):=Qa hb ζ;have m2:At i (w.heap.size+1+1) 2 (I C):=Qa hb ζ;have m3:At i (w.heap.size+1+1) 3 (I D):=Qa hb ζ;have m4:At i (w.heap.size+1+1) 4 (I E):=Qa hb ζ;have m5:At i (w.heap.size+1+1) 5 (I F):=Qa hb ζ;have r0:At i (w.heap.size+1+1+1) 0 (I 0):=Qa hb ζ;have l:Hid (∀ o,o<6→At i (w.heap.size+1+1+1) o (I 0)∧Fn i (w.heap.size+1+1+1) o):=fun o ho=>⟨Qa hb (by rcases six_cases ho with rfl | rfl | rfl | rfl | rfl | rfl <;> simp [go_sem]),(hb.frozen (p:=⟨w.heap.size+1+1+1,o,none⟩) ν).trans ζ⟩;have G:=Bt r0;clear hb)
   | (go_at_call 156;refine (CL.out _).mono ?_;rintro e w3 ⟨rfl,hb⟩;have a2:=Hd hb;clear hb)
   | (go_at_call 31;refine (CM.out _).mono ?_;rintro e w4 ⟨rfl,hb⟩;have HB4:=Hd (Qb a2.out hb);have n0:=Qa HB4.out m0;have n1:=Qa HB4.out m1;have n2:=Qa HB4.out m2;have n3:=Qa HB4.out m3;have n4:=Qa HB4.out m4;have n5:=Qa HB4.out m5;have z4:=Bt n0;clear hb)
   | (go_at_call 64;refine (CA.out _).mono ?_;rintro e w5 ⟨rfl,hb⟩;have g:=Hd (Qb (Qc HB4.out) hb);have s0:=Qa g.out (l.out 0 γ).1;have f0:=(g.out.frozen (p:=⟨w.heap.size+1+1+1,0,none⟩) G).trans (l.out 0 γ).2;have s1:=Qa g.out (l.out 1 γ).1;have f1:=(g.out.frozen (p:=⟨w.heap.size+1+1+1,1,none⟩) G).trans (l.out 1 γ).2;have s2:=Qa g.out (l.out 2 γ).1;have f2:=(g.out.frozen (p:=⟨w.heap.size+1+1+1,2,none⟩) G).trans (l.out 2 γ).2;have s3:=Qa g.out (l.out 3 γ).1;have f3:=(g.out.frozen (p:=⟨w.heap.size+1+1+1,3,none⟩) G).trans (l.out 3 γ).2;have s4:=Qa g.out (l.out 4 γ).1;have f4:=(g.out.frozen (p:=⟨w.heap.size+1+1+1,4,none⟩) G).trans (l.out 4 γ).2;have s5:=Qa g.out (l.out 5 γ).1;have f5:=(g.out.frozen (p:=⟨w.heap.size+1+1+1,5,none⟩) G).trans (l.out 5 γ).2;have z5:=Bt s0;clear hb))
  refine bodyPost_ret (v:=.agg #[I R,I T,I U,I V,I W,I X]) ?_ rfl ⟨by rw [HF.out];rfl, ?_⟩
  ·simp [results,Tryz.results131,go_sem,s0,s1,s2,s3,s4,s5,Ca,z5]
  ·with_reducible repeat (first | exact Qb Z.out g.out | refine Qk ?_ ?_ | refine Qc ?_)
   all_goals (dsimp only;omega)
def FitJ (kd:E4→Int) (M:Nat→M6) (i:Nat) (q:E4×Int):Prop := ∀ j:Nat,q.2=(j:Int)→M j=bynd kd q.1 (M i)
theorem Qq {α:Type} (l:List α) (i:Nat) (h:i<l.length) {d : α}:l.getD i d=l[i]:=by rw [List.getD_eq_getElem?_getD,List.getElem?_eq_getElem h];rfl
def FitI (kd:E4→Int) (L:List T3) (M:Nat→M6) (i:Nat):Prop := ∀ q∈jl L (L.getD i (0,0,0)) i 3,FitJ kd M i q
def FitTo (kd:E4→Int) (L:List T3) (M:Nat→M6) (w w':World) (e:Ending):Prop:=(∃ b:Bool,e=.returned (.bool b)∧(b=true↔∀ i,i<L.length→FitI kd L M i))∧Bl w w'
theorem fits_gen (w:World) (x n o gm cm:Nat) (l pa:Option Addr) (pn pc:Nat) (L:List T3) (kd:E4→Int) (M:Nat→M6) (hs:Steps w) (ac:PA w l n L) (hK:KL w o kd) (hL:L.length≤300) (y:∀ t∈L,(0≤t.1∧t.1≤8)∧(0≤t.2.1∧t.2.1≤8)∧(0≤t.2.2∧t.2.2≤3)) (hM:MRow w gm L.length M) (hG:∀ i,i<L.length→mapM (M i)=true) :
  Cl 83 #[.agg #[.slice l L.length x,.map (some n),.map (some o),.slice (Az gm) L.length cm,.slice pa pn pc]] w fun e w'=>FitTo kd L M w w' e:=by
 have an:Hid (∀ (a:World) (i:Nat) (hi:i<L.length),Bl w a→Cl 89 #[.agg #[.slice l L.length x,.map (some n),.map (some o)],I (i:Int)] a fun e w'=>∃ v,e=.returned v∧w'.ownsRow (a.heap.size+1) 79 5 v (jl L L[i] i 3).length (flatJ (jl L L[i] i 3))∧Bl a w'):=fun a i hi d=>Xm a x n o i l L L[i].1 L[i].2.1 L[i].2.2 (hs.kept d) (ac.kept d) hi rfl hL (y _ (Lm hi))
 have am:Hid (∀ (a:World) (i:Nat) (hi:i<L.length) (p q r s A B C D E F:Int),Bl w a→hasT L[i] (p,q,r,s)=true→mapM (A,B,C,D,E,F)=true→Rt 131 #[.agg #[.slice l L.length x,.map (some n),.map (some o)],.agg #[I p,I q,I r,I s],.agg #[I A,I B,I C,I D,I E,I F]] a (mv (bynd kd (p,q,r,s) (A,B,C,D,E,F)))):=fun a i hi p q r s A B C D E F d hh hm =>
  beyond_gen a l L.length x n o kd p q r s A B C D E F (hK.kept d) (Zz hh (y _ (Lm hi))).1 (Zz hh (y _ (Lm hi))).2.1 (Zp hh (y _ (Lm hi))) hm
 have HC:Hid (MRow w gm L.length M∧∀ i,i<L.length→mapM (M i)=true):=⟨hM,hG⟩;have hn:=neqM;clear hs ac hK y hM hG;obtain ⟨w0,T⟩:∃ W,W=pbox w l L.length x n o (.slice (Az gm) L.length cm) (.slice pa pn pc):=⟨_,rfl⟩
 have hx:At w0 w.heap.size 0 (.slice l L.length x)∧At w0 w.heap.size 1 (.map (some n))∧At w0 w.heap.size 2 (.map (some o))∧At w0 w.heap.size 3 (.slice (Az gm) L.length cm):=by
  rw [T];simp [pbox,go_sem]
 have HX:=Hd hx;clear hx
 have af:Bl w w0:=by
  rw [T];exact Qc (Qd _)
 have u:=Hd af;clear af;have Z:w.alloc (.cells #[.slice l L.length x,.map (some n),.map (some o),.slice (Az gm) L.length cm,.slice pa pn pc] 67)=w0:=T.symm;have ao:=Hd Z;clear T Z;go_enter Tryz.func83,Tryz.ntmps83;go_wp2;go_loopg [10] L.length (fun gk au wx=>∃ i:Nat,i≤L.length∧gk=L.length - i∧au=I (i:Int)∧(∀ U,U<i→FitI kd L M U)∧Bl w0 wx)
 case atStart=>exact ⟨0,γ,rfl,rfl,fun U ag=>by omega,by rw [ao.out];exact Qd _⟩
 case round =>
  obtain ⟨i,hi,rfl,rfl,hF,hB⟩:=hrel;have HF:=Hd hF;clear hF;have HB:=Hd hB;clear hB;by_cases h1:i<L.length
  ·have i1:(i:Int)<(L.length:Int):=γ;have i0:(0:Int)≤(i:Int):=γ;obtain ⟨J,hJ⟩:∃ J,J=jl L L[i] i 3:=⟨_,rfl⟩
   have ax:J.length≤900:=by
    have:=Uv L L[i] i 3;rw [hJ];omega
   have CJ:Hid (∀ a:World,Bl wr a→Cl 89 #[.agg #[.slice l L.length x,.map (some n),.map (some o)],I (i:Int)] a fun e w'=>∃ v,e=.returned v∧w'.ownsRow (a.heap.size+1) 79 5 v J.length (flatJ J)∧Bl a w'):=fun a d=>by
    rw [hJ];exact an.out a i h1 (Qb u.out (Qb HB.out d))
   have HJ:=Hd hJ;clear hJ;have p0:=Qa HB.out HX.out.1;have p1:=Qa HB.out HX.out.2.1;have p2:=Qa HB.out HX.out.2.2.1;have zp:=Bt p0;go_wp2_with (go_at_call 89;refine (CJ.out _ δ0).mono ?_;rintro e w8 ⟨v8,rfl,Y,hb⟩;obtain ⟨ja,jc,rfl,ai⟩:=own_jw Y;have aa:=H2 ai (Qb HB.out hb);clear Y ai hb)
   clear p0 p1 p2 zp;go_loopg [18] J.length (fun gk av wx=>∃ m:Nat,m≤J.length∧gk=J.length - m∧av=I (m:Int)∧(∀ V,V<m→FitJ kd M i (J.getD V ((0,0,0,0),0)))∧Bl w8 wx)
   case atStart=>exact ⟨0,γ,rfl,rfl,fun V a6=>by omega,Qd _⟩
   case round =>
    obtain ⟨m,hm,rfl,rfl,ab,hB⟩:=hrel;have a8:=Hd ab;clear ab;have g:=H2 (Qb aa.out.2 hB) hB;clear hB;by_cases hm1:m<J.length
    ·have im:(m:Int)<(J.length:Int):=γ;have az:(0:Int)≤(m:Int):=γ;obtain ⟨jb,rfl,c0,c1,c2,c3,c4⟩:=(aa.out.1.kept g.out.2).1 m hm1;have aw:=Bt c0;obtain ⟨q,hq⟩:∃ q,q=J[m]:=⟨_,rfl⟩;obtain ⟨⟨z,G,H,K⟩,qj⟩:=q;rw [← hq] at c0 c1 c2 c3 c4;dsimp only at c0 c1 c2 c3 c4;have X:((z,G,H,K),qj)∈jl L L[i] i 3:=by rw [← HJ.out,hq];exact Lm hm1
     obtain ⟨k,hk,aj,j,hj,rfl,aq,ar⟩:=Xw.1 X;have ah:hasT L[i] (z,G,H,K)=true:=by rw [aj];exact Xq _ _
     have HQ:Hid (J.getD m ((0,0,0,0),0)=((z,G,H,K),(j:Int))):=by
      have:J.getD m ((0,0,0,0),0)=((z,G,H,K),(j:Int)):=by rw [List.getD_eq_getElem?_getD,List.getElem?_eq_getElem hm1,← hq];rfl
      exact this
     obtain ⟨⟨y0,y1,y2,y3,y4,y5⟩,_⟩:=HC.out.1 i h1;obtain ⟨⟨v0,v1,v2,v3,v4,v5⟩,_⟩:=HC.out.1 j hj;have a2:=HC.out.2 i h1;obtain ⟨A,B,C,D,E,F,Q⟩:∃ A B C D E F,M i=(A,B,C,D,E,F):=⟨_,_,_,_,_,_,rfl⟩;obtain ⟨f0,f1,f2,f3,f4,f5,R⟩:∃ f0 f1 f2 f3 f4 f5,M j=(f0,f1,f2,f3,f4,f5):=⟨_,_,_,_,_,_,rfl⟩;rw [Q] at y0 y1 y2 y3 y4 y5 a2;rw [R] at v0 v1 v2 v3 v4 v5;dsimp only at y0 y1 y2 y3 y4 y5 v0 v1 v2 v3 v4 v5;obtain ⟨g0,g1,g2,g3,g4,g5,P⟩:∃ g0 g1 g2 g3 g4 g5,bynd kd (z,G,H,K) (A,B,C,D,E,F)=(g0,g1,g2,g3,g4,g5):=⟨_,_,_,_,_,_,rfl⟩
     have CB:Hid (∀ a:World,Bl wr a→Rt 131 #[.agg #[.slice l L.length x,.map (some n),.map (some o)],.agg #[I z,I G,I H,I K],.agg #[I A,I B,I C,I D,I E,I F]] a (.agg #[I g0,I g1,I g2,I g3,I g4,I g5])):=fun a d=>by
      have h:=am.out a i h1 z G H K A B C D E F (Qb u.out (Qb g.out.1 d)) ah a2;rw [P] at h;exact h
     have a7:Hid (sameM f0 f1 f2 f3 f4 f5 g0 g1 g2 g3 g4 g5=true↔FitJ kd M i ((z,G,H,K),(j:Int))):=by
      have:sameM f0 f1 f2 f3 f4 f5 g0 g1 g2 g3 g4 g5=true↔FitJ kd M i ((z,G,H,K),(j:Int)):=by
       constructor
       ·intro h j' ap;have:j'=j:=by dsimp only at ap;omega
        subst this;dsimp only;rw [Q,R,P];simp only [sameM,decide_eq_true_eq] at h;simp only [Prod.mk.injEq];exact h
       ·intro h;have h:=h j rfl;dsimp only at h;rw [Q,R,P] at h;simp only [Prod.mk.injEq] at h;obtain ⟨rfl,rfl,rfl,rfl,rfl,rfl⟩:=h;simp [sameM]
      exact this
     have ij:(j:Int)<(L.length:Int):=γ;have ay:(0:Int)≤(j:Int):=γ;clear X aj ar hq aq ah a2 Q R P;go_wp2;refine Qj (fun O hW0=>?_)
     have N:Hid (Bl wr O):=by
      have:Bl wr O:=Θ;exact this
     obtain ⟨B9,f⟩:∃ b,b=wr.heap.size:=⟨_,rfl⟩;have x0:At O B9 0 (I z):=by rw [hW0,f];simp [go_sem]
     have x1:At O B9 1 (I G):=by rw [hW0,f];simp [go_sem]
     have x2:At O B9 2 (I H):=by rw [hW0,f];simp [go_sem]
     have x3:At O B9 3 (I K):=by rw [hW0,f];simp [go_sem]
     have x4:At O B9 4 (I (j:Int)):=by rw [hW0,f];simp [go_sem]
     clear hW0;rw [← f];clear f;have bw:=Qb g.out.1 N.out;have p0:=Qa bw HX.out.1;have p1:=Qa bw HX.out.2.1;have p2:=Qa bw HX.out.2.2.1;have p3:=Qa bw HX.out.2.2.2;have c:=Qb u.out bw;replace y0:=Qa c y0;replace y1:=Qa c y1;replace y2:=Qa c y2;replace y3:=Qa c y3;replace y4:=Qa c y4;replace y5:=Qa c y5;replace v0:=Qa c v0;replace v1:=Qa c v1;replace v2:=Qa c v2;replace v3:=Qa c v3;replace v4:=Qa c v4;replace v5:=Qa c v5;have zW:=Bt p0;have b5:=Bt y0;have b6:=Bt x0;have ak:Hid (∀ a:World,Bl O a→Rt 131 #[.agg #[.slice l L.length x,.map (some n),.map (some o)],.agg #[I z,I G,I H,I K],.agg #[I A,I B,I C,I D,I E,I F]] a (.agg #[I g0,I g1,I g2,I g3,I g4,I g5])):=fun a d=>CB.out a (Qb N.out d);clear c0 c1 c2 c3 c4 aw bw c;obtain ⟨kc,kn⟩:=kcn O;refine wk ?_;repeat (go_big_quiet_step ((go_at_call 131;exact Qm (ak.out _ (Kin.h _)))))
     refine kq1 (fun wq hq=>?_);clear kc kn x0 x1 x2 x3 x4 p0 p1 p2 p3 y0 y1 y2 y3 y4 y5 v0 v1 v2 v3 v4 v5
     cases hsm:sameM f0 f1 f2 f3 f4 f5 g0 g1 g2 g3 g4 g5
     ·go_wp2;go_ret;refine ⟨⟨false,rfl, ?_⟩,Qb u.out (Qb g.out.1 (Qb N.out hq))⟩;simp only [Bool.false_eq_true,false_iff];intro ae
      have h2:=(ae i h1) (J.getD m ((0,0,0,0),0)) (by
       rw [Qq J m hm1,Qq L i h1,← HJ.out];exact Lm hm1)
      rw [HQ.out] at h2;have:=a7.out.2 h2;rw [hsm] at this
      cases this
     ·go_wp2;go_roundg (J.length - (m+1))
      case measure=>omega
      case rel =>
       refine ⟨m+1,γ,rfl,σ,fun V a6=>?_,Qb g.out.2 (Qb N.out hq)⟩;by_cases e:V=m
       ·subst e;rw [HQ.out];exact a7.out.1 hsm
       ·exact a8.out V γ
    ·have im:¬ (m:Int)<(J.length:Int):=γ;go_wp2;go_roundg (L.length - (i+1))
     case measure=>omega
     case rel =>
      refine ⟨i+1,γ,rfl,σ,fun U ag=>?_,g.out.1⟩;by_cases e:U=i
      ·subst e;intro q hq;rw [Qq L U h1] at hq;have hq:q∈J:=by rw [HJ.out];exact hq
       obtain ⟨V,a6,e⟩:=List.getElem_of_mem hq;have:=a8.out V γ;rw [Qq J V a6] at this;rw [← e];exact this
      ·exact HF.out U γ
  ·have i1:¬ (i:Int)<(L.length:Int):=γ;go_wp2;go_ret;exact ⟨⟨true,rfl,by simp only [true_iff];exact fun U ag=>HF.out U γ⟩,Qb u.out HB.out⟩
def PlM (w wx:World) (ad:Option Addr) (n cc ra rk:Nat) (M:Nat→M6) (R:List Nat) (v:Value):Prop :=
 MRow wx (w.heap.size+1) n M∧wx.ownsRow (w.heap.size+1+1) 3 1 v R.length (rowN R)∧Bl w wx∧PB wx w.heap.size ad n cc ra rk∧w.heap.size+1+1≤wx.heap.size
theorem PlM.kept {e:World} {a:Option Addr} {c d:Nat} {R:List Nat} (h:PlM w e a n b c d M R v) (hb:Bl e w'):PlM w w' a n b c d M R v :=
 ⟨h.1.kept hb,Qh h.2.1 hb,Qb h.2.2.1 hb,h.2.2.2.1.kept hb,Nt h.2.2.2.2 hb.size⟩
theorem PlM.slice {d:World} {e:Option Addr} {f k:Nat} {R:List Nat} (h:PlM w d e n f j k M R v) (l:0<R.length):∃ b a,v=.slice (some ⟨b,0,none⟩) R.length a∧w.heap.size+1+1≤b∧∀ i (hi:i<R.length),d.cell? ⟨b,i,none⟩=some (I ((R[i]:Nat):Int)):=by
 rcases h.2.1.2 with ⟨_,h0⟩ | ⟨b,a,g,c,h2,h3⟩
 ·omega
 ·refine ⟨b,a,c,h2,fun i hi=>?_⟩;subst c;have:=h.2.1.cellAt i γ;(try simp only [I]);rw [this,rowN_at R i hi]
theorem PlM.more {c x g:World} {p:Option Addr} {r t:Nat} {R:List Nat} {v':Value} {m:M6} (h:PlM w c p n r s t M R v) (y:j<n)
  (hb:Below (set6 c (w.heap.size+1) j m).heap.size (set6 c (w.heap.size+1) j m) x) (hg:x.grownBy g v.ownBlock) (f:g.ownsRow (w.heap.size+1+1) 3 1 v' (R.length+1) (rowN R ++ [I (j:Int)])) :
  PlM w g p n r s t (fun q=>if q=j then m else M q) (R ++ [j]) v':=by
 obtain ⟨h1,h2,h3,⟨A,B,C⟩,h5⟩:=h;have a:∀ k,v.ownBlock=some k→w.heap.size+1+1≤k:=fun k d=>(h2.lt k d).1
 have l:some (w.heap.size+1)≠v.ownBlock:=fun e=>by
  have:=a _ e.symm;omega
 have i:some w.heap.size≠v.ownBlock:=fun e=>by
  have:=a _ e.symm;omega
 have b:=Jw c (w.heap.size+1) j m;have z1:=((h1.set6 y m).kept hb).grown hg l
 have q:∀ {o:Nat} {u:Value},At c w.heap.size o u→At g w.heap.size o u:=fun {o u} z =>
  hg.cell (Qa hb (b.cell z ν)) i
 have k1:Bl w (set6 c (w.heap.size+1) j m):=h3.grown b (Nt h3.size (Nr _)) (fun k d=>by simp at d;omega);have D:=b.size;have E:=hb.size;have F:=hg.size;refine ⟨z1, ?_, ?_,⟨q A,q B,q C⟩,γ⟩
 ·rw [List.length_append,List.length_singleton];have:rowN (R ++ [j])=rowN R ++ [I (j:Int)]:=by simp [rowN]
  rw [this];exact f
 ·have k2:=k1.trans (hb.mono k1.size)
  exact k2.grown hg k2.size (fun k d=>by
   have:=a k d;omega)
def M1 (w:World) (g:Nat) (a b c d e f:Int):Prop:=At w g 0 (I a)∧At w g 1 (I b)∧At w g 2 (I c)∧At w g 3 (I d)∧At w g 4 (I e)∧At w g 5 (I f)
theorem fresh6_a {v:World} (hg:v.heap.size=g) (hb:Below ((v.alloc (.cells #[I 0,I 0,I 0,I 0,I 0,I 0] 48))).heap.size ((v.alloc (.cells #[I 0,I 0,I 0,I 0,I 0,I 0] 48))) a):M1 a g 0 0 0 0 0 0∧(Fn a g 0∧Fn a g 1∧Fn a g 2∧Fn a g 3∧Fn a g 4∧Fn a g 5)∧g<a.heap.size:=by
 subst hg;have c0:At a v.heap.size 0 (I 0):=Qa hb ζ;refine ⟨⟨c0,Qa hb ζ,Qa hb ζ,Qa hb ζ,Qa hb ζ,Qa hb ζ⟩,⟨?_, ?_, ?_, ?_, ?_, ?_⟩,bk c0⟩
 all_goals exact (hb.frozen ν).trans ζ
theorem fresh6_d {v:World} (hg:v.heap.size=g) (hb:Below ((v.alloc (.cells #[I 0,I 0,I 0,I 0,I 0,I 0] 48)).drew).heap.size ((v.alloc (.cells #[I 0,I 0,I 0,I 0,I 0,I 0] 48)).drew) a):M1 a g 0 0 0 0 0 0∧(Fn a g 0∧Fn a g 1∧Fn a g 2∧Fn a g 3∧Fn a g 4∧Fn a g 5)∧g<a.heap.size:=by
 subst hg;have c0:At a v.heap.size 0 (I 0):=Qa hb ζ;refine ⟨⟨c0,Qa hb ζ,Qa hb ζ,Qa hb ζ,Qa hb ζ,Qa hb ζ⟩,⟨?_, ?_, ?_, ?_, ?_, ?_⟩,bk c0⟩
 all_goals exact (hb.frozen ν).trans ζ
theorem fresh6_dd {v:World} (hg:v.heap.size=g) (hb:Below ((v.alloc (.cells #[I 0,I 0,I 0,I 0,I 0,I 0] 48)).drew.drew).heap.size ((v.alloc (.cells #[I 0,I 0,I 0,I 0,I 0,I 0] 48)).drew.drew) a):M1 a g 0 0 0 0 0 0∧(Fn a g 0∧Fn a g 1∧Fn a g 2∧Fn a g 3∧Fn a g 4∧Fn a g 5)∧g<a.heap.size:=by
 subst hg;have c0:At a v.heap.size 0 (I 0):=Qa hb ζ;refine ⟨⟨c0,Qa hb ζ,Qa hb ζ,Qa hb ζ,Qa hb ζ,Qa hb ζ⟩,⟨?_, ?_, ?_, ?_, ?_, ?_⟩,bk c0⟩
 all_goals exact (hb.frozen ν).trans ζ
def PlaceTo (kd:E4→Int) (L:List T3) (w w':World) (e:Ending):Prop:=Bl w w'∧((∃ M g,Cons kd L M∧e=.returned (.tuple #[.slice (Az g) L.length L.length,I 0])∧MRow w' g L.length M)∨((¬ ∃ N,Cons kd L N)∧e=.returned (.tuple #[SN,I 8])))
theorem Ua {B:Nat} {e:TypeId} {size:Nat} {f:List Value} (h:w.ownsRow B e size v n f):∀ g,v.ownBlock=some g→∃ c,w.heap[g]?=some (.cells c e (0,0)):=by
 intro g hg;rcases h.2 with ⟨rfl,_⟩ | ⟨i,b,a,rfl,_,d,_⟩
 ·simp [Value.ownBlock] at hg
 ·simp only [Value.ownBlock,Option.some.injEq] at hg;subst hg;exact ⟨a,d⟩
def NestV (w:World) (base:Nat) (v:Value) (F:List (List T3)) (vs:List Value):Prop :=
 vs.length=F.length∧w.ownsRow base 40 1 v F.length vs∧(∀ n (h:n<vs.length) (h':n<F.length),w.ownsRow base 44 3 vs[n] F[n].length (flatV F[n])) ∧
 ∀ n m (hn:n<vs.length) (hm:m<vs.length),n≠m→∀ b,vs[n].ownBlock=some b→vs[m].ownBlock≠some b
def Nest (w:World) (base:Nat) (v:Value) (F:List (List T3)):Prop := ∃ vs,NestV w base v F vs
theorem nest_nil (w:World) (base:Nat):Nest w base SN []:=⟨[],rfl,World.ownsRow_nil _ _ _ _,fun n h=>by simp at h,fun n m h=>by simp at h⟩
theorem NestV.apart {F:List (List T3)} {a:List Value} (h:NestV w base v F a) (c:n<a.length):a[n].ownBlock=none∨a[n].ownBlock≠v.ownBlock:=by
 cases e:a[n].ownBlock with
 | none=>exact Or.inl rfl
 | some b =>
  right
  intro e2;obtain ⟨c1,g1⟩:=Ua (h.2.2.1 n c (by rw [← h.1];exact c)) b e;obtain ⟨c2,g2⟩:=Ua h.2.1 b e2.symm;rw [g1] at g2;simp at g2
theorem NestV.grown {F:List (List T3)} {a:List Value} (h:NestV w base v F a) (hg:w.grownBy w' none):NestV w' base v F a :=
 ⟨h.1,h.2.1.kept hg (by cases v.ownBlock <;> simp),fun n h1 h2=>(h.2.2.1 n h1 h2).kept hg (by cases a[n].ownBlock <;> simp),h.2.2.2⟩
theorem NestV.kept {F:List (List T3)} {a:List Value} (h:NestV w base v F a) (hb:Bl w w'):NestV w' base v F a:=h.grown (Qv hb)
theorem NestV.more {v':Value} {F:List (List T3)} {a:List Value} (h:NestV w base v F a) (f:w'.ownsRow base 40 1 v' (F.length+1) (a ++ [SN])) (hg:w.grownBy w' v.ownBlock):NestV w' base v' (F ++ [[]]) (a ++ [SN]):=by
 refine ⟨by simp [h.1],by simpa using f,fun n h1 h2=>?_,fun n m h1 h2 e b hb=>?_⟩
 ·by_cases hn:n<a.length
  ·have c:n<F.length:=by rw [← h.1];exact hn
   rw [List.getElem_append_left hn,List.getElem_append_left c];exact (h.2.2.1 n hn c).kept hg (h.apart hn)
  ·have e1:n=a.length:=by simp at h1;omega
   have e2:n=F.length:=by rw [e1,h.1]
   have d:(a ++ [SN])[n]=SN:=by subst e1;simp
   have g:(F ++ [[]])[n]=[]:=by subst e2;simp
   rw [d,g];exact World.ownsRow_nil _ _ _ _
 ·by_cases hn:n<a.length
  ·rw [List.getElem_append_left hn] at hb;by_cases hm:m<a.length
   ·rw [List.getElem_append_left hm];exact h.2.2.2 n m hn hm e b hb
   ·have e1:m=a.length:=by simp at h2;omega
    have d:(a ++ [SN])[m]=SN:=by subst e1;simp
    rw [d];simp [Value.ownBlock]
  ·have e1:n=a.length:=by simp at h1;omega
   have d:(a ++ [SN])[n]=SN:=by subst e1;simp
   rw [d] at hb;simp [Value.ownBlock] at hb
theorem flatV_snoc (l:List T3) (t:T3):flatV (l ++ [t])=flatV l ++ [I t.1,I t.2.1,I t.2.2]:=by simp [flatV]
theorem NestV.outer {p:Nat} {F:List (List T3)} {a:List Value} (h:NestV w base v F a) (hp:p<a.length) (hg:w.grownBy w' a[p].ownBlock):w'.ownsRow base 40 1 v F.length a :=
 h.2.1.kept hg (by
  rcases h.apart hp with e | e
  ·rw [e]
   cases v.ownBlock <;> simp
  ·exact Or.inr (fun q=>e q.symm))
theorem NestV.put {p:Nat} {u:Value} {F:List (List T3)} {d:List Value} {t:T3} (h:NestV w base (.slice (Az g) F.length i) F d) (hp:p<d.length) (s:p<F.length)
  (o:w'.ownsRow base 44 3 u (F[p].length+1) (flatV F[p] ++ [I t.1,I t.2.1,I t.2.2])) (hg:w.grownBy w' d[p].ownBlock) (f:u.ownBlock=d[p].ownBlock∨u.ownBlock=some w.heap.size) :
  NestV (w'.setCell ⟨g,p,none⟩ u) base (.slice (Az g) F.length i) (F.set p (F[p] ++ [t])) (d.set p u):=by
 have r:w'.ownsRow base 40 1 (.slice (Az g) F.length i) F.length d:=h.2.1.kept hg (by
  rcases h.apart hp with e | e
  ·right
   rw [e];simp [Value.ownBlock]
  ·exact Or.inr (fun q=>e q.symm))
 have hs:=r.stored p u
 have l:u.ownBlock≠some g:=by
  intro e;obtain ⟨c1,g1⟩:=Ua o g e;obtain ⟨c2,g2⟩:=Ua r g δ2;rw [g1] at g2;simp at g2
 refine ⟨by simp [h.1],by simpa using hs.1,fun n h1 h2=>?_,fun n m h1 h2 j b hb=>?_⟩
 ·have a:n<d.length:=by simpa using h1
  have c:n<F.length:=by simpa using h2
  by_cases e:n=p
  ·subst e;simp only [List.getElem_set_self];rw [flatV_snoc,List.length_append];exact o.kept hs.2 (Or.inr l)
  ·rw [List.getElem_set_ne γ,List.getElem_set_ne γ]
   have k1:=(h.2.2.1 n a c).kept hg (by
    cases e3:d[n].ownBlock with
    | none=>exact Or.inl rfl
    | some b=>exact Or.inr (fun q=>h.2.2.2 n p a hp e b e3 q.symm))
   refine k1.kept hs.2 ?_;rcases h.apart a with k | k
   ·exact Or.inl k
   ·exact Or.inr (by simpa [Value.ownBlock] using k)
 ·have a:n<d.length:=by simpa using h1
  have c:m<d.length:=by simpa using h2
  have lt:∀ q (hq:q<d.length),d[q].ownBlock≠some w.heap.size:=fun q hq e=>by
   have:=((h.2.2.1 q hq (by rw [← h.1];exact hq)).lt _ e).2;omega
  by_cases e:n=p
  ·subst e;rw [List.getElem_set_self] at hb;rw [List.getElem_set_ne γ];rcases f with f | f
   ·exact h.2.2.2 n m a c j b (by rw [← f];exact hb)
   ·rw [f] at hb
    cases hb;exact lt m c
  ·rw [List.getElem_set_ne γ] at hb;by_cases e2:m=p
   ·subst e2;rw [List.getElem_set_self];rcases f with f | f
    ·rw [f];exact h.2.2.2 n m a c j b hb
    ·rw [f];intro q
     cases q;exact lt n a hb
   ·rw [List.getElem_set_ne γ];exact h.2.2.2 n m a c j b hb
theorem lineOf_wide (p q r s:Int) (w:World) (h1 : -4000000≤p∧p≤4000000) (h2 : -4000000≤q∧q≤4000000) :
  Rt 156 #[.agg #[I p,I q,I r,I s]] w (.agg #[I (lnW (p,q,r,s)),I (lnC (p,q,r,s))]):=by
 obtain ⟨a1,a⟩:=h1;obtain ⟨b1,b2⟩:=h2;by_cases c1:p=r
 ·subst c1;go_enter Tryz.func156,Tryz.ntmps156;go_wp2;refine bodyPost_ret (v:=.agg #[_,_]) (by simp [results,Tryz.results156,go_sem];exact ⟨rfl,rfl⟩) rfl ⟨?_, ?_⟩
  ·exact Xt (by simp [lnW]) (by simp [lnC])
  ·with_reducible repeat (first | exact Qd _ | refine Qc ?_ | refine Qk ?_ ?_)
   all_goals (simp)
 ·by_cases c2:q=s
  ·subst c2;go_enter Tryz.func156,Tryz.ntmps156;go_wp2;refine bodyPost_ret (v:=.agg #[_,_]) (by simp [results,Tryz.results156,go_sem];exact ⟨rfl,rfl⟩) rfl ⟨?_, ?_⟩
   ·exact Xt (by simp [lnW,c1]) (by simp [lnC,c1])
   ·with_reducible repeat (first | exact Qd _ | refine Qc ?_ | refine Qk ?_ ?_)
    all_goals (simp)
  ·by_cases c3:s<q
   ·go_enter Tryz.func156,Tryz.ntmps156;go_wp2;refine bodyPost_ret (v:=.agg #[_,_]) (by simp [results,Tryz.results156,go_sem];exact ⟨rfl,rfl⟩) rfl ⟨?_, ?_⟩
    ·exact Xt (by simp [lnW,c1,c2,c3]) (by simp [lnC,c1,c2,c3])
    ·with_reducible repeat (first | exact Qd _ | refine Qc ?_ | refine Qk ?_ ?_)
     all_goals (simp)
   ·go_enter Tryz.func156,Tryz.ntmps156;go_wp2;refine bodyPost_ret (v:=.agg #[_,_]) (by simp [results,Tryz.results156,go_sem];exact ⟨rfl,rfl⟩) rfl ⟨?_, ?_⟩
    ·exact Xt (by simp only [lnW,if_neg c1,if_neg c2,if_neg (show ¬ s<q by omega)]) (by simp only [lnC,if_neg c1,if_neg c2,if_neg (show ¬ s<q by omega)])
    ·with_reducible repeat (first | exact Qd _ | refine Qc ?_ | refine Qk ?_ ?_)
     all_goals (simp)
theorem indexNums_any (s:Option Addr) (B pb q:Nat) (l:List Nat) (f:Nat→Bool) (w:World) (hl:l.length≤1000) (o:NumR w s l)
  (b:∀ (V:World) (x:Nat),Bl w V→x∈l→Rt 122 #[I (x:Int),.pointer (Az pb),.pointer (Az q)] V (.bool (f x))) :
  Cl 157 #[.slice s l.length B,.func (.func 122) #[] #[.pointer (Az pb),.pointer (Az q)]] w fun e w'=>∃ r:Int,e=.returned (I r)∧decide (0≤r)=l.any f∧Bl w w':=by
 have d:=Hd b;have t:=Hd o;clear b o;go_enter Tryz.func157,Tryz.ntmps157;go_wp2;go_loopg [5,8] l.length (fun y F A D=>∃ i:Nat,i≤l.length∧y=l.length - i∧A=I (i:Int)∧(l.take i).any f=false∧Bl w D)
 case atStart=>exact ⟨0,γ,rfl,rfl,ν,Qd _⟩
 case round =>
  obtain ⟨i,hi,rfl,rfl,p,n⟩:=hrel;have a:=H2 p n;clear p n;by_cases h1:i<l.length
  ·have z:(i:Int)<(l.length:Int):=γ;have E:(0:Int)≤(i:Int):=γ;obtain ⟨g,hg,c0⟩:=(t.out.kept a.out.2) i h1;subst hg;have e:l.take (i+1)=l.take i ++ [l[i]]:=by first | exact (List.take_append_getElem h1).symm | exact (List.take_concat_get' _ _ h1).symm | exact List.take_succ_eq_append_getElem h1
   have CA:=d.out wr l[i] a.out.2 (Lm h1);have c:l[i]∈l:=Lm h1;generalize l[i]=u at c0 e CA c
   cases hu:f u with
   | false =>
    rw [hu] at CA
    have m:Hid ((l.take (i+1)).any f=false):=by
     have h:(l.take (i+1)).any f=false:=by rw [e,List.any_append,a.out.1];simp [hu]
     exact h
    have j:=Hd CA;clear e hu CA c;go_wp2_with (go_at_call 122;refine j.out.mono ?_;rintro e C ⟨rfl,hb⟩;have k:=Hd (Qb a.out.2 hb);clear hb)
    go_roundg (l.length - (i+1))
    case measure=>omega
    case rel=>exact ⟨i+1,γ,rfl,σ,m.out,k.out⟩
   | true =>
    rw [hu] at CA
    have m:Hid (l.any f=true):=by
     have h:l.any f=true:=List.any_eq_true.mpr ⟨u,c,hu⟩;exact h
    have j:=Hd CA;clear e hu CA c;go_wp2_with (go_at_call 122;refine j.out.mono ?_;rintro e C ⟨rfl,hb⟩;have k:=Hd (Qb a.out.2 hb);clear hb)
    refine bodyPost_ret (v:=I (i:Int)) (by simp [results,Tryz.results157,go_sem]) rfl ⟨(i:Int),rfl, ?_,k.out⟩;rw [m.out];simp
  ·have z:¬ (i:Int)<(l.length:Int):=γ;obtain rfl:i=l.length:=γ;go_wp2;refine bodyPost_ret (v:=I (-1)) (by simp [results,Tryz.results157,go_sem]) rfl ⟨-1,rfl, ?_,a.out.2⟩;have:=a.out.1;rw [List.take_length] at this;rw [this];rfl
theorem hasNum_any (d:Option Addr) (i pb c:Nat) (l:List Nat) (f:Nat→Bool) (w:World) (hl:l.length≤1000) (h:NumR w d l)
  (a:∀ (V:World) (x:Nat),Bl w V→x∈l→Rt 122 #[I (x:Int),.pointer (Az pb),.pointer (Az c)] V (.bool (f x))) :
  Rt 121 #[.slice d l.length i,.func (.func 122) #[] #[.pointer (Az pb),.pointer (Az c)]] w (.bool (l.any f)):=by
 have b:=Hd (indexNums_any d i pb c l f w hl h a);clear h a;go_enter Tryz.func121,Tryz.ntmps121;go_wp2_with (go_at_call 157;refine b.out.mono ?_;rintro e j ⟨r,rfl,hr,hb⟩;have g:=H2 hr hb;clear hr hb)
 refine bodyPost_ret (v:=.bool (decide (0≤r))) (by simp [results,Tryz.results121,go_sem]) rfl ⟨by rw [g.out.1],g.out.2⟩
theorem cell_any {a:Addr} {u:Value} (hb:Bl w w') (h:w.cell? a=some u):w'.cell? a=some u:=(hb.cell (bk h)).trans h
theorem inf_ints:(Tryz.prog.info? 3).map (fun i=>(i.zero,i.size,i.bytes))=some (some (I 0),1,8):=μ
theorem clone_ints (w:World) (b off m c:Nat) (d:List Value) (hl:d.length=m*1) (g:∀ j u,d[j]?=some u→w.cell? ((⟨b,off,none⟩:Addr).add j)=some u) (h1:∀ u∈d,u.oneCell'=true) (D:m*8≤140737488355328) :
  Cl 96 #[.slice (Ad b off) m c] w fun e w'=>∃ v,e=.returned v∧w'.ownsRow w.heap.size 3 1 v m d∧Bl w w':=by
 obtain ⟨C,i,k,l,n⟩:=info_parts inf_ints;have o:=H4 i k l n;have x:Hid (∀ j u,d[j]?=some u→(w.alloc (.cells #[] 3)).cell? ((⟨b,off,none⟩:Addr).add j)=some u):=fun j u B=>cell_any β1 (g j u B);have y:=Hd h1;have t:=Hd hl;have z:(w.alloc (.cells #[] 3)).ownsRow w.heap.size 3 1 (.slice (Az w.heap.size) 0 0) 0 []:=⟨ν,.inr ⟨w.heap.size,0,#[],rfl,Nr _,heap_alloc_new w _,Nr _,Γ,ν,ν⟩⟩;have A:∀ (a:Option Addr) (q r:Nat) (W:World),(binOp .eql 23 (.slice a q r) SN).run Tryz.prog W=.ok (.bool a.isNone) W:=fun a q r W=>Lib.run_eql_slice_nil W 23 3 a q r 0 0 Tryz.underlying23;clear i k l n g h1 hl;go_enter Tryz.func96,Tryz.ntmps96;go_wp2_with (at_builtin;refine wpList_append_own _ rfl (.tmp 5) (.tmp 6) 23 rfl w.heap.size 3 C (I 0) 1 8 Tryz.underlying23 o.out.1 o.out.2.1 o.out.2.2.1 o.out.2.2.2 rfl τ (.slice (Az w.heap.size) 0 0) 0 [] rfl z ⟨b,off,none⟩ m c d rfl t.out x.out y.out Γ γ ν ?grow)
 case grow =>
  intro v' p h f _
  have s:Hid (p.ownsRow w.heap.size 3 1 v' m d∧Bl w p):=by
   refine ⟨by simpa using h, ?_⟩;have k1:Bl w (w.alloc (.cells #[] 3)):=Qc (Qd _);exact k1.grown f k1.size (fun r e=>by simp [Value.ownBlock] at e;omega)
  clear h f;go_wp2;refine bodyPost_ret (v:=v') (by simp [results,Tryz.results96,go_sem]) rfl ⟨v',rfl,s.out⟩
theorem Zs (w:World) (c:Nat):Cl 96 #[.slice none 0 c] w fun e w'=>e=.returned SN∧w'=w:=by
 have b:∀ (a:Option Addr) (q r:Nat) (W:World),(binOp .eql 23 (.slice a q r) SN).run Tryz.prog W=.ok (.bool a.isNone) W:=fun a q r W=>Lib.run_eql_slice_nil W 23 3 a q r 0 0 Tryz.underlying23;go_enter Tryz.func96,Tryz.ntmps96;go_wp2;go_ret;exact ⟨rfl,rfl⟩
theorem inf_creases:(Tryz.prog.info? 122).map (fun i=>(i.zero,i.size,i.bytes))=some (some (.agg #[I 0,I 0,I 0,I 0,I 0]),5,40):=μ
theorem Vh (w:World) (b off m c:Nat) (d:List Value) (hl:d.length=m*5) (g:∀ j u,d[j]?=some u→w.cell? ((⟨b,off,none⟩:Addr).add j)=some u) (h1:∀ u∈d,u.oneCell'=true) (D:m*40≤140737488355328) :
  Cl 97 #[.slice (Ad b off) m c] w fun e w'=>∃ v,e=.returned v∧w'.ownsRow w.heap.size 122 5 v m d∧Bl w w':=by
 obtain ⟨C,i,k,l,n⟩:=info_parts inf_creases;have o:=H4 i k l n;have x:Hid (∀ j u,d[j]?=some u→(w.alloc (.cells #[] 122)).cell? ((⟨b,off,none⟩:Addr).add j)=some u):=fun j u B=>cell_any β1 (g j u B);have y:=Hd h1;have t:=Hd hl;have z:(w.alloc (.cells #[] 122)).ownsRow w.heap.size 122 5 (.slice (Az w.heap.size) 0 0) 0 []:=⟨ν,.inr ⟨w.heap.size,0,#[],rfl,Nr _,heap_alloc_new w _,Nr _,Γ,ν,ν⟩⟩;have A:∀ (a:Option Addr) (q r:Nat) (W:World),(binOp .eql 24 (.slice a q r) SN).run Tryz.prog W=.ok (.bool a.isNone) W:=fun a q r W=>Lib.run_eql_slice_nil W 24 122 a q r 0 0 Tryz.underlying24;clear i k l n g h1 hl;go_enter Tryz.func97,Tryz.ntmps97;go_wp2_with (at_builtin;refine wpList_append_own _ rfl (.tmp 5) (.tmp 6) 24 rfl w.heap.size 122 C (.agg #[I 0,I 0,I 0,I 0,I 0]) 5 40 Tryz.underlying24 o.out.1 o.out.2.1 o.out.2.2.1 o.out.2.2.2 rfl τ (.slice (Az w.heap.size) 0 0) 0 [] rfl z ⟨b,off,none⟩ m c d rfl t.out x.out y.out Γ γ ν ?grow)
 case grow =>
  intro v' p h f _
  have s:Hid (p.ownsRow w.heap.size 122 5 v' m d∧Bl w p):=by
   refine ⟨by simpa using h, ?_⟩;have k1:Bl w (w.alloc (.cells #[] 122)):=Qc (Qd _);exact k1.grown f k1.size (fun r e=>by simp [Value.ownBlock] at e;omega)
  clear h f;go_wp2;refine bodyPost_ret (v:=v') (by simp [results,Tryz.results97,go_sem]) rfl ⟨v',rfl,s.out⟩
theorem Yp (w:World) (c:Nat):Cl 97 #[.slice none 0 c] w fun e w'=>e=.returned SN∧w'=w:=by
 have b:∀ (a:Option Addr) (q r:Nat) (W:World),(binOp .eql 24 (.slice a q r) SN).run Tryz.prog W=.ok (.bool a.isNone) W:=fun a q r W=>Lib.run_eql_slice_nil W 24 122 a q r 0 0 Tryz.underlying24;go_enter Tryz.func97,Tryz.ntmps97;go_wp2;go_ret;exact ⟨rfl,rfl⟩
theorem inf_maps:(Tryz.prog.info? 48).map (fun i=>(i.zero,i.size,i.bytes))=some (some (.agg #[I 0,I 0,I 0,I 0,I 0,I 0]),6,48):=μ
theorem clone_maps (w:World) (b off m c:Nat) (d:List Value) (hl:d.length=m*6) (g:∀ j u,d[j]?=some u→w.cell? ((⟨b,off,none⟩:Addr).add j)=some u) (h1:∀ u∈d,u.oneCell'=true) (D:m*48≤140737488355328) :
  Cl 66 #[.slice (Ad b off) m c] w fun e w'=>∃ v,e=.returned v∧w'.ownsRow w.heap.size 48 6 v m d∧Bl w w':=by
 obtain ⟨C,i,k,l,n⟩:=info_parts inf_maps;have o:=H4 i k l n;have x:Hid (∀ j u,d[j]?=some u→(w.alloc (.cells #[] 48)).cell? ((⟨b,off,none⟩:Addr).add j)=some u):=fun j u B=>cell_any β1 (g j u B);have y:=Hd h1;have t:=Hd hl;have z:(w.alloc (.cells #[] 48)).ownsRow w.heap.size 48 6 (.slice (Az w.heap.size) 0 0) 0 []:=⟨ν,.inr ⟨w.heap.size,0,#[],rfl,Nr _,heap_alloc_new w _,Nr _,Γ,ν,ν⟩⟩;have A:∀ (a:Option Addr) (q r:Nat) (W:World),(binOp .eql 27 (.slice a q r) SN).run Tryz.prog W=.ok (.bool a.isNone) W:=fun a q r W=>Lib.run_eql_slice_nil W 27 48 a q r 0 0 Tryz.underlying27;clear i k l n g h1 hl;go_enter Tryz.func66,Tryz.ntmps66;go_wp2_with (at_builtin;refine wpList_append_own _ rfl (.tmp 5) (.tmp 6) 27 rfl w.heap.size 48 C (.agg #[I 0,I 0,I 0,I 0,I 0,I 0]) 6 48 Tryz.underlying27 o.out.1 o.out.2.1 o.out.2.2.1 o.out.2.2.2 rfl τ (.slice (Az w.heap.size) 0 0) 0 [] rfl z ⟨b,off,none⟩ m c d rfl t.out x.out y.out Γ γ ν ?grow)
 case grow =>
  intro v' p h f _
  have s:Hid (p.ownsRow w.heap.size 48 6 v' m d∧Bl w p):=by
   refine ⟨by simpa using h, ?_⟩;have k1:Bl w (w.alloc (.cells #[] 48)):=Qc (Qd _);exact k1.grown f k1.size (fun r e=>by simp [Value.ownBlock] at e;omega)
  clear h f;go_wp2;refine bodyPost_ret (v:=v') (by simp [results,Tryz.results66,go_sem]) rfl ⟨v',rfl,s.out⟩
theorem Yu {e size:Nat} (h:w.ownsRow base e size v n (zs.map (fun z=>I z))) (hs:zs.length=n*size):∃ a c,v=.slice a n c∧RowF w base a zs:=by
 by_cases hn:0<n
 ·obtain ⟨g,b,e1,_,f⟩:=own_row h hn;exact ⟨_,b,e1,f⟩
 ·have h0:n=0:=γ;subst h0;have i:zs=[]:=List.length_eq_zero_iff.1 γ;subst i;rcases h.2 with ⟨e1,_⟩ | ⟨g,b,d,e1,_⟩
  ·exact ⟨none,0,e1,Gl _ _ _⟩
  ·exact ⟨_,b,e1,Gl _ _ _⟩
theorem Ue (zs:List Int):∀ u∈zs.map (fun z=>I z),u.oneCell'=true:=by
 intro u a;obtain ⟨z,_,rfl⟩:=List.mem_map.1 a;rfl
theorem Vw (h:Row w none zs):zs=[]:=by
 cases zs with
 | nil=>rfl
 | cons z r =>
  obtain ⟨b,off,e,_⟩:=h 0 ν
  cases e
theorem Zu {off:Nat} (h:Row w (Ad b off) zs):∀ j u,(zs.map (fun z=>I z))[j]?=some u→w.cell? ((⟨b,off,none⟩:Addr).add j)=some u:=by
 intro j u a
 have g:j<zs.length:=by
  have:=List.getElem?_eq_some_iff.1 a;simpa using this.1
 obtain ⟨f,c,e,d⟩:=row_at h γ
 cases e;exact d j u a
theorem cloneI_any (w:World) (a:Option Addr) (c:Nat) (zs:List Int) (g:Row w a zs) (h1:zs.length≤17592186044416) (i:a=none∨∃ b off,a=Ad b off) :
  Cl 96 #[.slice a zs.length c] w fun e w'=>∃ d f,e=.returned (.slice d zs.length f)∧RowF w' w.heap.size d zs∧Bl w w':=by
 rcases i with rfl | ⟨b,off,rfl⟩
 ·have:=Vw g;subst this;refine (Zs w c).mono ?_;rintro e w' ⟨rfl,rfl⟩;exact ⟨none,0,rfl,Gl _ _ _,Qd _⟩
 ·refine (clone_ints w b off zs.length c (zs.map (fun z=>I z)) ν (Zu g) (Ue zs) γ).mono ?_;rintro e w' ⟨v,rfl,j,hb⟩;obtain ⟨d,f,rfl,h⟩:=Yu j γ;exact ⟨d,f,rfl,h,hb⟩
theorem cloneC_any (w:World) (a:Option Addr) (n c:Nat) (d:List Int) (j:Row w a d) (k:d.length=n*5) (h1:n≤3518437208883) (m:a=none∨∃ b off,a=Ad b off) :
  Cl 97 #[.slice a n c] w fun e w'=>∃ f g,e=.returned (.slice f n g)∧RowF w' w.heap.size f d∧Bl w w':=by
 rcases m with rfl | ⟨b,off,rfl⟩
 ·have h:=Vw j;subst h;have i:n=0:=by simp at k;omega
  subst i;refine (Yp w c).mono ?_;rintro e w' ⟨rfl,rfl⟩;exact ⟨none,0,rfl,Gl _ _ _,Qd _⟩
 ·refine (Vh w b off n c (d.map (fun z=>I z)) (by simp [k]) (Zu j) (Ue d) γ).mono ?_;rintro e w' ⟨v,rfl,o,hb⟩;obtain ⟨f,g,rfl,l⟩:=Yu o γ;exact ⟨f,g,rfl,l,hb⟩
def CPW (w W:World) (u0 u1 u2 u3:Value):Prop:=Sh W w.heap.size u0 u1 u2 u3∧Fr W w.heap.size∧Sh W (w.heap.size+1) (I 0) (I 0) SN SN∧Fr W (w.heap.size+1)∧Bl w W
theorem CPW.kept {W:World} {b c d e:Value} (h:CPW w W b c d e) (hb:Bl W a):CPW w a b c d e:=⟨h.1.kept hb,h.2.1.kept h.1.lt hb,h.2.2.1.kept hb,h.2.2.2.1.kept h.2.2.1.lt hb,Qb h.2.2.2.2 hb⟩
theorem CPW.new (w:World) (W H:Int) (a v3:Value):CPW w ((w.alloc (.cells #[I W,I H,a,v3] 26)).alloc (.cells #[I 0,I 0,SN,SN] 26)) (I W) (I H) a v3:=by
 refine ⟨⟨?_, ?_, ?_, ?_⟩, ?_,⟨?_, ?_, ?_, ?_⟩, ?_,Qc β1⟩
 ·simp [go_sem]
 ·simp [go_sem]
 ·simp [go_sem]
 ·simp [go_sem]
 ·simp [Fr,go_sem]
 ·simp [go_sem]
 ·simp [go_sem]
 ·simp [go_sem]
 ·simp [go_sem]
 ·simp [Fr,go_sem]
theorem CPW.set {W:World} {b c f g:Value} (h:CPW w W b c f g) (a v3:Value):CPW w ((W.setCell ⟨w.heap.size,2,none⟩ a).setCell ⟨w.heap.size,3,none⟩ v3) b c a v3:=by
 obtain ⟨⟨c0,c1,c2,c3⟩,d,⟨d0,d1,d2,d3⟩,hg,hb⟩:=h;obtain ⟨f0,f1,f2,f3,f4,i⟩:=d;obtain ⟨g0,g1,g2,g3,g4,g5⟩:=hg;have far:∀ {o:Nat} {u:Value},W.cell? ⟨w.heap.size+1,o,none⟩=some u→((W.setCell ⟨w.heap.size,2,none⟩ a).setCell ⟨w.heap.size,3,none⟩ v3).cell? ⟨w.heap.size+1,o,none⟩=some u:=fun e=>Xc (Xc e ν) ν;refine ⟨⟨?_, ?_, ?_, ?_⟩,⟨?_, ?_, ?_, ?_, ?_, ?_⟩,⟨far d0,far d1,far d2,far d3⟩,⟨?_, ?_, ?_, ?_, ?_, ?_⟩,(hb.setCell (p:=⟨w.heap.size,2,none⟩) (Nr _) _).setCell (p:=⟨w.heap.size,3,none⟩) (Nr _) _⟩
 ·(try simp only [At]);rw [Co _ _ _ _ ν,Co _ _ _ _ ν]
  exact c0
 ·(try simp only [At]);rw [Co _ _ _ _ ν,Co _ _ _ _ ν]
  exact c1
 ·(try simp only [At]);rw [Co _ _ _ _ ν]
  exact Js c2
 ·exact Js (by (try simp only [At]);rw [Co _ _ _ _ ν];exact c3)
 all_goals ((try simp only [Fn]);rw [Fz,Fz];assumption)
def CopyTo (w w':World) (W H:Int) (n:Nat) (zs ks:List Int) (e:Ending):Prop := ∃ a ca b cb,e=.returned (.agg #[I W,I H,.slice a zs.length ca,.slice b n cb])∧RowF w' w.heap.size a zs∧RowF w' w.heap.size b ks∧Bl w w'
theorem copy_any (W H:Int) (a b:Option Addr) (s t n:Nat) (zs l:List Int) (w:World) (E:Row w a zs) (D:Row w b l) (K:l.length=n*5) (h1:zs.length≤17592186044416) (h2:n≤3518437208883) (C:a=none∨∃ p off,a=Ad p off) (hb:b=none∨∃ p off,b=Ad p off) :
  Cl 65 #[.agg #[I W,I H,.slice a zs.length s,.slice b n t]] w fun e w'=>CopyTo w w' W H n zs l e:=by
 have z:=Hd (fun (V:World) hV=>cloneI_any V a s zs (E.kept hV) h1 C);have G:=Hd (fun (V:World) hV=>cloneC_any V b n t l (D.kept hV) K h2 hb);clear E D C hb;obtain ⟨m,x⟩:∃ m,m=zs.length:=⟨_,rfl⟩;rw [← x] at z ⊢;have J:=Hd x;clear x;go_enter Tryz.func65,Tryz.ntmps65;go_upto_region 1 with fail
 refine Qj (fun A hW0=>?_);have c:Hid (CPW w A (I W) (I H) (.slice a m s) (.slice b n t)):=by rw [hW0];exact CPW.new w W H _ _
 have k:w.heap.size+1<A.heap.size:=c.out.2.2.1.lt;clear hW0;obtain ⟨P,Q,R,T⟩:=c.out.1;go_cut [] (fun y=>∃ a' ca' b' cb',CPW w y (I W) (I H) (.slice a' m ca') (.slice b' n cb')∧RowF y (w.heap.size+1+1) a' zs∧RowF y (w.heap.size+1+1) b' l)
 case first =>
  go_region_with (first
   | (go_at_call 96;refine (z.out _ (by first | exact f.2.2.2.2 | exact Qe c.out.2.2.2.2)).mono ?_;rintro e w1 ⟨a1,k1,rfl,g,i⟩;have d:CPW w w1 (I W) (I H) (.slice a m s) (.slice b n t):=(by first | exact CPW.kept f i | exact CPW.kept (c.out.kept (Qe (Qd _))) i);have o:Hid (RowF w1 (w.heap.size+1+1) a1 zs):=(g.low (by first | exact f.2.2.1.lt | exact k));obtain ⟨U,X,Y,Z⟩:=d.1;obtain ⟨_,_,L,M,_,_⟩:=d.2.1;have pz:=d.1.lt;clear g)
   | (go_at_call 97;refine (G.out _ (by first | exact d.2.2.2.2 | exact Qe c.out.2.2.2.2)).mono ?_;rintro e F ⟨r,k2,rfl,h,j⟩;have f:CPW w F (I W) (I H) (.slice a m s) (.slice b n t):=(by first | exact CPW.kept d j | exact CPW.kept (c.out.kept (Qe (Qd _))) j);have q:Hid (RowF F (w.heap.size+1+1) r l):=(h.low (by first | exact d.2.2.1.lt | exact k));obtain ⟨q0,q1,q2,q3⟩:=f.1;obtain ⟨_,_,N,O,_,_⟩:=f.2.1;have qz:=f.1.lt;clear h))
  all_goals
   go_wp2;go_meet
   case rel =>
    refine ⟨a1,k1,r,k2, ?_, ?_, ?_⟩
    ·first | exact f.set _ _ | exact d.set _ _
    ·first | exact ((o.out.kept j).set θ).set θ | exact (o.out.set θ).set θ
    ·first | exact ((q.out.kept i).set θ).set θ | exact (q.out.set θ).set θ
 case rest =>
  clear P Q R T c k;obtain ⟨a1,k1,r,k2,B,g,h⟩:=hcut;have u:=H3 B g h;obtain ⟨⟨c0,c1,c2,c3⟩,_,⟨d0,d1,d2,d3⟩,⟨g0,g1,g2,g3,_,_⟩,_⟩:=B;have z0:=Bt c0;have z1:=Bt d0;clear g h;go_wp2;refine bodyPost_ret (v:=.agg #[I W,I H,.slice a1 m k1,.slice r n k2]) (by simp [results,Tryz.results65,go_sem,d0,d1,d2,d3]) rfl ⟨a1,k1,r,k2,by rw [J.out], ?_, ?_, ?_⟩
  ·refine RowF.low (base:=w.heap.size+1+1) ?_ γ;refine RowF.set ?_ θ;refine RowF.set ?_ θ;refine RowF.set ?_ θ;refine RowF.set ?_ θ;exact u.out.2.1
  ·refine RowF.low (base:=w.heap.size+1+1) ?_ γ;refine RowF.set ?_ θ;refine RowF.set ?_ θ;refine RowF.set ?_ θ;refine RowF.set ?_ θ;exact u.out.2.2
  ·with_reducible repeat (first | exact u.out.1.2.2.2.2 | refine Qk ?_ ?_)
   all_goals (first | omega | (dsimp only;omega))
structure SrtW (w wx:World) (g o:Nat) (d:Array Nat):Prop where
 row:∀ j,j<d.size→At wx g (o+j) (I ((d[j]! : Nat):Int))∧Fn wx g (o+j)
 gr:w.grownBy wx (some g)
 lt:g<wx.heap.size
theorem SrtW.kept {b:World} (h:SrtW w b g o d) (hb:Bl b w'):SrtW w w' g o d :=
 ⟨fun j a=>⟨Qa hb (h.row j a).1,(hb.frozen h.lt).trans (h.row j a).2⟩,Jg h.gr (by
  have:=Qv hb;exact ⟨this.os,this.tape,this.output,this.size,fun k c _=>this.block k c ν⟩),Nl h.lt hb.size⟩
theorem SrtW.swap (h:SrtW w a g o d) (hi:i<d.size) (b:j<d.size) (f:i≠j):SrtW w ((a.setCell ⟨g,o+i,none⟩ (I ((d[j]! : Nat):Int))).setCell ⟨g,o+j,none⟩ (I ((d[i]! : Nat):Int))) g o (Sort.swp d i j):=by
 have g1:=Qg a g (o+i) (I ((d[j]! : Nat):Int));have g2:=Qg (a.setCell ⟨g,o+i,none⟩ (I ((d[j]! : Nat):Int))) g (o+j) (I ((d[i]! : Nat):Int));refine ⟨fun k c=>?_,Jg h.gr (Jg g1 g2),Nl h.lt (Nt g1.size g2.size)⟩;rw [Sort.size_swp] at c;obtain ⟨r1,r2⟩:=h.row k c;obtain ⟨m,_⟩:=h.row i hi;obtain ⟨l,_⟩:=h.row j b;constructor
 ·have e:=Sort.swp_get d hi b k;rw [e];by_cases e1:k=j
  ·rw [if_pos e1,e1];exact Js (Qo l γ)
  ·rw [if_neg e1];by_cases e2:k=i
   ·rw [if_pos e2,e2];exact Qo (Js m) γ
   ·rw [if_neg e2];exact Qo (Qo r1 γ) γ
 ·simp [go_sem,r2]
def CmpF (w:World) (g N:Nat) (rv:Value) (cf:Nat→Nat→Int):Prop := ∀ wx:World,w.grownBy wx (some g)→∀ x y:Nat,x<N→y<N→Cl 100 #[rv,I (x:Int),I (y:Int)] wx fun e w'=>e=.returned (I (cf x y))∧Bl wx w'
theorem Jr {N:Nat} (h:∀ k,k<d.size→d[k]! < N) (hi:i<d.size) (a:j<d.size):∀ k,k<(Sort.swp d i j).size→(Sort.swp d i j)[k]! < N:=fun k b=>by
 rw [Sort.size_swp] at b;rw [Sort.swp_get d hi a k];split
 ·exact h i hi
 ·split
  ·exact h j a
  ·exact h k b
def ltF (cf:Nat→Nat→Int) (x y:Nat):Bool:=decide (cf x y<0)
theorem insertion_any (w:World) (g o n K a b N:Nat) (Q:Value) (f:Nat→Nat→Int) (hc:CmpF w g N Q f) (d:Array Nat) (hd:d.size=n) (Z:∀ k,k<d.size→d[k]! < N) (a2:a≤b) (a7:b≤n) (hn:n≤300) (w1:World) (hw:SrtW w w1 g o d) :
  Cl 165 #[.slice (Ad g o) n K,I (a:Int),I (b:Int),.func (.func 100) #[Q] #[]] w1 fun e w'=>e=.returned (.tuple #[])∧SrtW w w' g o (Sort.insertionSort (ltF f) d a b):=by
 have HC:=Hd hc;have J:=H3 hw Z hd;obtain ⟨T,M⟩:∃ T,T=Sort.insertionSort (ltF f) d a b:=⟨_,rfl⟩;have HT:=Hd M.symm;rw [← M];clear hc hw Z hd M;go_enter Tryz.func165,Tryz.ntmps165;go_wp2;go_loopg [8] (b+1 - (a+1)) (fun L s8 U=>∃ (i:Nat) (d1:Array Nat),i≤b+1∧a+1≤i∧L=b+1 - i∧s8=I (i:Int)∧SrtW w U g o d1∧(∀ k,k<d1.size→d1[k]! < N)∧d1.size=n∧Sort.insOuter (ltF f) a b i d1=T)
 case atStart=>exact ⟨a+1,d,γ,γ,rfl,σ,J.out.1,J.out.2.1,J.out.2.2,HT.out⟩
 case round =>
  obtain ⟨i,d1,hi,a6,rfl,rfl,hS,t,A,z⟩:=hrel;have l:=H4 hS t A z;clear hS t A z;by_cases h1:i<b
  ·have i1:(i:Int)<(b:Int):=γ;go_wp2;go_loopg [9] i (fun L s9 U=>∃ (j:Nat) (d2:Array Nat),j≤i∧j=L∧s9=I (j:Int)∧SrtW w U g o d2∧(∀ k,k<d2.size→d2[k]! < N)∧d2.size=n∧Sort.insInner (ltF f) a j d2=Sort.insInner (ltF f) a i d1)
   case atStart=>exact ⟨i,d1,γ,rfl,rfl,l.out.1,l.out.2.1,l.out.2.2.1,rfl⟩
   case round =>
    obtain ⟨j,d2,hj,rfl,rfl,v,u,B,Y⟩:=hrel;have H2:=H4 v u B Y
    have X:Hid (Sort.insOuter (ltF f) a b (i+1) (Sort.insInner (ltF f) a i d1)=T):=by
     have:Sort.insOuter (ltF f) a b (i+1) (Sort.insInner (ltF f) a i d1)=T:=by
      rw [← l.out.2.2.2];conv=>rhs;rw [Sort.insOuter,if_pos h1]
     exact this
    clear l v u B Y;by_cases h2:a<j
    ·obtain ⟨p,rfl⟩:∃ p,j=p+1:=⟨j - 1,γ⟩;have a8:=H2.out.2.2.1;obtain ⟨r1,f1⟩:=H2.out.1.row (p+1) γ;obtain ⟨r0,f0⟩:=H2.out.1.row p γ;have l1:=H2.out.2.1 (p+1) γ;have l0:=H2.out.2.1 p γ;have V:=H2.out.1.lt
     have G:Hid (Sort.insInner (ltF f) a (p+1) d2=if ltF f d2[p+1]! d2[p]! = true then Sort.insInner (ltF f) a p (Sort.swp d2 (p+1) p) else d2):=by
      have:Sort.insInner (ltF f) a (p+1) d2=if ltF f d2[p+1]! d2[p]! = true then Sort.insInner (ltF f) a p (Sort.swp d2 (p+1) p) else d2:=by
       rw [Sort.insInner];have:decide (p+1 > a)=true:=by simpa using h2
       rw [this,Bool.true_and]
      exact this
     obtain ⟨x,O⟩:∃ x,x=d2[p+1]!:=⟨_,rfl⟩;obtain ⟨y,P⟩:∃ y,y=d2[p]!:=⟨_,rfl⟩;rw [← O] at r1 l1 G;rw [← P] at r0 l0 G;have s:Hid (x=d2[p+1]! ∧ y=d2[p]!):=⟨O,P⟩;have F:Hid (∀ W:World,Bl wr W→Rt 100 #[Q,I (x:Int),I (y:Int)] W (I (f x y))):=fun W hW=>HC.out W (H2.out.1.kept hW).gr x y l1 l0;obtain ⟨c,m⟩:∃ c,c=f x y:=⟨_,rfl⟩
     have r:Hid (ltF f x y=decide (c<0)):=by
      have:ltF f x y=decide (c<0):=by rw [m];rfl
      exact this
     rw [← m] at F;have j1:(a:Int)<(p:Int)+1:=γ;have e1:(p:Int)+1 - 1=(p:Int):=γ;have aa:IntKind.i64.wrap ((p:Int)+1 - 1)=(p:Int):=υ;have ab:IntKind.i64.wrap (p:Int)=(p:Int):=υ;have i2:(p:Int)+1<(n:Int):=γ;have i3:(p:Int)<(n:Int):=γ;have k2:(0:Int)≤(p:Int)+1:=γ;have k3:(0:Int)≤(p:Int):=γ;clear O P m l1 l0;by_cases q:c<0
     ·go_wp2;obtain ⟨D,E⟩:=kcn wr;refine wk ?_;repeat (go_big_quiet_step ((go_at_call 100;exact Qm (F.out _ (Kin.h _)))))
      refine kq1 (fun R hq=>?_);clear D E;replace r1:=Qa hq r1;replace r0:=Qa hq r0;replace f1:=(hq.frozen V).trans f1;replace f0:=(hq.frozen V).trans f0;have zq:g<R.heap.size:=Nl V hq.size;have HQ:=Hd (H2.out.1.kept hq);clear hq F;go_wp2;go_region
      all_goals
       go_wp2;go_roundg p
       case measure=>omega
       case rel =>
        have C:=HQ.out.swap (i:=p+1) (j:=p) γ γ γ;rw [← s.out.1,← s.out.2] at C;refine ⟨p,Sort.swp d2 (p+1) p,γ,rfl,σ,C.kept (Qe (Qd _)),Jr H2.out.2.1 γ γ,by rw [Sort.size_swp];exact H2.out.2.2.1, ?_⟩;rw [← H2.out.2.2.2,G.out,r.out,if_pos (by simpa using q)]
     ·go_wp2;obtain ⟨D,E⟩:=kcn wr;refine wk ?_;repeat (go_big_quiet_step ((go_at_call 100;exact Qm (F.out _ (Kin.h _)))))
      refine kq1 (fun R hq=>?_);clear D E r1 r0 f1 f0
      have H:Hid (Sort.insInner (ltF f) a i d1=d2):=by
       have:Sort.insInner (ltF f) a i d1=d2:=by
        rw [← H2.out.2.2.2,G.out,r.out,if_neg (by simpa using q)]
       exact this
      go_wp2;go_roundg (b+1 - (i+1))
      case measure=>omega
      case rel=>exact ⟨i+1,d2,γ,γ,rfl,σ,H2.out.1.kept hq,H2.out.2.1,H2.out.2.2.1,by rw [← H.out];exact X.out⟩
    ·have j1:¬ (a:Int)<(j:Int):=γ
     have H:Hid (Sort.insInner (ltF f) a i d1=d2):=by
      have:Sort.insInner (ltF f) a i d1=d2:=by
       rw [← H2.out.2.2.2]
       cases j with
       | zero=>rfl
       | succ p =>
        rw [Sort.insInner];have:decide (p+1 > a)=false:=by simpa using h2
        rw [this,Bool.false_and,if_neg ν]
      exact this
     go_wp2;obtain ⟨D,E⟩:=kcn wr;refine wk ?_;repeat (go_big_quiet_step (fail))
     refine kq1 (fun R hq=>?_);clear D E;go_wp2;go_roundg (b+1 - (i+1))
     case measure=>omega
     case rel=>exact ⟨i+1,d2,γ,γ,rfl,σ,H2.out.1.kept hq,H2.out.2.1,H2.out.2.2.1,by rw [← H.out];exact X.out⟩
  ·have i1:¬ (i:Int)<(b:Int):=γ
   have HE:Hid (d1=T):=by
    have:d1=T:=by
     rw [← l.out.2.2.2,Sort.insOuter,if_neg h1]
    exact this
   go_wp2;go_end0
   exact ⟨rfl,HE.out ▸ l.out.1⟩
structure SwpW (w wx:World) (g o:Nat) (d:Array Nat) (sb s:Nat):Prop where
 r:SrtW w wx g o d
 c:At wx sb 0 (I (s:Int))
 f:Fn wx sb 0
 low:w.heap.size≤sb
 ne:sb≠g
theorem SwpW.lt {b:World} {a:Nat} (h:SwpW w b g o d a s):a<b.heap.size:=bk h.c
theorem SwpW.kept {b:World} {a:Nat} (h:SwpW w b g o d a s) (hb:Bl b w'):SwpW w w' g o d a s:=⟨h.r.kept hb,Qa hb h.c,(hb.frozen h.lt).trans h.f,h.low,h.ne⟩
theorem SwpW.put {m:World} (h:SwpW w m g o d i s) (t:Nat):SwpW w (m.setCell ⟨i,0,none⟩ (I (t:Int))) g o d i t:=by
 have g1:=Qg m i 0 (I (t:Int));have b:some g≠some i:=fun e=>h.ne (by cases e;rfl);refine ⟨⟨fun j n=>⟨g1.cell (h.r.row j n).1 b,(Fo (a:=⟨g,o+j,none⟩) (g1.block g h.r.lt b)).trans (h.r.row j n).2⟩, ?_,Nl h.r.lt g1.size⟩,Js h.c,by simp [go_sem,h.f],h.low,h.ne⟩;have a:=h.r.gr;exact ⟨g1.os.trans a.os,g1.tape.trans a.tape,g1.output.trans a.output,Nt a.size g1.size,fun k p l=>(g1.block k (Nl p a.size) (fun e=>by cases e;have:=h.low;omega)).trans (a.block k p l)⟩
theorem Vl (w:World) (g o n B a b N z s:Nat) (F:Value) (i:Nat→Nat→Int) (J:CmpF w g N F i) (d:Array Nat) (Q:d.size=n) (C:∀ k,k<d.size→d[k]! < N) (T:a<n) (hb:b<n) (_U:n≤300) (hs:s≤100) (w1:World) (m:SwpW w w1 g o d z s) :
  Cl 239 #[.slice (Ad g o) n B,I (a:Int),I (b:Int),.pointer (Az z),.func (.func 100) #[F] #[]] w1 fun e w'=>e=.returned (.tuple #[I ((Sort.order2 (ltF i) d a b s).1:Int),I ((Sort.order2 (ltF i) d a b s).2.1:Int)])∧SwpW w w' g o d z (Sort.order2 (ltF i) d a b s).2.2:=by
 obtain ⟨r1,_⟩:=m.r.row b γ;obtain ⟨r0,_⟩:=m.r.row a γ;have l1:=C b γ;have l0:=C a γ;have Y:=m.r.lt;have G:=Hd m;have p:Hid (Sort.order2 (ltF i) d a b s=if ltF i d[b]! d[a]! = true then (b,a,s+1) else (a,b,s)):=rfl;obtain ⟨x,K⟩:∃ x,x=d[b]!:=⟨_,rfl⟩;obtain ⟨y,L⟩:∃ y,y=d[a]!:=⟨_,rfl⟩;rw [← K] at r1 l1 p;rw [← L] at r0 l0 p;have A:Hid (∀ W:World,Bl w1 W→Rt 100 #[F,I (x:Int),I (y:Int)] W (I (i x y))):=fun W P=>J W (m.r.kept P).gr x y l1 l0;obtain ⟨c,l⟩:∃ c,c=i x y:=⟨_,rfl⟩
 have t:Hid (ltF i x y=decide (c<0)):=by
  have:ltF i x y=decide (c<0):=by rw [l];rfl
  exact this
 rw [← l] at A;have V:(a:Int)<(n:Int):=γ;have X:(b:Int)<(n:Int):=γ;have k1:(0:Int)≤(a:Int):=γ;have k2:(0:Int)≤(b:Int):=γ;obtain ⟨R,H⟩:∃ R,R=Sort.order2 (ltF i) d a b s:=⟨_,rfl⟩;rw [← H] at p ⊢;clear K L l l1 l0 J C Q m H;by_cases q:c<0
 ·have u:Hid (R=(b,a,s+1)):=by
   have:R=(b,a,s+1):=by rw [p.out,t.out,if_pos (by simpa using q)]
   exact this
  go_enter Tryz.func239,Tryz.ntmps239;go_wp2;obtain ⟨D,E⟩:=kcn w1;refine wk ?_;repeat (go_big_quiet_step ((go_at_call 100;exact Qm (A.out _ (Kin.h _)))))
  refine kq1 (fun M hq=>?_);clear D E r1 r0;have j:=G.out.kept hq;have c0:=j.c;have f0:=j.f;have z0:=j.lt;have O:Hid (SwpW w (M.setCell ⟨z,0,none⟩ (I ((s+1:Nat):Int))) g o d z (s+1)):=j.put (s+1);clear j hq;go_wp2;refine bodyPost_ret (v:=.tuple #[I (b:Int),I (a:Int)]) (by simp [results,Tryz.results239,go_sem]) rfl ⟨?_, ?_⟩
  ·rw [u.out]
  ·rw [u.out];simpa using O.out
 ·have u:Hid (R=(a,b,s)):=by
   have:R=(a,b,s):=by rw [p.out,t.out,if_neg (by simpa using q)]
   exact this
  go_enter Tryz.func239,Tryz.ntmps239;go_wp2;obtain ⟨D,E⟩:=kcn w1;refine wk ?_;repeat (go_big_quiet_step ((go_at_call 100;exact Qm (A.out _ (Kin.h _)))))
  refine kq1 (fun M hq=>?_);clear D E r1 r0;go_wp2;refine bodyPost_ret (v:=.tuple #[I (a:Int),I (b:Int)]) (by simp [results,Tryz.results239,go_sem]) rfl ⟨?_, ?_⟩
  ·rw [u.out]
  ·rw [u.out];exact G.out.kept hq
theorem Yx {lt:Nat→Nat→Bool} {a:Nat} (c:a<n) (hb:b<n):(Sort.order2 lt d a b s).1<n∧(Sort.order2 lt d a b s).2.1<n∧(Sort.order2 lt d a b s).2.2≤s+1:=by
 unfold Sort.order2;split
 ·exact ⟨hb,c,Nr _⟩
 ·exact ⟨c,hb,Nat.le_succ _⟩
theorem Yz {lt:Nat→Nat→Bool} {a c:Nat} (e:a<n) (hb:b<n) (f:c<n):(Sort.median lt d a b c s).1<n∧(Sort.median lt d a b c s).2≤s+3:=by
 have h1:=Yx (lt:=lt) (d:=d) (s:=s) e hb;have h2:=Yx (lt:=lt) (d:=d) (s:=(Sort.order2 lt d a b s).2.2) h1.2.1 f;have h3:=Yx (lt:=lt) (d:=d) (s:=(Sort.order2 lt d (Sort.order2 lt d a b s).2.1 c (Sort.order2 lt d a b s).2.2).2.2) h1.1 h2.1;exact ⟨h3.2.1,by have:=h3.2.2;have:=h2.2.2;have:=h1.2.2;unfold Sort.median;dsimp only;omega⟩
theorem Vn (w:World) (g o n i a b c N j s:Nat) (m:Value) (f:Nat→Nat→Int) (v:CmpF w g N m f) (d:Array Nat) (x:d.size=n) (u:∀ k,k<d.size→d[k]! < N) (C:a<n) (hb:b<n) (p:c<n) (D:n≤300) (hs:s≤90) (w1:World) (F:SwpW w w1 g o d j s) :
  Cl 212 #[.slice (Ad g o) n i,I (a:Int),I (b:Int),I (c:Int),.pointer (Az j),.func (.func 100) #[m] #[]] w1 fun e w'=>e=.returned (I ((Sort.median (ltF f) d a b c s).1:Int))∧SwpW w w' g o d j (Sort.median (ltF f) d a b c s).2:=by
 have h1:=Yx (lt:=ltF f) (d:=d) (s:=s) C hb;have y:Hid (Cl 239 #[.slice (Ad g o) n i,I (a:Int),I (b:Int),.pointer (Az j),.func (.func 100) #[m] #[]] w1 fun e w'=>e=.returned (.tuple #[I ((Sort.order2 (ltF f) d a b s).1:Int),I ((Sort.order2 (ltF f) d a b s).2.1:Int)])∧SwpW w w' g o d j (Sort.order2 (ltF f) d a b s).2.2):=Vl w g o n i a b N j s m f v d x u C hb D γ w1 F;have l:Hid (Sort.median (ltF f) d a b c s=((Sort.order2 (ltF f) d (Sort.order2 (ltF f) d a b s).1 (Sort.order2 (ltF f) d (Sort.order2 (ltF f) d a b s).2.1 c (Sort.order2 (ltF f) d a b s).2.2).1 (Sort.order2 (ltF f) d (Sort.order2 (ltF f) d a b s).2.1 c (Sort.order2 (ltF f) d a b s).2.2).2.2).2.1,(Sort.order2 (ltF f) d (Sort.order2 (ltF f) d a b s).1 (Sort.order2 (ltF f) d (Sort.order2 (ltF f) d a b s).2.1 c (Sort.order2 (ltF f) d a b s).2.2).1 (Sort.order2 (ltF f) d (Sort.order2 (ltF f) d a b s).2.1 c (Sort.order2 (ltF f) d a b s).2.2).2.2).2.2)):=rfl;obtain ⟨⟨x1,y1,q⟩,e1⟩:∃ r,r=Sort.order2 (ltF f) d a b s:=⟨_,rfl⟩;rw [← e1] at h1 y l;dsimp only at h1 y l;have h2:=Yx (lt:=ltF f) (d:=d) (s:=q) h1.2.1 p;have z:Hid (∀ W,SwpW w W g o d j q→Cl 239 #[.slice (Ad g o) n i,I (y1:Int),I (c:Int),.pointer (Az j),.func (.func 100) #[m] #[]] W fun e w'=>e=.returned (.tuple #[I ((Sort.order2 (ltF f) d y1 c q).1:Int),I ((Sort.order2 (ltF f) d y1 c q).2.1:Int)])∧SwpW w w' g o d j (Sort.order2 (ltF f) d y1 c q).2.2):=fun W B=>Vl w g o n i y1 c N j q m f v d x u h1.2.1 p D γ W B;obtain ⟨⟨x2,y2,t⟩,e2⟩:∃ r,r=Sort.order2 (ltF f) d y1 c q:=⟨_,rfl⟩;rw [← e2] at h2 z l;dsimp only at h2 z l;have A:Hid (∀ W,SwpW w W g o d j t→Cl 239 #[.slice (Ad g o) n i,I (x1:Int),I (x2:Int),.pointer (Az j),.func (.func 100) #[m] #[]] W fun e w'=>e=.returned (.tuple #[I ((Sort.order2 (ltF f) d x1 x2 t).1:Int),I ((Sort.order2 (ltF f) d x1 x2 t).2.1:Int)])∧SwpW w w' g o d j (Sort.order2 (ltF f) d x1 x2 t).2.2):=fun W B=>Vl w g o n i x1 x2 N j t m f v d x u h1.1 h2.1 D γ W B;obtain ⟨⟨x3,y3,H⟩,E⟩:∃ r,r=Sort.order2 (ltF f) d x1 x2 t:=⟨_,rfl⟩;rw [← E] at A l;dsimp only at A l;rw [l.out];dsimp only;clear l e1 e2 E v x u F h1 h2 C hb p hs;go_enter Tryz.func212,Tryz.ntmps212;go_upto_region 2 with (go_at_call 239;refine y.out.mono ?_;rintro e J ⟨rfl,h⟩;have H1:=Hd h;clear h)
 go_upto_region 3 with (go_at_call 239;refine (z.out _ H1.out).mono ?_;rintro e K ⟨rfl,h⟩;have H2:=Hd h;clear h)
 go_wp2_with (go_at_call 239;refine (A.out _ H2.out).mono ?_;rintro e L ⟨rfl,h⟩;have G:=Hd h;clear h)
 go_ret;exact ⟨rfl,G.out⟩
theorem Xd (w:World) (g o n b a N f s:Nat) (i:Value) (c:Nat→Nat→Int) (p:CmpF w g N i c) (d:Array Nat) (q:d.size=n) (l:∀ k,k<d.size→d[k]! < N) (v:1≤a) (hb:a+1<n) (t:n≤300) (hs:s≤90) (w1:World) (r:SwpW w w1 g o d f s) :
  Cl 211 #[.slice (Ad g o) n b,I (a:Int),.pointer (Az f),.func (.func 100) #[i] #[]] w1 fun e w'=>e=.returned (I ((Sort.medianAdjacent (ltF c) d a s).1:Int))∧SwpW w w' g o d f (Sort.medianAdjacent (ltF c) d a s).2:=by
 have C:=Vn w g o n b (a - 1) a (a+1) N f s i c p d q l γ γ hb t hs w1 r;rw [show ((a - 1:Nat):Int)=(a:Int) - 1 by omega,show ((a+1:Nat):Int)=(a:Int)+1 by omega] at C;have j:Hid (Cl 212 #[.slice (Ad g o) n b,I ((a:Int) - 1),I (a:Int),I ((a:Int)+1),.pointer (Az f),.func (.func 100) #[i] #[]] w1 fun e w'=>e=.returned (I ((Sort.medianAdjacent (ltF c) d a s).1:Int))∧SwpW w w' g o d f (Sort.medianAdjacent (ltF c) d a s).2):=C;obtain ⟨R,m⟩:∃ R,R=Sort.medianAdjacent (ltF c) d a s:=⟨_,rfl⟩;rw [← m] at j ⊢;clear C p q l r m hs;go_enter Tryz.func211,Tryz.ntmps211;go_wp2_with (go_at_call 212;refine j.out.mono ?_;rintro e u ⟨rfl,h⟩;have H1:Hid (SwpW w u g o d f R.2):=h;clear h)
 go_ret;exact ⟨rfl,H1.out⟩
theorem reverse_any (w:World) (g o n q a b N:Nat) (E:Value) (d:Array Nat) (B:d.size=n) (z:∀ k,k<d.size→d[k]! < N) (G:a<b) (H:b≤n) (U:n≤300) (w1:World) (C:SrtW w w1 g o d) :
  Cl 169 #[.slice (Ad g o) n q,I (a:Int),I (b:Int),E] w1 fun e w'=>e=.returned (.tuple #[])∧SrtW w w' g o (Sort.reverseRange d a b):=by
 have v:Hid (SrtW w w1 g o d∧(∀ k,k<d.size→d[k]! < N)∧d.size=n):=⟨C,z,B⟩;obtain ⟨T,r⟩:∃ T,T=Sort.reverseRange d a b:=⟨_,rfl⟩;have u:Hid (Sort.reverseLoop a (b - 1) d=T):=r.symm;rw [← r];clear C z B r;obtain ⟨e,rfl⟩:∃ e,b=e+1:=⟨b - 1,γ⟩;rw [Nat.add_sub_cancel] at u;go_enter Tryz.func169,Tryz.ntmps169;go_wp2;go_loopg [8,9] (e+1 - a) (fun F O P Q=>∃ (i j:Nat) (d1:Array Nat),i≤e+1∧j≤e∧i≤j+1∧F=e+1 - i∧O=I (i:Int)∧P=I (j:Int)∧SrtW w Q g o d1∧d1.size=n∧Sort.reverseLoop i j d1=T)
 case atStart=>exact ⟨a,e,d,γ,γ,γ,rfl,rfl,σ,v.out.1,v.out.2.2,u.out⟩
 case round =>
  obtain ⟨i,j,d1,hi,R,J,rfl,rfl,rfl,A,l,h⟩:=hrel;have c:Hid (SrtW w wr g o d1∧d1.size=n∧Sort.reverseLoop i j d1=T):=⟨A,l,h⟩;clear A l h;by_cases h1:i<j
  ·have M:(i:Int)<(j:Int):=γ;have L:=c.out.2.1;obtain ⟨r1,f1⟩:=c.out.1.row j γ;obtain ⟨r0,f0⟩:=c.out.1.row i γ;have W:=c.out.1.lt;obtain ⟨x,s⟩:∃ x,x=d1[j]!:=⟨_,rfl⟩;obtain ⟨y,t⟩:∃ y,y=d1[i]!:=⟨_,rfl⟩;have f:=c.out.1.swap (i:=i) (j:=j) γ γ γ;rw [← s,← t] at f;rw [← s] at r1;rw [← t] at r0;have m:Hid (SrtW w ((wr.setCell ⟨g,o+i,none⟩ (I (x:Int))).setCell ⟨g,o+j,none⟩ (I (y:Int))) g o (Sort.swp d1 i j)):=f
   have p:Hid (Sort.reverseLoop (i+1) (j - 1) (Sort.swp d1 i j)=T):=by
    have:Sort.reverseLoop (i+1) (j - 1) (Sort.swp d1 i j)=T:=by
     rw [← c.out.2.2];conv=>rhs;rw [Sort.reverseLoop,if_pos h1]
    exact this
   have V:(i:Int)<(n:Int):=γ;have i3:(j:Int)<(n:Int):=γ;have k2:(0:Int)≤(i:Int):=γ;have k3:(0:Int)≤(j:Int):=γ;have K:i≠j:=γ;clear s t f;go_wp2;go_region
   all_goals
    go_wp2;go_roundg (e+1 - (i+1))
    case measure=>omega
    case rel=>exact ⟨i+1,j - 1,Sort.swp d1 i j,γ,γ,γ,rfl,σ,σ,m.out.kept (Qe (Qd _)),by rw [Sort.size_swp];exact c.out.2.1,p.out⟩
  ·have M:¬ (i:Int)<(j:Int):=γ
   have D:Hid (d1=T):=by
    have:d1=T:=by
     rw [← c.out.2.2,Sort.reverseLoop,if_neg h1]
    exact this
   go_wp2;go_end0
   exact ⟨rfl,D.out ▸ c.out.1⟩
end Go.Proofs.YtbjmnlefkbhbdaaGreatDoor
