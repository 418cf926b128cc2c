/- A part of it. -/
import Derived.Test.YtbjmnlefkbhbdaaGreatDoorQlai
set_option maxRecDepth 100000
set_option maxHeartbeats 40000000
namespace Go.Proofs.YtbjmnlefkbhbdaaGreatDoor
open Go.RowKit Go.ChangeMaps
variable {w w':World} {g n:Nat} {M:Nat→M6}
def kdn (ks:List Int):Nat→Int×Int×Int×Int→Int
 | 0,_=>0
 | i+1,e=>if e=(ck ks i 0,ck ks i 1,ck ks i 2,ck ks i 3) then ck ks i 4 else kdn ks i e
theorem kf_kdn (a:List Int) (e:E4):∀ n,(kf a n e).getD (I 0)=I (kdn a n e)
 | 0=>rfl
 | i+1=>by
  unfold kf kdn;split
  ·rfl
  ·exact kf_kdn a e i
def KL (w:World) (rk:Nat) (kd:E4→Int):Prop := ∀ (e:E4) (wx:World),Bl w wx→(Instr.lookup 63 (.map (some rk)) (ek e) false).run Tryz.prog wx=.ok (I (kd e)) wx
theorem KL.kept {a:Nat} {kd:E4→Int} (h:KL w a kd) (hb:Bl w w'):KL w' a kd:=fun e c b=>h e c (Qb hb b)
theorem zero3 (w:World):(zeroValue 3).run Tryz.prog w=.ok (I 0) w:=μ
theorem PK.kl {k:World} {base i f:Nat} {j:Value} {L:List T3} {G:E4→List Int} {d:List Int} (h:PK k w base i f j L G (kf d n)):KL w f (kdn d n):=fun e l g=>by
 obtain ⟨ls,c,h4,a,b⟩:=h.2.2.1;have:=lookup27 Tryz.underlying63 zero3 (h4.grown (Qv g) ν) a e;rw [b e,kf_kdn] at this;exact this
theorem Yj (w:World) (b:Option Addr) (n c e a:Nat) (kd:E4→Int) (p q r s:Int) (d:KL w a kd) :
  Rt 104 #[.agg #[.slice b n c,.map (some e),.map (some a)],.agg #[I p,I q,I r,I s]] w (I (kd (p,q,r,s))):=by
 have hl:=d (p,q,r,s) ((w.alloc (.cells #[.slice b n c,.map (some e),.map (some a)] 65)).alloc (.cells #[I p,I q,I r,I s] 77)) β2;simp only [ek] at hl;clear d;go_enter Tryz.func104,Tryz.ntmps104;go_wp2;go_ret;exact ⟨rfl,Qc β1⟩
theorem Xt {a b c d:Int} (h1:a=c) (h2:b=d):Ending.returned (.agg #[I a,I b])=.returned (.agg #[I c,I d]):=by subst h1 h2;rfl
theorem Vd (p q r s:Int) (w:World) (h1:0≤p∧p≤100) (h2:0≤q∧q≤100) :
  Rt 156 #[.agg #[I p,I q,I r,I s]] w (.agg #[I (lnW (p,q,r,s)),I (lnC (p,q,r,s))]):=by
 obtain ⟨a1,a⟩:=h1;obtain ⟨b1,b2⟩:=h2;by_cases c1:p=r
 ·subst c1;go_enter Tryz.func156,Tryz.ntmps156;go_wp2;refine bodyPost_ret (v:=.agg #[_,_]) (by simp [results,Tryz.results156,go_sem];exact ⟨rfl,rfl⟩) rfl ⟨?_, ?_⟩
  ·exact Xt (by simp [lnW]) (by simp [lnC])
  ·with_reducible repeat (first | exact Qd _ | refine Qc ?_ | refine Qk ?_ ?_)
   all_goals (simp)
 ·by_cases c2:q=s
  ·subst c2;go_enter Tryz.func156,Tryz.ntmps156;go_wp2;refine bodyPost_ret (v:=.agg #[_,_]) (by simp [results,Tryz.results156,go_sem];exact ⟨rfl,rfl⟩) rfl ⟨?_, ?_⟩
   ·exact Xt (by simp [lnW,c1]) (by simp [lnC,c1])
   ·with_reducible repeat (first | exact Qd _ | refine Qc ?_ | refine Qk ?_ ?_)
    all_goals (simp)
  ·by_cases c3:s<q
   ·go_enter Tryz.func156,Tryz.ntmps156;go_wp2;refine bodyPost_ret (v:=.agg #[_,_]) (by simp [results,Tryz.results156,go_sem];exact ⟨rfl,rfl⟩) rfl ⟨?_, ?_⟩
    ·exact Xt (by simp [lnW,c1,c2,c3]) (by simp [lnC,c1,c2,c3])
    ·with_reducible repeat (first | exact Qd _ | refine Qc ?_ | refine Qk ?_ ?_)
     all_goals (simp)
   ·go_enter Tryz.func156,Tryz.ntmps156;go_wp2;refine bodyPost_ret (v:=.agg #[_,_]) (by simp [results,Tryz.results156,go_sem];exact ⟨rfl,rfl⟩) rfl ⟨?_, ?_⟩
    ·exact Xt (by simp only [lnW,if_neg c1,if_neg c2,if_neg (show ¬ s<q by omega)]) (by simp only [lnC,if_neg c1,if_neg c2,if_neg (show ¬ s<q by omega)])
    ·with_reducible repeat (first | exact Qd _ | refine Qc ?_ | refine Qk ?_ ?_)
     all_goals (simp)
def mv (m:M6):Value:=.agg #[I m.1,I m.2.1,I m.2.2.1,I m.2.2.2.1,I m.2.2.2.2.1,I m.2.2.2.2.2]
theorem six_cases {o:Nat} (h:o<6):o=0∨o=1∨o=2∨o=3∨o=4∨o=5:=γ
theorem beyond_any (w:World) (K:Option Addr) (n L M H:Nat) (kd:E4→Int) (p q r s A B C D E F:Int) (N:KL w H kd) (h1:0≤p∧p≤100) (h2:0≤q∧q≤100) (hl:lineB (lnW (p,q,r,s)) (lnC (p,q,r,s))=true∧-40≤lnC (p,q,r,s)∧lnC (p,q,r,s)≤40) (O:GoodM (A,B,C,D,E,F) 800000) :
  Rt 131 #[.agg #[.slice K n L,.map (some M),.map (some H)],.agg #[I p,I q,I r,I s],.agg #[I A,I B,I C,I D,I E,I F]] w (mv (farM kd (p,q,r,s) (A,B,C,D,E,F))):=by
 have j:=Gp hl.1 hl.2;have l:=aft_good j O γ;by_cases hz:kd (p,q,r,s)=0
 ·have P:Hid (∀ k:World,Bl w k→Rt 104 #[.agg #[.slice K n L,.map (some M),.map (some H)],.agg #[I p,I q,I r,I s]] k (I 0)):=fun k x=>hz ▸ Yj k K n L M H kd p q r s (N.kept x)
  have J:Hid (farM kd (p,q,r,s) (A,B,C,D,E,F)=(A,B,C,D,E,F)):=by
   have:farM kd (p,q,r,s) (A,B,C,D,E,F)=(A,B,C,D,E,F):=by simp [farM,hz]
   exact this
  clear N hl O j l h1 h2 hz;go_enter Tryz.func131,Tryz.ntmps131;go_wp2_with (go_at_call 104;refine (P.out _ γ9).mono ?_;rintro e i ⟨rfl,hb⟩;have Q:=Hd (Qb β4 hb);have W:At i (w.heap.size+1+1) 0 (I A):=Qa hb ζ;have X:At i (w.heap.size+1+1) 1 (I B):=Qa hb ζ;have Y:At i (w.heap.size+1+1) 2 (I C):=Qa hb ζ;have Z:At i (w.heap.size+1+1) 3 (I D):=Qa hb ζ;have m4:At i (w.heap.size+1+1) 4 (I E):=Qa hb ζ;have m5:At i (w.heap.size+1+1) 5 (I F):=Qa hb ζ;have r0:At i (w.heap.size+1+1+1) 0 (I 0):=Qa hb ζ;have r1:At i (w.heap.size+1+1+1) 1 (I 0):=Qa hb ζ;have r2:At i (w.heap.size+1+1+1) 2 (I 0):=Qa hb ζ;have r3:At i (w.heap.size+1+1+1) 3 (I 0):=Qa hb ζ;have r4:At i (w.heap.size+1+1+1) 4 (I 0):=Qa hb ζ;have r5:At i (w.heap.size+1+1+1) 5 (I 0):=Qa hb ζ;have fz:∀ o,o<6→Fn i (w.heap.size+1+1+1) o:=fun o V=>(hb.frozen (p:=⟨w.heap.size+1+1+1,o,none⟩) ν).trans ζ;have f0:=fz 0 γ;have f1:=fz 1 γ;have f2:=fz 2 γ;have f3:=fz 3 γ;have f4:=fz 4 γ;have f5:=fz 5 γ;have G:=Bt r0;clear fz hb)
  refine bodyPost_ret (v:=.agg #[I A,I B,I C,I D,I E,I F]) (by simp [results,Tryz.results131,go_sem,r0,r1,r2,r3,r4,r5]) rfl ⟨by rw [J.out];rfl, ?_⟩;with_reducible repeat (first | exact Q.out | refine Qk ?_ ?_)
  all_goals (dsimp only;omega)
 ·obtain ⟨z,y⟩:∃ z,z=kd (p,q,r,s):=⟨_,rfl⟩;have P:Hid (∀ k:World,Bl w k→Rt 104 #[.agg #[.slice K n L,.map (some M),.map (some H)],.agg #[I p,I q,I r,I s]] k (I z)):=fun k x=>y ▸ Yj k K n L M H kd p q r s (N.kept x)
  have J:Hid (farM kd (p,q,r,s) (A,B,C,D,E,F)=aft (mir (lnW (p,q,r,s)) (lnC (p,q,r,s))) (A,B,C,D,E,F)):=by
   have:farM kd (p,q,r,s) (A,B,C,D,E,F)=aft (mir (lnW (p,q,r,s)) (lnC (p,q,r,s))) (A,B,C,D,E,F):=by simp [farM,hz]
   exact this
  rw [← y] at hz;obtain ⟨v,U⟩:∃ v,v=lnW (p,q,r,s):=⟨_,rfl⟩;obtain ⟨c,T⟩:∃ c,c=lnC (p,q,r,s):=⟨_,rfl⟩
  have CL:Hid (∀ k:World,Rt 156 #[.agg #[I p,I q,I r,I s]] k (.agg #[I v,I c])):=fun k=>by
   rw [U,T];exact Vd p q r s k h1 h2
  rw [← U,← T] at hl j l J;obtain ⟨a,b,t,d,e,f,u⟩:∃ a b t d e f,mir v c=(a,b,t,d,e,f):=⟨_,_,_,_,_,_,rfl⟩
  have CM:Hid (∀ k:World,Cl 31 #[.agg #[I v,I c]] k fun e' w'=>e'=.returned (.tuple #[.agg #[I a,I b,I t,I d,I e,I f],I 0])∧Bl k w'):=fun k=>by
   have h:=Zf v c k hl.1 j.1;simp only [mir,Prod.mk.injEq] at u;obtain ⟨rfl,rfl,rfl,rfl,rfl,rfl⟩:=u;exact h
  rw [u] at j l J;have CA:Hid (∀ k:World,Rt 64 #[.agg #[I a,I b,I t,I d,I e,I f],.agg #[I A,I B,I C,I D,I E,I F]] k (.tuple #[.agg #[I (dot A B a t),I (dot A B b d),I (dot C D a t),I (dot C D b d),I (dot A B e f+E),I (dot C D e f+F)],I 0])):=fun k=>Vc a b t d e f A B C D E F k j.1 O.1 l.1;clear N hl O j l h1 h2 y U T u;go_enter Tryz.func131,Tryz.ntmps131
  go_wp2_with (first
   | (go_at_call 104;refine (P.out _ γ9).mono ?_;rintro e i ⟨rfl,hb⟩;have Q:=Hd (Qb β4 hb);have e0:At i (w.heap.size+1) 0 (I p):=Qa hb ζ;have e1:At i (w.heap.size+1) 1 (I q):=Qa hb ζ;have e2:At i (w.heap.size+1) 2 (I r):=Qa hb ζ;have e3:At i (w.heap.size+1) 3 (I s):=Qa hb ζ;have W:At i (w.heap.size+1+1) 0 (I A):=Qa hb ζ;have X:At i (w.heap.size+1+1) 1 (I B):=Qa hb ζ;have Y:At i (w.heap.size+1+1) 2 (I C):=Qa hb ζ;have Z:At i (w.heap.size+1+1) 3 (I D):=Qa hb ζ;have m4:At i (w.heap.size+1+1) 4 (I E):=Qa hb ζ;have m5:At i (w.heap.size+1+1) 5 (I F):=Qa hb ζ;have r0:At i (w.heap.size+1+1+1) 0 (I 0):=Qa hb ζ;have m:Hid (∀ o,o<6→At i (w.heap.size+1+1+1) o (I 0)∧Fn i (w.heap.size+1+1+1) o):=fun o V=>⟨Qa hb (by rcases six_cases V with rfl | rfl | rfl | rfl | rfl | rfl <;> simp [go_sem]),(hb.frozen (p:=⟨w.heap.size+1+1+1,o,none⟩) ν).trans ζ⟩;have G:=Bt r0;clear hb)
   | (go_at_call 156;refine (CL.out _).mono ?_;rintro e w3 ⟨rfl,hb⟩;have R:=Hd hb;clear hb)
   | (go_at_call 31;refine (CM.out _).mono ?_;rintro e w4 ⟨rfl,hb⟩;have HB4:=Hd (Qb R.out hb);have n0:=Qa HB4.out W;have n1:=Qa HB4.out X;have n2:=Qa HB4.out Y;have n3:=Qa HB4.out Z;have n4:=Qa HB4.out m4;have n5:=Qa HB4.out m5;have z4:=Bt n0;clear hb)
   | (go_at_call 64;refine (CA.out _).mono ?_;rintro e w5 ⟨rfl,hb⟩;have g:=Hd (Qb (Qc HB4.out) hb);have s0:=Qa g.out (m.out 0 γ).1;have f0:=(g.out.frozen (p:=⟨w.heap.size+1+1+1,0,none⟩) G).trans (m.out 0 γ).2;have s1:=Qa g.out (m.out 1 γ).1;have f1:=(g.out.frozen (p:=⟨w.heap.size+1+1+1,1,none⟩) G).trans (m.out 1 γ).2;have s2:=Qa g.out (m.out 2 γ).1;have f2:=(g.out.frozen (p:=⟨w.heap.size+1+1+1,2,none⟩) G).trans (m.out 2 γ).2;have s3:=Qa g.out (m.out 3 γ).1;have f3:=(g.out.frozen (p:=⟨w.heap.size+1+1+1,3,none⟩) G).trans (m.out 3 γ).2;have s4:=Qa g.out (m.out 4 γ).1;have f4:=(g.out.frozen (p:=⟨w.heap.size+1+1+1,4,none⟩) G).trans (m.out 4 γ).2;have s5:=Qa g.out (m.out 5 γ).1;have f5:=(g.out.frozen (p:=⟨w.heap.size+1+1+1,5,none⟩) G).trans (m.out 5 γ).2;have z5:=Bt s0;clear hb))
  refine bodyPost_ret (v:=.agg #[I (dot A B a t),I (dot A B b d),I (dot C D a t),I (dot C D b d),I (dot A B e f+E),I (dot C D e f+F)]) ?_ rfl ⟨by rw [J.out];rfl, ?_⟩
  ·simp [results,Tryz.results131,go_sem,s0,s1,s2,s3,s4,s5,Ca,z5]
  ·with_reducible repeat (first | exact Qb Q.out g.out | refine Qk ?_ ?_ | refine Qc ?_)
   all_goals (dsimp only;omega)
def sameM (a b c d e f A B C D E F:Int):Bool:=decide (a=A∧b=B∧c=C∧d=D∧e=E∧f=F)
theorem eqlM (a b c d e f A B C D E F:Int) (w:World) :
  (binOp .eql 48 (.agg #[I a,I b,I c,I d,I e,I f]) (.agg #[I A,I B,I C,I D,I E,I F])).run Tryz.prog w=.ok (.bool (sameM a b c d e f A B C D E F)) w:=by
 by_cases h1:a=A
 ·subst h1;by_cases h2:b=B
  ·subst h2;by_cases h3:c=C
   ·subst h3;by_cases h4:d=D
    ·subst h4;by_cases h5:e=E
     ·subst h5;by_cases h6:f=F
      ·subst h6;simp [go_sem,sameM]
      ·have g:(f == F)=false:=by simpa using h6
       simp [go_sem,sameM,g,h6]
     ·have g:(e == E)=false:=by simpa using h5
      simp [go_sem,sameM,g,h5]
    ·have g:(d == D)=false:=by simpa using h4
     simp [go_sem,sameM,g,h4]
   ·have g:(c == C)=false:=by simpa using h3
    simp [go_sem,sameM,g,h3]
  ·have g:(b == B)=false:=by simpa using h2
   simp [go_sem,sameM,g,h2]
 ·have g:(a == A)=false:=by simpa using h1
  simp [go_sem,sameM,g,h1]
theorem neqM (a b c d e f A B C D E F:Int) (w:World) :
  (binOp .neq 48 (.agg #[.int .i64 a,.int .i64 b,.int .i64 c,.int .i64 d,.int .i64 e,.int .i64 f]) (.agg #[.int .i64 A,.int .i64 B,.int .i64 C,.int .i64 D,.int .i64 E,.int .i64 F])).run Tryz.prog w=.ok (.bool (!sameM a b c d e f A B C D E F)) w:=by
 by_cases h1:a=A
 ·subst h1
  by_cases h2:b=B
  ·subst h2
   by_cases h3:c=C
   ·subst h3
    by_cases h4:d=D
    ·subst h4
     by_cases h5:e=E
     ·subst h5
      by_cases h6:f=F
      ·subst h6
       simp [go_sem,sameM]
      ·have e':(f == F)=false:=by simpa using h6
       simp [go_sem,sameM,e',h6]
     ·have e':(e == E)=false:=by simpa using h5
      simp [go_sem,sameM,e',h5]
    ·have e':(d == D)=false:=by simpa using h4
     simp [go_sem,sameM,e',h4]
   ·have e':(c == C)=false:=by simpa using h3
    simp [go_sem,sameM,e',h3]
  ·have e':(b == B)=false:=by simpa using h2
   simp [go_sem,sameM,e',h2]
 ·have e':(a == A)=false:=by simpa using h1
  simp [go_sem,sameM,e',h1]
def MCell (w:World) (g i:Nat) (m:M6):Prop:=At w g (i*6) (I m.1)∧At w g (i*6+1) (I m.2.1)∧At w g (i*6+2) (I m.2.2.1)∧At w g (i*6+3) (I m.2.2.2.1)∧At w g (i*6+4) (I m.2.2.2.2.1)∧At w g (i*6+5) (I m.2.2.2.2.2)
def MFree (w:World) (g i:Nat):Prop:=Fn w g (i*6)∧Fn w g (i*6+1)∧Fn w g (i*6+2)∧Fn w g (i*6+3)∧Fn w g (i*6+4)∧Fn w g (i*6+5)
def MRow (w:World) (g n:Nat) (M:Nat→M6):Prop := ∀ i,i<n→MCell w g i (M i)∧MFree w g i
theorem MRow.grown {row:Option Nat} (h:MRow w g n M) (hg:w.grownBy w' row) (b:some g≠row):MRow w' g n M:=fun i hi=>by
 obtain ⟨⟨a0,a1,c,a3,a4,a5⟩,f0,f1,f2,f3,f4,d⟩:=h i hi;have q:∀ o,w'.frozen? ⟨g,o,none⟩=w.frozen? ⟨g,o,none⟩:=fun o=>Fo (a:=⟨g,o,none⟩) (hg.block g (bk a0) b);exact ⟨⟨hg.cell a0 b,hg.cell a1 b,hg.cell c b,hg.cell a3 b,hg.cell a4 b,hg.cell a5 b⟩,(q _).trans f0,(q _).trans f1,(q _).trans f2,(q _).trans f3,(q _).trans f4,(q _).trans d⟩
theorem MRow.kept (h:MRow w g n M) (hb:Bl w w'):MRow w' g n M:=h.grown (Qv hb) ν
def set6 (w:World) (g j:Nat) (m:M6):World:=(((((w.setCell ⟨g,j*6,none⟩ (I m.1)).setCell ⟨g,j*6+1,none⟩ (I m.2.1)).setCell ⟨g,j*6+2,none⟩ (I m.2.2.1)).setCell ⟨g,j*6+3,none⟩ (I m.2.2.2.1)).setCell ⟨g,j*6+4,none⟩ (I m.2.2.2.2.1)).setCell ⟨g,j*6+5,none⟩ (I m.2.2.2.2.2)
theorem Js {k:Nat} {u v:Value} (h:At w g k u):(w.setCell ⟨g,k,none⟩ v).cell? ⟨g,k,none⟩=some v:=Cs _ _ _ h
theorem Qo {k a:Nat} {u v:Value} (h:At w g k u) (b:k≠a):(w.setCell ⟨g,a,none⟩ v).cell? ⟨g,k,none⟩=some u:=by
 rw [Co _ _ _ _ (by simp <;> omega)];exact h
theorem MRow.set6 {j:Nat} (h:MRow w g n M) (d:j<n) (m:M6):MRow (set6 w g j m) g n (fun q=>if q=j then m else M q):=fun i hi=>by
 obtain ⟨⟨a0,a1,a,a3,a4,a5⟩,b⟩:=h i hi;refine ⟨?_,by simpa only [Fn,MFree,YtbjmnlefkbhbdaaGreatDoor.set6,Fz] using b⟩;by_cases e:i=j
 ·subst e;simp only [if_true];unfold YtbjmnlefkbhbdaaGreatDoor.set6;refine ⟨?_, ?_, ?_, ?_, ?_, ?_⟩
  ·exact Qo (Qo (Qo (Qo (Qo (Js a0) γ) γ) γ) γ) γ
  ·exact Qo (Qo (Qo (Qo (Js (Qo a1 γ)) γ) γ) γ) γ
  ·exact Qo (Qo (Qo (Js (Qo (Qo a γ) γ)) γ) γ) γ
  ·exact Qo (Qo (Js (Qo (Qo (Qo a3 γ) γ) γ)) γ) γ
  ·exact Qo (Js (Qo (Qo (Qo (Qo a4 γ) γ) γ) γ)) γ
  ·exact Js (Qo (Qo (Qo (Qo (Qo a5 γ) γ) γ) γ) γ)
 ·simp only [if_neg e];unfold YtbjmnlefkbhbdaaGreatDoor.set6
  have q:∀ {o:Nat} {u:Value},At w g (i*6+o) u→o<6→((((((w.setCell ⟨g,j*6,none⟩ (I m.1)).setCell ⟨g,j*6+1,none⟩ (I m.2.1)).setCell ⟨g,j*6+2,none⟩ (I m.2.2.1)).setCell ⟨g,j*6+3,none⟩ (I m.2.2.2.1)).setCell ⟨g,j*6+4,none⟩ (I m.2.2.2.2.1)).setCell ⟨g,j*6+5,none⟩ (I m.2.2.2.2.2)).cell? ⟨g,i*6+o,none⟩=some u:=fun {o u} c f =>
   Qo (Qo (Qo (Qo (Qo (Qo c γ) γ) γ) γ) γ) γ
  exact ⟨q (o:=0) a0 γ,q a1 γ,q a γ,q a3 γ,q a4 γ,q a5 γ⟩
theorem Jw (w:World) (g j:Nat) (m:M6):w.grownBy (set6 w g j m) (some g):=Jg (Jg (Jg (Jg (Jg (Qg _ _ _ _) (Qg _ _ _ _)) (Qg _ _ _ _)) (Qg _ _ _ _)) (Qg _ _ _ _)) (Qg _ _ _ _)
theorem made_zero (n k:Nat) (a:k<n*6):(madeCells #[I 0,I 0,I 0,I 0,I 0,I 0] (n*6)).toList[k]?=some (I 0):=by
 rw [Array.getElem?_toList];unfold madeCells;have h6:k % 6=0∨k % 6=1∨k % 6=2∨k % 6=3∨k % 6=4∨k % 6=5:=γ;rcases h6 with h | h | h | h | h | h <;> simp [a,h]
theorem maps_made {base:Nat} (h:w.ownsRow base 48 6 (.slice (Az g) n n) n (madeCells #[I 0,I 0,I 0,I 0,I 0,I 0] (n*6)).toList):MRow w g n (fun _=>noM):=fun i hi=>by
 have q:∀ k,k<n*6→At w g k (I 0):=fun k a=>(h.cellAt k a).trans (made_zero n k a)
 have f:∀ k,Fn w g k:=fun k=>by
  rcases h.2 with ⟨e1,_⟩ | ⟨b,c,d,e1,_,hb,_⟩
  ·simp at e1
  ·simp only [Value.slice.injEq,Option.some.injEq,Addr.mk.injEq] at e1;obtain ⟨⟨rfl,_⟩,_⟩:=e1;simp [World.frozen?,hb]
 exact ⟨⟨q _ γ,q _ γ,q _ γ,q _ γ,q _ γ,q _ γ⟩,f _,f _,f _,f _,f _,f _⟩
theorem inf59:(Tryz.prog.info? 48).map (fun i=>(i.zero,i.size,i.bytes))=some (some (.agg #[I 0,I 0,I 0,I 0,I 0,I 0]),6,48):=μ
def SRow (w:World) (a:Option Addr) (S:List (T3×List T3)):Prop :=
 ∀ i (h:i<S.length),∃ g sa sc,a=Az g∧At w g (i*4) (I S[i].1.1)∧At w g (i*4+1) (I S[i].1.2.1)∧At w g (i*4+2) (I S[i].1.2.2)∧At w g (i*4+3) (.slice sa S[i].2.length sc)∧TRow w sa S[i].2
theorem SRow.kept {a:Option Addr} {S:List (T3×List T3)} (h:SRow w a S) (hb:Bl w w'):SRow w' a S:=fun i hi=>by
 obtain ⟨g,c,d,e,c0,c1,c2,c3,b⟩:=h i hi;exact ⟨g,c,d,e,Qa hb c0,Qa hb c1,Qa hb c2,Qa hb c3,b.kept hb⟩
def pbox (w:World) (ad:Option Addr) (n cc ra rk:Nat) (vm vp:Value):World:=w.alloc (.cells #[.slice ad n cc,.map (some ra),.map (some rk),vm,vp] 67)
theorem fits_any (w:World) (x n o gm cm:Nat) (l pa:Option Addr) (pn pc:Nat) (L:List T3) (kd:E4→Int) (M:Nat→M6) (hs:Steps w) (a6:PA w l n L) (hK:KL w o kd) (hL:L.length≤300) (y:∀ t∈L,(0≤t.1∧t.1≤8)∧(0≤t.2.1∧t.2.1≤8)∧(0≤t.2.2∧t.2.2≤3)) (hM:MRow w gm L.length M) (hC:Cons kd L M) (hG:∀ i,i<L.length→GoodM (M i) 48000) :
  Rt 83 #[.agg #[.slice l L.length x,.map (some n),.map (some o),.slice (Az gm) L.length cm,.slice pa pn pc]] w (.bool true):=by
 have ai:Hid (∀ (a:World) (i:Nat) (hi:i<L.length),Bl w a→Cl 89 #[.agg #[.slice l L.length x,.map (some n),.map (some o)],I (i:Int)] a fun e w'=>∃ v,e=.returned v∧w'.ownsRow (a.heap.size+1) 79 5 v (jl L L[i] i 3).length (flatJ (jl L L[i] i 3))∧Bl a w'):=fun a i hi d=>Xm a x n o i l L L[i].1 L[i].2.1 L[i].2.2 (hs.kept d) (a6.kept d) hi rfl hL (y _ (Lm hi))
 have ah:Hid (∀ (a:World) (i:Nat) (hi:i<L.length) (p q r s A B C D E F:Int),Bl w a→hasT L[i] (p,q,r,s)=true→GoodM (A,B,C,D,E,F) 800000→Rt 131 #[.agg #[.slice l L.length x,.map (some n),.map (some o)],.agg #[I p,I q,I r,I s],.agg #[I A,I B,I C,I D,I E,I F]] a (mv (farM kd (p,q,r,s) (A,B,C,D,E,F)))):=fun a i hi p q r s A B C D E F d hh hm =>
  beyond_any a l L.length x n o kd p q r s A B C D E F (hK.kept d) (Zz hh (y _ (Lm hi))).1 (Zz hh (y _ (Lm hi))).2.1 (Zp hh (y _ (Lm hi))) hm
 have HC:Hid (Cons kd L M∧MRow w gm L.length M∧∀ i,i<L.length→GoodM (M i) 48000):=⟨hC,hM,hG⟩;have hn:=neqM;clear hs a6 hK y hM hC hG;obtain ⟨Y,H⟩:∃ W,W=pbox w l L.length x n o (.slice (Az gm) L.length cm) (.slice pa pn pc):=⟨_,rfl⟩
 have hx:At Y w.heap.size 0 (.slice l L.length x)∧At Y w.heap.size 1 (.map (some n))∧At Y w.heap.size 2 (.map (some o))∧At Y w.heap.size 3 (.slice (Az gm) L.length cm):=by
  rw [H];simp [pbox,go_sem]
 have HX:=Hd hx;clear hx
 have a7:Bl w Y:=by
  rw [H];exact Qc (Qd _)
 have z:=Hd a7;clear a7;have O:w.alloc (.cells #[.slice l L.length x,.map (some n),.map (some o),.slice (Az gm) L.length cm,.slice pa pn pc] 67)=Y:=H.symm;have aj:=Hd O;clear H O;go_enter Tryz.func83,Tryz.ntmps83;go_wp2;go_loopg [10] L.length (fun gk ak wx=>∃ i:Nat,i≤L.length∧gk=L.length - i∧ak=I (i:Int)∧Bl Y wx)
 case atStart=>exact ⟨0,γ,rfl,rfl,by rw [aj.out];exact Qd _⟩
 case round =>
  obtain ⟨i,hi,rfl,rfl,hB⟩:=hrel;have Z:=Hd hB;clear hB;by_cases h1:i<L.length
  ·have i1:(i:Int)<(L.length:Int):=γ;have i0:(0:Int)≤(i:Int):=γ;obtain ⟨J,hJ⟩:∃ J,J=jl L L[i] i 3:=⟨_,rfl⟩
   have ao:J.length≤900:=by
    have:=Uv L L[i] i 3;rw [hJ];omega
   have CJ:Hid (∀ a:World,Bl wr a→Cl 89 #[.agg #[.slice l L.length x,.map (some n),.map (some o)],I (i:Int)] a fun e w'=>∃ v,e=.returned v∧w'.ownsRow (a.heap.size+1) 79 5 v J.length (flatJ J)∧Bl a w'):=fun a d=>by
    rw [hJ];exact ai.out a i h1 (Qb z.out (Qb Z.out d))
   have HJ:=Hd hJ;clear hJ;have p0:=Qa Z.out HX.out.1;have p1:=Qa Z.out HX.out.2.1;have p2:=Qa Z.out HX.out.2.2.1;have zp:=Bt p0;go_wp2_with (go_at_call 89;refine (CJ.out _ δ0).mono ?_;rintro e w8 ⟨v8,rfl,N,hb⟩;obtain ⟨ja,jc,rfl,aa⟩:=own_jw N;have a2:=H2 aa (Qb Z.out hb);clear N aa hb)
   clear p0 p1 p2 zp;go_loopg [18] J.length (fun gk am wx=>∃ m:Nat,m≤J.length∧gk=J.length - m∧am=I (m:Int)∧Bl w8 wx)
   case atStart=>exact ⟨0,γ,rfl,rfl,Qd _⟩
   case round =>
    obtain ⟨m,hm,rfl,rfl,hB⟩:=hrel;have u:=H2 (Qb a2.out.2 hB) hB;clear hB;by_cases hm1:m<J.length
    ·have im:(m:Int)<(J.length:Int):=γ;have ar:(0:Int)≤(m:Int):=γ;obtain ⟨jb,rfl,c0,c1,c2,c3,c4⟩:=(a2.out.1.kept u.out.2).1 m hm1;have an:=Bt c0;obtain ⟨q,hq⟩:∃ q,q=J[m]:=⟨_,rfl⟩;obtain ⟨⟨T,U,V,X⟩,qj⟩:=q;rw [← hq] at c0 c1 c2 c3 c4;dsimp only at c0 c1 c2 c3 c4;have K:((T,U,V,X),qj)∈jl L L[i] i 3:=by rw [← HJ.out,hq];exact Lm hm1
     obtain ⟨k,hk,ac,j,hj,rfl,a8,ab⟩:=Xw.1 K;have R:hasT L[i] (T,U,V,X)=true:=by rw [ac];exact Xq _ _
     have g:=HC.out.1.2 i j h1 hj (T,U,V,X) (fun e=>a8 e.symm) R ab;obtain ⟨⟨y0,y1,y2,y3,y4,y5⟩,_⟩:=HC.out.2.1 i h1;obtain ⟨⟨v0,v1,v2,v3,v4,v5⟩,_⟩:=HC.out.2.1 j hj;have Q:=(HC.out.2.2 i h1).mono (C:=800000) γ;obtain ⟨A,B,C,D,E,F,ae⟩:∃ A B C D E F,M i=(A,B,C,D,E,F):=⟨_,_,_,_,_,_,rfl⟩;obtain ⟨f0,f1,f2,f3,f4,f5,af⟩:∃ f0 f1 f2 f3 f4 f5,M j=(f0,f1,f2,f3,f4,f5):=⟨_,_,_,_,_,_,rfl⟩;rw [ae] at y0 y1 y2 y3 y4 y5 Q g;rw [af] at v0 v1 v2 v3 v4 v5 g;dsimp only at y0 y1 y2 y3 y4 y5 v0 v1 v2 v3 v4 v5
     have CB:Hid (∀ a:World,Bl wr a→Rt 131 #[.agg #[.slice l L.length x,.map (some n),.map (some o)],.agg #[I T,I U,I V,I X],.agg #[I A,I B,I C,I D,I E,I F]] a (.agg #[I f0,I f1,I f2,I f3,I f4,I f5])):=fun a d=>by
      have h:=ah.out a i h1 T U V X A B C D E F (Qb z.out (Qb u.out.1 d)) R Q;rw [← g] at h;exact h
     have ap:sameM f0 f1 f2 f3 f4 f5 f0 f1 f2 f3 f4 f5=true:=by simp [sameM]
     have ij:(j:Int)<(L.length:Int):=γ;have aq:(0:Int)≤(j:Int):=γ;clear K ac ab hq a8 R Q ae af g;go_wp2;refine Qj (fun G hW0=>?_)
     have P:Hid (Bl wr G):=by
      have:Bl wr G:=Θ;exact this
     obtain ⟨B9,f⟩:∃ b,b=wr.heap.size:=⟨_,rfl⟩;have x0:At G B9 0 (I T):=by rw [hW0,f];simp [go_sem]
     have x1:At G B9 1 (I U):=by rw [hW0,f];simp [go_sem]
     have x2:At G B9 2 (I V):=by rw [hW0,f];simp [go_sem]
     have x3:At G B9 3 (I X):=by rw [hW0,f];simp [go_sem]
     have x4:At G B9 4 (I (j:Int)):=by rw [hW0,f];simp [go_sem]
     clear hW0;rw [← f];clear f;have bw:=Qb u.out.1 P.out;have p0:=Qa bw HX.out.1;have p1:=Qa bw HX.out.2.1;have p2:=Qa bw HX.out.2.2.1;have p3:=Qa bw HX.out.2.2.2;have c:=Qb z.out bw;replace y0:=Qa c y0;replace y1:=Qa c y1;replace y2:=Qa c y2;replace y3:=Qa c y3;replace y4:=Qa c y4;replace y5:=Qa c y5;replace v0:=Qa c v0;replace v1:=Qa c v1;replace v2:=Qa c v2;replace v3:=Qa c v3;replace v4:=Qa c v4;replace v5:=Qa c v5;have zW:=Bt p0;have au:=Bt y0;have av:=Bt x0;have ag:Hid (∀ a:World,Bl G a→Rt 131 #[.agg #[.slice l L.length x,.map (some n),.map (some o)],.agg #[I T,I U,I V,I X],.agg #[I A,I B,I C,I D,I E,I F]] a (.agg #[I f0,I f1,I f2,I f3,I f4,I f5])):=fun a d=>CB.out a (Qb P.out d);clear c0 c1 c2 c3 c4 an bw c;obtain ⟨kc,kn⟩:=kcn G;refine wk ?_;repeat (go_big_quiet_step ((go_at_call 131;exact Qm (ag.out _ (Kin.h _)))))
     refine kq1 (fun wq hq=>?_);clear kc kn x0 x1 x2 x3 x4 p0 p1 p2 p3 y0 y1 y2 y3 y4 y5 v0 v1 v2 v3 v4 v5;go_wp2;go_roundg (J.length - (m+1))
     case measure=>omega
     case rel=>exact ⟨m+1,γ,rfl,σ,Qb u.out.2 (Qb P.out hq)⟩
    ·have im:¬ (m:Int)<(J.length:Int):=γ;go_wp2;go_roundg (L.length - (i+1))
     case measure=>omega
     case rel=>exact ⟨i+1,γ,rfl,σ,u.out.1⟩
  ·have i1:¬ (i:Int)<(L.length:Int):=γ;go_wp2;go_ret;exact ⟨rfl,Qb z.out Z.out⟩
end Go.Proofs.YtbjmnlefkbhbdaaGreatDoor
