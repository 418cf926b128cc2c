/- A part of it. -/
import Derived.Test.YtnpboeodhpenmaaGreatDoorQlak
import Derived.Sort.LotA
set_option maxRecDepth 100000
set_option maxHeartbeats 40000000
namespace Go.Proofs.YtnpboeodhpenmaaGreatDoor
open Go.RowKit
variable {w w':World} {n:Nat} {a:Option Addr} {l:List T3} {t:T3} {d:Array Nat}
def TRowG (w:World) (a:Option Addr) (l:List T3):Prop :=
 ∀ i (h:i<l.length),∃ g o,a=Ad g o∧At w g (o+i*3) (I l[i].1)∧At w g (o+i*3+1) (I l[i].2.1)∧At w g (o+i*3+2) (I l[i].2.2)
theorem TRowG.kept {c:World} (h:TRowG w a l) (b:Bl w c):TRowG c a l:=fun i hi=>by
 obtain ⟨g,o,e,h0,h1,h2⟩:=h i hi;exact ⟨g,o,e,Qa b h0,Qa b h1,Qa b h2⟩
theorem TRowG.take (h:TRowG w a l) (k:Nat):TRowG w a (l.take k):=fun i hi=>by
 rw [List.length_take] at hi;obtain ⟨g,o,e,h0,h1,h2⟩:=h i γ;simp only [List.getElem_take];exact ⟨g,o,e,h0,h1,h2⟩
def SRowG (w:World) (a:Option Addr) (S:List (T3×List T3)):Prop :=
 ∀ i (h:i<S.length),∃ g o sa sc,a=Ad g o∧At w g (o+i*4) (I S[i].1.1)∧At w g (o+i*4+1) (I S[i].1.2.1)∧At w g (o+i*4+2) (I S[i].1.2.2)∧At w g (o+i*4+3) (.slice sa S[i].2.length sc)∧S[i].2.length≤sc∧TRowG w sa S[i].2
theorem SRowG.kept {S:List (T3×List T3)} (h:SRowG w a S) (b:Bl w w'):SRowG w' a S:=fun i hi=>by
 obtain ⟨g,o,f,j,e,c0,c1,c2,c3,c,d⟩:=h i hi;exact ⟨g,o,f,j,e,Qa b c0,Qa b c1,Qa b c2,Qa b c3,c,d.kept b⟩
theorem placeG_any (a:Option Addr) (m:Nat) (l:List T3) (x y k:Int) (w:World) (hT:TRowG w a l) (s:l.length≤17592186044416) :
  Rt 53 #[.slice a l.length m,.agg #[I x,I y,I k]] w (I (plc l (x,y,k))):=by
 have D:=eql23;have v:=Hd hT;clear hT;go_enter Tryz.func53,Tryz.ntmps53;go_wp2;go_loopg [5] l.length (fun g A u=>∃ i:Nat,i≤l.length∧g=l.length - i∧A=I (i:Int)∧(∀ j (c:j<l.length),j<i→l[j]≠(x,y,k))∧(Tr u w.heap.size x y k∧Bl w u))
 case atStart=>exact ⟨0,γ,rfl,rfl,fun j _ h=>by omega,γ8,Qb (Qe _)⟩
 case round =>
  obtain ⟨i,hi,rfl,rfl,hp,⟨t0,B,C⟩,q⟩:=hrel;have d:=Hd hp;have b:=Hd q;have f:Hid (Tr wr w.heap.size x y k):=⟨t0,B,C⟩;clear hp q;by_cases h1:i<l.length
  ·have z:(i:Int)<(l.length:Int):=γ;have E:(0:Int)≤(i:Int):=γ;obtain ⟨g,o,rfl,c0,c1,c2⟩:=(v.out.kept b.out) i h1;obtain ⟨t,n⟩:∃ t,t=l[i]:=⟨_,rfl⟩;obtain ⟨X,Y,K⟩:=t;rw [← n] at c0 c1 c2;dsimp only at c0 c1 c2;have p:=Hd n;clear n;have F:=Bt c0;have G:=Bt t0
   cases hq:sameT X Y K x y k
   ·go_wp2;go_quiet (fail)
    go_wp2;go_roundg (l.length - (i+1))
    case measure=>omega
    case rel =>
     refine ⟨i+1,γ,rfl,σ,fun j c h=>?_,f.out, ?_⟩
     ·by_cases e:j=i
      ·subst e;rw [← p.out];intro r;simp at r;simp [sameT,r] at hq
      ·exact d.out j c γ
     ·with_reducible repeat' (first | exact b.out | refine Qr ?_ | refine Qg ?_)
   ·go_wp2;go_quiet (fail)
    go_wp2;go_ret;refine ⟨Jp ?_, ?_⟩
    ·refine (Gv h1 ?_ d.out).symm;rw [← p.out];simpa [sameT] using hq
    ·with_reducible repeat' (first | exact b.out | refine Qr ?_ | refine Qg ?_)
  ·have z:¬ (i:Int)<(l.length:Int):=γ;go_wp2;go_ret;exact ⟨Jp (plc_not (fun j c=>d.out j c γ)).symm,b.out⟩
theorem plc_neg:0≤plc l t↔t∈l:=by
 unfold plc;split
 ·rename_i h
  exact ⟨fun _=>h,fun _=>by omega⟩
 ·rename_i h
  exact ⟨fun h2=>by omega,fun h2=>absurd h2 h⟩
open Go.ChangeMaps
def bynd (kd:E4→Int) (e:E4) (m:M6):M6:=if kd e=0 then m else bif mapM (aft (mir (lnW e) (lnC e)) m) then aft (mir (lnW e) (lnC e)) m else noM
theorem bynd_iff {kd:E4→Int} {e:E4} {m n:M6} (a:mapM n=true):n=bynd kd e m↔n=farM kd e m:=by
 unfold bynd farM;split
 ·exact Iff.rfl
 ·cases h:mapM (aft (mir (lnW e) (lnC e)) m)
  ·constructor
   ·intro q;rw [q] at a;simp [noM_not] at a
   ·intro q;rw [q,h] at a;exact absurd a ψ
  ·exact Iff.rfl
theorem beyond_gen (w:World) (M:Option Addr) (n N P L:Nat) (kd:E4→Int) (p q r s A B C D E F:Int) (Q:KL w L kd) (h1:0≤p∧p≤100) (h2:0≤q∧q≤100) (K:lineB (lnW (p,q,r,s)) (lnC (p,q,r,s))=true∧-40≤lnC (p,q,r,s)∧lnC (p,q,r,s)≤40) (T:mapM (A,B,C,D,E,F)=true) :
  Rt 252 #[.agg #[.slice M n N,.map (some P),.map (some L)],.agg #[I p,I q,I r,I s],.agg #[I A,I B,I C,I D,I E,I F]] w (mv (bynd kd (p,q,r,s) (A,B,C,D,E,F))):=by
 have l:=Qbm K.1 K.2;by_cases hz:kd (p,q,r,s)=0
 ·have CK:Hid (∀ k:World,Bl w k→Rt 191 #[.agg #[.slice M n N,.map (some P),.map (some L)],.agg #[I p,I q,I r,I s]] k (I 0)):=fun k G=>hz ▸ kind_any k M n N P L kd p q r s (Q.kept G)
  have HF:Hid (bynd kd (p,q,r,s) (A,B,C,D,E,F)=(A,B,C,D,E,F)):=by
   have:bynd kd (p,q,r,s) (A,B,C,D,E,F)=(A,B,C,D,E,F):=by simp [bynd,hz]
   exact this
  clear Q K T l h1 h2 hz;go_enter Tryz.func252,Tryz.ntmps252;go_wp2_with (go_at_call 191;refine (CK.out _ (by with_reducible exact Qb β3)).mono ?_;rintro e j ⟨rfl,g⟩;have HB:=Hd (Qc β4 g);have m0:At j (w.heap.size+1+1) 0 (I A):=Qa g δ;have m1:At j (w.heap.size+1+1) 1 (I B):=Qa g δ;have m2:At j (w.heap.size+1+1) 2 (I C):=Qa g δ;have m3:At j (w.heap.size+1+1) 3 (I D):=Qa g δ;have m4:At j (w.heap.size+1+1) 4 (I E):=Qa g δ;have m5:At j (w.heap.size+1+1) 5 (I F):=Qa g δ;have r0:At j (w.heap.size+1+1+1) 0 (I 0):=Qa g δ;have r1:At j (w.heap.size+1+1+1) 1 (I 0):=Qa g δ;have r2:At j (w.heap.size+1+1+1) 2 (I 0):=Qa g δ;have r3:At j (w.heap.size+1+1+1) 3 (I 0):=Qa g δ;have r4:At j (w.heap.size+1+1+1) 4 (I 0):=Qa g δ;have r5:At j (w.heap.size+1+1+1) 5 (I 0):=Qa g δ;have fz:∀ o,o<6→Fn j (w.heap.size+1+1+1) o:=fun o ho=>(g.frozen (p:=⟨w.heap.size+1+1+1,o,none⟩) ξ).trans δ;have f0:=fz 0 γ;have f1:=fz 1 γ;have f2:=fz 2 γ;have f3:=fz 3 γ;have f4:=fz 4 γ;have f5:=fz 5 γ;have J:=Bt r0;clear fz g)
  refine bodyPost_ret (v:=.agg #[I A,I B,I C,I D,I E,I F]) (by simp [results,Tryz.results252,go_sem,r0,r1,r2,r3,r4,r5]) rfl ⟨by rw [HF.out];rfl, ?_⟩;with_reducible repeat (first | exact HB.out | refine Qh ?_ ?_)
  all_goals (dsimp only;omega)
 ·obtain ⟨z,y⟩:∃ z,z=kd (p,q,r,s):=⟨_,rfl⟩;have CK:Hid (∀ k:World,Bl w k→Rt 191 #[.agg #[.slice M n N,.map (some P),.map (some L)],.agg #[I p,I q,I r,I s]] k (I z)):=fun k G=>y ▸ kind_any k M n N P L kd p q r s (Q.kept G);rw [← y] at hz;obtain ⟨v,hv⟩:∃ v,v=lnW (p,q,r,s):=⟨_,rfl⟩;obtain ⟨c,R⟩:∃ c,c=lnC (p,q,r,s):=⟨_,rfl⟩
  have CL:Hid (∀ k:World,Rt 266 #[.agg #[I p,I q,I r,I s]] k (.agg #[I v,I c])):=fun k=>by
   rw [hv,R];exact paperLine_any p q r s k h1 h2
  rw [← hv,← R] at K l;obtain ⟨a,b,u,d,e,f,x⟩:∃ a b u d e f,mir v c=(a,b,u,d,e,f):=⟨_,_,_,_,_,_,rfl⟩
  have CM:Hid (∀ k:World,Cl 45 #[.agg #[I v,I c]] k fun e' w'=>e'=.returned (.tuple #[.agg #[I a,I b,I u,I d,I e,I f],I 0])∧Bl k w'):=fun k=>by
   have h:=Kf v c k K.1 l.1;simp only [mir,Prod.mk.injEq] at x;obtain ⟨rfl,rfl,rfl,rfl,rfl,rfl⟩:=x;exact h
  rw [x] at l
  obtain ⟨U,V,W,X,Y,Z,cd,HF,CA⟩:∃ U V W X Y Z cd:Int,Hid (bynd kd (p,q,r,s) (A,B,C,D,E,F)=(U,V,W,X,Y,Z))∧Hid (∀ k:World,Rt 115 #[.agg #[I a,I b,I u,I d,I e,I f],.agg #[I A,I B,I C,I D,I E,I F]] k (.tuple #[.agg #[I U,I V,I W,I X,I Y,I Z],I cd])):=by
   have O:kd (p,q,r,s)≠0:=by rw [← y];exact hz
   have H:aft (mir (lnW (p,q,r,s)) (lnC (p,q,r,s))) (A,B,C,D,E,F)=(dot A B a u,dot A B b d,dot C D a u,dot C D b d,dot A B e f+E,dot C D e f+F):=by
    rw [← hv,← R,x];rfl
   cases hma:mapM (aft (mir (lnW (p,q,r,s)) (lnC (p,q,r,s))) (A,B,C,D,E,F))
   ·refine ⟨0,0,0,0,0,0,2, ?_,fun k=>After_no a b u d e f A B C D E F k l.1 T ?_⟩
    ·exact by
      have:bynd kd (p,q,r,s) (A,B,C,D,E,F)=(0,0,0,0,0,0):=by
       unfold bynd;rw [if_neg O,hma];rfl
      exact this
    ·rw [H] at hma;exact hma
   ·refine ⟨dot A B a u,dot A B b d,dot C D a u,dot C D b d,dot A B e f+E,dot C D e f+F,0, ?_,fun k=>After_yes a b u d e f A B C D E F k l.1 T ?_⟩
    ·exact by
      have:bynd kd (p,q,r,s) (A,B,C,D,E,F)=(dot A B a u,dot A B b d,dot C D a u,dot C D b d,dot A B e f+E,dot C D e f+F):=by
       unfold bynd;rw [if_neg O,hma,H];rfl
      exact this
    ·rw [H] at hma;exact hma
  clear Q K T l h1 h2 y hv R x;go_enter Tryz.func252,Tryz.ntmps252
  go_wp2_with (first
   | (go_at_call 191;refine (CK.out _ (by with_reducible exact Qb β3)).mono ?_;rintro e j ⟨rfl,g⟩;have HB:=Hd (Qc β4 g);have e0:At j (w.heap.size+1) 0 (I p):=Qa g δ;have e1:At j (w.heap.size+1) 1 (I q):=Qa g δ;have e2:At j (w.heap.size+1) 2 (I r):=Qa g δ;have e3:At j (w.heap.size+1) 3 (I s):=Qa g δ;have m0:At j (w.heap.size+1+1) 0 (I A):=Qa g δ;have m1:At j (w.heap.size+1+1) 1 (I B):=Qa g δ;have m2:At j (w.heap.size+1+1) 2 (I C):=Qa g δ;have m3:At j (w.heap.size+1+1) 3 (I D):=Qa g δ;have m4:At j (w.heap.size+1+1) 4 (I E):=Qa g δ;have m5:At j (w.heap.size+1+1) 5 (I F):=Qa g δ;have r0:At j (w.heap.size+1+1+1) 0 (I 0):=Qa g δ;have t:Hid (∀ o,o<6→At j (w.heap.size+1+1+1) o (I 0)∧Fn j (w.heap.size+1+1+1) o):=fun o ho=>⟨Qa g (by rcases six_cases ho with rfl | rfl | rfl | rfl | rfl | rfl <;> simp [go_sem]),(g.frozen (p:=⟨w.heap.size+1+1+1,o,none⟩) ξ).trans δ⟩;have J:=Bt r0;clear g)
   | (go_at_call 266;refine (CL.out _).mono ?_;rintro e w3 ⟨rfl,g⟩;have a2:=Hd g;clear g)
   | (go_at_call 45;refine (CM.out _).mono ?_;rintro e w4 ⟨rfl,g⟩;have m:=Hd (Qc a2.out g);have n0:=Qa m.out m0;have n1:=Qa m.out m1;have n2:=Qa m.out m2;have n3:=Qa m.out m3;have n4:=Qa m.out m4;have n5:=Qa m.out m5;have z4:=Bt n0;clear g)
   | (go_at_call 115;refine (CA.out _).mono ?_;rintro e w5 ⟨rfl,g⟩;have i:=Hd (Qc (Qb m.out) g);have s0:=Qa i.out (t.out 0 γ).1;have f0:=(i.out.frozen (p:=⟨w.heap.size+1+1+1,0,none⟩) J).trans (t.out 0 γ).2;have s1:=Qa i.out (t.out 1 γ).1;have f1:=(i.out.frozen (p:=⟨w.heap.size+1+1+1,1,none⟩) J).trans (t.out 1 γ).2;have s2:=Qa i.out (t.out 2 γ).1;have f2:=(i.out.frozen (p:=⟨w.heap.size+1+1+1,2,none⟩) J).trans (t.out 2 γ).2;have s3:=Qa i.out (t.out 3 γ).1;have f3:=(i.out.frozen (p:=⟨w.heap.size+1+1+1,3,none⟩) J).trans (t.out 3 γ).2;have s4:=Qa i.out (t.out 4 γ).1;have f4:=(i.out.frozen (p:=⟨w.heap.size+1+1+1,4,none⟩) J).trans (t.out 4 γ).2;have s5:=Qa i.out (t.out 5 γ).1;have f5:=(i.out.frozen (p:=⟨w.heap.size+1+1+1,5,none⟩) J).trans (t.out 5 γ).2;have z5:=Bt s0;clear g))
  refine bodyPost_ret (v:=.agg #[I U,I V,I W,I X,I Y,I Z]) ?_ rfl ⟨by rw [HF.out];rfl, ?_⟩
  ·simp [results,Tryz.results252,go_sem,s0,s1,s2,s3,s4,s5,Ca,z5]
  ·with_reducible repeat (first | exact Qc HB.out i.out | refine Qh ?_ ?_ | refine Qb ?_)
   all_goals (dsimp only;omega)
def FitJ (kd:E4→Int) (M:Nat→M6) (i:Nat) (q:E4×Int):Prop := ∀ j:Nat,q.2=(j:Int)→M j=bynd kd q.1 (M i)
theorem Qz {α:Type} (l:List α) (i:Nat) (h:i<l.length) {d : α}:l.getD i d=l[i]:=by rw [List.getD_eq_getElem?_getD,List.getElem?_eq_getElem h];rfl
def FitI (kd:E4→Int) (L:List T3) (M:Nat→M6) (i:Nat):Prop := ∀ q∈jl L (L.getD i (0,0,0)) i 3,FitJ kd M i q
def FitTo (kd:E4→Int) (L:List T3) (M:Nat→M6) (w w':World) (e:Ending):Prop:=(∃ b:Bool,e=.returned (.bool b)∧(b=true↔∀ i,i<L.length→FitI kd L M i))∧Bl w w'
theorem fits_gen (w:World) (x n o gm cm:Nat) (l pa:Option Addr) (pn pc:Nat) (L:List T3) (kd:E4→Int) (M:Nat→M6) (hs:Steps w) (ac:PA w l n L) (hK:KL w o kd) (hL:L.length≤300) (y:∀ t∈L,(0≤t.1∧t.1≤8)∧(0≤t.2.1∧t.2.1≤8)∧(0≤t.2.2∧t.2.2≤3)) (hM:MRow w gm L.length M) (hG:∀ i,i<L.length→mapM (M i)=true) :
  Cl 185 #[.agg #[.slice l L.length x,.map (some n),.map (some o),.slice (Az gm) L.length cm,.slice pa pn pc]] w fun e w'=>FitTo kd L M w w' e:=by
 have an:Hid (∀ (a:World) (i:Nat) (hi:i<L.length),Bl w a→Cl 99 #[.agg #[.slice l L.length x,.map (some n),.map (some o)],I (i:Int)] a fun e w'=>∃ v,e=.returned v∧w'.ownsRow (a.heap.size+1) 165 5 v (jl L L[i] i 3).length (flatJ (jl L L[i] i 3))∧Bl a w'):=fun a i hi d=>Uv a x n o i l L L[i].1 L[i].2.1 L[i].2.2 (hs.kept d) (ac.kept d) hi rfl hL (y _ (Lm hi))
 have am:Hid (∀ (a:World) (i:Nat) (hi:i<L.length) (p q r s A B C D E F:Int),Bl w a→hasT L[i] (p,q,r,s)=true→mapM (A,B,C,D,E,F)=true→Rt 252 #[.agg #[.slice l L.length x,.map (some n),.map (some o)],.agg #[I p,I q,I r,I s],.agg #[I A,I B,I C,I D,I E,I F]] a (mv (bynd kd (p,q,r,s) (A,B,C,D,E,F)))):=fun a i hi p q r s A B C D E F d hh hm =>
  beyond_gen a l L.length x n o kd p q r s A B C D E F (hK.kept d) (Qbq hh (y _ (Lm hi))).1 (Qbq hh (y _ (Lm hi))).2.1 (Vu hh (y _ (Lm hi))) hm
 have HC:Hid (MRow w gm L.length M∧∀ i,i<L.length→mapM (M i)=true):=⟨hM,hG⟩;have hn:=neqM;clear hs ac hK y hM hG;obtain ⟨w0,T⟩:∃ W,W=pbox w l L.length x n o (.slice (Az gm) L.length cm) (.slice pa pn pc):=⟨_,rfl⟩
 have hx:At w0 w.heap.size 0 (.slice l L.length x)∧At w0 w.heap.size 1 (.map (some n))∧At w0 w.heap.size 2 (.map (some o))∧At w0 w.heap.size 3 (.slice (Az gm) L.length cm):=by
  rw [T];simp [pbox,go_sem]
 have HX:=Hd hx;clear hx
 have af:Bl w w0:=by
  rw [T];exact Qb (Qe _)
 have u:=Hd af;clear af;have Z:w.alloc (.cells #[.slice l L.length x,.map (some n),.map (some o),.slice (Az gm) L.length cm,.slice pa pn pc] 100)=w0:=T.symm;have ao:=Hd Z;clear T Z;go_enter Tryz.func185,Tryz.ntmps185;go_wp2;go_loopg [10] L.length (fun gk au wx=>∃ i:Nat,i≤L.length∧gk=L.length - i∧au=I (i:Int)∧(∀ U,U<i→FitI kd L M U)∧Bl w0 wx)
 case atStart=>exact ⟨0,γ,rfl,rfl,fun U ag=>by omega,by rw [ao.out];exact Qe _⟩
 case round =>
  obtain ⟨i,hi,rfl,rfl,hF,hB⟩:=hrel;have HF:=Hd hF;clear hF;have HB:=Hd hB;clear hB;by_cases h1:i<L.length
  ·have i1:(i:Int)<(L.length:Int):=γ;have i0:(0:Int)≤(i:Int):=γ;obtain ⟨J,hJ⟩:∃ J,J=jl L L[i] i 3:=⟨_,rfl⟩
   have ax:J.length≤900:=by
    have:=jl_len L L[i] i 3;rw [hJ];omega
   have CJ:Hid (∀ a:World,Bl wr a→Cl 99 #[.agg #[.slice l L.length x,.map (some n),.map (some o)],I (i:Int)] a fun e w'=>∃ v,e=.returned v∧w'.ownsRow (a.heap.size+1) 165 5 v J.length (flatJ J)∧Bl a w'):=fun a d=>by
    rw [hJ];exact an.out a i h1 (Qc u.out (Qc HB.out d))
   have HJ:=Hd hJ;clear hJ;have p0:=Qa HB.out HX.out.1;have p1:=Qa HB.out HX.out.2.1;have p2:=Qa HB.out HX.out.2.2.1;have zp:=Bt p0;go_wp2_with (go_at_call 99;refine (CJ.out _ (by with_reducible exact Qe _)).mono ?_;rintro e w8 ⟨v8,rfl,Y,hb⟩;obtain ⟨ja,jc,rfl,ai⟩:=own_jw Y;have aa:=H2 ai (Qc HB.out hb);clear Y ai hb)
   clear p0 p1 p2 zp;go_loopg [18] J.length (fun gk av wx=>∃ m:Nat,m≤J.length∧gk=J.length - m∧av=I (m:Int)∧(∀ V,V<m→FitJ kd M i (J.getD V ((0,0,0,0),0)))∧Bl w8 wx)
   case atStart=>exact ⟨0,γ,rfl,rfl,fun V a6=>by omega,Qe _⟩
   case round =>
    obtain ⟨m,hm,rfl,rfl,ab,hB⟩:=hrel;have a8:=Hd ab;clear ab;have g:=H2 (Qc aa.out.2 hB) hB;clear hB;by_cases hm1:m<J.length
    ·have im:(m:Int)<(J.length:Int):=γ;have az:(0:Int)≤(m:Int):=γ;obtain ⟨jb,rfl,c0,c1,c2,c3,c4⟩:=(aa.out.1.kept g.out.2).1 m hm1;have aw:=Bt c0;obtain ⟨q,hq⟩:∃ q,q=J[m]:=⟨_,rfl⟩;obtain ⟨⟨z,G,H,K⟩,qj⟩:=q;rw [← hq] at c0 c1 c2 c3 c4;dsimp only at c0 c1 c2 c3 c4;have X:((z,G,H,K),qj)∈jl L L[i] i 3:=by rw [← HJ.out,hq];exact Lm hm1
     obtain ⟨k,hk,aj,j,hj,rfl,aq,ar⟩:=Yz.1 X;have ah:hasT L[i] (z,G,H,K)=true:=by rw [aj];exact Jc _ _
     have HQ:Hid (J.getD m ((0,0,0,0),0)=((z,G,H,K),(j:Int))):=by
      have:J.getD m ((0,0,0,0),0)=((z,G,H,K),(j:Int)):=by rw [List.getD_eq_getElem?_getD,List.getElem?_eq_getElem hm1,← hq];rfl
      exact this
     obtain ⟨⟨y0,y1,y2,y3,y4,y5⟩,_⟩:=HC.out.1 i h1;obtain ⟨⟨v0,v1,v2,v3,v4,v5⟩,_⟩:=HC.out.1 j hj;have a2:=HC.out.2 i h1;obtain ⟨A,B,C,D,E,F,Q⟩:∃ A B C D E F,M i=(A,B,C,D,E,F):=⟨_,_,_,_,_,_,rfl⟩;obtain ⟨f0,f1,f2,f3,f4,f5,R⟩:∃ f0 f1 f2 f3 f4 f5,M j=(f0,f1,f2,f3,f4,f5):=⟨_,_,_,_,_,_,rfl⟩;rw [Q] at y0 y1 y2 y3 y4 y5 a2;rw [R] at v0 v1 v2 v3 v4 v5;dsimp only at y0 y1 y2 y3 y4 y5 v0 v1 v2 v3 v4 v5;obtain ⟨g0,g1,g2,g3,g4,g5,P⟩:∃ g0 g1 g2 g3 g4 g5,bynd kd (z,G,H,K) (A,B,C,D,E,F)=(g0,g1,g2,g3,g4,g5):=⟨_,_,_,_,_,_,rfl⟩
     have CB:Hid (∀ a:World,Bl wr a→Rt 252 #[.agg #[.slice l L.length x,.map (some n),.map (some o)],.agg #[I z,I G,I H,I K],.agg #[I A,I B,I C,I D,I E,I F]] a (.agg #[I g0,I g1,I g2,I g3,I g4,I g5])):=fun a d=>by
      have h:=am.out a i h1 z G H K A B C D E F (Qc u.out (Qc g.out.1 d)) ah a2;rw [P] at h;exact h
     have a7:Hid (sameM f0 f1 f2 f3 f4 f5 g0 g1 g2 g3 g4 g5=true↔FitJ kd M i ((z,G,H,K),(j:Int))):=by
      have:sameM f0 f1 f2 f3 f4 f5 g0 g1 g2 g3 g4 g5=true↔FitJ kd M i ((z,G,H,K),(j:Int)):=by
       constructor
       ·intro h j' ap;have:j'=j:=by dsimp only at ap;omega
        subst this;dsimp only;rw [Q,R,P];simp only [sameM,decide_eq_true_eq] at h;simp only [Prod.mk.injEq];exact h
       ·intro h;have h:=h j rfl;dsimp only at h;rw [Q,R,P] at h;simp only [Prod.mk.injEq] at h;obtain ⟨rfl,rfl,rfl,rfl,rfl,rfl⟩:=h;simp [sameM]
      exact this
     have ij:(j:Int)<(L.length:Int):=γ;have ay:(0:Int)≤(j:Int):=γ;clear X aj ar hq aq ah a2 Q R P;go_wp2;refine Qi (fun O hW0=>?_)
     have N:Hid (Bl wr O):=by
      have:Bl wr O:=γ4;exact this
     obtain ⟨B9,f⟩:∃ b,b=wr.heap.size:=⟨_,rfl⟩;have x0:At O B9 0 (I z):=by rw [hW0,f];simp [go_sem]
     have x1:At O B9 1 (I G):=by rw [hW0,f];simp [go_sem]
     have x2:At O B9 2 (I H):=by rw [hW0,f];simp [go_sem]
     have x3:At O B9 3 (I K):=by rw [hW0,f];simp [go_sem]
     have x4:At O B9 4 (I (j:Int)):=by rw [hW0,f];simp [go_sem]
     clear hW0;rw [← f];clear f;have bw:=Qc g.out.1 N.out;have p0:=Qa bw HX.out.1;have p1:=Qa bw HX.out.2.1;have p2:=Qa bw HX.out.2.2.1;have p3:=Qa bw HX.out.2.2.2;have c:=Qc u.out bw;replace y0:=Qa c y0;replace y1:=Qa c y1;replace y2:=Qa c y2;replace y3:=Qa c y3;replace y4:=Qa c y4;replace y5:=Qa c y5;replace v0:=Qa c v0;replace v1:=Qa c v1;replace v2:=Qa c v2;replace v3:=Qa c v3;replace v4:=Qa c v4;replace v5:=Qa c v5;have zW:=Bt p0;have b5:=Bt y0;have b6:=Bt x0;have ak:Hid (∀ a:World,Bl O a→Rt 252 #[.agg #[.slice l L.length x,.map (some n),.map (some o)],.agg #[I z,I G,I H,I K],.agg #[I A,I B,I C,I D,I E,I F]] a (.agg #[I g0,I g1,I g2,I g3,I g4,I g5])):=fun a d=>CB.out a (Qc N.out d);clear c0 c1 c2 c3 c4 aw bw c;obtain ⟨kc,kn⟩:=kcn O;refine wk ?_;repeat (go_big_quiet_step ((go_at_call 252;exact Qf (ak.out _ (Kin.h _)))))
     refine kq1 (fun wq hq=>?_);clear kc kn x0 x1 x2 x3 x4 p0 p1 p2 p3 y0 y1 y2 y3 y4 y5 v0 v1 v2 v3 v4 v5
     cases hsm:sameM f0 f1 f2 f3 f4 f5 g0 g1 g2 g3 g4 g5
     ·go_wp2;go_ret;refine ⟨⟨false,rfl, ?_⟩,Qc u.out (Qc g.out.1 (Qc N.out hq))⟩;simp only [Bool.false_eq_true,false_iff];intro ae
      have h2:=(ae i h1) (J.getD m ((0,0,0,0),0)) (by
       rw [Qz J m hm1,Qz L i h1,← HJ.out];exact Lm hm1)
      rw [HQ.out] at h2;have:=a7.out.2 h2;rw [hsm] at this
      cases this
     ·go_wp2;go_roundg (J.length - (m+1))
      case measure=>omega
      case rel =>
       refine ⟨m+1,γ,rfl,σ,fun V a6=>?_,Qc g.out.2 (Qc N.out hq)⟩;by_cases e:V=m
       ·subst e;rw [HQ.out];exact a7.out.1 hsm
       ·exact a8.out V γ
    ·have im:¬ (m:Int)<(J.length:Int):=γ;go_wp2;go_roundg (L.length - (i+1))
     case measure=>omega
     case rel =>
      refine ⟨i+1,γ,rfl,σ,fun U ag=>?_,g.out.1⟩;by_cases e:U=i
      ·subst e;intro q hq;rw [Qz L U h1] at hq;have hq:q∈J:=by rw [HJ.out];exact hq
       obtain ⟨V,a6,e⟩:=List.getElem_of_mem hq;have:=a8.out V γ;rw [Qz J V a6] at this;rw [← e];exact this
      ·exact HF.out U γ
  ·have i1:¬ (i:Int)<(L.length:Int):=γ;go_wp2;go_ret;exact ⟨⟨true,rfl,by simp only [true_iff];exact fun U ag=>HF.out U γ⟩,Qc u.out HB.out⟩
def M1 (w:World) (g:Nat) (a b c d e f:Int):Prop:=At w g 0 (I a)∧At w g 1 (I b)∧At w g 2 (I c)∧At w g 3 (I d)∧At w g 4 (I e)∧At w g 5 (I f)
def E3 (w:World) (ge:Nat) (t:T3):Prop := ∀ k,k<3→At w ge (k*4) (I (edg t k).1)∧At w ge (k*4+1) (I (edg t k).2.1)∧At w ge (k*4+2) (I (edg t k).2.2.1)∧At w ge (k*4+3) (I (edg t k).2.2.2)
theorem Twl.e3 {c:Nat} {x y k:Int} (h:Twl w c (ue0 x y k) (ue1 x y k) (ue2 x y k) (ue3 x y k) (ue4 x y k) (ue5 x y k) (ue6 x y k) (ue7 x y k) (ue8 x y k) (ue9 x y k) (ue10 x y k) (ue11 x y k)):E3 w c (x,y,k):=fun n g=>by
 obtain ⟨h0,h1,h2,h3,h4,h5,h6,d,e,f,a,b⟩:=h;have:n=0∨n=1∨n=2:=γ;rcases this with rfl | rfl | rfl
 ·exact ⟨h0,h1,h2,h3⟩
 ·exact ⟨h4,h5,h6,d⟩
 ·exact ⟨e,f,a,b⟩
theorem E3.grown {b:Nat} {row:Option Nat} (h:E3 w b t) (hg:w.grownBy w' row) (a:some b≠row):E3 w' b t:=fun k c=>by
 obtain ⟨h0,h1,h2,h3⟩:=h k c;exact ⟨hg.cell h0 a,hg.cell h1 a,hg.cell h2 a,hg.cell h3 a⟩
theorem E3.kept {a:Nat} (h:E3 w a t) (b:Bl w w'):E3 w' a t:=h.grown (Qy b) ξ
theorem lay_yes (W H b off q n c:Nat) (z:Option Addr) (zs f:List Int) (w:World) (hr:Row w (Ad b off) zs) (hW:1≤W∧W≤8) (hH:1≤H∧H≤8) (hl:zs.length=W*H) (hm:maskB zs=true) (hk:Row w z f) (hn:f.length=n*5) (aj:n≤3518437208883) (hs:Steps w) (hJ:Joined (ty zs W H)) (hC:∀ i,i<n→CrOk (ty zs W H) f i) :
  Cl 85 #[.agg #[I (W:Int),I (H:Int),.slice (Ad b off) zs.length q,.slice z n c]] w fun e w'=>∃ j k base g h,e=.returned (.tuple #[.agg #[.slice j (ty zs W H).length k,.map (some g),.map (some h)],.bool true])∧PK w w' base g h (.slice j (ty zs W H).length k) (ty zs W H) (gix (ty zs W H)) (kf f n):=by
 have ai:cellsB (W:Int) (H:Int) zs=true:=by
  have e1:sideB (W:Int)=true:=γ5;have e2:sideB (H:Int)=true:=γ5;have e3:(zs.length:Int)=(W:Int)*(H:Int):=by rw [hl];simp
  simp only [cellsB,e1,e2,decide_eq_true e3,hm];rfl
 have E:sideB (W:Int)=true:=γ5;have D:sideB (H:Int)=true:=γ5;have X:(zs.length:Int)=(W:Int)*(H:Int):=by rw [hl];simp
 have aa:Hid (∀ a:World,Bl w a→Cl 170 #[.agg #[I (W:Int),I (H:Int),.slice (Ad b off) zs.length q,.slice z n c]] a fun e w'=>e=.returned (.bool true)∧∃ o,w'=a.alloc o):=fun a t=>hm ▸ Zc W H _ q zs _ a E D (hr.kept t) X;have a8:Hid (∀ a:World,Cl 169 #[I (W:Int)] a fun e w'=>e=.returned (.bool true)∧w'=a):=fun a=>E ▸ Jm (W:Int) a;have M:Hid (∀ a:World,Cl 169 #[I (H:Int)] a fun e w'=>e=.returned (.bool true)∧w'=a):=fun a=>D ▸ Jm (H:Int) a;have N:=Hd (fun (a:World) t=>of_any W H b off q zs a (hs.kept t) (hr.kept t) hW hH hl hm);have B:(ty zs W H).length≤300:=by have:=Yu zs W H hW.2;omega
 have O:Hid (∀ (a:World) (j:Option Addr) (k g h:Nat),Bl w a→PA a j g (ty zs W H)→Cl 172 #[.agg #[.slice j (ty zs W H).length k,.map (some g),.map (some h)]] a fun e w'=>∃ C:Bool,e=.returned (.bool C)∧(C=true↔Joined (ty zs W H))∧Bl a w'):=fun a j k g h t hp=>Uw a k g h j _ (hs.kept t) hp B (Yl zs W H) (Kg hW.2 hH.2);have P:Hid (∀ (a:World) (j:Option Addr) (k g h:Nat),Bl w a→PA a j g (ty zs W H)→Cl 173 #[.agg #[.slice j (ty zs W H).length k,.map (some g),.map (some h)],.slice z n c] a fun e w'=>∃ C:Bool,e=.returned (.bool C)∧(C=true↔∀ i,i<n→CrOk (ty zs W H) f i)∧Bl a w'):=fun a j k g h t hp=>Yy a k g h n c j z _ f hp (hk.kept t) hn aj;have ab:=Hd (Xu hk hn);clear hr hl hm hW hH hk hn hs ai E D X;obtain ⟨L,hL⟩:∃ L,L=ty zs W H:=⟨_,rfl⟩;rw [← hL] at N O P B;rw [← hL] at hJ hC ⊢;have HJ:=Hd hJ;have HC:=Hd hC;clear hL hJ hC;go_enter Tryz.func85,Tryz.ntmps85
 go_wp2_with (first
  | (go_at_call 169;first | (refine (a8.out _).mono ?_;rintro e w9 ⟨rfl,u⟩;have x:=u.symm;clear u;subst x) | (refine (M.out _).mono ?_;rintro e w9 ⟨rfl,u⟩;have x:=u.symm;clear u;subst x))
  | (go_at_call 170;refine (aa.out _ Ψ).mono ?_;rintro e w9 ⟨rfl,o9,rfl⟩)
  | (go_at_call 171;refine (N.out _ (by with_reducible exact Qb β2)).mono ?_;rintro e r ⟨j,k,base,pb,g,h,rfl,T⟩;have m:=Hd (T.pk.base β1);have s0:At r w.heap.size 0 (I (W:Int)):=Qa m.out.2.2.2.2 δ;have s1:At r w.heap.size 1 (I (H:Int)):=Qa m.out.2.2.2.2 δ;have s2:At r w.heap.size 2 (.slice (some ⟨b,off,none⟩) zs.length q):=Qa m.out.2.2.2.2 δ;have s3:At r w.heap.size 3 (.slice z n c):=Qa m.out.2.2.2.2 δ;have z3:=Bt s0;have au:w.heap.size+1<r.heap.size:=Nl ξ m.out.2.2.2.2.size;clear T)
  | (go_at_call 172;refine (O.out _ _ k g h (Qb (Qc β2 m.out.2.2.2.2)) (m.out.pa.kept β1)).mono ?_;rintro e J ⟨ac,rfl,U,l⟩;obtain rfl:ac=true:=U.2 HJ.out;have s:=H2 (m.out.kept (Qc β1 l)) (Qc β1 l);have r0:At J w.heap.size 0 (I (W:Int)):=Qa s.out.2 s0;have r1:At J w.heap.size 1 (I (H:Int)):=Qa s.out.2 s1;have r2:At J w.heap.size 2 (.slice (some ⟨b,off,none⟩) zs.length q):=Qa s.out.2 s2;have r3:At J w.heap.size 3 (.slice z n c):=Qa s.out.2 s3;have G:At J r.heap.size 0 (.slice j L.length k):=Qa l δ;have Y:At J r.heap.size 1 (.map (some g)):=Qa l δ;have Z:At J r.heap.size 2 (.map (some h)):=Qa l δ;have z4:=Bt r0;have am:=Bt G;clear U l)
  | (go_at_call 173;refine (P.out _ _ k g h (Qc β2 s.out.1.2.2.2.2) s.out.1.pa).mono ?_;rintro e K ⟨ae,rfl,V,d⟩;obtain rfl:ae=true:=V.2 HC.out;have Q:=Hd (s.out.1.kept d);have v0:At K w.heap.size 0 (I (W:Int)):=Qa d r0;have v1:At K w.heap.size 1 (I (H:Int)):=Qa d r1;have v2:At K w.heap.size 2 (.slice (some ⟨b,off,none⟩) zs.length q):=Qa d r2;have v3:At K w.heap.size 3 (.slice z n c):=Qa d r3;have a2:At K r.heap.size 0 (.slice j L.length k):=Qa d G;have a6:At K r.heap.size 1 (.map (some g)):=Qa d Y;have a7:At K r.heap.size 2 (.map (some h)):=Qa d Z;have z5:=Bt v0;clear V d))
 have an:base≤r.heap.size:=m.out.2.2.2.1.2.2.2.2.2.1;go_loopg [44] n (fun gk ak wx=>∃ i:Nat,i≤n∧gk=n - i∧ak=I (i:Int)∧PK ((w.alloc (.cells #[I (W:Int),I (H:Int),.slice (Ad b off) zs.length q,.slice z n c] 25)).alloc (.cells #[SN,.map none,.map none] 98)) wx base g h (.slice j L.length k) L (gix L) (kf f i)∧(At wx r.heap.size 0 (.slice j L.length k)∧At wx r.heap.size 1 (.map (some g))∧At wx r.heap.size 2 (.map (some h))))
 case atStart=>exact ⟨0,γ,rfl,rfl,Q.out,a2,a6,a7⟩
 case round =>
  clear Q s a2 a6 a7 G Y Z s0 s1 s2 s3 r0 r1 r2 r3 v0 v1 v2 v3 z4 am z5;obtain ⟨i,hi,rfl,rfl,hK,y0,y1,y2⟩:=hrel;have y:=Hd hK;have HB:=Hd (Qc β2 hK.2.2.2.2);clear hK;have zy:=Bt y0;by_cases h1:i<n
  ·have i1:(i:Int)<(n:Int):=γ;have i0:(0:Int)≤(i:Int):=γ;obtain ⟨C,bo,rfl,c0,c1,c2,c3,c4⟩:=(ab.out.kept HB.out) i h1;have zb:=Bt c0;obtain ⟨a,hu,hg,R⟩:=(y.out.kept (w':=wr.alloc (.cells #[I (ck f i 0),I (ck f i 1),I (ck f i 2),I (ck f i 3),I (ck f i 4)] 80)) β1).update ((ck f i 0),(ck f i 1),(ck f i 2),(ck f i 3)) (I (ck f i 4));have ar:(Instr.mapUpdate 96 (.map (some h)) (.agg #[I (ck f i 0),I (ck f i 1),I (ck f i 2),I (ck f i 3)]) (I (ck f i 4))).run Tryz.prog (wr.alloc (.cells #[I (ck f i 0),I (ck f i 1),I (ck f i 2),I (ck f i 3),I (ck f i 4)] 80))=.ok () a:=hu
   have A:some r.heap.size≠some h:=fun e=>by
    have:=y.out.2.2.2.1.2.2.2.1;simp at e;omega
   have HN:Hid (PK ((w.alloc (.cells #[I (W:Int),I (H:Int),.slice (Ad b off) zs.length q,.slice (Ad C bo) n c] 25)).alloc (.cells #[SN,.map none,.map none] 98)) a base g h (.slice j L.length k) L (gix L) (kf f (i+1))∧(At a r.heap.size 0 (.slice j L.length k)∧At a r.heap.size 1 (.map (some g))∧At a r.heap.size 2 (.map (some h)))):=⟨R,hg.cell (Qk y0) A,hg.cell (Qk y1) A,hg.cell (Qk y2) A⟩;clear hu hg R A;go_wp2;go_roundg (n - (i+1))
   case measure=>omega
   case rel=>exact ⟨i+1,γ,rfl,σ,HN.out.1,HN.out.2⟩
  ·have i1:¬ (i:Int)<(n:Int):=γ;obtain rfl:i=n:=γ;have af:At wr (w.heap.size+1) 0 SN:=Qa y.out.2.2.2.2 δ;have ag:At wr (w.heap.size+1) 1 (.map none):=Qa y.out.2.2.2.2 δ;have ah:At wr (w.heap.size+1) 2 (.map none):=Qa y.out.2.2.2.2 δ;have ao:Fn wr (w.heap.size+1) 0:=(y.out.2.2.2.2.frozen (p:=⟨w.heap.size+1,0,none⟩) ξ).trans δ;have ap:Fn wr (w.heap.size+1) 1:=(y.out.2.2.2.2.frozen (p:=⟨w.heap.size+1,1,none⟩) ξ).trans δ;have aq:Fn wr (w.heap.size+1) 2:=(y.out.2.2.2.2.frozen (p:=⟨w.heap.size+1,2,none⟩) ξ).trans δ;go_wp2;have F:=y.out.2.2.2.1;refine bodyPost_ret (v:=.tuple #[.agg #[.slice j L.length k,.map (some g),.map (some h)],.bool true]) ?_ rfl ⟨j,k,base,g,h,rfl,(y.out.base (Qb (Qb (Qe w)))).grown (Ji (Ji (Ql _ _ 0 _) (Ql _ _ 1 _)) (Ql _ _ 2 _)) γ ?_ ?_ ?_⟩
   ·simp [results,Tryz.results85,go_sem,af,ag,ah]
   ·have:=F.1;simp at this;omega
   ·have:=F.2.2.1;simp at this;omega
   ·have:=F.2.2.2.2.2.2;simp at this;omega
theorem lessE_iff (a b c d p q r s:Int):lessE a b c d p q r s=true↔(a<p∨(a=p∧b<q)∨(a=p∧b=q∧(c<r∨(c=r∧d<s)))):=by
 simp only [lessE,lessB,Bool.or_eq_true,Bool.and_eq_true,decide_eq_true_eq];omega
theorem cr_less {L:List T3} {a:List Int} (h:∀ i,i<n→CrOk L a i):∀ d i,i+d+1<n→lessE (ck a i 0) (ck a i 1) (ck a i 2) (ck a i 3) (ck a (i+d+1) 0) (ck a (i+d+1) 1) (ck a (i+d+1) 2) (ck a (i+d+1) 3)=true
 | 0,i,hi=>(h (i+0+1) hi).1 γ
 | d+1,i,hi=>by
  have h1:=cr_less h d i γ;have h2:=(h (i+(d+1)+1) hi).1 γ;have e:i+(d+1)+1 - 1=i+d+1:=γ;rw [e] at h2;rw [lessE_iff] at h1 h2 ⊢;omega
theorem cr_one {L:List T3} {a:List Int} (h:∀ i,i<n→CrOk L a i):CrOne a n:=fun i j b c e=>by
 have h1:=cr_less h (j - i - 1) i γ;rw [show i+(j - i - 1)+1=j by omega] at h1;rw [lessE_iff] at h1;simp only [Prod.mk.injEq] at e;omega
def LayNo (w:World) (W H:Int) (zs ks:List Int) (n:Nat):Prop := ∀ (W':World) (a' c':Option Addr) (ca' cc':Nat),Bl w W'→Row W' a' zs→Row W' c' ks→Cl 85 #[.agg #[I W,I H,.slice a' zs.length ca',.slice c' n cc']] W' fun e w'=>e=.returned (.tuple #[.agg #[SN,.map none,.map none],.bool false])∧Bl W' w'
def MayIs (w:World) (W H:Int) (a c:Option Addr) (ca cc:Nat) (zs:List Int) (n:Nat) (bb:Bool):Prop := ∀ W':World,Bl w W'→Cl 49 #[.agg #[I W,I H,.slice a zs.length ca,.slice c n cc]] W' fun e w'=>e=.returned (.bool bb)∧Bl W' w'
theorem sheet_either (W H:Int) (a c:Option Addr) (s v n:Nat) (zs l:List Int) (w:World) (C:Row w a zs) (K:Row w c l) (B:l.length=n*5) (h2:n≤3518437208883) (hs:Steps w) :
  (LayNo w W H zs l n∧MayIs w W H a c s v zs n false) ∨
  (∃ (f d b off:Nat),W=(f:Int)∧H=(d:Int)∧a=Ad b off∧(1≤f∧f≤8)∧(1≤d∧d≤8)∧zs.length=f*d∧maskB zs=true∧Joined (ty zs f d)∧(∀ i,i<n→CrOk (ty zs f d) l i)∧MayIs w W H a c s v zs n true):=by
 cases hc:cellsB W H zs
 ·exact Or.inl ⟨fun g D A j o k J L=>lay_bad W H D j zs _ g J hc,fun g k=>sheetMay_bad W H a s zs _ g (C.kept k) hc⟩
 ·simp only [cellsB,Bool.and_eq_true,decide_eq_true_eq,sideB] at hc;obtain ⟨⟨⟨J,L⟩,M⟩,z⟩:=hc;obtain ⟨f,rfl⟩:∃ m:Nat,W=(m:Int):=⟨W.toNat,γ⟩;obtain ⟨d,rfl⟩:∃ m:Nat,H=(m:Int):=⟨H.toNat,γ⟩
  have u:zs.length=f*d:=by
   rw [← Int.natCast_mul] at M;omega
  have h0:0<zs.length:=by
   rw [u];exact Nat.mul_pos γ γ
  have y:1≤f∧f≤8:=γ;have x:1≤d∧d≤8:=γ;obtain ⟨b,off,rfl,_⟩:=C 0 h0;have F:∀ g:World,Bl w g→Cl 49 #[.agg #[I (f:Int),I (d:Int),.slice (Ad b off) zs.length s,.slice c n v]] g fun e w'=>∃ r:Bool,e=.returned (.bool r)∧(r=true↔((∀ i,i<n→CrOk (ty zs f d) l i)∧Joined (ty zs f d)))∧Bl g w':=fun g t=>sheetMay_any f d b off s n v c zs l g (C.kept t) y x u z (K.kept t) B h2;by_cases hok:(∀ i,i<n→CrOk (ty zs f d) l i)∧Joined (ty zs f d)
  ·refine Or.inr ⟨f,d,b,off,rfl,rfl,rfl,y,x,u,z,hok.2,hok.1,fun g k=>(F g k).mono ?_⟩;rintro e w' ⟨r,rfl,q,p⟩;rw [q.2 hok];exact ⟨rfl,p⟩
  ·refine Or.inl ⟨fun g D A j o k r1 r2=>?_,fun g k=>(F g k).mono ?_⟩
   ·obtain ⟨E,G,rfl,_⟩:=r1 0 h0;by_cases hJ:Joined (ty zs f d)
    ·exact lay_nocrease f d E G j n o A zs l g r1 y x u z r2 B h2 (hs.kept k) hJ (fun h=>hok ⟨h,hJ⟩)
    ·exact lay_nojoin f d E G j n o A zs l g r1 y x u z r2 B h2 (hs.kept k) hJ
   ·rintro e w' ⟨r,rfl,q,p⟩
    obtain rfl:r=false:=by
     cases r with
     | false=>rfl
     | true=>exact absurd (q.1 rfl) hok
    exact ⟨rfl,p⟩
theorem Je {P:Program} {o:Oper} {a:Act} {K:Act→World→Prop} {Q:Exit→Act→World→Prop} (s x:Operand) (t:TypeId) (e:o.op=.call { callee:=.builtin .append,args:=#[s,x],argTypes:=#[t,t] }) (b c v':Value) (w':World) (hs:a.eval s=b) (f:a.eval x=c) (hr:(Builtin.append_ #[t,t] o.type #[b,c]).run P w=.ok v' w') (d:K (a.put o.dst v') w'):Oper.wp P o a w K Q:=by
 unfold Oper.wp execOp;simp only [e,resolve,invoke,builtin,Sem.run_bind,Sem.run_pure,Result.andThen_ok,List.map_toArray,List.map_cons,List.map_nil,hs,f,hr];exact d
theorem Xi {base size:Nat} {e:TypeId} {v:Value} {d:List Value} (h:w.ownsRow base e size v n d):∃ a b,v=.slice a n b∧(0<n→∃ g,a=Az g):=by
 rcases h.2 with ⟨rfl,rfl⟩ | ⟨g,b,c,rfl,_⟩
 ·exact ⟨none,0,rfl,fun h=>by omega⟩
 ·exact ⟨_,b,rfl,fun _=>⟨g,rfl⟩⟩
structure SrtW (w wx:World) (g o:Nat) (d:Array Nat):Prop where
 row:∀ j,j<d.size→At wx g (o+j) (I ((d[j]! : Nat):Int))∧Fn wx g (o+j)
 gr:w.grownBy wx (some g)
 lt:g<wx.heap.size
theorem SrtW.kept {c:World} {g o:Nat} (h:SrtW w c g o d) (a:Bl c w'):SrtW w w' g o d :=
 ⟨fun j b=>⟨Qa a (h.row j b).1,(a.frozen h.lt).trans (h.row j b).2⟩,Ji h.gr (by
  have:=Qy a;exact ⟨this.os,this.tape,this.output,this.size,fun k e _=>this.block k e ξ⟩),Nl h.lt a.size⟩
theorem SrtW.swap {a:World} {g o:Nat} (h:SrtW w a g o d) {i j:Nat} (hi:i<d.size) (f:j<d.size) (m:i≠j):SrtW w ((a.setCell ⟨g,o+i,none⟩ (I ((d[j]! : Nat):Int))).setCell ⟨g,o+j,none⟩ (I ((d[i]! : Nat):Int))) g o (Sort.swp d i j):=by
 have b:=Ql a g (o+i) (I ((d[j]! : Nat):Int));have c:=Ql (a.setCell ⟨g,o+i,none⟩ (I ((d[j]! : Nat):Int))) g (o+j) (I ((d[i]! : Nat):Int));refine ⟨fun k l=>?_,Ji h.gr (Ji b c),Nl h.lt (Nt b.size c.size)⟩;rw [Sort.size_swp] at l;obtain ⟨r1,r2⟩:=h.row k l;obtain ⟨p,_⟩:=h.row i hi;obtain ⟨n,_⟩:=h.row j f;constructor
 ·have e:=Sort.swp_get d hi f k;rw [e];by_cases e1:k=j
  ·rw [if_pos e1,e1];exact Jq (Qn n γ)
  ·rw [if_neg e1];by_cases e2:k=i
   ·rw [if_pos e2,e2];exact Qn (Jq p) γ
   ·rw [if_neg e2];exact Qn (Qn r1 γ) γ
 ·simp [go_sem,r2]
def CmpF (w:World) (g N:Nat) (rv:Value) (cf:Nat→Nat→Int):Prop := ∀ wx:World,w.grownBy wx (some g)→∀ x y:Nat,x<N→y<N→Cl 216 #[rv,I (x:Int),I (y:Int)] wx fun e w'=>e=.returned (I (cf x y))∧Bl wx w'
theorem Jv {N i j:Nat} (h:∀ k,k<d.size→d[k]! < N) (hi:i<d.size) (a:j<d.size):∀ k,k<(Sort.swp d i j).size→(Sort.swp d i j)[k]! < N:=fun k b=>by
 rw [Sort.size_swp] at b;rw [Sort.swp_get d hi a k];split
 ·exact h i hi
 ·split
  ·exact h j a
  ·exact h k b
theorem cell_any {a:Addr} {u:Value} (b:Bl w w') (h:w.cell? a=some u):w'.cell? a=some u:=(b.cell (bk h)).trans h
theorem inf_ints:(Tryz.prog.info? 3).map (fun i=>(i.zero,i.size,i.bytes))=some (some (I 0),1,8):=η
theorem clone_ints (w:World) (b off m c:Nat) (d:List Value) (p:d.length=m*1) (g:∀ j u,d[j]?=some u→w.cell? ((⟨b,off,none⟩:Addr).add j)=some u) (h1:∀ u∈d,u.oneCell'=true) (E:m*8≤140737488355328) :
  Cl 212 #[.slice (Ad b off) m c] w fun e w'=>∃ v,e=.returned v∧w'.ownsRow w.heap.size 3 1 v m d∧Bl w w':=by
 obtain ⟨D,i,k,l,n⟩:=info_parts inf_ints;have o:=H4 i k l n;have y:Hid (∀ j u,d[j]?=some u→(w.alloc (.cells #[] 3)).cell? ((⟨b,off,none⟩:Addr).add j)=some u):=fun j u C=>cell_any β1 (g j u C);have z:=Hd h1;have x:=Hd p;have A:(w.alloc (.cells #[] 3)).ownsRow w.heap.size 3 1 (.slice (Az w.heap.size) 0 0) 0 []:=⟨ξ,.inr ⟨w.heap.size,0,#[],rfl,Nr _,heap_alloc_new w _,Nr _,Ξ,ξ,ξ⟩⟩;have B:∀ (a:Option Addr) (q r:Nat) (W:World),(binOp .eql 22 (.slice a q r) SN).run Tryz.prog W=.ok (.bool a.isNone) W:=fun a q r W=>Lib.run_eql_slice_nil W 22 3 a q r 0 0 Tryz.underlying22;clear i k l n g h1 p;go_enter Tryz.func212,Tryz.ntmps212;go_wp2_with (at_builtin;refine wpList_append_own _ rfl (.tmp 5) (.tmp 6) 22 rfl w.heap.size 3 D (I 0) 1 8 Tryz.underlying22 o.out.1 o.out.2.1 o.out.2.2.1 o.out.2.2.2 rfl ψ (.slice (Az w.heap.size) 0 0) 0 [] rfl A ⟨b,off,none⟩ m c d rfl x.out y.out z.out Ξ γ ξ ?grow)
 case grow =>
  intro v' s h f _
  have t:Hid (s.ownsRow w.heap.size 3 1 v' m d∧Bl w s):=by
   refine ⟨by simpa using h, ?_⟩;have k1:Bl w (w.alloc (.cells #[] 3)):=Qb (Qe _);exact k1.grown f k1.size (fun r e=>by simp [Value.ownBlock] at e;omega)
  clear h f;go_wp2;refine bodyPost_ret (v:=v') (by simp [results,Tryz.results212,go_sem]) rfl ⟨v',rfl,t.out⟩
theorem clone_ints_nil (w:World) (c:Nat):Cl 212 #[.slice none 0 c] w fun e w'=>e=.returned SN∧w'=w:=by
 have b:∀ (a:Option Addr) (q r:Nat) (W:World),(binOp .eql 22 (.slice a q r) SN).run Tryz.prog W=.ok (.bool a.isNone) W:=fun a q r W=>Lib.run_eql_slice_nil W 22 3 a q r 0 0 Tryz.underlying22;go_enter Tryz.func212,Tryz.ntmps212;go_wp2;go_ret;exact ⟨rfl,rfl⟩
theorem inf_creases:(Tryz.prog.info? 80).map (fun i=>(i.zero,i.size,i.bytes))=some (some (.agg #[I 0,I 0,I 0,I 0,I 0]),5,40):=η
theorem clone_creases (w:World) (b off m c:Nat) (d:List Value) (p:d.length=m*5) (g:∀ j u,d[j]?=some u→w.cell? ((⟨b,off,none⟩:Addr).add j)=some u) (h1:∀ u∈d,u.oneCell'=true) (E:m*40≤140737488355328) :
  Cl 213 #[.slice (Ad b off) m c] w fun e w'=>∃ v,e=.returned v∧w'.ownsRow w.heap.size 80 5 v m d∧Bl w w':=by
 obtain ⟨D,i,k,l,n⟩:=info_parts inf_creases;have o:=H4 i k l n;have y:Hid (∀ j u,d[j]?=some u→(w.alloc (.cells #[] 80)).cell? ((⟨b,off,none⟩:Addr).add j)=some u):=fun j u C=>cell_any β1 (g j u C);have z:=Hd h1;have x:=Hd p;have A:(w.alloc (.cells #[] 80)).ownsRow w.heap.size 80 5 (.slice (Az w.heap.size) 0 0) 0 []:=⟨ξ,.inr ⟨w.heap.size,0,#[],rfl,Nr _,heap_alloc_new w _,Nr _,Ξ,ξ,ξ⟩⟩;have B:∀ (a:Option Addr) (q r:Nat) (W:World),(binOp .eql 23 (.slice a q r) SN).run Tryz.prog W=.ok (.bool a.isNone) W:=fun a q r W=>Lib.run_eql_slice_nil W 23 80 a q r 0 0 Tryz.underlying23;clear i k l n g h1 p;go_enter Tryz.func213,Tryz.ntmps213;go_wp2_with (at_builtin;refine wpList_append_own _ rfl (.tmp 5) (.tmp 6) 23 rfl w.heap.size 80 D (.agg #[I 0,I 0,I 0,I 0,I 0]) 5 40 Tryz.underlying23 o.out.1 o.out.2.1 o.out.2.2.1 o.out.2.2.2 rfl ψ (.slice (Az w.heap.size) 0 0) 0 [] rfl A ⟨b,off,none⟩ m c d rfl x.out y.out z.out Ξ γ ξ ?grow)
 case grow =>
  intro v' s h f _
  have t:Hid (s.ownsRow w.heap.size 80 5 v' m d∧Bl w s):=by
   refine ⟨by simpa using h, ?_⟩;have k1:Bl w (w.alloc (.cells #[] 80)):=Qb (Qe _);exact k1.grown f k1.size (fun r e=>by simp [Value.ownBlock] at e;omega)
  clear h f;go_wp2;refine bodyPost_ret (v:=v') (by simp [results,Tryz.results213,go_sem]) rfl ⟨v',rfl,t.out⟩
theorem Gf (w:World) (c:Nat):Cl 213 #[.slice none 0 c] w fun e w'=>e=.returned SN∧w'=w:=by
 have b:∀ (a:Option Addr) (q r:Nat) (W:World),(binOp .eql 23 (.slice a q r) SN).run Tryz.prog W=.ok (.bool a.isNone) W:=fun a q r W=>Lib.run_eql_slice_nil W 23 80 a q r 0 0 Tryz.underlying23;go_enter Tryz.func213,Tryz.ntmps213;go_wp2;go_ret;exact ⟨rfl,rfl⟩
theorem inf_maps:(Tryz.prog.info? 91).map (fun i=>(i.zero,i.size,i.bytes))=some (some (.agg #[I 0,I 0,I 0,I 0,I 0,I 0]),6,48):=η
theorem clone_maps (w:World) (b off m c:Nat) (d:List Value) (p:d.length=m*6) (g:∀ j u,d[j]?=some u→w.cell? ((⟨b,off,none⟩:Addr).add j)=some u) (h1:∀ u∈d,u.oneCell'=true) (E:m*48≤140737488355328) :
  Cl 117 #[.slice (Ad b off) m c] w fun e w'=>∃ v,e=.returned v∧w'.ownsRow w.heap.size 91 6 v m d∧Bl w w':=by
 obtain ⟨D,i,k,l,n⟩:=info_parts inf_maps;have o:=H4 i k l n;have y:Hid (∀ j u,d[j]?=some u→(w.alloc (.cells #[] 91)).cell? ((⟨b,off,none⟩:Addr).add j)=some u):=fun j u C=>cell_any β1 (g j u C);have z:=Hd h1;have x:=Hd p;have A:(w.alloc (.cells #[] 91)).ownsRow w.heap.size 91 6 (.slice (Az w.heap.size) 0 0) 0 []:=⟨ξ,.inr ⟨w.heap.size,0,#[],rfl,Nr _,heap_alloc_new w _,Nr _,Ξ,ξ,ξ⟩⟩;have B:∀ (a:Option Addr) (q r:Nat) (W:World),(binOp .eql 26 (.slice a q r) SN).run Tryz.prog W=.ok (.bool a.isNone) W:=fun a q r W=>Lib.run_eql_slice_nil W 26 91 a q r 0 0 Tryz.underlying26;clear i k l n g h1 p;go_enter Tryz.func117,Tryz.ntmps117;go_wp2_with (at_builtin;refine wpList_append_own _ rfl (.tmp 5) (.tmp 6) 26 rfl w.heap.size 91 D (.agg #[I 0,I 0,I 0,I 0,I 0,I 0]) 6 48 Tryz.underlying26 o.out.1 o.out.2.1 o.out.2.2.1 o.out.2.2.2 rfl ψ (.slice (Az w.heap.size) 0 0) 0 [] rfl A ⟨b,off,none⟩ m c d rfl x.out y.out z.out Ξ γ ξ ?grow)
 case grow =>
  intro v' s h f _
  have t:Hid (s.ownsRow w.heap.size 91 6 v' m d∧Bl w s):=by
   refine ⟨by simpa using h, ?_⟩;have k1:Bl w (w.alloc (.cells #[] 91)):=Qb (Qe _);exact k1.grown f k1.size (fun r e=>by simp [Value.ownBlock] at e;omega)
  clear h f;go_wp2;refine bodyPost_ret (v:=v') (by simp [results,Tryz.results117,go_sem]) rfl ⟨v',rfl,t.out⟩
theorem Vn {base base' size:Nat} {e:TypeId} {v:Value} {c:List Value} (h:w.ownsRow base e size v n c) (d:base'≤base):w.ownsRow base' e size v n c:=by
 refine ⟨h.1,h.2.imp id ?_⟩;rintro ⟨g,a,b,h1,h2,h3⟩;exact ⟨g,a,b,h1,Nt d h2,h3⟩
end Go.Proofs.YtnpboeodhpenmaaGreatDoor
