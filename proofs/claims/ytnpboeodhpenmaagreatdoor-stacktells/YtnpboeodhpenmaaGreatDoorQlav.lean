/- A part of it. -/
import Derived.Test.YtnpboeodhpenmaaGreatDoorQlap
import Derived.Test.YtnpboeodhpenmaaGreatDoorQlal
set_option maxRecDepth 100000
set_option maxHeartbeats 40000000
namespace Go.Proofs.YtnpboeodhpenmaaGreatDoor
open Go.RowKit
variable {w:World} {c:Value} {zs:List Int}
theorem sameSheet_yes (W H:Int) (a1 x c1 c2:Option Addr) (k1 k2 d1 d2 n:Nat) (zs e:List Int) (w:World) (t:Row w a1 zs) (u:Row w x zs) (l:Row w c1 e) (m:Row w c2 e) (K:e.length=n*5) (hl:zs.length≤17592186044416) (U:n≤3518437208883) :
  Rt 64 #[.agg #[I W,I H,.slice a1 zs.length k1,.slice c1 n d1],.agg #[I W,I H,.slice x zs.length k2,.slice c2 n d2]] w (.bool true):=by
 have g:=H5 t u l m K;obtain ⟨f,d⟩:∃ W0,W0=(w.alloc (.cells #[I W,I H,.slice a1 zs.length k1,.slice c1 n d1] 25)).alloc (.cells #[I W,I H,.slice x zs.length k2,.slice c2 n d2] 25):=⟨_,rfl⟩
 have L:At f w.heap.size 2 (.slice a1 zs.length k1)∧At f w.heap.size 3 (.slice c1 n d1)∧At f (w.heap.size+1) 2 (.slice x zs.length k2)∧At f (w.heap.size+1) 3 (.slice c2 n d2):=by
  rw [d];simp [go_sem]
 have HX:=Hd L
 have k:Bl w f:=by
  rw [d];exact Qb β1
 have a:=Hd k;have A:=Hd d.symm;have q1:(W != W)=false:=ξ;have q2:(H != H)=false:=ξ;have q3:((zs.length:Int) != (zs.length:Int))=false:=ξ;have q4:((n:Int) != (n:Int))=false:=ξ;have hc:=neqC;clear L k d t u l m K;go_enter Tryz.func64,Tryz.ntmps64;go_wp2;go_loopg [5] zs.length (fun B X F=>∃ i:Nat,i≤zs.length∧B=zs.length - i∧X=I (i:Int)∧Bl f F)
 case atStart=>exact ⟨0,γ,rfl,rfl,by rw [A.out];exact Qe _⟩
 case round =>
  obtain ⟨i,hi,rfl,rfl,c⟩:=hrel;have b:=Hd c;have h:=Qa c HX.out.1;have j:=Qa c HX.out.2.2.1;have T:=Bt h;have v:=Bt j;clear c;by_cases h1:i<zs.length
  ·have y:(i:Int)<(zs.length:Int):=γ;have V:(0:Int)≤(i:Int):=γ;obtain ⟨b1,o1,rfl,r1⟩:=g.out.1 i h1;obtain ⟨b2,o2,rfl,r2⟩:=g.out.2.1 i h1;replace r1:=Qa (Qc a.out b.out) r1;replace r2:=Qa (Qc a.out b.out) r2;have G:=Bt r1;have J:=Bt r2;obtain ⟨z,M⟩:∃ z,z=zs[i]:=⟨_,rfl⟩;rw [← M] at r1 r2;have qz:(z != z)=false:=ξ;clear M;go_wp2;obtain ⟨C,D⟩:=kcn wr;refine wk ?_;repeat (go_big_quiet_step (fail))
   refine kq1 (fun Z hq=>?_);clear C D h j r1 r2;go_wp2;go_roundg (zs.length - (i+1))
   case measure=>omega
   case rel=>exact ⟨i+1,γ,rfl,σ,Qc b.out hq⟩
  ·have y:¬ (i:Int)<(zs.length:Int):=γ;go_wp2;clear h j T v y h1;go_loopg [6] n (fun B Y F=>∃ i:Nat,i≤n∧B=n - i∧Y=I (i:Int)∧Bl f F)
   case atStart=>exact ⟨0,γ,rfl,rfl,b.out⟩
   case round =>
    clear b;obtain ⟨i,hi,rfl,rfl,c⟩:=hrel;have b:=Hd c;have h:=Qa c HX.out.2.1;have j:=Qa c HX.out.2.2.2;have T:=Bt h;have v:=Bt j;clear c;by_cases h1:i<n
    ·have y:(i:Int)<(n:Int):=γ;have V:(0:Int)≤(i:Int):=γ;obtain ⟨b1,o1,rfl,r0,r1,r2,r3,N⟩:=(Xu g.out.2.2.1 g.out.2.2.2.2).kept (Qc a.out b.out) i h1;obtain ⟨b2,o2,rfl,E,O,P,Q,R⟩:=(Xu g.out.2.2.2.1 g.out.2.2.2.2).kept (Qc a.out b.out) i h1;have G:=Bt r0;have J:=Bt E;obtain ⟨v0,o⟩:∃ z,z=ck e i 0:=⟨_,rfl⟩;obtain ⟨v1,p⟩:∃ z,z=ck e i 1:=⟨_,rfl⟩;obtain ⟨v2,q⟩:∃ z,z=ck e i 2:=⟨_,rfl⟩;obtain ⟨v3,r⟩:∃ z,z=ck e i 3:=⟨_,rfl⟩;obtain ⟨v4,s⟩:∃ z,z=ck e i 4:=⟨_,rfl⟩;rw [← o] at r0 E;rw [← p] at r1 O;rw [← q] at r2 P;rw [← r] at r3 Q;rw [← s] at N R;clear o p q r s;go_wp2;obtain ⟨C,D⟩:=kcn wr;refine wk ?_;repeat (go_big_quiet_step (fail))
     refine kq1 (fun Z hq=>?_);clear C D h j r0 r1 r2 r3 N E O P Q R;go_wp2;go_roundg (n - (i+1))
     case measure=>omega
     case rel=>exact ⟨i+1,γ,rfl,σ,Qc b.out hq⟩
    ·have y:¬ (i:Int)<(n:Int):=γ;go_wp2;go_ret;exact ⟨rfl,Qc a.out b.out⟩
theorem sameState_yes (W H:Int) (a1 a2 c1 c2:Option Addr) (k1 k2 d1 d2 n J K m1 m2 N u1 u2:Nat) (t1 t2:Option Addr) (zs ks:List Int) (M:Nat→M6) (S:List (T3×List T3)) (w:World) (a7:Row w a1 zs) (a8:Row w a2 zs) (V:Row w c1 ks) (X:Row w c2 ks) (hn:ks.length=n*5) (hl:zs.length≤17592186044416) (Z:n≤3518437208883) (L:MRow w J N M) (O:MRow w K N M) (hN:N≤300) (P:SRow w t1 S) (Q:SRow w t2 S) (aj:S.length≤300) (R:∀ s∈S,s.2.length≤300) :
  Rt 16 #[.agg #[I W,I H,.slice a1 zs.length k1,.slice c1 n d1,.slice (Az J) N m1,.slice t1 S.length u1],.agg #[I W,I H,.slice a2 zs.length k2,.slice c2 n d2,.slice (Az K) N m2,.slice t2 S.length u2]] w (.bool true):=by
 have CS:=Hd (fun (W':World) hW'=>sameSheet_yes W H a1 a2 c1 c2 k1 k2 d1 d2 n zs ks W' (a7.kept hW') (a8.kept hW') (V.kept hW') (X.kept hW') hn hl Z);have z:Hid (MRow w J N M∧MRow w K N M∧SRow w t1 S∧SRow w t2 S∧∀ s∈S,s.2.length≤300):=⟨L,O,P,Q,R⟩;obtain ⟨o,l⟩:∃ W0,W0=(w.alloc (.cells #[I W,I H,.slice a1 zs.length k1,.slice c1 n d1,.slice (Az J) N m1,.slice t1 S.length u1] 29)).alloc (.cells #[I W,I H,.slice a2 zs.length k2,.slice c2 n d2,.slice (Az K) N m2,.slice t2 S.length u2] 29):=⟨_,rfl⟩
 have hx:At o w.heap.size 4 (.slice (Az J) N m1)∧At o w.heap.size 5 (.slice t1 S.length u1)∧At o (w.heap.size+1) 4 (.slice (Az K) N m2)∧At o (w.heap.size+1) 5 (.slice t2 S.length u2):=by
  rw [l];simp [go_sem]
 have HX:=Hd hx
 have U:Bl w o:=by
  rw [l];exact Qb β1
 have b:=Hd U;have G:=Hd l.symm;have q3:((N:Int) != (N:Int))=false:=ξ;have q4:((S.length:Int) != (S.length:Int))=false:=ξ;have hc:=neqM;have ak:=neqT_same;clear hx U l a7 a8 V X hn L O P Q R hl Z;go_enter Tryz.func16,Tryz.ntmps16;go_upto_region 3 with (go_at_call 64;refine (CS.out _ Ψ).mono ?_;rintro e w1 ⟨rfl,p⟩;have a:Hid (Bl o w1):=(by rw [G.out] at p;exact p);have e0:=Qa a.out HX.out.1;have e1:=Qa a.out HX.out.2.1;have e2:=Qa a.out HX.out.2.2.1;have e3:=Qa a.out HX.out.2.2.2;have ah:=Bt e0;have ai:=Bt e2;clear p)
 clear CS G e0 e1 e2 e3 ah ai;go_wp2;go_loopg [5] N (fun gk s5 wx=>∃ i:Nat,i≤N∧gk=N - i∧s5=I (i:Int)∧Bl o wx)
 case atStart=>exact ⟨0,γ,rfl,rfl,a.out⟩
 case round =>
  clear a;obtain ⟨i,hi,rfl,rfl,d⟩:=hrel;have c:=Hd d;have u:=Qa d HX.out.1;have v:=Qa d HX.out.2.2.1;have zp:=Bt u;have aa:=Bt v;clear d;by_cases h1:i<N
  ·have i1:(i:Int)<(N:Int):=γ;have i0:(0:Int)≤(i:Int):=γ;obtain ⟨⟨r0,r1,r2,r3,r4,r5⟩,_⟩:=(z.out.1.kept (Qc b.out c.out)) i h1;obtain ⟨⟨m,q,r,t,s4,s5⟩,_⟩:=(z.out.2.1.kept (Qc b.out c.out)) i h1;obtain ⟨A,B,C,D,E,F,Y⟩:∃ A B C D E F,M i=(A,B,C,D,E,F):=⟨_,_,_,_,_,_,rfl⟩;rw [Y] at r0 r1 r2 r3 r4 r5 m q r t s4 s5;dsimp only at r0 r1 r2 r3 r4 r5 m q r t s4 s5;have am:sameM A B C D E F A B C D E F=true:=by simp [sameM]
   have af:=Bt r0;have ag:=Bt m;clear Y;go_wp2;obtain ⟨kc,kn⟩:=kcn wr;refine wk ?_;repeat (go_big_quiet_step (fail))
   refine kq1 (fun wq hq=>?_);clear kc kn u v r0 r1 r2 r3 r4 r5 m q r t s4 s5;go_wp2;go_roundg (N - (i+1))
   case measure=>omega
   case rel=>exact ⟨i+1,γ,rfl,σ,Qc c.out hq⟩
  ·have i1:¬ (i:Int)<(N:Int):=γ;go_wp2;clear u v zp aa i1 h1;go_loopg [6] S.length (fun gk s6 wx=>∃ i:Nat,i≤S.length∧gk=S.length - i∧s6=I (i:Int)∧Bl o wx)
   case atStart=>exact ⟨0,γ,rfl,rfl,c.out⟩
   case round =>
    clear c;obtain ⟨i,hi,rfl,rfl,d⟩:=hrel;have c:=Hd d;have u:=Qa d HX.out.2.1;have v:=Qa d HX.out.2.2.2;have zp:=Bt u;have aa:=Bt v;clear d;by_cases h1:i<S.length
    ·have i1:(i:Int)<(S.length:Int):=γ;have i0:(0:Int)≤(i:Int):=γ;obtain ⟨b1,ab,ad,rfl,r0,r1,r2,r3,f⟩:=(z.out.2.2.1.kept (Qc b.out c.out)) i h1;obtain ⟨b2,ac,ae,rfl,m,q,r,t,g⟩:=(z.out.2.2.2.1.kept (Qc b.out c.out)) i h1;have j:=z.out.2.2.2.2 S[i] (Lm h1);obtain ⟨⟨⟨x,y,k⟩,T⟩,a6⟩:∃ s,s=S[i]:=⟨_,rfl⟩;rw [← a6] at r0 r1 r2 r3 m q r t f g j;dsimp only at r0 r1 r2 r3 m q r t f g j;have CT:=Hd (fun (W':World) hW'=>sameTris_yes ab ac ad ae T W' j (f.kept hW') (g.kept hW'));have af:=Bt r0;have ag:=Bt m;clear a6 f g j;go_wp2;obtain ⟨kc,kn⟩:=kcn wr;refine wk ?_;repeat (go_big_quiet_step ((go_at_call 20;exact Qf (CT.out _ (Kin.h _)))))
     refine kq1 (fun wq hq=>?_);clear kc kn u v r0 r1 r2 r3 m q r t;go_wp2;go_roundg (S.length - (i+1))
     case measure=>omega
     case rel=>exact ⟨i+1,γ,rfl,σ,Qc c.out hq⟩
    ·have i1:¬ (i:Int)<(S.length:Int):=γ;go_wp2;go_ret;exact ⟨rfl,Qc b.out c.out⟩
theorem neq44 (A B C D K:Int) (w:World):(binOp .neq 44 (.agg #[I A,I B,I C,I D,I K]) (.agg #[I A,I B,I C,I D,I K])).run Tryz.prog w=.ok (.bool false) w:=by
 simp [go_sem]
theorem Vz {w':World} {b:Nat} {v0 d v3 v4 v5:Value} (h:At w b 0 v0∧At w b 1 c∧At w b 2 d∧At w b 3 v3∧At w b 4 v4∧At w b 5 v5) (a:Bl w w'):At w' b 0 v0∧At w' b 1 c∧At w' b 2 d∧At w' b 3 v3∧At w' b 4 v4∧At w' b 5 v5 :=
 ⟨Qa a h.1,Qa a h.2.1,Qa a h.2.2.1,Qa a h.2.2.2.1,Qa a h.2.2.2.2.1,Qa a h.2.2.2.2.2⟩
theorem stackTells_no (W H:Int) (a c m s:Option Addr) (D t x v z y B A:Nat) (r:World→Value→Prop) (w:World)
  (J:Hid (∀ V:World,Bl w V→Cl 9 #[.agg #[I W,I H,.slice a D t,.slice c x v,.slice m z y,.slice s B A]] V fun e w'=>∃ u,e=.returned u∧r w' u∧Bl V w'))
  (O:Hid (∀ (V:World) (u:Value),Bl w V→r V u→Rt 8 #[u] V (.bool false)))
  (E:Hid (∀ (V:World) (u:Value),Bl w V→r V u→Rt 10 #[u] V (.tuple #[SN,I 10])))
  (F:Hid (∀ (V:World) (u:Value),Bl w V→r V u→Rt 11 #[u] V (.tuple #[.agg #[I 0,I 0,SN,SN,SN,SN],I 10])))
  (G:Hid (∀ V:World,Bl w V→Rt 12 #[.agg #[I W,I H,.slice a D t,.slice c x v,.slice m z y,.slice s B A]] V (.bool false))) :
  Rt 3 #[.agg #[I W,I H,.slice a D t,.slice c x v,.slice m z y,.slice s B A]] w (.bool true):=by
 go_enter Tryz.func3,Tryz.ntmps3;go_upto_region 2 with (first | (go_at_call 9;refine (J.out _ β1).mono ?_;rintro e w1 ⟨u1,rfl,l,d⟩;have t0:At w1 w.heap.size 0 (I W):=Qa d δ;have h:At w1 w.heap.size 1 (I H):=Qa d δ;have i:At w1 w.heap.size 2 (.slice a D t):=Qa d δ;have t3:At w1 w.heap.size 3 (.slice c x v):=Qa d δ;have t4:At w1 w.heap.size 4 (.slice m z y):=Qa d δ;have t5:At w1 w.heap.size 5 (.slice s B A):=Qa d δ;have f:=Hd (Qc β1 d);have k:=Hd l;have K:Hid True:=trivial;clear d l) | (go_at_call 8;refine (O.out _ _ f.out k.out).mono ?_;rintro e Q ⟨rfl,d⟩;replace t0:=Qa d t0;replace h:=Qa d h;replace i:=Qa d i;replace t3:=Qa d t3;replace t4:=Qa d t4;replace t5:=Qa d t5;replace f:Hid (Bl w Q):=Qc f.out d;clear d k ) | fail)
 clear K;go_upto_region 3 with (first | (go_at_call 9;refine (J.out _ f.out).mono ?_;rintro e R ⟨u2,rfl,l,d⟩;replace t0:=Qa d t0;replace h:=Qa d h;replace i:=Qa d i;replace t3:=Qa d t3;replace t4:=Qa d t4;replace t5:=Qa d t5;replace f:Hid (Bl w R):=Qc f.out d;have k:=Hd l;clear d l) | (go_at_call 10;refine (E.out _ _ f.out k.out).mono ?_;rintro e T ⟨rfl,d⟩;replace t0:=Qa d t0;replace h:=Qa d h;replace i:=Qa d i;replace t3:=Qa d t3;replace t4:=Qa d t4;replace t5:=Qa d t5;replace f:Hid (Bl w T):=Qc f.out d;clear d k ) | fail)
 go_upto_region 4 with (first | (go_at_call 9;refine (J.out _ f.out).mono ?_;rintro e U ⟨u3,rfl,l,d⟩;replace t0:=Qa d t0;replace h:=Qa d h;replace i:=Qa d i;replace t3:=Qa d t3;replace t4:=Qa d t4;replace t5:=Qa d t5;replace f:Hid (Bl w U):=Qc f.out d;have k:=Hd l;clear d l) | (go_at_call 11;refine (F.out _ _ f.out k.out).mono ?_;rintro e C ⟨rfl,d⟩;replace t0:=Qa d t0;replace h:=Qa d h;replace i:=Qa d i;replace t3:=Qa d t3;replace t4:=Qa d t4;replace t5:=Qa d t5;replace f:Hid (Bl w C):=Qc f.out d;clear d k ) | fail)
 refine Qi (fun j o=>?_);obtain ⟨p,n⟩:∃ b,b=C.heap.size:=⟨_,rfl⟩
 have g:Hid (Bl C j):=by
  show Bl C j
  rw [o];with_reducible repeat' (first | exact Qe _ | refine Qh ?_ ?_ | refine Qb ?_)
  all_goals (first | omega | (dsimp only;omega) | (simp;done) | (simp;omega))
 have P:Hid (At j p 0 (I 0)∧At j p 1 (I 0)∧At j p 2 SN∧At j p 3 SN∧At j p 4 SN∧At j p 5 SN):=by
  rw [o,n];refine ⟨?_, ?_, ?_, ?_, ?_, ?_⟩ <;> simp [go_sem]
 rw [← n];clear o n;have q:=Hd (Qc f.out g.out);have Z:=Bt t0;replace t0:=Qa g.out t0;replace h:=Qa g.out h;replace i:=Qa g.out i;replace t3:=Qa g.out t3;replace t4:=Qa g.out t4;replace t5:=Qa g.out t5;replace Z:w.heap.size<j.heap.size:=bk t0;obtain ⟨L,x1,x2,x3,M,N⟩:=P.out;replace f:Hid (Bl w j):=q;go_wp2_with (first | (go_at_call 12;refine (G.out _ f.out).mono ?_;rintro e X ⟨rfl,d⟩;replace L:=Qa d L;replace x1:=Qa d x1;replace x2:=Qa d x2;replace x3:=Qa d x3;replace M:=Qa d M;replace N:=Qa d N;have zx:=Bt L;replace f:Hid (Bl w X):=Qc f.out d;clear d) | (go_at_call 13;refine (none_yes _).mono ?_;rintro e Y ⟨rfl,d⟩;replace f:Hid (Bl w Y):=Qc f.out d;clear d) | fail)
 go_ret;exact ⟨Qv (by first | rfl | simp),f.out⟩
theorem stackTells_big (W H:Int) (a c m s:Option Addr) (O E G F L J N M:Nat) (OK:World→Value→Prop) (C:List C5) (n:Nat) (hn:n=C.length) (aj:n≤1000000) (w:World)
  (C9:Hid (∀ V:World,Bl w V→Cl 9 #[.agg #[I W,I H,.slice a O E,.slice c G F,.slice m L J,.slice s N M]] V fun e w'=>∃ u,e=.returned u∧OK w' u∧Bl V w'))
  (C8:Hid (∀ (V:World) (u:Value),Bl w V→OK V u→Rt 8 #[u] V (.bool true)))
  (a2:Hid (∀ (V:World) (u:Value),Bl w V→OK V u→Cl 10 #[u] V fun e w'=>∃ (d:Option Addr) (dc:Nat),e=.returned (.tuple #[.slice d n dc,I 0])∧JRow w' d C∧Bl V w'))
  (a6:Hid (∀ (V:World) (u:Value),Bl w V→OK V u→Rt 11 #[u] V (.tuple #[.agg #[I 0,I 0,SN,SN,SN,SN],I 2])))
  (a7:Hid (∀ V:World,Bl w V→Rt 12 #[.agg #[I W,I H,.slice a O E,.slice c G F,.slice m L J,.slice s N M]] V (.bool true)))
  (a8:Hid (∀ V:World,Bl w V→Cl 14 #[.agg #[I W,I H,.slice a O E,.slice c G F,.slice m L J,.slice s N M]] V fun e w'=>∃ (d:Option Addr) (dc:Nat),e=.returned (.slice d n dc)∧JRow w' d C∧Bl V w'))
  (aa:Hid (∀ V:World,Bl w V→Rt 15 #[.agg #[I W,I H,.slice a O E,.slice c G F,.slice m L J,.slice s N M]] V (.tuple #[.agg #[I 0,I 0,SN,SN,SN,SN],.bool false])))  :
  Rt 3 #[.agg #[I W,I H,.slice a O E,.slice c G F,.slice m L J,.slice s N M]] w (.bool true):=by
 have ag:=neq44;have HN:=Hd hn;clear hn;go_enter Tryz.func3,Tryz.ntmps3;go_upto_region 2 with (first | (go_at_call 9;refine (C9.out _ β1).mono ?_;rintro e w1 ⟨u1,rfl,y,f⟩;have t0:At w1 w.heap.size 0 (I W):=Qa f δ;have k:At w1 w.heap.size 1 (I H):=Qa f δ;have l:At w1 w.heap.size 2 (.slice a O E):=Qa f δ;have t3:At w1 w.heap.size 3 (.slice c G F):=Qa f δ;have t4:At w1 w.heap.size 4 (.slice m L J):=Qa f δ;have t5:At w1 w.heap.size 5 (.slice s N M):=Qa f δ;have j:=Hd (Qc β1 f);have v:=Hd y;have af:Hid True:=trivial;clear f y) | (go_at_call 8;refine (C8.out _ _ j.out v.out).mono ?_;rintro e w2 ⟨rfl,f⟩;replace t0:=Qa f t0;replace k:=Qa f k;replace l:=Qa f l;replace t3:=Qa f t3;replace t4:=Qa f t4;replace t5:=Qa f t5;replace j:Hid (Bl w w2):=Qc j.out f;clear f v ) | fail)
 clear af;go_upto_region 3 with (first | (go_at_call 9;refine (C9.out _ j.out).mono ?_;rintro e w3 ⟨u2,rfl,y,f⟩;replace t0:=Qa f t0;replace k:=Qa f k;replace l:=Qa f l;replace t3:=Qa f t3;replace t4:=Qa f t4;replace t5:=Qa f t5;replace j:Hid (Bl w w3):=Qc j.out f;have v:=Hd y;clear f y) | (go_at_call 10;refine (a2.out _ _ j.out v.out).mono ?_;rintro e w4 ⟨d1,ah,rfl,hr,f⟩;replace t0:=Qa f t0;replace k:=Qa f k;replace l:=Qa f l;replace t3:=Qa f t3;replace t4:=Qa f t4;replace t5:=Qa f t5;replace j:Hid (Bl w w4):=Qc j.out f;have p:=Hd hr;clear f v hr) | fail)
 go_upto_region 4 with (first | (go_at_call 9;refine (C9.out _ j.out).mono ?_;rintro e w5 ⟨u3,rfl,y,f⟩;replace t0:=Qa f t0;replace k:=Qa f k;replace l:=Qa f l;replace t3:=Qa f t3;replace t4:=Qa f t4;replace t5:=Qa f t5;replace j:Hid (Bl w w5):=Qc j.out f;replace p:Hid (JRow w5 d1 C):=p.out.kept f;have v:=Hd y;clear f y) | (go_at_call 11;refine (a6.out _ _ j.out v.out).mono ?_;rintro e w6 ⟨rfl,f⟩;replace t0:=Qa f t0;replace k:=Qa f k;replace l:=Qa f l;replace t3:=Qa f t3;replace t4:=Qa f t4;replace t5:=Qa f t5;replace j:Hid (Bl w w6):=Qc j.out f;replace p:Hid (JRow w6 d1 C):=p.out.kept f;clear f v ) | fail)
 refine Qi (fun q A=>?_);obtain ⟨D,z⟩:∃ b,b=w6.heap.size:=⟨_,rfl⟩
 have h:Hid (Bl w6 q):=by
  show Bl w6 q
  rw [A];with_reducible repeat' (first | exact Qe _ | refine Qh ?_ ?_ | refine Qb ?_)
  all_goals (first | omega | (dsimp only;omega) | (simp;done) | (simp;omega))
 have X6:Hid (At q D 0 (I 0)∧At q D 1 (I 0)∧At q D 2 SN∧At q D 3 SN∧At q D 4 SN∧At q D 5 SN):=by
  rw [A,z];refine ⟨?_, ?_, ?_, ?_, ?_, ?_⟩ <;> simp [go_sem]
 rw [← z];clear A z;have Q:=Hd (Qc j.out h.out);replace t0:=Qa h.out t0;replace k:=Qa h.out k;replace l:=Qa h.out l;replace t3:=Qa h.out t3;replace t4:=Qa h.out t4;replace t5:=Qa h.out t5;have zb:=Bt t0;replace j:Hid (Bl w q):=Q;replace p:Hid (JRow q d1 C):=p.out.kept h.out;clear h;go_upto_region 7 with (first | (go_at_call 12;refine (a7.out _ j.out).mono ?_;rintro e w8 ⟨rfl,f⟩;replace t0:=Qa f t0;replace k:=Qa f k;replace l:=Qa f l;replace t3:=Qa f t3;replace t4:=Qa f t4;replace t5:=Qa f t5;replace j:Hid (Bl w w8):=Qc j.out f;replace p:Hid (JRow w8 d1 C):=p.out.kept f;have HL:=Hd f;clear f ) | (go_at_call 14;refine (a8.out _ j.out).mono ?_;rintro e w9 ⟨d2,ai,rfl,hr,f⟩;replace t0:=Qa f t0;replace k:=Qa f k;replace l:=Qa f l;replace t3:=Qa f t3;replace t4:=Qa f t4;replace t5:=Qa f t5;replace j:Hid (Bl w w9):=Qc j.out f;replace p:Hid (JRow w9 d1 C):=p.out.kept f;have ac:=Hd hr;replace HL:Hid (Bl q w9):=Qc HL.out f;clear f hr) | fail)
 go_wp2;go_loopg [9] n (fun gk s9 wx=>∃ i:Nat,i≤n∧gk=n - i∧s9=I (i:Int)∧Bl w9 wx)
 case atStart=>exact ⟨0,γ,rfl,rfl,Qe _⟩
 case round =>
  obtain ⟨i,hi,rfl,rfl,hB⟩:=hrel;have HJ:=Hd hB;clear hB;by_cases h1:i<n
  ·have i1:(i:Int)<(n:Int):=γ;have i0:(0:Int)≤(i:Int):=γ;have T:i<C.length:=by have:=HN.out;omega
   obtain ⟨g,e1,d0,d1,d2,d3,d4⟩:=(p.out.kept HJ.out) i T;obtain ⟨g',e2,f0,f1,f2,f3,f4⟩:=(ac.out.kept HJ.out) i T;subst e1;subst e2;have zd:=bk d0;have zf:=bk f0;generalize C[i].1.1=X at *;generalize C[i].1.2.1=Y at *;generalize C[i].1.2.2.1=Z at *;generalize C[i].1.2.2.2=U at *;generalize C[i].2=K at *;have ak:=ag X Y Z U K;obtain ⟨kc,kn⟩:=kcn wr;clear t0 k l t3 t4 t5;go_upto_region 12 with fail
   refine wk ?_;repeat (go_big_quiet_step (fail))
   refine kq1 (fun wq hq=>?_);clear kc kn;go_wp2;go_roundg (n - (i+1))
   case measure=>omega
   case rel=>exact ⟨i+1,γ,rfl,σ,Qc HJ.out hq⟩
  ·have i1:¬ (i:Int)<(n:Int):=γ;obtain rfl:i=n:=γ;have f:=HJ.out;replace t0:=Qa f t0;replace k:=Qa f k;replace l:=Qa f l;replace t3:=Qa f t3;replace t4:=Qa f t4;replace t5:=Qa f t5;have zr:=Bt t0;have P:=Hd (Qc j.out f);have ad:=Hd (Vz X6.out (Qc HL.out f));clear f;go_upto_region 15 with (go_at_call 15;refine (aa.out _ P.out).mono ?_;rintro e wA ⟨rfl,f⟩;have ab:=Hd (Qc P.out f);have ae:=Hd (Vz ad.out f);clear f )
   refine Qi (fun x B=>?_);obtain ⟨o,r⟩:∃ b,b=wA.heap.size:=⟨_,rfl⟩
   have t:Hid (Bl wA x):=by
    show Bl wA x
    rw [B];with_reducible repeat' (first | exact Qe _ | refine Qh ?_ ?_ | refine Qb ?_)
    all_goals (first | omega | (dsimp only;omega) | (simp;done) | (simp;omega))
   have XB:Hid (At x o 0 (I 0)∧At x o 1 (I 0)∧At x o 2 SN∧At x o 3 SN∧At x o 4 SN∧At x o 5 SN):=by
    rw [B,r];refine ⟨?_, ?_, ?_, ?_, ?_, ?_⟩ <;> simp [go_sem]
   rw [← r];clear B r;have R:=Hd (Qc ab.out t.out);obtain ⟨x0,x1,x2,x3,x4,x5⟩:=Vz ae.out t.out;have zx:=Bt x0;obtain ⟨y0,y1,y2,y3,y4,y5⟩:=XB.out;have zy:=Bt y0;clear t0 k l t3 t4 t5;go_wp2_with (go_at_call 13;refine (none_yes _).mono ?_;rintro e wC ⟨rfl,f⟩;have HC:=Hd (Qc R.out f);clear f)
   go_ret;exact ⟨Qv (by first | rfl | simp),HC.out⟩
theorem Qau (W H:Int) (a c m s:Option Addr) (zl O Q P T R sl sc:Nat) (OK y:World→Value→Prop) (C:List C5) (n:Nat) (hn:n=C.length) (av:n≤1000000) (w:World)
  (C9:Hid (∀ V:World,Bl w V→Cl 9 #[.agg #[I W,I H,.slice a zl O,.slice c Q P,.slice m T R,.slice s sl sc]] V fun e w'=>∃ u,e=.returned u∧OK w' u∧Bl V w'))
  (C8:Hid (∀ (V:World) (u:Value),Bl w V→OK V u→Rt 8 #[u] V (.bool true)))
  (ad:Hid (∀ (V:World) (u:Value),Bl w V→OK V u→Cl 10 #[u] V fun e w'=>∃ (d:Option Addr) (dc:Nat),e=.returned (.tuple #[.slice d n dc,I 0])∧JRow w' d C∧Bl V w'))
  (ae:Hid (∀ (V:World) (u:Value),Bl w V→OK V u→Cl 11 #[u] V fun e w'=>∃ (v x:Int) (a1 r a3 a4:Option Addr) (n1 k1 n2 k2 n3 k3 n4 t:Nat),e=.returned (.tuple #[.agg #[I v,I x,.slice a1 n1 k1,.slice r n2 k2,.slice a3 n3 k3,.slice a4 n4 t],I 0])∧y w' (.agg #[I v,I x,.slice a1 n1 k1,.slice r n2 k2,.slice a3 n3 k3,.slice a4 n4 t])∧Bl V w'))
  (af:Hid (∀ V:World,Bl w V→Rt 12 #[.agg #[I W,I H,.slice a zl O,.slice c Q P,.slice m T R,.slice s sl sc]] V (.bool true)))
  (ag:Hid (∀ V:World,Bl w V→Cl 14 #[.agg #[I W,I H,.slice a zl O,.slice c Q P,.slice m T R,.slice s sl sc]] V fun e w'=>∃ (d:Option Addr) (dc:Nat),e=.returned (.slice d n dc)∧JRow w' d C∧Bl V w'))
  (ah:Hid (∀ V:World,Bl w V→Cl 15 #[.agg #[I W,I H,.slice a zl O,.slice c Q P,.slice m T R,.slice s sl sc]] V fun e w'=>∃ (v x:Int) (a1 r a3 a4:Option Addr) (n1 k1 n2 k2 n3 k3 n4 t:Nat),e=.returned (.tuple #[.agg #[I v,I x,.slice a1 n1 k1,.slice r n2 k2,.slice a3 n3 k3,.slice a4 n4 t],.bool true])∧y w' (.agg #[I v,I x,.slice a1 n1 k1,.slice r n2 k2,.slice a3 n3 k3,.slice a4 n4 t])∧Bl V w')) (o:Hid (∀ (V V':World) (u:Value),y V u→Bl V V'→y V' u)) (ai:Hid (∀ (V:World) (u1 u2:Value),y V u1→y V u2→Rt 16 #[u1,u2] V (.bool true))) :
  Rt 3 #[.agg #[I W,I H,.slice a zl O,.slice c Q P,.slice m T R,.slice s sl sc]] w (.bool true):=by
 have aq:=neq44;have HN:=Hd hn;clear hn;go_enter Tryz.func3,Tryz.ntmps3;go_upto_region 2 with (first | (go_at_call 9;refine (C9.out _ β1).mono ?_;rintro e w1 ⟨u1,rfl,F,f⟩;have t0:At w1 w.heap.size 0 (I W):=Qa f δ;have k:At w1 w.heap.size 1 (I H):=Qa f δ;have l:At w1 w.heap.size 2 (.slice a zl O):=Qa f δ;have t3:At w1 w.heap.size 3 (.slice c Q P):=Qa f δ;have t4:At w1 w.heap.size 4 (.slice m T R):=Qa f δ;have t5:At w1 w.heap.size 5 (.slice s sl sc):=Qa f δ;have j:=Hd (Qc β1 f);have E:=Hd F;have ap:Hid True:=trivial;clear f F) | (go_at_call 8;refine (C8.out _ _ j.out E.out).mono ?_;rintro e w2 ⟨rfl,f⟩;replace t0:=Qa f t0;replace k:=Qa f k;replace l:=Qa f l;replace t3:=Qa f t3;replace t4:=Qa f t4;replace t5:=Qa f t5;replace j:Hid (Bl w w2):=Qc j.out f;clear f E ) | fail)
 clear ap;go_upto_region 3 with (first | (go_at_call 9;refine (C9.out _ j.out).mono ?_;rintro e w3 ⟨u2,rfl,F,f⟩;replace t0:=Qa f t0;replace k:=Qa f k;replace l:=Qa f l;replace t3:=Qa f t3;replace t4:=Qa f t4;replace t5:=Qa f t5;replace j:Hid (Bl w w3):=Qc j.out f;have E:=Hd F;clear f F) | (go_at_call 10;refine (ad.out _ _ j.out E.out).mono ?_;rintro e w4 ⟨d1,ar,rfl,hr,f⟩;replace t0:=Qa f t0;replace k:=Qa f k;replace l:=Qa f l;replace t3:=Qa f t3;replace t4:=Qa f t4;replace t5:=Qa f t5;replace j:Hid (Bl w w4):=Qc j.out f;have A:=Hd hr;clear f E hr) | fail)
 go_upto_region 4 with (first | (go_at_call 9;refine (C9.out _ j.out).mono ?_;rintro e w5 ⟨u3,rfl,F,f⟩;replace t0:=Qa f t0;replace k:=Qa f k;replace l:=Qa f l;replace t3:=Qa f t3;replace t4:=Qa f t4;replace t5:=Qa f t5;replace j:Hid (Bl w w5):=Qc j.out f;replace A:Hid (JRow w5 d1 C):=A.out.kept f;have E:=Hd F;clear f F) | (go_at_call 11;refine (ae.out _ _ j.out E.out).mono ?_;rintro e w6 ⟨v,x,a1,r,a3,a4,n1,k1,n2,k2,n3,k3,n4,t,rfl,hq,f⟩;replace t0:=Qa f t0;replace k:=Qa f k;replace l:=Qa f l;replace t3:=Qa f t3;replace t4:=Qa f t4;replace t5:=Qa f t5;replace j:Hid (Bl w w6):=Qc j.out f;replace A:Hid (JRow w6 d1 C):=A.out.kept f;have G:=Hd hq;clear f E hq) | fail)
 refine Qi (fun z L=>?_);obtain ⟨N,J⟩:∃ b,b=w6.heap.size:=⟨_,rfl⟩
 have h:Hid (Bl w6 z):=by
  show Bl w6 z
  rw [L];with_reducible repeat' (first | exact Qe _ | refine Qh ?_ ?_ | refine Qb ?_)
  all_goals (first | omega | (dsimp only;omega) | (simp;done) | (simp;omega))
 have X6:Hid (At z N 0 (I v)∧At z N 1 (I x)∧At z N 2 (.slice a1 n1 k1)∧At z N 3 (.slice r n2 k2)∧At z N 4 (.slice a3 n3 k3)∧At z N 5 (.slice a4 n4 t)):=by
  rw [L,J];refine ⟨?_, ?_, ?_, ?_, ?_, ?_⟩ <;> simp [go_sem]
 rw [← J];clear L J;have a8:=Hd (Qc j.out h.out);replace t0:=Qa h.out t0;replace k:=Qa h.out k;replace l:=Qa h.out l;replace t3:=Qa h.out t3;replace t4:=Qa h.out t4;replace t5:=Qa h.out t5;have zb:=Bt t0;replace j:Hid (Bl w z):=a8;replace A:Hid (JRow z d1 C):=A.out.kept h.out;replace G:Hid (y z (.agg #[I v,I x,.slice a1 n1 k1,.slice r n2 k2,.slice a3 n3 k3,.slice a4 n4 t])):=o.out _ _ _ G.out h.out;clear h;go_upto_region 7 with (first | (go_at_call 12;refine (af.out _ j.out).mono ?_;rintro e w8 ⟨rfl,f⟩;replace t0:=Qa f t0;replace k:=Qa f k;replace l:=Qa f l;replace t3:=Qa f t3;replace t4:=Qa f t4;replace t5:=Qa f t5;replace j:Hid (Bl w w8):=Qc j.out f;replace A:Hid (JRow w8 d1 C):=A.out.kept f;replace G:Hid (y w8 (.agg #[I v,I x,.slice a1 n1 k1,.slice r n2 k2,.slice a3 n3 k3,.slice a4 n4 t])):=o.out _ _ _ G.out f;have HL:=Hd f;clear f ) | (go_at_call 14;refine (ag.out _ j.out).mono ?_;rintro e w9 ⟨d2,au,rfl,hr,f⟩;replace t0:=Qa f t0;replace k:=Qa f k;replace l:=Qa f l;replace t3:=Qa f t3;replace t4:=Qa f t4;replace t5:=Qa f t5;replace j:Hid (Bl w w9):=Qc j.out f;replace A:Hid (JRow w9 d1 C):=A.out.kept f;replace G:Hid (y w9 (.agg #[I v,I x,.slice a1 n1 k1,.slice r n2 k2,.slice a3 n3 k3,.slice a4 n4 t])):=o.out _ _ _ G.out f;have am:=Hd hr;replace HL:Hid (Bl z w9):=Qc HL.out f;clear f hr) | fail)
 go_wp2;go_loopg [9] n (fun gk s9 wx=>∃ i:Nat,i≤n∧gk=n - i∧s9=I (i:Int)∧Bl w9 wx)
 case atStart=>exact ⟨0,γ,rfl,rfl,Qe _⟩
 case round =>
  obtain ⟨i,hi,rfl,rfl,hB⟩:=hrel;have HJ:=Hd hB;clear hB;by_cases h1:i<n
  ·have i1:(i:Int)<(n:Int):=γ;have i0:(0:Int)≤(i:Int):=γ;have ac:i<C.length:=by have:=HN.out;omega
   obtain ⟨g,e1,d0,d1,d2,d3,d4⟩:=(A.out.kept HJ.out) i ac;obtain ⟨g',e2,f0,f1,f2,f3,f4⟩:=(am.out.kept HJ.out) i ac;subst e1;subst e2;have zd:=bk d0;have zf:=bk f0;generalize C[i].1.1=X at *;generalize C[i].1.2.1=Y at *;generalize C[i].1.2.2.1=Z at *;generalize C[i].1.2.2.2=U at *;generalize C[i].2=K at *;have aw:=aq X Y Z U K;obtain ⟨kc,kn⟩:=kcn wr;clear t0 k l t3 t4 t5;go_upto_region 12 with fail
   refine wk ?_;repeat (go_big_quiet_step (fail))
   refine kq1 (fun wq hq=>?_);clear kc kn;go_wp2;go_roundg (n - (i+1))
   case measure=>omega
   case rel=>exact ⟨i+1,γ,rfl,σ,Qc HJ.out hq⟩
  ·have i1:¬ (i:Int)<(n:Int):=γ;obtain rfl:i=n:=γ;have f:=HJ.out;replace t0:=Qa f t0;replace k:=Qa f k;replace l:=Qa f l;replace t3:=Qa f t3;replace t4:=Qa f t4;replace t5:=Qa f t5;have zr:=Bt t0;have a7:=Hd (Qc j.out f);have an:=Hd (Vz X6.out (Qc HL.out f));have ak:Hid (y wr (.agg #[I v,I x,.slice a1 n1 k1,.slice r n2 k2,.slice a3 n3 k3,.slice a4 n4 t])):=o.out _ _ _ G.out f;clear f;go_upto_region 15 with (go_at_call 15;refine (ah.out _ a7.out).mono ?_;rintro e wA ⟨r0,r1,b1,b2,b3,b4,l1,j1,l2,j2,l3,j3,l4,j4,rfl,hq,f⟩;have aj:=Hd (Qc a7.out f);have ao:=Hd (Vz an.out f);have ab:Hid (y wA (.agg #[I v,I x,.slice a1 n1 k1,.slice r n2 k2,.slice a3 n3 k3,.slice a4 n4 t])∧y wA (.agg #[I r0,I r1,.slice b1 l1 j1,.slice b2 l2 j2,.slice b3 l3 j3,.slice b4 l4 j4])):=⟨o.out _ _ _ ak.out f,hq⟩;clear f hq)
   refine Qi (fun D M=>?_);obtain ⟨q,B⟩:∃ b,b=wA.heap.size:=⟨_,rfl⟩
   have p:Hid (Bl wA D):=by
    show Bl wA D
    rw [M];with_reducible repeat' (first | exact Qe _ | refine Qh ?_ ?_ | refine Qb ?_)
    all_goals (first | omega | (dsimp only;omega) | (simp;done) | (simp;omega))
   have XB:Hid (At D q 0 (I r0)∧At D q 1 (I r1)∧At D q 2 (.slice b1 l1 j1)∧At D q 3 (.slice b2 l2 j2)∧At D q 4 (.slice b3 l3 j3)∧At D q 5 (.slice b4 l4 j4)):=by
    rw [M,B];refine ⟨?_, ?_, ?_, ?_, ?_, ?_⟩ <;> simp [go_sem]
   rw [← B];clear M B;have aa:=Hd (Qc aj.out p.out);obtain ⟨x0,x1,x2,x3,x4,x5⟩:=Vz ao.out p.out;have zx:=Bt x0;obtain ⟨y0,y1,y2,y3,y4,y5⟩:=XB.out;have zy:=Bt y0;clear t0 k l t3 t4 t5;have a6:Hid (Rt 16 #[.agg #[I v,I x,.slice a1 n1 k1,.slice r n2 k2,.slice a3 n3 k3,.slice a4 n4 t],.agg #[I r0,I r1,.slice b1 l1 j1,.slice b2 l2 j2,.slice b3 l3 j3,.slice b4 l4 j4]] D (.bool true)):=ai.out D _ _ (o.out _ _ _ ab.out.1 p.out) (o.out _ _ _ ab.out.2 p.out);go_wp2_with (go_at_call 16;refine a6.out.mono ?_;rintro e wC ⟨rfl,f⟩;have HC:=Hd (Qc aa.out f);clear f)
   go_ret;exact ⟨Qv (by first | rfl | simp),HC.out⟩
theorem own_rowf {base e size n:Nat} {v:Value} (h:w.ownsRow base e size v n (zs.map (fun z=>I z))) (hs:zs.length=n*size):∃ a c,v=.slice a n c∧RowF w base a zs:=by
 by_cases hn:0<n
 ·obtain ⟨g,b,e1,_,e3⟩:=own_row h hn;exact ⟨_,b,e1,e3⟩
 ·have h0:n=0:=γ;subst h0;have f:zs=[]:=List.length_eq_zero_iff.1 γ;subst f;rcases h.2 with ⟨e1,_⟩ | ⟨g,b,d,e1,_⟩
  ·exact ⟨none,0,e1,Ua _ _ _⟩
  ·exact ⟨_,b,e1,Ua _ _ _⟩
theorem ints_one (zs:List Int):∀ u∈zs.map (fun z=>I z),u.oneCell'=true:=by
 intro u a;obtain ⟨z,_,rfl⟩:=List.mem_map.1 a;rfl
theorem row_none (h:Row w none zs):zs=[]:=by
 cases zs with
 | nil=>rfl
 | cons z r =>
  obtain ⟨b,off,e,_⟩:=h 0 ξ
  cases e
theorem row_cells {b off:Nat} (h:Row w (Ad b off) zs):∀ j u,(zs.map (fun z=>I z))[j]?=some u→w.cell? ((⟨b,off,none⟩:Addr).add j)=some u:=by
 intro j u a
 have g:j<zs.length:=by
  have:=List.getElem?_eq_some_iff.1 a;simpa using this.1
 obtain ⟨f,c,e,d⟩:=row_at h γ
 cases e;exact d j u a
theorem cloneI_any (w:World) (a:Option Addr) (c:Nat) (zs:List Int) (g:Row w a zs) (h1:zs.length≤17592186044416) (i:a=none∨∃ b off,a=Ad b off) :
  Cl 212 #[.slice a zs.length c] w fun e w'=>∃ d f,e=.returned (.slice d zs.length f)∧RowF w' w.heap.size d zs∧Bl w w':=by
 rcases i with rfl | ⟨b,off,rfl⟩
 ·have:=row_none g;subst this;refine (clone_ints_nil w c).mono ?_;rintro e w' ⟨rfl,rfl⟩;exact ⟨none,0,rfl,Ua _ _ _,Qe _⟩
 ·refine (clone_ints w b off zs.length c (zs.map (fun z=>I z)) ξ (row_cells g) (ints_one zs) γ).mono ?_;rintro e w' ⟨v,rfl,k,j⟩;obtain ⟨d,f,rfl,h⟩:=own_rowf k γ;exact ⟨d,f,rfl,h,j⟩
theorem cloneC_any (w:World) (a:Option Addr) (n c:Nat) (d:List Int) (j:Row w a d) (k:d.length=n*5) (h1:n≤3518437208883) (m:a=none∨∃ b off,a=Ad b off) :
  Cl 213 #[.slice a n c] w fun e w'=>∃ f g,e=.returned (.slice f n g)∧RowF w' w.heap.size f d∧Bl w w':=by
 rcases m with rfl | ⟨b,off,rfl⟩
 ·have h:=row_none j;subst h;have i:n=0:=by simp at k;omega
  subst i;refine (Gf w c).mono ?_;rintro e w' ⟨rfl,rfl⟩;exact ⟨none,0,rfl,Ua _ _ _,Qe _⟩
 ·refine (clone_creases w b off n c (d.map (fun z=>I z)) (by simp [k]) (row_cells j) (ints_one d) γ).mono ?_;rintro e w' ⟨v,rfl,p,o⟩;obtain ⟨f,g,rfl,l⟩:=own_rowf p γ;exact ⟨f,g,rfl,l,o⟩
def CPW (w W:World) (u0 u1 u2 u3:Value):Prop:=Sh W w.heap.size u0 u1 u2 u3∧Fr W w.heap.size∧Sh W (w.heap.size+1) (I 0) (I 0) SN SN∧Fr W (w.heap.size+1)∧Bl w W
theorem CPW.kept {W b:World} {d e f:Value} (h:CPW w W c d e f) (a:Bl W b):CPW w b c d e f:=⟨h.1.kept a,h.2.1.kept h.1.lt a,h.2.2.1.kept a,h.2.2.2.1.kept h.2.2.1.lt a,Qc h.2.2.2.2 a⟩
theorem CPW.new (w:World) (W H:Int) (a v3:Value):CPW w ((w.alloc (.cells #[I W,I H,a,v3] 25)).alloc (.cells #[I 0,I 0,SN,SN] 25)) (I W) (I H) a v3:=by
 refine ⟨⟨?_, ?_, ?_, ?_⟩, ?_,⟨?_, ?_, ?_, ?_⟩, ?_,Qb β1⟩
 ·simp [go_sem]
 ·simp [go_sem]
 ·simp [go_sem]
 ·simp [go_sem]
 ·simp [Fr,go_sem]
 ·simp [go_sem]
 ·simp [go_sem]
 ·simp [go_sem]
 ·simp [go_sem]
 ·simp [Fr,go_sem]
theorem CPW.set {W:World} {b g i:Value} (h:CPW w W b c g i) (a v3:Value):CPW w ((W.setCell ⟨w.heap.size,2,none⟩ a).setCell ⟨w.heap.size,3,none⟩ v3) b c a v3:=by
 obtain ⟨⟨c0,c1,c2,c3⟩,e,⟨d0,d1,d2,d3⟩,hg,d⟩:=h;obtain ⟨f0,f1,f2,f3,f4,f5⟩:=e;obtain ⟨j,k,l,g3,m,n⟩:=hg;have far:∀ {o:Nat} {u:Value},W.cell? ⟨w.heap.size+1,o,none⟩=some u→((W.setCell ⟨w.heap.size,2,none⟩ a).setCell ⟨w.heap.size,3,none⟩ v3).cell? ⟨w.heap.size+1,o,none⟩=some u:=fun f=>Qo (Qo f ξ) ξ;refine ⟨⟨?_, ?_, ?_, ?_⟩,⟨?_, ?_, ?_, ?_, ?_, ?_⟩,⟨far d0,far d1,far d2,far d3⟩,⟨?_, ?_, ?_, ?_, ?_, ?_⟩,(d.setCell (p:=⟨w.heap.size,2,none⟩) (Nr _) _).setCell (p:=⟨w.heap.size,3,none⟩) (Nr _) _⟩
 ·(try simp only [At]);rw [Co _ _ _ _ ξ,Co _ _ _ _ ξ]
  exact c0
 ·(try simp only [At]);rw [Co _ _ _ _ ξ,Co _ _ _ _ ξ]
  exact c1
 ·(try simp only [At]);rw [Co _ _ _ _ ξ]
  exact Jq c2
 ·exact Jq (by (try simp only [At]);rw [Co _ _ _ _ ξ];exact c3)
 all_goals ((try simp only [Fn]);rw [Fz,Fz];assumption)
def CopyTo (w w':World) (W H:Int) (n:Nat) (zs ks:List Int) (e:Ending):Prop := ∃ a ca b cb,e=.returned (.agg #[I W,I H,.slice a zs.length ca,.slice b n cb])∧RowF w' w.heap.size a zs∧RowF w' w.heap.size b ks∧Bl w w'
theorem copy_any (W H:Int) (a b:Option Addr) (s t n:Nat) (zs l:List Int) (w:World) (F:Row w a zs) (E:Row w b l) (L:l.length=n*5) (h1:zs.length≤17592186044416) (h2:n≤3518437208883) (C:a=none∨∃ p off,a=Ad p off) (D:b=none∨∃ p off,b=Ad p off) :
  Cl 116 #[.agg #[I W,I H,.slice a zs.length s,.slice b n t]] w fun e w'=>CopyTo w w' W H n zs l e:=by
 have z:=Hd (fun (V:World) hV=>cloneI_any V a s zs (F.kept hV) h1 C);have J:=Hd (fun (V:World) hV=>cloneC_any V b n t l (E.kept hV) L h2 D);clear F E C D;obtain ⟨m,x⟩:∃ m,m=zs.length:=⟨_,rfl⟩;rw [← x] at z ⊢;have K:=Hd x;clear x;go_enter Tryz.func116,Tryz.ntmps116;go_upto_region 1 with fail
 refine Qi (fun A hW0=>?_);have c:Hid (CPW w A (I W) (I H) (.slice a m s) (.slice b n t)):=by rw [hW0];exact CPW.new w W H _ _
 have k:w.heap.size+1<A.heap.size:=c.out.2.2.1.lt;clear hW0;obtain ⟨Q,R,T,U⟩:=c.out.1;go_cut [] (fun y=>∃ a' ca' b' cb',CPW w y (I W) (I H) (.slice a' m ca') (.slice b' n cb')∧RowF y (w.heap.size+1+1) a' zs∧RowF y (w.heap.size+1+1) b' l)
 case first =>
  go_region_with (first
   | (go_at_call 212;refine (z.out _ (by first | exact f.2.2.2.2 | exact Qg c.out.2.2.2.2)).mono ?_;rintro e w1 ⟨a1,k1,rfl,g,i⟩;have d:CPW w w1 (I W) (I H) (.slice a m s) (.slice b n t):=(by first | exact CPW.kept f i | exact CPW.kept (c.out.kept (Qg (Qe _))) i);have o:Hid (RowF w1 (w.heap.size+1+1) a1 zs):=(g.low (by first | exact f.2.2.1.lt | exact k));obtain ⟨p0,p1,p2,p3⟩:=d.1;obtain ⟨_,_,M,N,_,_⟩:=d.2.1;have pz:=d.1.lt;clear g)
   | (go_at_call 213;refine (J.out _ (by first | exact d.2.2.2.2 | exact Qg c.out.2.2.2.2)).mono ?_;rintro e G ⟨r,k2,rfl,h,j⟩;have f:CPW w G (I W) (I H) (.slice a m s) (.slice b n t):=(by first | exact CPW.kept d j | exact CPW.kept (c.out.kept (Qg (Qe _))) j);have q:Hid (RowF G (w.heap.size+1+1) r l):=(h.low (by first | exact d.2.2.1.lt | exact k));obtain ⟨q0,q1,q2,q3⟩:=f.1;obtain ⟨_,_,O,P,_,_⟩:=f.2.1;have qz:=f.1.lt;clear h))
  all_goals
   go_wp2;go_meet
   case rel =>
    refine ⟨a1,k1,r,k2, ?_, ?_, ?_⟩
    ·first | exact f.set _ _ | exact d.set _ _
    ·first | exact ((o.out.kept j).set θ).set θ | exact (o.out.set θ).set θ
    ·first | exact ((q.out.kept i).set θ).set θ | exact (q.out.set θ).set θ
 case rest =>
  clear Q R T U c k;obtain ⟨a1,k1,r,k2,B,g,h⟩:=hcut;have u:=H3 B g h;obtain ⟨⟨c0,c1,c2,c3⟩,_,⟨d0,d1,d2,d3⟩,⟨X,Y,Z,g3,_,_⟩,_⟩:=B;have z0:=Bt c0;have z1:=Bt d0;clear g h;go_wp2;refine bodyPost_ret (v:=.agg #[I W,I H,.slice a1 m k1,.slice r n k2]) (by simp [results,Tryz.results116,go_sem,d0,d1,d2,d3]) rfl ⟨a1,k1,r,k2,by rw [K.out], ?_, ?_, ?_⟩
  ·refine RowF.low (base:=w.heap.size+1+1) ?_ γ;refine RowF.set ?_ θ;refine RowF.set ?_ θ;refine RowF.set ?_ θ;refine RowF.set ?_ θ;exact u.out.2.1
  ·refine RowF.low (base:=w.heap.size+1+1) ?_ γ;refine RowF.set ?_ θ;refine RowF.set ?_ θ;refine RowF.set ?_ θ;refine RowF.set ?_ θ;exact u.out.2.2
  ·with_reducible repeat (first | exact u.out.1.2.2.2.2 | refine Qh ?_ ?_)
   all_goals (first | omega | (dsimp only;omega))
end Go.Proofs.YtnpboeodhpenmaaGreatDoor
