/- A part of it. -/
import Derived.Test.YtnpboeodhpenmaaGreatDoorQlaq
import Derived.Test.YtnpboeodhpenmaaGreatDoorQlal
set_option maxRecDepth 100000
set_option maxHeartbeats 40000000
namespace Go.Proofs.YtnpboeodhpenmaaGreatDoor
open Go.RowKit
variable {w w':World} {M:Nat→M6} {pa:Option Addr} {L:List T3} {b g:Nat} {kd:E4→Int}
def MOk1 (L:List T3) (M:Nat→M6) (i:Nat):Prop:=mapM (M i)=true∧triT (mvt (M i) (L.getD i (0,0,0)))=true
def MOk (kd:E4→Int) (L:List T3) (M:Nat→M6):Prop:=(∀ i,i<L.length→MOk1 L M i)∧∀ i,i<L.length→FitI kd L M i
theorem fit_bool (kd:E4→Int) (L:List T3) (M:Nat→M6):∃ bf:Bool,Hid (bf=true↔∀ i,i<L.length→FitI kd L M i)∧∀ W w' e,FitTo kd L M W w' e→e=.returned (.bool bf)∧Bl W w':=by
 by_cases q:∀ i,i<L.length→FitI kd L M i
 ·refine ⟨true, ?_,fun W w' e h=>?_⟩
  ·have:true=true↔∀ i,i<L.length→FitI kd L M i:=⟨fun _=>q,fun _=>rfl⟩;exact this
  ·obtain ⟨⟨b,d,c⟩,a⟩:=h;exact ⟨by rw [d,c.2 q],a⟩
 ·refine ⟨false, ?_,fun W w' e h=>?_⟩
  ·have:false=true↔∀ i,i<L.length→FitI kd L M i:=⟨fun h=>(by cases h),fun h=>absurd h q⟩;exact this
  ·obtain ⟨⟨b,d,c⟩,a⟩:=h
   cases b
   ·exact ⟨d,a⟩
   ·exact absurd (c.1 rfl) q
def SprTo (w w':World) (ad:Option Addr) (cc ra rk gm cm:Nat) (L:List T3) (kd:E4→Int) (M:Nat→M6) (e:Ending):Prop :=
 (∃ z0 k0 d0 m1 m2 z3 k3 d3 z4 k4 d4,e=.returned (.tuple #[.agg #[.slice z0 k0 d0,.map m1,.map m2,.slice z3 k3 d3,.slice z4 k4 d4],.bool false])∧¬ MOk kd L M∧Bl w w')
 ∨ (∃ pa pc,e=.returned (.tuple #[.agg #[.slice ad L.length cc,.map (some ra),.map (some rk),.slice (Az gm) L.length cm,.slice pa L.length pc],.bool true])∧MOk kd L M∧TRow w' pa (pls L M L.length)∧Bl w w')
theorem sprTo_of {b:Option Addr} {c j e d k:Nat} {a:Bool} (h1:a=true↔∀ i,i<L.length→FitI kd L M i) (h2:∀ i,i<L.length→MOk1 L M i) (hT:TRow w' pa (pls L M L.length)) (f:Bl w w'):SprTo w w' b c g j e d L kd M (.returned (.tuple #[.agg #[.slice b L.length c,.map (some g),.map (some j),.slice (Az e) L.length d,.slice pa L.length k],.bool a])):=by
 cases a
 ·exact Or.inl ⟨_,_,_,_,_,_,_,_,_,_,_,rfl,fun h=>by simpa using h1.2 h.2,f⟩
 ·exact Or.inr ⟨_,_,rfl,⟨h2,h1.1 rfl⟩,hT,f⟩
theorem spread_gen (w:World) (U P Q s cm:Nat) (N:Option Addr) (L:List T3) (kd:E4→Int) (M:Nat→M6) (hs:Steps w) (ae:PA w N P L) (hK:KL w Q kd) (hL:L.length≤300) (J:∀ t∈L,(0≤t.1∧t.1≤8)∧(0≤t.2.1∧t.2.1≤8)∧(0≤t.2.2∧t.2.2≤3)) (hM:MRow w s L.length M) :
  Cl 96 #[.agg #[.slice N L.length U,.map (some P),.map (some Q)],.slice (Az s) L.length cm] w fun e w'=>SprTo w w' N U P Q s cm L kd M e:=by
 have CF:Hid (∀ (n:World) (pa:Option Addr) (pn pc:Nat),Bl w n→(∀ i,i<L.length→mapM (M i)=true)→Cl 185 #[.agg #[.slice N L.length U,.map (some P),.map (some Q),.slice (Az s) L.length cm,.slice pa pn pc]] n fun e w'=>FitTo kd L M n w' e):=fun n pa pn pc m hG=>fits_gen n U P Q s cm N pa pn pc L kd M (hs.kept m) (ae.kept m) (hK.kept m) hL J (hM.kept m) hG
 have CM:Hid (∀ (i:Nat) (hi:i<L.length),∃ X Y K O:Int,((O=0∧MOk1 L M i∧mvt (M i) L[i]=(X,Y,K))∨(O≠0∧¬ MOk1 L M i))∧∀ n:World,Bl w n→Rt 34 #[.agg #[I (M i).1,I (M i).2.1,I (M i).2.2.1,I (M i).2.2.2.1,I (M i).2.2.2.2.1,I (M i).2.2.2.2.2],.agg #[I L[i].1,I L[i].2.1,I L[i].2.2]] n (.tuple #[.agg #[I X,I Y,I K],I O])):=fun i hi=>by
  by_cases G:MOk1 L M i
  ·have r:=G;unfold MOk1 at r;rw [Qz L i hi] at r;exact ⟨(mvt (M i) L[i]).1,(mvt (M i) L[i]).2.1,(mvt (M i) L[i]).2.2,0,Or.inl ⟨rfl,G,rfl⟩,fun n m=>Move_in (M i) L[i] n r.1 (J _ (Lm hi)) (hs.kept m) r.2⟩
  ·have r:=G;unfold MOk1 at r;rw [Qz L i hi] at r;by_cases hm:mapM (M i)=true
   ·obtain ⟨h1,h2,h3,h4,h5,h7⟩:=mvt_gen (a:=(M i).1) (b:=(M i).2.1) (c:=(M i).2.2.1) (d:=(M i).2.2.2.1) (e:=(M i).2.2.2.2.1) (f:=(M i).2.2.2.2.2) hm (J _ (Lm hi)).1 (J _ (Lm hi)).2.1 (J _ (Lm hi)).2.2 (X:=(mvt (M i) L[i]).1) (Y:=(mvt (M i) L[i]).2.1) (K:=(mvt (M i) L[i]).2.2) rfl
    have ht:triT (mvt (M i) L[i])=false:=by
     cases q:triT (mvt (M i) L[i])
     ·rfl
     ·exact absurd ⟨hm,q⟩ r
    exact ⟨0,0,0,2,Or.inr ⟨ψ,G⟩,fun n m=>Move_no _ _ _ _ _ _ _ _ _ _ _ _ n hm h7 h1 h2 h3 h4 h5 ht (hs.kept m)⟩
   ·have bt:mapB (M i).1 (M i).2.1 (M i).2.2.1 (M i).2.2.2.1 (M i).2.2.2.2.1 (M i).2.2.2.2.2=false:=by simpa [mapM] using hm
    exact ⟨0,0,0,3,Or.inr ⟨ψ,G⟩,fun n m=>Move_out _ _ _ _ _ _ _ _ _ n (Or.inl bt)⟩
 have HR:=H2 ae.1 hM;obtain ⟨i3,b8,a8,aa,ab⟩:=info_parts inf23;have HI:=H4 b8 a8 aa ab;have qn:((L.length:Int) != (L.length:Int))=false:=ξ;clear hs ae hK J hM b8 a8 aa ab;go_enter Tryz.func96,Tryz.ntmps96;go_wp2;go_loopg [24] L.length (fun gk bv wx=>∃ (i:Nat) (v:Value),i≤L.length∧gk=L.length - i∧bv=I (i:Int)∧(∀ i',i'<i→MOk1 L M i')∧SpB ((w.alloc (.cells #[.slice N L.length U,.map (some P),.map (some Q)] 98)).alloc (.cells #[SN,.map none,.map none,SN,SN] 100)) wx (w.heap.size+1+1) N L.length U P Q s cm v (pls L M i))
 case atStart=>exact ⟨0,SN,γ,rfl,rfl,fun i' bs=>by omega,⟨δ,δ,δ,δ,δ,δ,⟨by simp [pls,flatV],.inl ⟨rfl,by simp [pls]⟩⟩,ξ,Qb (Qe _)⟩⟩
 case round =>
  obtain ⟨i,v,hi,rfl,rfl,az,hS⟩:=hrel;have ac:=Hd az;clear az;have u:=Hd hS;have HB:=Hd (Qc β2 hS.bel);have zB:=hS.lt;clear hS;by_cases h1:i<L.length
  ·have i1:(i:Int)<(L.length:Int):=γ;have i0:(0:Int)≤(i:Int):=γ;obtain ⟨da,rfl,t0,t1,t2⟩:=HR.out.1 i h1;replace t0:=Qa HB.out t0;replace t1:=Qa HB.out t1;replace t2:=Qa HB.out t2;have zt:=Bt t0;obtain ⟨⟨y0,y1,y2,y3,y4,y5⟩,_⟩:=HR.out.2 i h1;obtain ⟨A,B,C,D,E,F,ag⟩:∃ A B C D E F,M i=(A,B,C,D,E,F):=⟨_,_,_,_,_,_,rfl⟩;obtain ⟨x,y,k,ai⟩:∃ x y k,L[i]=(x,y,k):=⟨_,_,_,rfl⟩;obtain ⟨X,Y,K,O,b6,b7⟩:=CM.out i h1
   have bi:Hid ((O=0∧MOk1 L M i∧pls L M (i+1)=pls L M i ++ [(X,Y,K)])∨(O≠0∧¬ MOk1 L M i)):=by
    have:(O=0∧MOk1 L M i∧pls L M (i+1)=pls L M i ++ [(X,Y,K)])∨(O≠0∧¬ MOk1 L M i):=by
     rcases b6 with ⟨bn,bo,bp⟩ | h
     ·exact Or.inl ⟨bn,bo,by rw [pls_succ,← bp,Qz L i h1]⟩
     ·exact Or.inr h
    exact this
   clear b6
   have ak:Hid (∀ n:World,Bl wr n→Rt 34 #[.agg #[I A,I B,I C,I D,I E,I F],.agg #[I x,I y,I k]] n (.tuple #[.agg #[I X,I Y,I K],I O])):=fun n m=>by
    have h:=b7 n (Qc HB.out m);rw [ag,ai] at h;exact h
   rw [ag] at y0 y1 y2 y3 y4 y5;rw [ai] at t0 t1 t2;dsimp only at y0 y1 y2 y3 y4 y5 t0 t1 t2;clear b7 ag ai;go_wp2;refine Qi (fun T hW0=>?_)
   have a2:Hid (Bl wr T):=by
    have:Bl wr T:=γ4;exact this
   obtain ⟨B9,V⟩:∃ b,b=wr.heap.size:=⟨_,rfl⟩;have x0:At T B9 0 (I x):=by rw [hW0,V];simp [go_sem]
   have x1:At T B9 1 (I y):=by rw [hW0,V];simp [go_sem]
   have x2:At T B9 2 (I k):=by rw [hW0,V];simp [go_sem]
   clear hW0;rw [← V];clear V;have H:=Qc HB.out a2.out;replace y0:=Qa H y0;replace y1:=Qa H y1;replace y2:=Qa H y2;replace y3:=Qa H y3;replace y4:=Qa H y4;replace y5:=Qa H y5;have bz:=Bt y0;have ca:=Bt x0;have aj:Hid (∀ n:World,Bl T n→Rt 34 #[.agg #[I A,I B,I C,I D,I E,I F],.agg #[I x,I y,I k]] n (.tuple #[.agg #[I X,I Y,I K],I O])):=fun n m=>ak.out n (Qc a2.out m);clear H t0 t1 t2 zt;go_cut [9,10] (fun s9 bu wx=>∃ g9:Nat,s9=.pointer (Az g9)∧bu=I O∧(At wx g9 0 (I X)∧At wx g9 1 (I Y)∧At wx g9 2 (I K))∧Bl T wx)
   case first =>
    go_region_held3 (fun w'=>At w' s (i*6) (I A)∧At w' s (i*6+1) (I B)∧At w' s (i*6+2) (I C)∧At w' s (i*6+3) (I D)∧At w' s (i*6+4) (I E)∧At w' s (i*6+5) (I F)∧At w' B9 0 (I x)∧At w' B9 1 (I y)∧At w' B9 2 (I k))
     ((refine ⟨?_, ?_, ?_, ?_, ?_, ?_, ?_, ?_, ?_⟩ <;> (repeat' (first | (with_reducible assumption) | (with_reducible refine Xh ?_ ?_) | (dsimp only;omega) | (simp [go_sem];done) | (with_reducible refine Qk ?_) | (with_reducible refine Qq ?_)))))
     ((go_at_call 34;refine (aj.out _ γ1).mono ?_;rintro e p ⟨rfl,j⟩;have bb:At p s (i*6) (I A):=Qa j ζ;have cz:At p s (i*6+1) (I B):=Qa j ζ;have d6:At p s (i*6+2) (I C):=Qa j ζ;have d7:At p s (i*6+3) (I D):=Qa j ζ;have d8:At p s (i*6+4) (I E):=Qa j ζ;have d9:At p s (i*6+5) (I F):=Qa j ζ;have ba:At p B9 0 (I x):=Qa j ζ;have cx:At p B9 1 (I y):=Qa j ζ;have cy:At p B9 2 (I k):=Qa j ζ;(first | (have W:=fresh3_a (g:=T.heap.size) rfl j;obtain ⟨⟨ap,aq,ar⟩,⟨au,av,aw⟩,ax⟩:=W) | (have W:=fresh3_d (g:=T.heap.size) rfl j;obtain ⟨⟨ap,aq,ar⟩,⟨au,av,aw⟩,ax⟩:=W) | (have W:=fresh3_dd (g:=T.heap.size) rfl j;obtain ⟨⟨ap,aq,ar⟩,⟨au,av,aw⟩,ax⟩:=W) | skip);have hq:Bl T p:=(by with_reducible (first | exact j | exact Jb j | exact Jb (Jb j) | exact Qc β1 j | exact Qc (Qg β1) j | exact Qc (Qb (Qg (Qe _))) j | exact Qc (Qg (Qb (Qg (Qe _)))) j | exact Qc (Qg (Qg β1)) j | exact Qc (Qb (Qg (Qg (Qe _)))) j));have a6:=Hd hq;have cb:=Bt bb;have ce:=Bt ba;have dc:=hq.size;clear j hq))
    all_goals
     go_wp2;go_meet
     case rel =>
      refine ⟨_,rfl,rfl, ?_, ?_⟩
      ·first | (simp [go_sem];done) | (simp [go_sem, *];done)
      ·with_reducible repeat' (first | exact a6.out | refine Qh ?_ ?_ | refine Qb ?_ | refine Qg ?_)
       all_goals (first | omega | (dsimp only;omega) | (simp;done))
   case rest =>
    obtain ⟨g9,rfl,rfl,⟨e0,e1,e2⟩,ay⟩:=hcut;have R:=Hd (u.out.kept (Qc a2.out ay));have z9:=Bt e0;have c4:=R.out.c4;have bw:=R.out.lt;clear u HB a2 ak aj ay y0 y1 y2 y3 y4 y5 x0 x1 x2 bz ca zB;rcases bi.out with af | af
    ·obtain ⟨a7,G,hP⟩:=af;subst a7;have HP:=Hd hP
     have bk:Hid (∀ i',i'<i+1→MOk1 L M i'):=fun i' bs=>by
      by_cases e:i'=i
      ·exact e ▸ G
      ·exact ac.out i' γ
     clear hP G;have db:w.heap.size+1+1+1≤wc.heap.size:=γ;have am:=Hd (Yj L M i)
     have HO:Hid (wc.ownsRow (w.heap.size+1+1+1) 51 3 v i (flatV (pls L M i))):=by
      have:=R.out.own;rw [am.out] at this;exact this
     go_wp2_with (at_builtin;refine wpList_append_own _ rfl (.tmp 42) (.tmp 44) 55 rfl (w.heap.size+1+1+1) 51 i3 (.agg #[I 0,I 0,I 0]) 3 24 Tryz.underlying55 HI.out.1 HI.out.2.1 HI.out.2.2.1 HI.out.2.2.2 rfl ψ v i (flatV (pls L M i)) rfl (Qj HO.out β1) ⟨wc.heap.size,0,none⟩ 1 1 [I X,I Y,I K] rfl rfl (Xg wc X Y K) (Uq X Y K) Ξ γ ω ?grow)
     case grow =>
      intro v' w3 Z z _
      obtain ⟨gv,cv,rfl⟩:∃ gv cv,v'=.slice (Az gv) (i+1) cv:=by
       rcases Z.2 with ⟨_,h0⟩ | ⟨gv,cv,_,h,_⟩
       ·omega
       ·exact ⟨gv,cv,h⟩
      have hk:=R.out.kept (Qb (o:=.cells #[I X,I Y,I K] 51) (Qe wc));have hN:=hk.more (t:=(X,Y,K)) z (by rw [am.out];exact Z);rw [← HP.out] at hN;have HN:=(show Hid _ from hN)
      have ah:some (w.heap.size+1+1)≠v.ownBlock:=fun e=>by
       have:=Qw hk.own _ e.symm;omega
      have d4:=z.cell hk.c4 ah;have k4:Fn w3 (w.heap.size+1+1) 4:=(Fo (a:=⟨w.heap.size+1+1,4,none⟩) (z.block _ hk.lt ah)).trans hk.f4;have z3:=Bt d4;clear Z z hk hN ah;go_wp2;go_roundg (L.length - (i+1))
      case measure=>omega
      case rel=>exact ⟨i+1,_,γ,rfl,σ,bk.out,HN.out⟩
    ·obtain ⟨a7,b9⟩:=af;have qc:(O != 0)=true:=by simpa using a7
     have l:=R.out.bel;have d0:At wc (w.heap.size+1) 0 SN:=Qa l δ;have d1:At wc (w.heap.size+1) 1 (.map none):=Qa l δ;have d2:At wc (w.heap.size+1) 2 (.map none):=Qa l δ;have d3:At wc (w.heap.size+1) 3 SN:=Qa l δ;have d4:At wc (w.heap.size+1) 4 SN:=Qa l δ;have zD:=Bt d0;have k0:Fn wc (w.heap.size+1) 0:=(l.frozen ξ).trans δ;have k1:Fn wc (w.heap.size+1) 1:=(l.frozen ξ).trans δ;have k2:Fn wc (w.heap.size+1) 2:=(l.frozen ξ).trans δ;have k3:Fn wc (w.heap.size+1) 3:=(l.frozen ξ).trans δ;have k4:Fn wc (w.heap.size+1) 4:=(l.frozen ξ).trans δ;have bh:=Hd (Qc β2 l);have bj:=Hd b9;clear l b9 a7 c4 bw;go_wp2;refine bodyPost_ret (v:=.tuple #[.agg #[SN,.map none,.map none,SN,SN],.bool false]) (by simp [results,Tryz.results96,go_sem, *]) rfl (Or.inl ⟨none,0,0,none,none,none,0,0,none,0,0,rfl,fun b5=>bj.out (b5.1 i h1), ?_⟩);with_reducible repeat' (first | exact bh.out | refine Qh ?_ ?_ | refine Qb ?_)
     all_goals (dsimp only;omega)
  ·have i1:¬ (i:Int)<(L.length:Int):=γ;obtain rfl:i=L.length:=γ;obtain ⟨pa,pc,rfl,hT⟩:=Xc u.out.own;rw [Yj] at u;have c0:=u.out.c0;have c1:=u.out.c1;have c2:=u.out.c2;have c3:=u.out.c3;have c4:=u.out.c4;have HT:=Hd hT;have bm:Hid (∀ g,pa=Az g→w.heap.size+1+1+1≤g):=fun g e=>Qw u.out.own g (by rw [e];rfl);clear hT;have d0:At wr (w.heap.size+1) 0 SN:=Qa u.out.bel δ;have d1:At wr (w.heap.size+1) 1 (.map none):=Qa u.out.bel δ;have d2:At wr (w.heap.size+1) 2 (.map none):=Qa u.out.bel δ;have d3:At wr (w.heap.size+1) 3 SN:=Qa u.out.bel δ;have d4:At wr (w.heap.size+1) 4 SN:=Qa u.out.bel δ;have zD:=Bt d0;have k0:Fn wr (w.heap.size+1) 0:=(u.out.bel.frozen ξ).trans δ;have k1:Fn wr (w.heap.size+1) 1:=(u.out.bel.frozen ξ).trans δ;have k2:Fn wr (w.heap.size+1) 2:=(u.out.bel.frozen ξ).trans δ;have k3:Fn wr (w.heap.size+1) 3:=(u.out.bel.frozen ξ).trans δ;have k4:Fn wr (w.heap.size+1) 4:=(u.out.bel.frozen ξ).trans δ
   obtain ⟨bf,bg,br⟩:∃ bf:Bool,Hid (bf=true↔∀ i,i<L.length→FitI kd L M i)∧∀ n:World,Bl wr n→Rt 185 #[.agg #[.slice N L.length U,.map (some P),.map (some Q),.slice (Az s) L.length cm,.slice pa L.length pc]] n (.bool bf):=by
    obtain ⟨bf,h1,h2⟩:=fit_bool kd L M;exact ⟨bf,h1,fun n m=>(CF.out n pa L.length pc (Qc HB.out m) (fun i hi=>(ac.out i hi).1)).mono fun e w' h=>h2 _ _ _ h⟩
   have bc:Hid (∀ n:World,Bl wr n→Rt 185 #[.agg #[.slice N L.length U,.map (some P),.map (some Q),.slice (Az s) L.length cm,.slice pa L.length pc]] n (.bool bf)):=fun n m=>br n m;have be:=Hd HB.out;clear CF CM HR HI u HB;go_wp2
   go_region_held3 (fun w'=>At w' (w.heap.size+1+1) 0 (.slice N L.length U)∧At w' (w.heap.size+1+1) 1 (.map (some P))∧At w' (w.heap.size+1+1) 2 (.map (some Q))∧At w' (w.heap.size+1+1) 3 (.slice (Az s) L.length cm)∧At w' (w.heap.size+1+1) 4 (.slice pa L.length pc))
    ((refine ⟨?_, ?_, ?_, ?_, ?_⟩ <;> (repeat' (first | (with_reducible assumption) | (with_reducible refine Xh ?_ ?_) | (dsimp only;omega) | (simp [go_sem];done) | (with_reducible refine Qk ?_) | (with_reducible refine Qq ?_)))))
    ((go_at_call 185;refine (bc.out _ γ1).mono ?_;rintro e p ⟨rfl,j⟩;have an:At p (w.heap.size+1+1) 0 (.slice N L.length U):=Qa j ζ;have cf:At p (w.heap.size+1+1) 1 (.map (some P)):=Qa j ζ;have cg:At p (w.heap.size+1+1) 2 (.map (some Q)):=Qa j ζ;have ch:At p (w.heap.size+1+1) 3 (.slice (Az s) L.length cm):=Qa j ζ;have ci:At p (w.heap.size+1+1) 4 (.slice pa L.length pc):=Qa j ζ;have ao:At p (w.heap.size+1) 0 SN:=Qa j ζ;have cp:Fn p (w.heap.size+1) 0:=(j.frozen (by dsimp only;first | exact zD | (simp;exact zD))).trans (by first | exact k0 | (simp [go_sem,k0];done));have cj:At p (w.heap.size+1) 1 (.map none):=Qa j ζ;have cr:Fn p (w.heap.size+1) 1:=(j.frozen (by dsimp only;first | exact zD | (simp;exact zD))).trans (by first | exact k1 | (simp [go_sem,k1];done));have cl:At p (w.heap.size+1) 2 (.map none):=Qa j ζ;have ct:Fn p (w.heap.size+1) 2:=(j.frozen (by dsimp only;first | exact zD | (simp;exact zD))).trans (by first | exact k2 | (simp [go_sem,k2];done));have cn:At p (w.heap.size+1) 3 SN:=Qa j ζ;have cu:Fn p (w.heap.size+1) 3:=(j.frozen (by dsimp only;first | exact zD | (simp;exact zD))).trans (by first | exact k3 | (simp [go_sem,k3];done));have co:At p (w.heap.size+1) 4 SN:=Qa j ζ;have cw:Fn p (w.heap.size+1) 4:=(j.frozen (by dsimp only;first | exact zD | (simp;exact zD))).trans (by first | exact k4 | (simp [go_sem,k4];done));have hq:Bl wr p:=(by with_reducible (first | exact j | exact Jb j | exact Jb (Jb j)));have a6:=Hd hq;have cb:=Bt ao;have ce:=Bt an;clear j hq))
   all_goals
    go_wp2;refine bodyPost_ret (v:=.tuple #[.agg #[.slice N L.length U,.map (some P),.map (some Q),.slice (Az s) L.length cm,.slice pa L.length pc],.bool bf]) (by simp [results,Tryz.results96,go_sem, *]) rfl ?_;have bq:=HT.out.kept a6.out;refine sprTo_of bg.out ac.out ?_ ?_
    ·with_reducible repeat' (first | exact bq | refine TRow.far ?_ ?_)
     all_goals (intro g e;have:=bm.out g e;dsimp only;omega)
    ·with_reducible repeat' (first | exact Qc be.out a6.out | refine Qh ?_ ?_ | refine Qg ?_)
     all_goals (dsimp only;omega)
theorem spread_len (w:World) (n d g h b e:Nat) (c f:Option Addr) (a:b≠n) :
  Rt 96 #[.agg #[.slice c n d,.map (some g),.map (some h)],.slice f b e] w (.tuple #[.agg #[SN,.map none,.map none,SN,SN],.bool false]):=by
 have i:((b:Int) != (n:Int))=true:=by
  rw [bne_iff_ne];omega
 clear a;go_enter Tryz.func96,Tryz.ntmps96;go_wp2;refine bodyPost_ret (v:=.tuple #[.agg #[SN,.map none,.map none,SN,SN],.bool false]) (by simp [results,Tryz.results96,go_sem]) rfl ⟨rfl, ?_⟩;with_reducible repeat (first | exact Qe _ | refine Qb ?_ | refine Qh ?_ ?_)
 all_goals simp
def MRowG (w:World) (a:Option Addr) (n:Nat) (M:Nat→M6):Prop := ∀ i,i<n→∃ g o,a=Ad g o∧At w g (o+i*6) (I (M i).1)∧At w g (o+i*6+1) (I (M i).2.1)∧At w g (o+i*6+2) (I (M i).2.2.1)∧At w g (o+i*6+3) (I (M i).2.2.2.1)∧At w g (o+i*6+4) (I (M i).2.2.2.2.1)∧At w g (o+i*6+5) (I (M i).2.2.2.2.2)
theorem MRowG.kept {a:Option Addr} {n:Nat} (h:MRowG w a n M) (b:Bl w w'):MRowG w' a n M:=fun i hi=>by
 obtain ⟨g,o,e,c0,c1,c2,c3,c4,c5⟩:=h i hi;exact ⟨g,o,e,Qa b c0,Qa b c1,Qa b c2,Qa b c3,Qa b c4,Qa b c5⟩
def Acr1 (kd:E4→Int) (L:List T3) (M:Nat→M6) (i k:Nat):Prop := ∀ j (hj:j<L.length),L[j]=acr (L.getD i (0,0,0)) (edg (L.getD i (0,0,0)) k)→M j=farM kd (edg (L.getD i (0,0,0)) k) (M i)
def MMs (kd:E4→Int) (L:List T3) (M:Nat→M6) (m:Nat):Prop := ∀ i,i<m→MOk1 L M i∧∀ k,k<3→Acr1 kd L M i k
theorem Kr (o:L.Nodup) (b:∀ t∈L,Kd t):MMs kd L M L.length↔MOk kd L M:=by
 constructor
 ·intro h;refine ⟨fun i hi=>(h i hi).1,fun i hi q hq j g=>?_⟩;obtain ⟨e,t⟩:=q;obtain ⟨k,n,rfl,m,l,rfl,c,r⟩:=Yz.1 hq;dsimp only at g ⊢;obtain rfl:m=j:=γ;rw [bynd_iff (h m l).1.1];refine (h i hi).2 k n m l ?_;rw [Qz L i hi];rw [Qz L i hi] at r hq;refine Jh (b _ (Lm hi)) (b _ (Lm l)) (Jc _ _) r ?_;exact fun e=>c (Jj o l hi e)
 ·intro h i hi;refine ⟨h.1 i hi,fun k n j g a=>?_⟩;have f:=Qz L i hi (d:=(0,0,0));rw [f] at a ⊢;have p:=Zf (b _ (Lm hi)) (Jc L[i] k)
  have c:j≠i:=fun e=>by
   subst e;exact p.2.1 a.symm
  have:=h.2 i hi (edg L[i] k,(j:Int)) (by
   rw [f];exact Yz.2 ⟨k,n,rfl,j,g,rfl,c,by rw [a];exact p.1⟩) j rfl
  exact (bynd_iff (h.1 j g).1).1 this
def MmTo (kd:E4→Int) (L:List T3) (mn:Nat) (M:Nat→M6) (w w':World) (e:Ending):Prop := ∃ b:Bool,e=.returned (.bool b)∧(b=true↔(mn=L.length∧MMs kd L M L.length))∧Bl w w'
theorem mapsMay_any (W H b off af n a2 mn mc:Nat) (cb mp:Option Addr) (zs ks:List Int) (M:Nat→M6) (w:World) (hr:Row w (Ad b off) zs) (hW:1≤W∧W≤8) (hH:1≤H∧H≤8) (hl:zs.length=W*H) (hm:maskB zs=true) (hC:CRow w cb ks n) (h1:CrOne ks n) (ee:n≤3518437208883) (hM:MRowG w mp mn M) :
  Cl 50 #[.agg #[I (W:Int),I (H:Int),.slice (Ad b off) zs.length af,.slice cb n a2],.slice mp mn mc] w fun e w'=>MmTo (kdn ks n) (ty zs W H) mn M w w' e:=by
 have cj:Hid (∀ m:World,Bl w m→Cl 51 #[.agg #[I (W:Int),I (H:Int),.slice (Ad b off) zs.length af,.slice cb n a2]] m fun e w'=>∃ v,e=.returned v∧w'.ownsRow (m.heap.size+1) 51 3 v (ty zs W H).length (flatV (ty zs W H))∧Bl m w'):=fun m ak=>Yv W H b off af zs _ m (hr.kept ak) hW hH hl hm;have CK:Hid (∀ (m:World) (p q r s:Int),Bl w m→Rt 125 #[.agg #[I (W:Int),I (H:Int),.slice (Ad b off) zs.length af,.slice cb n a2],.agg #[I p,I q,I r,I s]] m (I (kdn ks n (p,q,r,s)))):=fun m p q r s ak=>kindOf_any m _ _ _ cb n a2 ks p q r s (hC.kept ak) h1 ee;have cn:Hid (∀ t∈ty zs W H,(0≤t.1∧t.1≤8)∧(0≤t.2.1∧t.2.1≤8)∧(0≤t.2.2∧t.2.2≤3)):=Kg hW.2 hH.2;have bi:=Hd (Yl zs W H);have b8:(ty zs W H).length≤256:=by have:=Yu zs W H hW.2;omega
 have bh:=Hd hM;obtain ⟨kd,df⟩:∃ kd,kd=kdn ks n:=⟨_,rfl⟩;rw [← df] at CK ⊢;obtain ⟨L,hL⟩:∃ L,L=ty zs W H:=⟨_,rfl⟩;rw [← hL] at cj cn bi b8 ⊢;clear hr hW hH hl hm hC h1 hL df hM;have fy:=neqM;go_enter Tryz.func50,Tryz.ntmps50;go_upto_region 2 with (go_at_call 51;refine (cj.out _ Θ).mono ?_;rintro e w1 ⟨v,rfl,ho,f⟩;obtain ⟨a,ca,rfl,hT⟩:=Xc ho;have HW:Hid (TRow w1 a L∧Bl w w1∧Sh w1 w.heap.size (I (W:Int)) (I (H:Int)) (.slice (Ad b off) zs.length af) (.slice cb n a2)):=⟨hT,Qc β1 f,Sh.kept (by simp [Sh,go_sem]) f⟩;clear hT ho f)
 by_cases hmn:mn=L.length
 ·subst hmn;have qn:((L.length:Int) != (L.length:Int))=false:=ξ;go_wp2;go_loopg [6] L.length (fun gk s6 wx=>∃ i:Nat,i≤L.length∧gk=L.length - i∧s6=I (i:Int)∧MMs kd L M i∧Bl w1 wx)
  case atStart=>exact ⟨0,γ,rfl,rfl,fun i h=>by omega,Qe _⟩
  case round =>
   obtain ⟨i,hi,rfl,rfl,d9,hB⟩:=hrel;have HB:=H3 d9 hB (Qc HW.out.2.1 hB);clear d9 hB;by_cases hi1:i<L.length
   ·have i1:(i:Int)<(L.length:Int):=γ;have i0:(0:Int)≤(i:Int):=γ;obtain ⟨ga,rfl,t0,t1,t2⟩:=(HW.out.1.kept HB.out.2.1) i hi1;obtain ⟨gm,o,rfl,y0,y1,y2,y3,y4,y5⟩:=(bh.out.kept HB.out.2.2) i hi1;obtain ⟨x,y,G,ht⟩:∃ x y G,L[i]=(x,y,G):=⟨_,_,_,rfl⟩;obtain ⟨A,B,C,D,E,F,bu⟩:∃ A B C D E F,M i=(A,B,C,D,E,F):=⟨_,_,_,_,_,_,rfl⟩;have an:=cn.out _ (Lm hi1);rw [ht] at t0 t1 t2 an;rw [bu] at y0 y1 y2 y3 y4 y5;dsimp only at t0 t1 t2 an y0 y1 y2 y3 y4 y5;have HT:Hid ((x,y,G)=L[i]∧L.getD i (0,0,0)=(x,y,G)∧M i=(A,B,C,D,E,F)):=⟨ht.symm,by rw [Qz L i hi1,ht],bu⟩
    have P:Hid (triB x y G=true∧Kd (x,y,G)∧((0≤x∧x≤8)∧(0≤y∧y≤8)∧(0≤G∧G≤3))):=by
     have:triB x y G=true∧Kd (x,y,G)∧((0≤x∧x≤8)∧(0≤y∧y≤8)∧(0≤G∧G≤3)):=⟨by simp [triB];omega,an.2.2,an⟩;exact this
    have zt:=Bt t0;have zy:=Bt y0;have aj:Hid (∀ m:World,Rt 61 #[.agg #[I A,I B,I C,I D,I E,I F]] m (.bool (mapM (A,B,C,D,E,F)))):=fun m=>(mapMay_any A B C D E F m).mono fun e w' ⟨h,o',hw⟩=>⟨h,by rw [hw];exact Qb (Qe _)⟩;clear ht bu an
    obtain ⟨bb,ab⟩:∃ bb:Bool,Hid (bb=false↔MOk1 L M i):=by
     by_cases q:MOk1 L M i
     ·exact ⟨false,⟨fun _=>q,fun _=>rfl⟩⟩
     ·exact ⟨true,⟨(fun h=>by cases h),fun h=>absurd h q⟩⟩
    have bg:Hid (MOk1 L M i↔(mapM (A,B,C,D,E,F)=true∧triT (mvt (A,B,C,D,E,F) (x,y,G))=true)):=by
     have:MOk1 L M i↔(mapM (A,B,C,D,E,F)=true∧triT (mvt (A,B,C,D,E,F) (x,y,G))=true):=by
      unfold MOk1;rw [HT.out.2.1,HT.out.2.2]
     exact this
    go_upto_region 7 with fail
    go_cut [44] (fun fe wx=>fe=.bool bb∧Bl wr wx)
    case first =>
     cases Q:mapM (A,B,C,D,E,F)
     ·have bm:Hid (bb=true):=by
       cases q:bb
       ·have:=(bg.out.1 (ab.out.1 q)).1;rw [Q] at this
        cases this
       ·exact rfl
      rw [Q] at aj;obtain ⟨kc,kn⟩:=kcn wr;refine wk ?_;repeat (go_big_quiet_step ((first | (go_at_call 61;exact Qf (aj.out _)))))
      refine kq1 (fun wq hq=>?_);clear kc kn;go_wp2;go_meet
      case rel=>exact ⟨by rw [bm.out],hq⟩
     ·obtain ⟨X,Y,K,a6⟩:∃ X Y K,mvt (A,B,C,D,E,F) (x,y,G)=(X,Y,K):=⟨_,_,_,rfl⟩
      have dv:Hid (∀ m:World,Rt 54 #[.agg #[I A,I B,I C,I D,I E,I F],.agg #[I x,I y,I G]] m (.agg #[I X,I Y,I K])):=fun m=>by
       have:=Yh (A,B,C,D,E,F) (x,y,G) m Q P.out.2.2;rw [a6] at this;exact this
      obtain ⟨tb,bw⟩:∃ tb,tb=triB X Y K:=⟨_,rfl⟩;have du:Hid (∀ m:World,Rt 62 #[.agg #[I X,I Y,I K]] m (.bool tb)):=fun m=>(Up X Y K m).mono fun e w' ⟨h,o',hw⟩=>⟨by rw [bw];exact h,by rw [hw];exact Qb (Qe _)⟩
      have bm:Hid (bb = !tb):=by
       have:bb = !tb:=by
        have h2:MOk1 L M i↔tb=true:=by
         rw [bg.out,a6,bw];exact ⟨fun h=>h.2,fun h=>⟨Q,h⟩⟩
        cases q:bb
        ·rw [h2.1 (ab.out.1 q)];rfl
        ·cases N:tb
         ·rfl
         ·have:=ab.out.2 (h2.2 N);rw [q] at this
          cases this
       exact this
      rw [Q] at aj;clear a6 bw;obtain ⟨kc,kn⟩:=kcn wr;refine wk ?_;repeat (go_big_quiet_step ((first | (go_at_call 61;exact Qf (aj.out _)) | (go_at_call 54;exact Qf (dv.out _)) | (go_at_call 62;exact Qf (du.out _)))))
      refine kq1 (fun wq hq=>?_);clear kc kn;go_wp2;go_meet
      case rel=>exact ⟨by rw [bm.out],hq⟩
    case rest =>
     obtain ⟨rfl,ag⟩:=hcut;have be:=H2 (Qc HB.out.2.1 ag) (Qc HB.out.2.2 ag);replace t0:=Qa ag t0;replace t1:=Qa ag t1;replace t2:=Qa ag t2;replace zt:ga<wc.heap.size:=bk t0;clear y0 y1 y2 y3 y4 y5 zy ag aj
     cases bb
     ·have cr:Hid (MOk1 L M i):=ab.out.1 rfl;have cp:Hid (mapM (A,B,C,D,E,F)=true):=(bg.out.1 (ab.out.1 rfl)).1;have cl:Hid (∀ m:World,Cl 123 #[.agg #[I x,I y,I G]] m fun e w'=>∃ g,e=.returned (.slice (Az g) 3 3)∧m.heap.size≤g∧Twl w' g (ue0 x y G) (ue1 x y G) (ue2 x y G) (ue3 x y G) (ue4 x y G) (ue5 x y G) (ue6 x y G) (ue7 x y G) (ue8 x y G) (ue9 x y G) (ue10 x y G) (ue11 x y G)∧Bl m w'):=fun m=>Xs x y G m (by have:=P.out.2.2;omega) (by have:=P.out.2.2;omega) (by have:=P.out.2.2;omega) (by have:=P.out.2.2;omega) (by have:=P.out.2.2;omega) (by have:=P.out.2.2;omega);go_wp2_with (go_at_call 123;refine (cl.out _).mono ?_;rintro e w4 ⟨Z,rfl,ec,da,f⟩;have bf:=H2 da.e3 (Qc be.out.1 f);clear ec da f)
      go_loopg [8] 3 (fun gk s8 wx=>∃ k:Nat,k≤3∧gk=3 - k∧s8=I (k:Int)∧(∀ k',k'<k→Acr1 kd L M i k')∧E3 wx Z (x,y,G)∧Bl w1 wx)
      case atStart=>exact ⟨0,γ,rfl,rfl,fun k' h=>by omega,bf.out.1,bf.out.2⟩
      case round =>
       clear bf cl t0 t1 t2 zt be ab;obtain ⟨k,hk,rfl,rfl,d7,d8,bo⟩:=hrel;have HG:=H4 d7 d8 bo (Qc HW.out.2.1 bo);clear d7 d8 bo;by_cases hk1:k<3
       ·have ik:(k:Int)<3:=γ;have g6:(0:Int)≤(k:Int):=γ;obtain ⟨fw,ea,t0,t1,t2⟩:=(HW.out.1.kept HG.out.2.2.1) i hi1;simp only [Option.some.injEq,Addr.mk.injEq,and_true] at ea;subst ea;rw [← HT.out.1] at t0 t1 t2;dsimp only at t0 t1 t2;obtain ⟨m0,m1,m2,m3⟩:=HG.out.2.1 k hk1;obtain ⟨R,T,N,q3,hq⟩:∃ R T N q3,edg (x,y,G) k=(R,T,N,q3):=⟨_,_,_,_,rfl⟩;rw [hq] at m0 m1 m2 m3;dsimp only at m0 m1 m2 m3
        have bt:hasB x y G R T N q3=true:=by
         have h9:=Jc (x,y,G) k;rw [hq] at h9;exact h9
        have HQ:=H2 hq bt;obtain ⟨ux,cc⟩:∃ u,u=acX x y G R T N q3:=⟨_,rfl⟩;obtain ⟨uy,cd⟩:∃ u,u=acY x y G R T N q3:=⟨_,rfl⟩;obtain ⟨uk,bz⟩:∃ u,u=acK x y G R T N q3:=⟨_,rfl⟩
        have CA:Hid (∀ m:World,Rt 124 #[.agg #[I x,I y,I G],.agg #[I R,I T,I N,I q3]] m (.tuple #[.agg #[I ux,I uy,I uk],.bool true])):=fun m=>by
         rw [cc,cd,bz];exact Vm x y G R T N q3 m P.out.1 bt
        have HU:Hid (acr (x,y,G) (R,T,N,q3)=(ux,uy,uk)):=by
         have:acr (x,y,G) (R,T,N,q3)=(ux,uy,uk):=by
          rw [cc,cd,bz];rfl
         exact this
        have zt:=Bt t0;have ze:=Bt m0;clear hq bt cc cd bz;go_wp2;go_cut [9,10] (fun sa sb wx=>∃ bn:Nat,sa=.pointer (Az bn)∧sb=.bool true∧Tr wx bn ux uy uk∧Bl wr wx)
        case first =>
         go_region_held3 (fun w'=>At w' ga (i*3) (I x)∧At w' ga (i*3+1) (I y)∧At w' ga (i*3+2) (I G)∧At w' Z (k*4) (I R)∧At w' Z (k*4+1) (I T)∧At w' Z (k*4+2) (I N)∧At w' Z (k*4+3) (I q3))
          ((refine ⟨?_, ?_, ?_, ?_, ?_, ?_, ?_⟩ <;> (repeat' (first | (with_reducible assumption) | (with_reducible refine Xh ?_ ?_) | (dsimp only;omega) | (simp [go_sem];done) | (with_reducible refine Qk ?_) | (with_reducible refine Qq ?_)))))
          ((go_at_call 124;refine (CA.out _).mono ?_;rintro e w8 ⟨rfl,f⟩;have ci:At w8 ga (i*3) (I x):=Qa f ζ;have ff:At w8 ga (i*3+1) (I y):=Qa f ζ;have fg:At w8 ga (i*3+2) (I G):=Qa f ζ;have au:At w8 Z (k*4) (I R):=Qa f ζ;have ce:At w8 Z (k*4+1) (I T):=Qa f ζ;have cf:At w8 Z (k*4+2) (I N):=Qa f ζ;have cg:At w8 Z (k*4+3) (I q3):=Qa f ζ;(first | (have ao:=fresh_a (g:=wr.heap.size) rfl f;obtain ⟨cu,cv,cw,cx,cy,cz,d6⟩:=ao) | (have ao:=fresh_d (g:=wr.heap.size) rfl f;obtain ⟨cu,cv,cw,cx,cy,cz,d6⟩:=ao) | (have ao:=fresh_dd (g:=wr.heap.size) rfl f;obtain ⟨cu,cv,cw,cx,cy,cz,d6⟩:=ao) | skip);have ar:Bl wr w8:=(by with_reducible (first | exact f | exact Jb f | exact Jb (Jb f) | exact Qc β1 f | exact Qc (Qg β1) f | exact Qc (Qb (Qg (Qe _))) f | exact Qc (Qg (Qb (Qg (Qe _)))) f));have bj:=Hd ar;have g7:=Bt ci;have g8:=Bt au;clear f ar))
         all_goals
          go_wp2;go_meet
          case rel =>
           refine ⟨_,rfl,rfl, ?_, ?_⟩
           ·first | (simp [Tr,go_sem];done) | (simp [Tr,go_sem, *];done)
           ·with_reducible repeat' (first | exact bj.out | refine Qh ?_ ?_ | refine Qb ?_ | refine Qg ?_)
            all_goals (first | omega | (dsimp only;omega) | (simp;done))
        case rest =>
         obtain ⟨bn,rfl,rfl,eb,ax⟩:=hcut;have aw:=H3 (HG.out.2.1.kept ax) (Qc HG.out.2.2.1 ax) (Qc HG.out.2.2.2 ax);obtain ⟨n0,n1,n2⟩:=eb;have zn:=Bt n0;clear ax CA t0 t1 t2 m0 m1 m2 m3 zt ze;obtain ⟨pj,bv⟩:∃ p,p=plc L (ux,uy,uk):=⟨_,rfl⟩;have dw:Hid (∀ m:World,TRow m (Az ga) L→Rt 53 #[.slice (Az ga) L.length ca,.agg #[I ux,I uy,I uk]] m (I pj)):=fun m hT=>bv ▸ Xp _ ca L _ _ _ m hT b8;have ct:=Hd bv;clear bv;go_upto_region 16 with (go_at_call 53;refine (dw.out _ (HW.out.1.kept aw.out.2.1)).mono ?_;rintro e av ⟨rfl,f⟩;have a7:=H3 (aw.out.1.kept f) (Qc aw.out.2.1 f) (Qc aw.out.2.2 f);have ba:=(bh.out.kept a7.out.2.2) i hi1;rw [HT.out.2.2] at ba;obtain ⟨e8,o',eo,y0,y1,y2,y3,y4,y5⟩:=ba;cases eo;dsimp only at y0 y1 y2 y3 y4 y5;have zy:=Bt y0;clear f)
         refine Qi (fun W0 hW0=>?_);obtain ⟨d,ad⟩:∃ b,b=av.heap.size:=⟨_,rfl⟩
         have aa:Hid (Bl av W0∧d=av.heap.size):=by
          refine ⟨?_,ad⟩;rw [hW0];with_reducible repeat (first | exact Qe _ | refine Qb ?_ | refine Qh ?_ ?_)
          all_goals (dsimp only;omega)
         have l:Hid (∀ o,o<6→Fn W0 d o∧At W0 d o (I ([A,B,C,D,E,F].getD o 0))):=by
          have:∀ o,o<6→Fn W0 d o∧At W0 d o (I ([A,B,C,D,E,F].getD o 0)):=by
           rw [hW0,ad];intro o ho;rcases six_cases ho with rfl | rfl | rfl | rfl | rfl | rfl <;> simp [go_sem]
          exact this
         rw [← ad];clear hW0 ad y0 y1 y2 y3 y4 y5 zy n0 n1 n2 zn;obtain ⟨m0,m1,m2,m3⟩:=(a7.out.1.kept aa.out.1) k hk1;rw [HQ.out.1] at m0 m1 m2 m3;dsimp only at m0 m1 m2 m3;obtain ⟨s0,s1,s2,s3⟩:=HW.out.2.2.kept (Qc a7.out.2.1 aa.out.1);have fh:=Bt m0;have fi:=Bt s0;obtain ⟨z,hz⟩:∃ z,z=kd (R,T,N,q3):=⟨_,rfl⟩
         have dy:Hid (∀ m:World,Bl W0 m→Rt 125 #[.agg #[I (W:Int),I (H:Int),.slice (Ad b off) zs.length af,.slice cb n a2],.agg #[I R,I T,I N,I q3]] m (I z)):=fun m ak=>by
          rw [hz];exact CK.out m R T N q3 (Qc a7.out.2.2 (Qc aa.out.1 ak))
         have HZ:=Hd hz;clear hz;obtain ⟨kc,kn⟩:=kcn W0;refine wk ?_;repeat (go_big_quiet_step ((first | (go_at_call 125;exact Qf (dy.out _ (Kin.h _))))))
         refine wpQuiet_nil ?_;intro wq ef;obtain ⟨nq,bc⟩:=ef;have ah:Bl W0 wq:=bc ▸ nq.h;clear bc nq kc kn;have J:=Hd ah;replace m0:=Qa ah m0;replace m1:=Qa ah m1;replace m2:=Qa ah m2;replace m3:=Qa ah m3;have dh:=Bt m0;clear ah s0 s1 s2 s3 fi fh;obtain ⟨f0,f1,f2,f3,f4,f5,b7⟩:∃ f0 f1 f2 f3 f4 f5,farM kd (R,T,N,q3) (A,B,C,D,E,F)=(f0,f1,f2,f3,f4,f5):=⟨_,_,_,_,_,_,rfl⟩;have ac:=Hd b7;clear b7;go_upto_if 79 with fail
         go_cut [12] (fun fc wx=>fc=.pointer (Az d)∧M1 wx d f0 f1 f2 f3 f4 f5∧Bl av wx)
         case first =>
          by_cases hz0:z=0
          ·have bs:(A,B,C,D,E,F)=(f0,f1,f2,f3,f4,f5):=by
            have:=ac.out;simp only [farM,← HZ.out,if_pos hz0] at this;exact this
           have qz:(z != 0)=false:=by rw [hz0];rfl
           have co:Hid (M1 wq d f0 f1 f2 f3 f4 f5):=by
            simp only [Prod.mk.injEq] at bs;obtain ⟨rfl,rfl,rfl,rfl,rfl,rfl⟩:=bs;exact ⟨Qa J.out (l.out 0 γ).2,Qa J.out (l.out 1 γ).2,Qa J.out (l.out 2 γ).2,Qa J.out (l.out 3 γ).2,Qa J.out (l.out 4 γ).2,Qa J.out (l.out 5 γ).2⟩
           clear bs hz0;go_wp2;go_meet
           case rel=>exact ⟨rfl,co.out,Qc aa.out.1 J.out⟩
          ·have qz:(z != 0)=true:=by simpa using hz0
           have b5:hasT (x,y,G) (R,T,N,q3)=true:=HQ.out.2;have a8:=Qbq b5 P.out.2.2;have aq:=Vu b5 P.out.2.2;dsimp only at a8;have Q:=Qbm aq.1 aq.2;obtain ⟨V,db,br,bq,dc,dd⟩:=line_along b5 P.out.2.2;obtain ⟨c,hc⟩:∃ c,c=alongOf (V:Int) R T:=⟨_,rfl⟩
           have dz:Hid (∀ m:World,Rt 127 #[.agg #[I R,I T,I N,I q3]] m (.agg #[I (V:Int),I c])):=fun m=>by
            rw [hc];exact refLine_any R T N q3 m V db ⟨a8.1,a8.2.1⟩ a8.2.2 dc dd
           rw [br,bq,← hc] at aq Q;obtain ⟨ma,mb,ch,md,me,mf,a6⟩:∃ ma mb mc md me mf,mir (V:Int) c=(ma,mb,mc,md,me,mf):=⟨_,_,_,_,_,_,rfl⟩
           have e4:Hid (∀ m:World,Rt 126 #[.agg #[I (V:Int),I c]] m (.agg #[I ma,I mb,I ch,I md,I me,I mf])):=fun m=>by
            have h:=mirrorOf_any (V:Int) c m aq.1;simp only [mir,Prod.mk.injEq] at a6;obtain ⟨rfl,rfl,rfl,rfl,rfl,rfl⟩:=a6;refine h.mono ?_;rintro e w' ⟨rfl,o1,o2,rfl⟩;exact ⟨rfl,Qb β1⟩
           rw [a6] at Q
           have dx:Hid (∀ m:World,Rt 60 #[.agg #[I ma,I mb,I ch,I md,I me,I mf],.agg #[I A,I B,I C,I D,I E,I F]] m (.agg #[I f0,I f1,I f2,I f3,I f4,I f5])):=fun m=>by
            have h:=Qas ma mb ch md me mf A B C D E F m (Ju Q.1).1 (Ju cp.out).1 (Ju Q.1).2.1 (Ju cp.out).2.1;have hf:=ac.out;simp only [farM,← HZ.out,if_neg hz0,br,bq,← hc,a6,aft,Prod.mk.injEq] at hf;obtain ⟨rfl,rfl,rfl,rfl,rfl,rfl⟩:=hf;exact h
           have r0:=Qa J.out (l.out 0 γ).2;have r1:=Qa J.out (l.out 1 γ).2;have r2:=Qa J.out (l.out 2 γ).2;have r3:=Qa J.out (l.out 3 γ).2;have r4:=Qa J.out (l.out 4 γ).2;have r5:=Qa J.out (l.out 5 γ).2;simp only [List.getD_cons_zero,List.getD_cons_succ] at r0 r1 r2 r3 r4 r5;have fj:=Bt r0;have ai:d<W0.heap.size:=bk (l.out 0 γ).2;have fl:av.heap.size≤d:=by rw [aa.out.2];exact Nr _
           have fk:Z<d:=by rw [aa.out.2];exact bk (a7.out.1 k hk1).1
           clear b5 a8 aq Q db br bq dc dd hc a6 hz0;go_wp2
           go_region_with
            (first
             | (go_at_call 127;refine (dz.out _).mono ?_;rintro e w8 ⟨rfl,f⟩;have au:At w8 Z (k*4) (I R):=Qa f ζ;have ce:At w8 Z (k*4+1) (I T):=Qa f ζ;have cf:At w8 Z (k*4+2) (I N):=Qa f ζ;have cg:At w8 Z (k*4+3) (I q3):=Qa f ζ;have en:At w8 d 0 (I A):=Qa f ζ;have er:At w8 d 1 (I B):=Qa f ζ;have et:At w8 d 2 (I C):=Qa f ζ;have ew:At w8 d 3 (I D):=Qa f ζ;have ey:At w8 d 4 (I E):=Qa f ζ;have fa:At w8 d 5 (I F):=Qa f ζ;have ar:Bl wq w8:=Qc φ f;have bj:=Hd ar;clear f ar)
             | (go_at_call 126;refine (e4.out _).mono ?_;rintro e w9 ⟨rfl,f⟩;have eg:At w9 Z (k*4) (I R):=Qa f ζ;have eh:At w9 Z (k*4+1) (I T):=Qa f ζ;have ei:At w9 Z (k*4+2) (I N):=Qa f ζ;have el:At w9 Z (k*4+3) (I q3):=Qa f ζ;have ep:At w9 d 0 (I A):=Qa f ζ;have es:At w9 d 1 (I B):=Qa f ζ;have eu:At w9 d 2 (I C):=Qa f ζ;have ex:At w9 d 3 (I D):=Qa f ζ;have ez:At w9 d 4 (I E):=Qa f ζ;have fb:At w9 d 5 (I F):=Qa f ζ;have dg:Bl w8 w9:=Qc φ f;have e7:=Hd (Qc bj.out dg);clear f dg)
             | (go_at_call 60;refine (dx.out _).mono ?_;rintro e U ⟨rfl,f⟩;have di:At U Z (k*4) (I R):=Qa f ζ;have dj:At U Z (k*4+1) (I T):=Qa f ζ;have dk:At U Z (k*4+2) (I N):=Qa f ζ;have dl:At U Z (k*4+3) (I q3):=Qa f ζ;have b6:At U d 0 (I A):=Qa f ζ;have dm:At U d 1 (I B):=Qa f ζ;have dn:At U d 2 (I C):=Qa f ζ;have dp:At U d 3 (I D):=Qa f ζ;have ds:At U d 4 (I E):=Qa f ζ;have dt:At U d 5 (I F):=Qa f ζ;have b9:Bl w9 U:=Qc φ f;have O:=Hd (Qc (Qc J.out e7.out) b9);have fm:=(O.out.frozen (p:=⟨d,0,none⟩) ai).trans (l.out 0 γ).1;have fp:=(O.out.frozen (p:=⟨d,1,none⟩) ai).trans (l.out 1 γ).1;have fq:=(O.out.frozen (p:=⟨d,2,none⟩) ai).trans (l.out 2 γ).1;have ft:=(O.out.frozen (p:=⟨d,3,none⟩) ai).trans (l.out 3 γ).1;have fu:=(O.out.frozen (p:=⟨d,4,none⟩) ai).trans (l.out 4 γ).1;have fv:=(O.out.frozen (p:=⟨d,5,none⟩) ai).trans (l.out 5 γ).1;have zr:=Bt b6;clear f b9))
           all_goals
            go_wp2;go_meet
            case rel =>
             refine ⟨rfl, ?_, ?_⟩
             ·first | (simp [M1,go_sem];done) | (simp [M1,go_sem, *];done)
             ·with_reducible repeat' (first | exact Qc aa.out.1 O.out | refine Qh ?_ ?_ | refine Qb ?_ | refine Qg ?_)
              all_goals (first | omega | (dsimp only;omega) | (simp;done))
         case rest =>
          obtain ⟨rfl,e9,ay⟩:=hcut;have ae:=H3 (a7.out.1.kept ay) (Qc a7.out.2.1 ay) (Qc a7.out.2.2 ay);obtain ⟨g0,g1,g2,g3,g4,g5⟩:=e9;have zg:=Bt g0;clear ay m0 m1 m2 m3 dh;rcases plc_bd L (ux,uy,uk) with hp | ⟨j,hj,hp⟩
          ·have ej:pj=-1:=ct.out.trans hp;subst ej
           have e6:Hid (Acr1 kd L M i k):=fun j hj ap=>by
            exfalso
            rw [HT.out.2.1,HQ.out.1,HU.out] at ap;have:=plc_self bi.out hj;rw [ap,hp] at this;omega
           clear hp;go_upto_region 18 with fail
           obtain ⟨kc,kn⟩:=kcn wc;refine wk ?_;repeat (go_big_quiet_step (fail))
           refine kq1 (fun wq hq=>?_);clear kc kn;go_wp2;go_roundg (3 - (k+1))
           case measure=>omega
           case rel =>
            refine ⟨k+1,γ,rfl,σ,fun k' de=>?_,ae.out.1.kept hq,Qc ae.out.2.1 hq⟩;by_cases e:k'=k
            ·exact e ▸ e6.out
            ·exact HG.out.1 k' γ
          ·have ej:pj=(j:Int):=ct.out.trans hp;subst ej;have bp:L[j]=(ux,uy,uk):=plc_get hj hp;have j1:(j:Int)<(L.length:Int):=γ;have j0:(0:Int)≤(j:Int):=γ;obtain ⟨e8,o',eo,v0,v1,v2,v3,v4,v5⟩:=(bh.out.kept ae.out.2.2) j hj
           cases eo;have zv:=Bt v0;obtain ⟨c0,c1,c2,c3,c4,c5,az⟩:∃ c0 c1 c2 c3 c4 c5,M j=(c0,c1,c2,c3,c4,c5):=⟨_,_,_,_,_,_,rfl⟩;rw [az] at v0 v1 v2 v3 v4 v5;dsimp only at v0 v1 v2 v3 v4 v5
           have cm:Hid (Acr1 kd L M i k↔sameM c0 c1 c2 c3 c4 c5 f0 f1 f2 f3 f4 f5=true):=by
            have:Acr1 kd L M i k↔sameM c0 c1 c2 c3 c4 c5 f0 f1 f2 f3 f4 f5=true:=by
             constructor
             ·intro h;have:=h j hj (by rw [HT.out.2.1,HQ.out.1,HU.out];exact bp);rw [HT.out.2.1,HQ.out.1,HT.out.2.2,ac.out,az] at this;simp only [Prod.mk.injEq] at this;simp only [sameM,decide_eq_true_eq];exact this
             ·intro h j' ed ap;rw [HT.out.2.1,HQ.out.1,HU.out,← bp] at ap;have:=Jj bi.out ed hj ap;subst this;rw [HT.out.2.1,HQ.out.1,HT.out.2.2,ac.out,az];simp only [sameM,decide_eq_true_eq] at h;simp only [Prod.mk.injEq];exact h
            exact this
           clear hp bp az;go_upto_region 18 with fail
           obtain ⟨kc,kn⟩:=kcn wc;refine wk ?_;repeat (go_big_quiet_step (fail))
           refine kq1 (fun wq hq=>?_);clear kc kn;clear v0 v1 v2 v3 v4 v5 g0 g1 g2 g3 g4 g5
           cases hsm:sameM c0 c1 c2 c3 c4 c5 f0 f1 f2 f3 f4 f5
           ·go_wp2;go_ret;refine ⟨false,rfl, ?_,Qc ae.out.2.2 hq⟩;simp only [Bool.false_eq_true,false_iff];intro am;have:=cm.out.1 ((am.2 i hi1).2 k hk1);rw [hsm] at this
            cases this
           ·go_wp2;go_roundg (3 - (k+1))
            case measure=>omega
            case rel =>
             refine ⟨k+1,γ,rfl,σ,fun k' de=>?_,ae.out.1.kept hq,Qc ae.out.2.1 hq⟩;by_cases e:k'=k
             ·rw [e];exact cm.out.2 hsm
             ·exact HG.out.1 k' γ
       ·have ik:¬ (k:Int)<3:=γ;go_wp2;go_roundg (L.length - (i+1))
        case measure=>omega
        case rel =>
         refine ⟨i+1,γ,rfl,σ,fun i' fx=>?_,HG.out.2.2.1⟩;by_cases e:i'=i
         ·rw [e];exact ⟨cr.out,fun k' de=>HG.out.1 k' γ⟩
         ·exact HB.out.1 i' γ
     ·go_wp2;go_ret;refine ⟨false,rfl, ?_,be.out.2⟩;simp only [Bool.false_eq_true,false_iff];intro am;have:=ab.out.2 (am.2 i hi1).1
      cases this
   ·have i1:¬ (i:Int)<(L.length:Int):=γ;obtain rfl:i=L.length:=γ;go_wp2;go_ret;exact ⟨true,rfl,⟨fun _=>⟨rfl,HB.out.1⟩,fun _=>rfl⟩,HB.out.2.2⟩
 ·have qn:((mn:Int) != (L.length:Int))=true:=by
   rw [bne_iff_ne];omega
  have e5:=Hd hmn;clear hmn;go_wp2;go_ret;refine ⟨false,rfl, ?_,HW.out.2.1⟩;simp only [Bool.false_eq_true,false_iff];exact fun h=>e5.out h.1
open Go.ChangeMaps
structure PileAt (w:World) (ad:Option Addr) (cc ra rk gm cm:Nat) (pa:Option Addr) (pc:Nat) (L:List T3) (kd:E4→Int) (M:Nat→M6):Prop where
 tr:PA w ad ra L
 kl:KL w rk kd
 mr:MRow w gm L.length M
 pl:TRow w pa (pls L M L.length)
theorem PileAt.kept {b:Option Addr} {c i e d:Nat} {f:Nat} (h:PileAt w b c g i e d pa f L kd M) (a:Bl w w'):PileAt w' b c g i e d pa f L kd M:=⟨h.tr.kept a,h.kl.kept a,h.mr.kept a,h.pl.kept a⟩
def pileV (ad:Option Addr) (n cc ra rk gm cm:Nat) (pa:Option Addr) (pc:Nat):Value:=.agg #[.slice ad n cc,.map (some ra),.map (some rk),.slice (Az gm) n cm,.slice pa n pc]
def set5 (w:World) (b:Nat) (u0 u1 u2 u3 u4:Value):World:=((((w.setCell ⟨b,0,none⟩ u0).setCell ⟨b,1,none⟩ u1).setCell ⟨b,2,none⟩ u2).setCell ⟨b,3,none⟩ u3).setCell ⟨b,4,none⟩ u4
theorem set5_grown (w:World) (b:Nat) (a c d e f:Value):w.grownBy (set5 w b a c d e f) (some b):=Ji (Ji (Ji (Ji (Ql _ _ _ _) (Ql _ _ _ _)) (Ql _ _ _ _)) (Ql _ _ _ _)) (Ql _ _ _ _)
theorem MRow.not_at {n:Nat} (h:MRow w g n M) (h0:0<n) (a:w.cell? ⟨b,0,none⟩=some SN):some g≠some b:=fun e=>by
 cases e;have:=(h 0 h0).1.1;(try simp only [At,I] at this);rw [Nat.zero_mul,a] at this
 cases this
theorem TRow.not_at {l:List T3} (h:TRow w pa l) (h0:0<l.length) (c:w.cell? ⟨b,0,none⟩=some SN):∀ g,pa=some ⟨g,0,none⟩→g≠b:=fun g e e2=>by
 obtain ⟨d,a,c0,_⟩:=h 0 h0;(try simp only [Az] at a);rw [e] at a
 cases a;subst e2;(try simp only [At,I] at c0);rw [Nat.zero_mul,c] at c0
 cases c0
theorem TRow.grown {l:List T3} (h:TRow w pa l) (hg:w.grownBy w' (some b)) (c:∀ g,pa=Az g→g≠b):TRow w' pa l:=fun i hi=>by
 obtain ⟨g,e,c0,c1,c2⟩:=h i hi;have a:some g≠some b:=fun e2=>c g e (by simpa using e2);exact ⟨g,e,hg.cell c0 a,hg.cell c1 a,hg.cell c2 a⟩
def tgn (L:List T3) (R:List Nat):List T3:=R.map fun j=>L.getD j (0,0,0)
theorem tgn_take {R:List Nat} {i:Nat} (hi:i<R.length):tgn L (R.take (i+1))=tgn L (R.take i) ++ [L.getD R[i] (0,0,0)]:=by
 unfold tgn;rw [List.take_add_one,List.getElem?_eq_getElem hi,List.map_append];rfl
def NRow (w:World) (g o:Nat) (R:List Nat):Prop := ∀ i (h:i<R.length),At w g (o+i) (I ((R[i]:Nat):Int))
theorem named_any (w:World) (m:Option Addr) (n r s p o q Q on cn:Nat) (pa:Option Addr) (L:List T3) (R:List Nat) (hT:TRow w m L) (V:NRow w Q on R) (W:∀ j∈R,j<L.length) (a2:R.length≤300) (_hL:L.length≤300) :
  Cl 217 #[pileV m L.length n r s p o pa q,.slice (Ad Q on) R.length cn] w fun e w'=>∃ a c,e=.returned (.slice a R.length c)∧TRow w' a (tgn L R)∧Bl w w'∧∀ g,a=Az g→w.heap.size≤g∧g<w'.heap.size:=by
 have P:Hid (TRow w m L∧NRow w Q on R∧∀ j∈R,j<L.length):=⟨hT,V,W⟩;obtain ⟨X,N,u,z,A⟩:=info_parts inf23;have t:=H4 N u z A;clear hT V W N u z A;unfold pileV;go_enter Tryz.func217,Tryz.ntmps217;go_wp2_with (at_make;refine wpList_make_own _ rfl (.const (I 0)) (.tmp 9) 55 rfl (w.heap.size+1) 51 X (.agg #[I 0,I 0,I 0]) 3 Tryz.underlying55 t.out.1 t.out.2.1 t.out.2.2.1 .i64 .i64 _ R.length rfl rfl rfl (by rw [t.out.2.2.2];omega) Ξ ξ ?mk)
 case mk =>
  intro w1 b M;have K:Below (w.alloc (.cells #[.slice m L.length n,.map (some r),.map (some s),.slice (Az p) L.length o,.slice pa L.length q] 100)).heap.size (w.alloc (.cells #[.slice m L.length n,.map (some r),.map (some s),.slice (Az p) L.length o,.slice pa L.length q] 100)) w1:=(Below.refl _ _).grown M (Nr _) (fun k h=>by cases h);have B:Hid (Below (w.alloc (.cells #[.slice m L.length n,.map (some r),.map (some s),.slice (Az p) L.length o,.slice pa L.length q] 100)).heap.size (w.alloc (.cells #[.slice m L.length n,.map (some r),.map (some s),.slice (Az p) L.length o,.slice pa L.length q] 100)) w1∧w1.ownsRow (w.heap.size+1) 51 3 (.slice (Az (w.heap.size+1)) 0 R.length) 0 []):=⟨K,by simpa using b⟩;clear b M K;go_wp2;go_loopg [5,13] R.length (fun gk s5 U wx=>∃ (i:Nat) (v:Value),i≤R.length∧gk=R.length - i∧v=s5∧U=I (i:Int)∧wx.ownsRow (w.heap.size+1) 51 3 v i (flatV (tgn L (R.take i)))∧Below (w.alloc (.cells #[.slice m L.length n,.map (some r),.map (some s),.slice (Az p) L.length o,.slice pa L.length q] 100)).heap.size (w.alloc (.cells #[.slice m L.length n,.map (some r),.map (some s),.slice (Az p) L.length o,.slice pa L.length q] 100)) wx)
  case atStart=>exact ⟨0,_,γ,rfl,rfl,rfl,by simpa [tgn,flatV] using B.out.2,B.out.1⟩
  case round =>
   clear B;obtain ⟨i,v,hi,rfl,rfl,rfl,C,J⟩:=hrel;have O:=Hd (Qc β1 J);have p0:At wr w.heap.size 0 (.slice m L.length n):=Qa J δ;have zp:=Bt p0;have F:=H2 C J;have zw:w.heap.size+1≤wr.heap.size:=by have:=J.size;simp at this;omega
   clear C J;by_cases h1:i<R.length
   ·have i1:(i:Int)<(R.length:Int):=γ;have i0:(0:Int)≤(i:Int):=γ;have r0:=Qa O.out (P.out.2.1 i h1);have zn:=Bt r0;have T:=P.out.2.2 R[i] (Lm h1);obtain ⟨j,D⟩:∃ j,j=R[i]:=⟨_,rfl⟩;rw [← D] at r0 T;have j1:(j:Int)<(L.length:Int):=γ;have j0:(0:Int)≤(j:Int):=γ;obtain ⟨H,rfl,t0,Y,Z⟩:=(P.out.1.kept O.out) j T;obtain ⟨x,y,k,E⟩:∃ x y k,L[j]=(x,y,k):=⟨_,_,_,rfl⟩
    have HE:Hid (tgn L (R.take (i+1))=tgn L (R.take i) ++ [(x,y,k)]):=by
     have:tgn L (R.take (i+1))=tgn L (R.take i) ++ [(x,y,k)]:=by
      rw [tgn_take h1,← D,List.getD_eq_getElem?_getD,List.getElem?_eq_getElem T,← E];rfl
     exact this
    rw [E] at t0 Y Z;dsimp only at t0 Y Z;have zt:=Bt t0;clear D E;go_wp2_with (at_builtin;refine wpList_append_own _ rfl (.tmp 17) (.tmp 24) 55 rfl (w.heap.size+1) 51 X (.agg #[I 0,I 0,I 0]) 3 24 Tryz.underlying55 t.out.1 t.out.2.1 t.out.2.2.1 t.out.2.2.2 rfl ψ v i (flatV (tgn L (R.take i))) rfl (Qj F.out.1 β1) ⟨wr.heap.size,0,none⟩ 1 1 [I x,I y,I k] rfl rfl (Xg wr x y k) (Uq x y k) Ξ γ ω ?grow)
    case grow =>
     intro v' w3 b d _
     have G:Hid (w3.ownsRow (w.heap.size+1) 51 3 v' (i+1) (flatV (tgn L (R.take (i+1))))∧Below (w.alloc (.cells #[.slice (Az H) L.length n,.map (some r),.map (some s),.slice (Az p) L.length o,.slice pa L.length q] 100)).heap.size (w.alloc (.cells #[.slice (Az H) L.length n,.map (some r),.map (some s),.slice (Az p) L.length o,.slice pa L.length q] 100)) w3):=by
      refine ⟨?_, ?_⟩
      ·rw [HE.out,Xr];exact b
      ·refine (Qb F.out.2).grown d (Qb F.out.2).size (fun k hk=>?_);have:=Qw F.out.1 k hk;simp;omega
     clear b d;go_wp2;go_roundg (R.length - (i+1))
     case measure=>omega
     case rel=>exact ⟨i+1,_,γ,rfl,rfl,σ,G.out.1,G.out.2⟩
   ·have i1:¬ (i:Int)<(R.length:Int):=γ;obtain rfl:i=R.length:=γ;have C:=F.out.1;rw [List.take_length] at C;have f:(tgn L R).length=R.length:=by simp [tgn]
    obtain ⟨a,c,rfl,hT⟩:=Xc (l:=tgn L R) (by rw [f];exact C)
    have HT:Hid (TRow wr a (tgn L R)∧Bl w wr∧∀ g,a=Az g→w.heap.size≤g∧g<wr.heap.size):=⟨hT,O.out,fun g e=>by
     have:=C.lt g (by rw [e];rfl);exact ⟨γ,this.2⟩⟩
    rw [f];clear C hT F O f;go_wp2;go_ret;exact ⟨a,⟨c,rfl⟩,HT.out⟩
theorem Yc (w:World) (u:Value) (T:TypeId):∀ j z,[u][j]?=some z→(w.alloc (.cells #[u] T)).cell? ((⟨w.heap.size,0,none⟩:Addr).add j)=some z:=by
 intro j z a;match j,a with
 | 0,a=>simp at a;subst a;simp [Addr.add,go_sem]
end Go.Proofs.YtnpboeodhpenmaaGreatDoor
