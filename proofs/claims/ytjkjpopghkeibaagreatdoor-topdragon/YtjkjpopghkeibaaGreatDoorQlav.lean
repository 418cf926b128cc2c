/- A part of it. -/
import Derived.Test.YtjkjpopghkeibaaGreatDoorQlat
import Derived.Test.YtjkjpopghkeibaaGreatDoorQlau
import Derived.Laws.EntriesVeiled
set_option maxRecDepth 100000
set_option maxHeartbeats 40000000
namespace Go.Proofs.YtjkjpopghkeibaaGreatDoor
open Go.RowKit
variable {w w':World} {B H1 N6 Nt base d e f g i j k n r:Nat} {a pa:Option Addr} {M:Nat→M6} {zs:List Int} {L l:List T3} {b c t u v:Value}
def MOk1 (L:List T3) (M:Nat→M6) (i:Nat):Prop:=mapM (M i)=true∧triT (mvt (M i) (L.getD i (0,0,0)))=true
def MOk (kd:E4→Int) (L:List T3) (M:Nat→M6):Prop:=(∀ i,i<L.length→MOk1 L M i)∧∀ i,i<L.length→FitI kd L M i
theorem fit_bool (kd:E4→Int) (L:List T3) (M:Nat→M6):∃ bf:Bool,Hid (bf=true↔∀ i,i<L.length→FitI kd L M i)∧∀ W w' e,FitTo kd L M W w' e→e=.returned (.bool bf)∧Bl W w':=by
 by_cases q:∀ i,i<L.length→FitI kd L M i
 ·refine ⟨true, ?_,fun W w' e h=>?_⟩
  ·have:true=true↔∀ i,i<L.length→FitI kd L M i:=⟨fun _=>q,fun _=>rfl⟩;exact this
  ·obtain ⟨⟨b,d,c⟩,a⟩:=h;exact ⟨by rw [d,c.2 q],a⟩
 ·refine ⟨false, ?_,fun W w' e h=>?_⟩
  ·have:false=true↔∀ i,i<L.length→FitI kd L M i:=⟨fun h=>(by cases h),fun h=>absurd h q⟩;exact this
  ·obtain ⟨⟨b,d,c⟩,a⟩:=h
   cases b
   ·exact ⟨d,a⟩
   ·exact absurd (c.1 rfl) q
def SprTo (w w':World) (ad:Option Addr) (cc ra rk gm cm:Nat) (L:List T3) (kd:E4→Int) (M:Nat→M6) (e:Ending):Prop :=
 (∃ z0 k0 d0 m1 m2 z3 k3 d3 z4 k4 d4,e=.returned (.tuple #[.agg #[.slice z0 k0 d0,.map m1,.map m2,.slice z3 k3 d3,.slice z4 k4 d4],.bool false])∧¬ MOk kd L M∧Bl w w')
 ∨ (∃ pa pc,e=.returned (.tuple #[.agg #[.slice ad L.length cc,.map (some ra),.map (some rk),.slice (Az gm) L.length cm,.slice pa L.length pc],.bool true])∧MOk kd L M∧TRow w' pa (pls L M L.length)∧Bl w w')
theorem sprTo_of {b:Option Addr} {c:Nat} {kd:E4→Int} {a:Bool} (h1:a=true↔∀ i,i<L.length→FitI kd L M i) (h2:∀ i,i<L.length→MOk1 L M i) (hT:TRow w' pa (pls L M L.length)) (f:Bl w w'):SprTo w w' b c g j e d L kd M (.returned (.tuple #[.agg #[.slice b L.length c,.map (some g),.map (some j),.slice (Az e) L.length d,.slice pa L.length k],.bool a])):=by
 cases a
 ·exact Or.inl ⟨_,_,_,_,_,_,_,_,_,_,_,rfl,fun h=>by simpa using h1.2 h.2,f⟩
 ·exact Or.inr ⟨_,_,rfl,⟨h2,h1.1 rfl⟩,hT,f⟩
theorem spread_gen (w:World) (U P Q s cm:Nat) (N:Option Addr) (L:List T3) (kd:E4→Int) (M:Nat→M6) (hs:Steps w) (ae:PA w N P L) (hK:KL w Q kd) (hL:L.length≤300) (J:∀ t∈L,(0≤t.1∧t.1≤8)∧(0≤t.2.1∧t.2.1≤8)∧(0≤t.2.2∧t.2.2≤3)) (hM:MRow w s L.length M) :
  Cl 32 #[.agg #[.slice N L.length U,.map (some P),.map (some Q)],.slice (Az s) L.length cm] w fun e w'=>SprTo w w' N U P Q s cm L kd M e:=by
 have CF:Hid (∀ (n:World) (pa:Option Addr) (pn pc:Nat),Bl w n→(∀ i,i<L.length→mapM (M i)=true)→Cl 81 #[.agg #[.slice N L.length U,.map (some P),.map (some Q),.slice (Az s) L.length cm,.slice pa pn pc]] n fun e w'=>FitTo kd L M n w' e):=fun n pa pn pc m hG=>fits_gen n U P Q s cm N pa pn pc L kd M (hs.kept m) (ae.kept m) (hK.kept m) hL J (hM.kept m) hG
 have CM:Hid (∀ (i:Nat) (hi:i<L.length),∃ X Y K O:Int,((O=0∧MOk1 L M i∧mvt (M i) L[i]=(X,Y,K))∨(O≠0∧¬ MOk1 L M i))∧∀ n:World,Bl w n→Rt 80 #[.agg #[I (M i).1,I (M i).2.1,I (M i).2.2.1,I (M i).2.2.2.1,I (M i).2.2.2.2.1,I (M i).2.2.2.2.2],.agg #[I L[i].1,I L[i].2.1,I L[i].2.2]] n (.tuple #[.agg #[I X,I Y,I K],I O])):=fun i hi=>by
  by_cases G:MOk1 L M i
  ·have r:=G;unfold MOk1 at r;rw [Qz L i hi] at r;exact ⟨(mvt (M i) L[i]).1,(mvt (M i) L[i]).2.1,(mvt (M i) L[i]).2.2,0,Or.inl ⟨rfl,G,rfl⟩,fun n m=>Move_in (M i) L[i] n r.1 (J _ (Lm hi)) (hs.kept m) r.2⟩
  ·have r:=G;unfold MOk1 at r;rw [Qz L i hi] at r;by_cases hm:mapM (M i)=true
   ·obtain ⟨h1,h2,h3,h4,h5,h7⟩:=mvt_gen (a:=(M i).1) (b:=(M i).2.1) (c:=(M i).2.2.1) (d:=(M i).2.2.2.1) (e:=(M i).2.2.2.2.1) (f:=(M i).2.2.2.2.2) hm (J _ (Lm hi)).1 (J _ (Lm hi)).2.1 (J _ (Lm hi)).2.2 (X:=(mvt (M i) L[i]).1) (Y:=(mvt (M i) L[i]).2.1) (K:=(mvt (M i) L[i]).2.2) rfl
    have ht:triT (mvt (M i) L[i])=false:=by
     cases q:triT (mvt (M i) L[i])
     ·rfl
     ·exact absurd ⟨hm,q⟩ r
    exact ⟨0,0,0,2,Or.inr ⟨ψ,G⟩,fun n m=>Move_no _ _ _ _ _ _ _ _ _ _ _ _ n hm h7 h1 h2 h3 h4 h5 ht (hs.kept m)⟩
   ·have bt:mapB (M i).1 (M i).2.1 (M i).2.2.1 (M i).2.2.2.1 (M i).2.2.2.2.1 (M i).2.2.2.2.2=false:=by simpa [mapM] using hm
    exact ⟨0,0,0,3,Or.inr ⟨ψ,G⟩,fun n m=>Move_out _ _ _ _ _ _ _ _ _ n (Or.inl bt)⟩
 have HR:=H2 ae.1 hM;obtain ⟨i3,b8,a8,aa,ab⟩:=info_parts inf23;have HI:=H4 b8 a8 aa ab;have qn:((L.length:Int) != (L.length:Int))=false:=ξ;clear hs ae hK J hM b8 a8 aa ab;go_enter Tryz.func32,Tryz.ntmps32;go_wp2;go_loopg [24] L.length (fun gk bv wx=>∃ (i:Nat) (v:Value),i≤L.length∧gk=L.length - i∧bv=I (i:Int)∧(∀ i',i'<i→MOk1 L M i')∧SpB ((w.alloc (.cells #[.slice N L.length U,.map (some P),.map (some Q)] 59)).alloc (.cells #[SN,.map none,.map none,SN,SN] 61)) wx (w.heap.size+1+1) N L.length U P Q s cm v (pls L M i))
 case atStart=>exact ⟨0,SN,γ,rfl,rfl,fun i' bs=>by omega,⟨δ,δ,δ,δ,δ,δ,⟨by simp [pls,flatV],.inl ⟨rfl,by simp [pls]⟩⟩,ξ,Qb (Qe _)⟩⟩
 case round =>
  obtain ⟨i,v,hi,rfl,rfl,az,hS⟩:=hrel;have ac:=Hd az;clear az;have u:=Hd hS;have HB:=Hd (Qc β2 hS.bel);have zB:=hS.lt;clear hS;by_cases h1:i<L.length
  ·have i1:(i:Int)<(L.length:Int):=γ;have i0:(0:Int)≤(i:Int):=γ;obtain ⟨da,rfl,t0,t1,t2⟩:=HR.out.1 i h1;replace t0:=Qa HB.out t0;replace t1:=Qa HB.out t1;replace t2:=Qa HB.out t2;have zt:=Bt t0;obtain ⟨⟨y0,y1,y2,y3,y4,y5⟩,_⟩:=HR.out.2 i h1;obtain ⟨A,B,C,D,E,F,ag⟩:∃ A B C D E F,M i=(A,B,C,D,E,F):=⟨_,_,_,_,_,_,rfl⟩;obtain ⟨x,y,k,ai⟩:∃ x y k,L[i]=(x,y,k):=⟨_,_,_,rfl⟩;obtain ⟨X,Y,K,O,b6,b7⟩:=CM.out i h1
   have bi:Hid ((O=0∧MOk1 L M i∧pls L M (i+1)=pls L M i ++ [(X,Y,K)])∨(O≠0∧¬ MOk1 L M i)):=by
    have:(O=0∧MOk1 L M i∧pls L M (i+1)=pls L M i ++ [(X,Y,K)])∨(O≠0∧¬ MOk1 L M i):=by
     rcases b6 with ⟨bn,bo,bp⟩ | h
     ·exact Or.inl ⟨bn,bo,by rw [pls_succ,← bp,Qz L i h1]⟩
     ·exact Or.inr h
    exact this
   clear b6
   have ak:Hid (∀ n:World,Bl wr n→Rt 80 #[.agg #[I A,I B,I C,I D,I E,I F],.agg #[I x,I y,I k]] n (.tuple #[.agg #[I X,I Y,I K],I O])):=fun n m=>by
    have h:=b7 n (Qc HB.out m);rw [ag,ai] at h;exact h
   rw [ag] at y0 y1 y2 y3 y4 y5;rw [ai] at t0 t1 t2;dsimp only at y0 y1 y2 y3 y4 y5 t0 t1 t2;clear b7 ag ai;go_wp2;refine Qi (fun T hW0=>?_)
   have a2:Hid (Bl wr T):=by
    have:Bl wr T:=γ4;exact this
   obtain ⟨B9,V⟩:∃ b,b=wr.heap.size:=⟨_,rfl⟩;have x0:At T B9 0 (I x):=by rw [hW0,V];simp [go_sem]
   have x1:At T B9 1 (I y):=by rw [hW0,V];simp [go_sem]
   have x2:At T B9 2 (I k):=by rw [hW0,V];simp [go_sem]
   clear hW0;rw [← V];clear V;have H:=Qc HB.out a2.out;replace y0:=Qa H y0;replace y1:=Qa H y1;replace y2:=Qa H y2;replace y3:=Qa H y3;replace y4:=Qa H y4;replace y5:=Qa H y5;have bz:=Bt y0;have ca:=Bt x0;have aj:Hid (∀ n:World,Bl T n→Rt 80 #[.agg #[I A,I B,I C,I D,I E,I F],.agg #[I x,I y,I k]] n (.tuple #[.agg #[I X,I Y,I K],I O])):=fun n m=>ak.out n (Qc a2.out m);clear H t0 t1 t2 zt;go_cut [9,10] (fun s9 bu wx=>∃ g9:Nat,s9=.pointer (Az g9)∧bu=I O∧(At wx g9 0 (I X)∧At wx g9 1 (I Y)∧At wx g9 2 (I K))∧Bl T wx)
   case first =>
    go_region_held3 (fun w'=>At w' s (i*6) (I A)∧At w' s (i*6+1) (I B)∧At w' s (i*6+2) (I C)∧At w' s (i*6+3) (I D)∧At w' s (i*6+4) (I E)∧At w' s (i*6+5) (I F)∧At w' B9 0 (I x)∧At w' B9 1 (I y)∧At w' B9 2 (I k))
     ((refine ⟨?_, ?_, ?_, ?_, ?_, ?_, ?_, ?_, ?_⟩ <;> (repeat' (first | (with_reducible assumption) | (with_reducible refine Xh ?_ ?_) | (dsimp only;omega) | (simp [go_sem];done) | (with_reducible refine Qk ?_) | (with_reducible refine Qq ?_)))))
     ((go_at_call 80;refine (aj.out _ γ1).mono ?_;rintro e p ⟨rfl,j⟩;have bb:At p s (i*6) (I A):=Qa j ζ;have cz:At p s (i*6+1) (I B):=Qa j ζ;have d6:At p s (i*6+2) (I C):=Qa j ζ;have d7:At p s (i*6+3) (I D):=Qa j ζ;have d8:At p s (i*6+4) (I E):=Qa j ζ;have d9:At p s (i*6+5) (I F):=Qa j ζ;have ba:At p B9 0 (I x):=Qa j ζ;have cx:At p B9 1 (I y):=Qa j ζ;have cy:At p B9 2 (I k):=Qa j ζ;(first | (have W:=fresh3_a (g:=T.heap.size) rfl j;obtain ⟨⟨ap,aq,ar⟩,⟨au,av,aw⟩,ax⟩:=W) | (have W:=fresh3_d (g:=T.heap.size) rfl j;obtain ⟨⟨ap,aq,ar⟩,⟨au,av,aw⟩,ax⟩:=W) | (have W:=fresh3_dd (g:=T.heap.size) rfl j;obtain ⟨⟨ap,aq,ar⟩,⟨au,av,aw⟩,ax⟩:=W) | skip);have hq:Bl T p:=(by with_reducible (first | exact j | exact Jb j | exact Jb (Jb j) | exact Qc β1 j | exact Qc (Qg β1) j | exact Qc (Qb (Qg (Qe _))) j | exact Qc (Qg (Qb (Qg (Qe _)))) j | exact Qc (Qg (Qg β1)) j | exact Qc (Qb (Qg (Qg (Qe _)))) j));have a6:=Hd hq;have cb:=Bt bb;have ce:=Bt ba;have dc:=hq.size;clear j hq))
    all_goals
     go_wp2;go_meet
     case rel =>
      refine ⟨_,rfl,rfl, ?_, ?_⟩
      ·first | (simp [go_sem];done) | (simp [go_sem, *];done)
      ·with_reducible repeat' (first | exact a6.out | refine Qh ?_ ?_ | refine Qb ?_ | refine Qg ?_)
       all_goals (first | omega | (dsimp only;omega) | (simp;done))
   case rest =>
    obtain ⟨g9,rfl,rfl,⟨e0,e1,e2⟩,ay⟩:=hcut;have R:=Hd (u.out.kept (Qc a2.out ay));have z9:=Bt e0;have c4:=R.out.c4;have bw:=R.out.lt;clear u HB a2 ak aj ay y0 y1 y2 y3 y4 y5 x0 x1 x2 bz ca zB;rcases bi.out with af | af
    ·obtain ⟨a7,G,hP⟩:=af;subst a7;have HP:=Hd hP
     have bk:Hid (∀ i',i'<i+1→MOk1 L M i'):=fun i' bs=>by
      by_cases e:i'=i
      ·exact e ▸ G
      ·exact ac.out i' γ
     clear hP G;have db:w.heap.size+1+1+1≤wc.heap.size:=γ;have am:=Hd (Yj L M i)
     have HO:Hid (wc.ownsRow (w.heap.size+1+1+1) 39 3 v i (flatV (pls L M i))):=by
      have:=R.out.own;rw [am.out] at this;exact this
     go_wp2_with (at_builtin;refine wpList_append_own _ rfl (.tmp 42) (.tmp 44) 55 rfl (w.heap.size+1+1+1) 39 i3 (.agg #[I 0,I 0,I 0]) 3 24 Tryz.underlying55 HI.out.1 HI.out.2.1 HI.out.2.2.1 HI.out.2.2.2 rfl ψ v i (flatV (pls L M i)) rfl (Qj HO.out β1) ⟨wc.heap.size,0,none⟩ 1 1 [I X,I Y,I K] rfl rfl (Xg wc X Y K) (Uq X Y K) Ξ γ ω ?grow)
     case grow =>
      intro v' w3 Z z _
      obtain ⟨gv,cv,rfl⟩:∃ gv cv,v'=.slice (Az gv) (i+1) cv:=by
       rcases Z.2 with ⟨_,h0⟩ | ⟨gv,cv,_,h,_⟩
       ·omega
       ·exact ⟨gv,cv,h⟩
      have hk:=R.out.kept (Qb (o:=.cells #[I X,I Y,I K] 39) (Qe wc));have hN:=hk.more (t:=(X,Y,K)) z (by rw [am.out];exact Z);rw [← HP.out] at hN;have HN:=(show Hid _ from hN)
      have ah:some (w.heap.size+1+1)≠v.ownBlock:=fun e=>by
       have:=Qw hk.own _ e.symm;omega
      have d4:=z.cell hk.c4 ah;have k4:Fn w3 (w.heap.size+1+1) 4:=(Fo (a:=⟨w.heap.size+1+1,4,none⟩) (z.block _ hk.lt ah)).trans hk.f4;have z3:=Bt d4;clear Z z hk hN ah;go_wp2;go_roundg (L.length - (i+1))
      case measure=>omega
      case rel=>exact ⟨i+1,_,γ,rfl,σ,bk.out,HN.out⟩
    ·obtain ⟨a7,b9⟩:=af;have qc:(O != 0)=true:=by simpa using a7
     have l:=R.out.bel;have d0:At wc (w.heap.size+1) 0 SN:=Qa l δ;have d1:At wc (w.heap.size+1) 1 (.map none):=Qa l δ;have d2:At wc (w.heap.size+1) 2 (.map none):=Qa l δ;have d3:At wc (w.heap.size+1) 3 SN:=Qa l δ;have d4:At wc (w.heap.size+1) 4 SN:=Qa l δ;have zD:=Bt d0;have k0:Fn wc (w.heap.size+1) 0:=(l.frozen ξ).trans δ;have k1:Fn wc (w.heap.size+1) 1:=(l.frozen ξ).trans δ;have k2:Fn wc (w.heap.size+1) 2:=(l.frozen ξ).trans δ;have k3:Fn wc (w.heap.size+1) 3:=(l.frozen ξ).trans δ;have k4:Fn wc (w.heap.size+1) 4:=(l.frozen ξ).trans δ;have bh:=Hd (Qc β2 l);have bj:=Hd b9;clear l b9 a7 c4 bw;go_wp2;refine bodyPost_ret (v:=.tuple #[.agg #[SN,.map none,.map none,SN,SN],.bool false]) (by simp [results,Tryz.results32,go_sem, *]) rfl (Or.inl ⟨none,0,0,none,none,none,0,0,none,0,0,rfl,fun b5=>bj.out (b5.1 i h1), ?_⟩);with_reducible repeat' (first | exact bh.out | refine Qh ?_ ?_ | refine Qb ?_)
     all_goals (dsimp only;omega)
  ·have i1:¬ (i:Int)<(L.length:Int):=γ;obtain rfl:i=L.length:=γ;obtain ⟨pa,pc,rfl,hT⟩:=Xc u.out.own;rw [Yj] at u;have c0:=u.out.c0;have c1:=u.out.c1;have c2:=u.out.c2;have c3:=u.out.c3;have c4:=u.out.c4;have HT:=Hd hT;have bm:Hid (∀ g,pa=Az g→w.heap.size+1+1+1≤g):=fun g e=>Qw u.out.own g (by rw [e];rfl);clear hT;have d0:At wr (w.heap.size+1) 0 SN:=Qa u.out.bel δ;have d1:At wr (w.heap.size+1) 1 (.map none):=Qa u.out.bel δ;have d2:At wr (w.heap.size+1) 2 (.map none):=Qa u.out.bel δ;have d3:At wr (w.heap.size+1) 3 SN:=Qa u.out.bel δ;have d4:At wr (w.heap.size+1) 4 SN:=Qa u.out.bel δ;have zD:=Bt d0;have k0:Fn wr (w.heap.size+1) 0:=(u.out.bel.frozen ξ).trans δ;have k1:Fn wr (w.heap.size+1) 1:=(u.out.bel.frozen ξ).trans δ;have k2:Fn wr (w.heap.size+1) 2:=(u.out.bel.frozen ξ).trans δ;have k3:Fn wr (w.heap.size+1) 3:=(u.out.bel.frozen ξ).trans δ;have k4:Fn wr (w.heap.size+1) 4:=(u.out.bel.frozen ξ).trans δ
   obtain ⟨bf,bg,br⟩:∃ bf:Bool,Hid (bf=true↔∀ i,i<L.length→FitI kd L M i)∧∀ n:World,Bl wr n→Rt 81 #[.agg #[.slice N L.length U,.map (some P),.map (some Q),.slice (Az s) L.length cm,.slice pa L.length pc]] n (.bool bf):=by
    obtain ⟨bf,h1,h2⟩:=fit_bool kd L M;exact ⟨bf,h1,fun n m=>(CF.out n pa L.length pc (Qc HB.out m) (fun i hi=>(ac.out i hi).1)).mono fun e w' h=>h2 _ _ _ h⟩
   have bc:Hid (∀ n:World,Bl wr n→Rt 81 #[.agg #[.slice N L.length U,.map (some P),.map (some Q),.slice (Az s) L.length cm,.slice pa L.length pc]] n (.bool bf)):=fun n m=>br n m;have be:=Hd HB.out;clear CF CM HR HI u HB;go_wp2
   go_region_held3 (fun w'=>At w' (w.heap.size+1+1) 0 (.slice N L.length U)∧At w' (w.heap.size+1+1) 1 (.map (some P))∧At w' (w.heap.size+1+1) 2 (.map (some Q))∧At w' (w.heap.size+1+1) 3 (.slice (Az s) L.length cm)∧At w' (w.heap.size+1+1) 4 (.slice pa L.length pc))
    ((refine ⟨?_, ?_, ?_, ?_, ?_⟩ <;> (repeat' (first | (with_reducible assumption) | (with_reducible refine Xh ?_ ?_) | (dsimp only;omega) | (simp [go_sem];done) | (with_reducible refine Qk ?_) | (with_reducible refine Qq ?_)))))
    ((go_at_call 81;refine (bc.out _ γ1).mono ?_;rintro e p ⟨rfl,j⟩;have an:At p (w.heap.size+1+1) 0 (.slice N L.length U):=Qa j ζ;have cf:At p (w.heap.size+1+1) 1 (.map (some P)):=Qa j ζ;have cg:At p (w.heap.size+1+1) 2 (.map (some Q)):=Qa j ζ;have ch:At p (w.heap.size+1+1) 3 (.slice (Az s) L.length cm):=Qa j ζ;have ci:At p (w.heap.size+1+1) 4 (.slice pa L.length pc):=Qa j ζ;have ao:At p (w.heap.size+1) 0 SN:=Qa j ζ;have cp:Fn p (w.heap.size+1) 0:=(j.frozen (by dsimp only;first | exact zD | (simp;exact zD))).trans (by first | exact k0 | (simp [go_sem,k0];done));have cj:At p (w.heap.size+1) 1 (.map none):=Qa j ζ;have cr:Fn p (w.heap.size+1) 1:=(j.frozen (by dsimp only;first | exact zD | (simp;exact zD))).trans (by first | exact k1 | (simp [go_sem,k1];done));have cl:At p (w.heap.size+1) 2 (.map none):=Qa j ζ;have ct:Fn p (w.heap.size+1) 2:=(j.frozen (by dsimp only;first | exact zD | (simp;exact zD))).trans (by first | exact k2 | (simp [go_sem,k2];done));have cn:At p (w.heap.size+1) 3 SN:=Qa j ζ;have cu:Fn p (w.heap.size+1) 3:=(j.frozen (by dsimp only;first | exact zD | (simp;exact zD))).trans (by first | exact k3 | (simp [go_sem,k3];done));have co:At p (w.heap.size+1) 4 SN:=Qa j ζ;have cw:Fn p (w.heap.size+1) 4:=(j.frozen (by dsimp only;first | exact zD | (simp;exact zD))).trans (by first | exact k4 | (simp [go_sem,k4];done));have hq:Bl wr p:=(by with_reducible (first | exact j | exact Jb j | exact Jb (Jb j)));have a6:=Hd hq;have cb:=Bt ao;have ce:=Bt an;clear j hq))
   all_goals
    go_wp2;refine bodyPost_ret (v:=.tuple #[.agg #[.slice N L.length U,.map (some P),.map (some Q),.slice (Az s) L.length cm,.slice pa L.length pc],.bool bf]) (by simp [results,Tryz.results32,go_sem, *]) rfl ?_;have bq:=HT.out.kept a6.out;refine sprTo_of bg.out ac.out ?_ ?_
    ·with_reducible repeat' (first | exact bq | refine TRow.far ?_ ?_ | refine TRow.dr ?_)
     all_goals (intro g e;have:=bm.out g e;dsimp only;omega)
    ·with_reducible repeat' (first | exact Qc be.out a6.out | refine Qh ?_ ?_ | refine Qg ?_)
     all_goals (dsimp only;omega)
theorem spread_len (w:World) (n d g h b e:Nat) (c f:Option Addr) (a:b≠n) :
  Rt 32 #[.agg #[.slice c n d,.map (some g),.map (some h)],.slice f b e] w (.tuple #[.agg #[SN,.map none,.map none,SN,SN],.bool false]):=by
 have i:((b:Int) != (n:Int))=true:=by
  rw [bne_iff_ne];omega
 clear a;go_enter Tryz.func32,Tryz.ntmps32;go_wp2;refine bodyPost_ret (v:=.tuple #[.agg #[SN,.map none,.map none,SN,SN],.bool false]) (by simp [results,Tryz.results32,go_sem]) rfl ⟨rfl, ?_⟩;with_reducible repeat (first | exact Qe _ | refine Qb ?_ | refine Qh ?_ ?_)
 all_goals simp
open Go.ChangeMaps
structure PileAt (w:World) (ad:Option Addr) (cc ra rk gm cm:Nat) (pa:Option Addr) (pc:Nat) (L:List T3) (kd:E4→Int) (M:Nat→M6):Prop where
 tr:PA w ad ra L
 kl:KL w rk kd
 mr:MRow w gm L.length M
 pl:TRow w pa (pls L M L.length)
theorem PileAt.kept {b:Option Addr} {c:Nat} {kd:E4→Int} (h:PileAt w b c g i e d pa f L kd M) (a:Bl w w'):PileAt w' b c g i e d pa f L kd M:=⟨h.tr.kept a,h.kl.kept a,h.mr.kept a,h.pl.kept a⟩
def pileV (ad:Option Addr) (n cc ra rk gm cm:Nat) (pa:Option Addr) (pc:Nat):Value:=.agg #[.slice ad n cc,.map (some ra),.map (some rk),.slice (Az gm) n cm,.slice pa n pc]
def PlacedTo (kd:E4→Int) (L:List T3) (w w':World) (e:Ending):Prop:=Bl w w'∧((∃ M ad cc ra rk gm cm pa pc,Cons kd L M∧e=.returned (.tuple #[pileV ad L.length cc ra rk gm cm pa pc,I 0])∧PileAt w' ad cc ra rk gm cm pa pc L kd M)∨((¬ ∃ N,Cons kd L N)∧e=.returned (.tuple #[.agg #[SN,.map none,.map none,SN,SN],I 8])))
def set5 (w:World) (b:Nat) (u0 u1 u2 u3 u4:Value):World:=((((w.setCell ⟨b,0,none⟩ u0).setCell ⟨b,1,none⟩ u1).setCell ⟨b,2,none⟩ u2).setCell ⟨b,3,none⟩ u3).setCell ⟨b,4,none⟩ u4
theorem set5_grown (w:World) (b:Nat) (a c d e f:Value):w.grownBy (set5 w b a c d e f) (some b):=Ji (Ji (Ji (Ji (Ql _ _ _ _) (Ql _ _ _ _)) (Ql _ _ _ _)) (Ql _ _ _ _)) (Ql _ _ _ _)
theorem MRow.not_at {b:Nat} (h:MRow w g n M) (h0:0<n) (a:w.cell? ⟨b,0,none⟩=some SN):some g≠some b:=fun e=>by
 cases e;have:=(h 0 h0).1.1;(try simp only [At,I] at this);rw [Nat.zero_mul,a] at this
 cases this
theorem TRow.not_at {b:Nat} (h:TRow w pa l) (h0:0<l.length) (c:w.cell? ⟨b,0,none⟩=some SN):∀ g,pa=some ⟨g,0,none⟩→g≠b:=fun g e e2=>by
 obtain ⟨d,a,c0,_⟩:=h 0 h0;(try simp only [Az] at a);rw [e] at a
 cases a;subst e2;(try simp only [At,I] at c0);rw [Nat.zero_mul,c] at c0
 cases c0
theorem TRow.grown {b:Nat} (h:TRow w pa l) (hg:w.grownBy w' (some b)) (c:∀ g,pa=Az g→g≠b):TRow w' pa l:=fun i hi=>by
 obtain ⟨g,e,c0,c1,c2⟩:=h i hi;have a:some g≠some b:=fun e2=>c g e (by simpa using e2);exact ⟨g,e,hg.cell c0 a,hg.cell c1 a,hg.cell c2 a⟩
structure PX (w0 w:World) (r base ra rk gm:Nat) (ad pa:Option Addr) (k:Nat) (L:List T3) (M:Nat→M6) (ks:List Int) (nk:Nat):Prop where
 pk:PK w0 w base ra rk (.slice ad L.length k) L (gix L) (kf ks nk)
 mr:MRow w gm L.length M
 tr:TRow w pa (pls L M L.length)
 lo:w0.heap.size≤r
 n1:r≠ra
 n2:r≠rk
 n3:r<base
 n4:gm≠r
 n5:∀ g,pa=Az g→g≠r
theorem PX.kept {i:World} {c:Nat} {b:Option Addr} {d:List Int} (h:PX i w r base f g c b pa k L M d e) (a:Bl w w'):PX i w' r base f g c b pa k L M d e:=⟨h.pk.kept a,h.mr.kept a,h.tr.kept a,h.lo,h.n1,h.n2,h.n3,h.n4,h.n5⟩
theorem PX.dr {g:World} {b:Nat} {c:List Int} (h:PX g w r base e f b a pa k L M c d):PX g w.drew r base e f b a pa k L M c d:=h.kept (Qg (Qe _))
theorem PX.set {g:World} {b:Nat} {c:List Int} (h:PX g w r base e f b a pa k L M c d) (o:Nat) (u:Value):PX g (w.setCell ⟨r,o,none⟩ u) r base e f b a pa k L M c d:=by
 have hg:=Ql w r o u;exact ⟨h.pk.grown hg h.lo h.n1 h.n2 h.n3,h.mr.grown hg (by have:=h.n4;simpa using this),h.tr.grown hg h.n5,h.lo,h.n1,h.n2,h.n3,h.n4,h.n5⟩
theorem PX.pile {j:World} {b:Nat} {c:List Int} (h:PX j w r base e f b a pa k L M c d):PileAt w a k e f b g pa i L (kdn c d) M:=⟨h.pk.pa,h.pk.kl,h.mr,h.tr⟩
def SOk (kd:E4→Int) (L:List T3) (mn:Nat) (M:Nat→M6) (S:List (T3×List T3)):Prop:=mn=L.length∧MOk kd L M∧StOk L (plF (pls L M L.length)) S
def MRowG (w:World) (a:Option Addr) (n:Nat) (M:Nat→M6):Prop := ∀ i,i<n→∃ g o,a=Ad g o∧At w g (o+i*6) (I (M i).1)∧At w g (o+i*6+1) (I (M i).2.1)∧At w g (o+i*6+2) (I (M i).2.2.1)∧At w g (o+i*6+3) (I (M i).2.2.2.1)∧At w g (o+i*6+4) (I (M i).2.2.2.2.1)∧At w g (o+i*6+5) (I (M i).2.2.2.2.2)
theorem MRowG.kept (h:MRowG w a n M) (b:Bl w w'):MRowG w' a n M:=fun i hi=>by
 obtain ⟨g,o,e,c0,c1,c2,c3,c4,c5⟩:=h i hi;exact ⟨g,o,e,Qa b c0,Qa b c1,Qa b c2,Qa b c3,Qa b c4,Qa b c5⟩
def Acr1 (kd:E4→Int) (L:List T3) (M:Nat→M6) (i k:Nat):Prop := ∀ j (hj:j<L.length),L[j]=acr (L.getD i (0,0,0)) (edg (L.getD i (0,0,0)) k)→M j=farM kd (edg (L.getD i (0,0,0)) k) (M i)
def MMs (kd:E4→Int) (L:List T3) (M:Nat→M6) (m:Nat):Prop := ∀ i,i<m→MOk1 L M i∧∀ k,k<3→Acr1 kd L M i k
theorem HSt.add {F m j:World} {z A C D E v':Value} {R:List (T3×Value)} {t:T3} {S:List (T3×List T3)} (h:HSt F m B z A C D E v R S) (hg:m.grownBy j v.ownBlock) (y:j.ownsRow (B+1) 73 4 v' (R.length+1) (rowS R ++ [I t.1,I t.2.1,I t.2.2,u])) (hv:v'.ownBlock=v.ownBlock∨v'.ownBlock=some m.heap.size) (q:∀ g,u.ownBlock=some g→B<g∧g<m.heap.size∧v.ownBlock≠some g) (hT:TrisAt m u l) :
  HSt F (j.setCell ⟨B,5,none⟩ v') B z A C D E v' (R ++ [(t,u)]) (S ++ [(t,l)]):=by
 have b:some B≠v.ownBlock:=fun e=>by
  have:=Qw h.own B e.symm;omega
 have o:v'.ownBlock≠some B:=fun e=>by
  have:=Qw y B e;omega
 have G:=h.bel.grown hg h.bel.size (fun k J=>by have:=Qw h.own k J;have:=h.low;omega);have c:=Ql j B 5 v';have c5:=hg.cell h.c5 b;have f5:Fn j B 5:=(Fo (a:=⟨B,5,none⟩) (hg.block B h.lt b)).trans h.f5;refine ⟨Qn (hg.cell h.c0 b) γ,Qn (hg.cell h.c1 b) γ,Qn (hg.cell h.c2 b) γ,Qn (hg.cell h.c3 b) γ,Qn (hg.cell h.c4 b) γ,Jq c5,by simp [go_sem,f5], ?_, ?_,by simp [h.len], ?_,h.low,G.setCell (p:=⟨B,5,none⟩) h.low _⟩
 ·rw [rowS_add,List.length_append,List.length_singleton];exact y.kept c (Or.inr o)
 ·intro s hs g d;rcases List.mem_append.1 hs with hs | hs
  ·obtain ⟨a1,n,a3⟩:=h.apart s hs g d;refine ⟨a1,Nl n (Nt hg.size c.size),fun e=>?_⟩;rcases hv with e2 | e2
   ·exact a3 (e2 ▸ e)
   ·rw [e2] at e
    cases e;omega
  ·simp at hs;subst hs;obtain ⟨a1,n,a3⟩:=q g d;refine ⟨a1,Nl n (Nt hg.size c.size),fun e=>?_⟩;rcases hv with e2 | e2
   ·exact a3 (e2 ▸ e)
   ·rw [e2] at e
    cases e;omega
 ·intro i hi H;by_cases hiR:i<R.length
  ·have f:i<S.length:=by rw [← h.len];exact hiR
   obtain ⟨e1,e2⟩:=h.hold i hiR f;have r:(R ++ [(t,u)])[i]=R[i]:=List.getElem_append_left hiR;have x:(S ++ [(t,l)])[i]=S[i]:=List.getElem_append_left f;rw [r,x];refine ⟨e1,(e2.grown hg fun g e=>?_).grown c fun g e=>?_⟩
   ·exact fun e3=>(h.apart _ (Lm hiR) g e).2.2 e3.symm
   ·have:=(h.apart _ (Lm hiR) g e).1;intro e3
    cases e3;omega
  ·have e1:i=R.length:=by simp at hi;omega
   have e2:i=S.length:=by rw [e1,h.len]
   have r:(R ++ [(t,u)])[i]=(t,u):=by
    rw [List.getElem_append_right γ];simp [e1]
   have x:(S ++ [(t,l)])[i]=(t,l):=by
    rw [List.getElem_append_right γ];simp [e2]
   rw [r,x];refine ⟨rfl,(hT.grown hg fun g e=>?_).grown c fun g e=>?_⟩
   ·exact fun e3=>(q g e).2.2 e3.symm
   ·have:=(q g e).1;intro e3
    cases e3;omega
def RowX (w:World) (base B:Nat) (a:Option Addr) (zs:List Int):Prop := ∀ i (h:i<zs.length),∃ b off,a=Ad b off∧base≤b∧b≠B∧At w b (off+i) (I zs[i])
theorem RowX.row (h:RowX w base B a zs):Row w a zs:=fun i hi=>by
 obtain ⟨b,off,e,_,_,c⟩:=h i hi;exact ⟨b,off,e,c⟩
theorem RowX.kept (h:RowX w base B a zs) (c:Bl w w'):RowX w' base B a zs:=fun i hi=>by
 obtain ⟨b,off,e,h1,h2,d⟩:=h i hi;exact ⟨b,off,e,h1,h2,Qa c d⟩
theorem RowX.grown (h:RowX w base B a zs) (hg:w.grownBy w' (some B)):RowX w' base B a zs:=fun i hi=>by
 obtain ⟨b,off,e,h1,h2,c⟩:=h i hi;exact ⟨b,off,e,h1,h2,hg.cell c (by simpa using h2)⟩
theorem RowX.set (h:RowX w base B a zs) {p:Addr} (hp:p.block<base):RowX (w.setCell p u) base B a zs:=fun i hi=>by
 obtain ⟨b,off,e,h1,h2,c⟩:=h i hi;exact ⟨b,off,e,h1,h2,Qo c θ⟩
theorem RowX.al (h:RowX w base B a zs) {o:Obj}:RowX (w.alloc o) base B a zs:=h.kept β1
theorem RowX.dr (h:RowX w base B a zs):RowX w.drew base B a zs:=h.kept (Qg (Qe _))
theorem RowF.x1 {base':Nat} (h:RowF w base' a zs) (h1:base≤base') (h2:B<base'):RowX w base B a zs:=fun i hi=>by
 obtain ⟨b,off,e,d,c⟩:=h i hi;exact ⟨b,off,e,γ,γ,c⟩
theorem RowF.x2 {base':Nat} (h:RowF w base' a zs) (h1:base≤base') (h2:w.heap.size≤B):RowX w base B a zs:=fun i hi=>by
 obtain ⟨b,off,e,d,c⟩:=h i hi;have:=bk c;dsimp only at this;exact ⟨b,off,e,γ,γ,c⟩
def MapX (w:World) (base B n:Nat) (M:Nat→M6) (a:Option Addr):Prop:=0<n→∃ g,a=Az g∧MRow w g n M∧base≤g∧g≠B
theorem MapX.kept (h:MapX w base B n M a) (b:Bl w w'):MapX w' base B n M a:=fun h0=>by
 obtain ⟨g,e,h1,h2,h3⟩:=h h0;exact ⟨g,e,h1.kept b,h2,h3⟩
theorem MapX.grown (h:MapX w base B n M a) (hg:w.grownBy w' (some B)):MapX w' base B n M a:=fun h0=>by
 obtain ⟨g,e,h1,h2,h3⟩:=h h0;exact ⟨g,e,h1.grown hg (by simpa using h3),h2,h3⟩
theorem MapX.set (h:MapX w base B n M a) {o:Nat} (hp:r<base):MapX (w.setCell ⟨r,o,none⟩ u) base B n M a:=fun h0=>by
 obtain ⟨g,e,h1,h2,h3⟩:=h h0;exact ⟨g,e,h1.grown (Ql w r o u) ω,h2,h3⟩
theorem MapX.al (h:MapX w base B n M a) {o:Obj}:MapX (w.alloc o) base B n M a:=h.kept β1
theorem MapX.dr (h:MapX w base B n M a):MapX w.drew base B n M a:=h.kept (Qg (Qe _))
theorem plF_pls (hi:i<L.length):plF (pls L M L.length) i=mvt (M i) L[i]:=by
 unfold plF pls;rw [List.getD_eq_getElem?_getD,List.getElem?_map,List.getElem?_range hi,Option.map_some,Option.getD_some,Qz L i hi]
def CopyAt (V:World) (mn:Nat) (zs ks:List Int) (M:Nat→M6) (S:List (T3×List T3)) (a' b' ma t:Option Addr):Prop:=Row V a' zs∧Row V b' ks∧(0<mn→∃ g,ma=Az g∧MRow V g mn M)∧SRow V t S
theorem CopyAt.kept {V b:World} {f:List Int} {S:List (T3×List T3)} {c d i t:Option Addr} (h:CopyAt V j zs f M S c d i t) (a:Bl V b):CopyAt b j zs f M S c d i t :=
 ⟨h.1.kept a,h.2.1.kept a,fun h0=>by obtain ⟨g,e,k⟩:=h.2.2.1 h0;exact ⟨g,e,k.kept a⟩,h.2.2.2.kept a⟩
def tov (m:M6):Bool:=decide (m.1*m.2.2.2.1 - m.2.1*m.2.2.1<0)
theorem map_kinds {A B C D E F:Int} (h:mapM (A,B,C,D,E,F)=true):((A=1∨A=-1)∧B=0∧C=0∧(D=1∨D=-1))∨(A=0∧(B=1∨B=-1)∧(C=1∨C=-1)∧D=0):=by
 unfold mapM mapB at h;simp [unitB] at h;omega
theorem turnedOver_any (w:World) (v0 j k v4:Value) (c n g i:Nat) (M:Nat→M6) (d:MRow w c n M) (hi:i<n) (_l:n≤300) (h:mapM (M i)=true) :
  Rt 126 #[.agg #[v0,j,k,.slice (Az c) n g,v4],I (i:Int)] w (.bool (tov (M i))):=by
 obtain ⟨⟨b,y1,y2,y3,e,f⟩,_⟩:=d i hi;obtain ⟨A,B,C,D,E,F,a⟩:∃ A B C D E F,M i=(A,B,C,D,E,F):=⟨_,_,_,_,_,_,rfl⟩;rw [a] at b y1 y2 y3 e f h ⊢;dsimp only at b y1 y2 y3 e f;have o:(i:Int)<(n:Int):=γ;have m:(0:Int)≤(i:Int):=γ;have p:=Bt b;clear a d;rcases map_kinds h with ⟨rfl | rfl,rfl,rfl,rfl | rfl⟩ | ⟨rfl,rfl | rfl,rfl | rfl,rfl⟩
 all_goals
  clear h;go_enter Tryz.func126,Tryz.ntmps126;go_wp2;go_ret;refine ⟨by simp [tov,go_sem], ?_⟩;with_reducible repeat (first | exact Qe _ | refine Qb ?_ | refine Qh ?_ ?_)
theorem Uc {u x M:Int} (h1 : -2≤u) (h2:u≤2) (h3 : -M≤x) (h4:x≤M) : -(2*M)≤u*x∧u*x≤2*M:=by
 have a:u=-2∨u=-1∨u=0∨u=1∨u=2:=γ;rcases a with rfl | rfl | rfl | rfl | rfl <;> omega
structure SdB (p q r s a0 a1 a2 a3 a4 a5:Int):Prop where
 hp : -4000000≤p∧p≤4000000
 hq : -4000000≤q∧q≤4000000
 hr : -2≤r - p∧r - p≤2
 hs : -2≤s - q∧s - q≤2
 h0 : -4000000≤a0∧a0≤4000000
 h1 : -4000000≤a1∧a1≤4000000
 h2 : -4000000≤a2∧a2≤4000000
 h3 : -4000000≤a3∧a3≤4000000
 h4 : -4000000≤a4∧a4≤4000000
 h5 : -4000000≤a5∧a5≤4000000
def sdM (p q r s a0 a1 a2 a3 a4 a5:Int):Nat→Int
 | 0=>0
 | 1=>0+((r - p)*(a1 - q) - (s - q)*(a0 - p))
 | 2=>0+((r - p)*(a1 - q) - (s - q)*(a0 - p))+((r - p)*(a3 - q) - (s - q)*(a2 - p))
 | _=>0+((r - p)*(a1 - q) - (s - q)*(a0 - p))+((r - p)*(a3 - q) - (s - q)*(a2 - p))+((r - p)*(a5 - q) - (s - q)*(a4 - p))
def sdR (n:Int):Int:=if 0<n then 1 else 0
theorem side_num (w:World) (v0 F G v3:Value) (g v E i:Nat) (p q r s x y k a0 a1 b a3 a4 a5:Int) (A:SdB p q r s a0 a1 b a3 a4 a5) (c0:At w g (i*3) (I x)) (c1:At w g (i*3+1) (I y)) (c2:At w g (i*3+2) (I k)) (t:(i:Int)<(v:Int))
  (f:Hid (∀ V:World,Bl w V→Rt 209 #[.agg #[I x,I y,I k]] V (.tuple #[.agg #[I a0,I a1,I b,I a3,I a4,I a5],I 0]))) :
  Rt 142 #[.agg #[v0,F,G,v3,.slice (Az g) v E],.agg #[I p,I q,I r,I s],I (i:Int)] w (I (sdR (sdM p q r s a0 a1 b a3 a4 a5 3))):=by
 have o:(0:Int)≤(i:Int):=γ;have z:=Bt c0;obtain ⟨⟨p0,p1⟩,⟨q0,q1⟩,⟨r0,r1⟩,⟨s0,s1⟩,⟨Q,R⟩,⟨T,g3⟩,⟨U,W⟩,⟨X,Y⟩,⟨Z,g9⟩,ga,gb⟩:=A;obtain ⟨y0,L⟩:=Uc (u:=r - p) (x:=a1 - q) (M:=8000000) γ γ γ γ;obtain ⟨x0,H⟩:=Uc (u:=s - q) (x:=a0 - p) (M:=8000000) γ γ γ γ;obtain ⟨y1,O⟩:=Uc (u:=r - p) (x:=a3 - q) (M:=8000000) γ γ γ γ;obtain ⟨x1,J⟩:=Uc (u:=s - q) (x:=b - p) (M:=8000000) γ γ γ γ;obtain ⟨y2,P⟩:=Uc (u:=r - p) (x:=a5 - q) (M:=8000000) γ γ γ γ;obtain ⟨x2,K⟩:=Uc (u:=s - q) (x:=a4 - p) (M:=8000000) γ γ γ γ;have hi:=fun w=>index3 (I a0) (I a1) (I b) (I a3) (I a4) (I a5) w;have B:=fun w=>(hi w).1;have C:=fun w=>(hi w).2.1;have D:=fun w=>(hi w).2.2;clear hi;have m:∀ n:Int,n=sdM p q r s a0 a1 b a3 a4 a5 3→n=0+((r - p)*(a1 - q) - (s - q)*(a0 - p))+((r - p)*(a3 - q) - (s - q)*(b - p))+((r - p)*(a5 - q) - (s - q)*(a4 - p)):=fun n h=>h;obtain ⟨N,l⟩:∃ N,N=sdM p q r s a0 a1 b a3 a4 a5 3:=⟨_,rfl⟩;rw [← l];have c:=m N l;clear m l;by_cases hpos:0<0+((r - p)*(a1 - q) - (s - q)*(a0 - p))+((r - p)*(a3 - q) - (s - q)*(b - p))+((r - p)*(a5 - q) - (s - q)*(a4 - p))
 ·have j:Hid (sdR N=1):=if_pos (by rw [c];exact hpos);clear c;go_enter Tryz.func142,Tryz.ntmps142;go_wp2_with (go_at_call 209;(with_reducible refine (f.out _ Ψ).mono ?_);rintro e w1 ⟨rfl,a⟩;have e0:At w1 (w.heap.size+1) 0 (I p):=Qa a δ;have e1:At w1 (w.heap.size+1) 1 (I q):=Qa a δ;have e2:At w1 (w.heap.size+1) 2 (I r):=Qa a δ;have e3:At w1 (w.heap.size+1) 3 (I s):=Qa a δ;have z1:=Bt e0;have z2:w.heap.size+1<w1.heap.size+1:=γ;have z3:w.heap.size+1<w1.heap.size+1+1:=γ;have z4:w.heap.size+1<w1.heap.size+1+1+1:=γ;have z5:w.heap.size+1<w1.heap.size+1+1+1+1:=γ;have d:=Hd (Qc β2 a);clear a)
  clear c0 c1 c2 t o z f;refine wp_loop_rounds 4 ?_;rw [rounds_succ];go_wp2;rw [rounds_succ];go_wp2;rw [rounds_succ];go_wp2;rw [rounds_succ];go_wp2;go_ret;refine ⟨Jp j.out.symm, ?_⟩;with_reducible repeat' (first | exact d.out | refine Qb ?_ | refine Qh ?_ ?_)
  all_goals (dsimp only;omega)
 ·have j:Hid (sdR N=0):=if_neg (by rw [c];exact hpos);clear c;go_enter Tryz.func142,Tryz.ntmps142;go_wp2_with (go_at_call 209;(with_reducible refine (f.out _ Ψ).mono ?_);rintro e w1 ⟨rfl,a⟩;have e0:At w1 (w.heap.size+1) 0 (I p):=Qa a δ;have e1:At w1 (w.heap.size+1) 1 (I q):=Qa a δ;have e2:At w1 (w.heap.size+1) 2 (I r):=Qa a δ;have e3:At w1 (w.heap.size+1) 3 (I s):=Qa a δ;have z1:=Bt e0;have z2:w.heap.size+1<w1.heap.size+1:=γ;have z3:w.heap.size+1<w1.heap.size+1+1:=γ;have z4:w.heap.size+1<w1.heap.size+1+1+1:=γ;have z5:w.heap.size+1<w1.heap.size+1+1+1+1:=γ;have d:=Hd (Qc β2 a);clear a)
  clear c0 c1 c2 t o z f;refine wp_loop_rounds 4 ?_;rw [rounds_succ];go_wp2;rw [rounds_succ];go_wp2;rw [rounds_succ];go_wp2;rw [rounds_succ];go_wp2;go_ret;refine ⟨Jp j.out.symm, ?_⟩;with_reducible repeat' (first | exact d.out | refine Qb ?_ | refine Qh ?_ ?_)
  all_goals (dsimp only;omega)
theorem sdB_of {x y k p q r s:Int} (b:triB x y k=true) (h:hasT (x,y,k) (p,q,r,s)=true):SdB p q r s (2*x+1) (2*y+1) (c1x x k) (c1y y k) (c2x x k) (c2y y k):=by
 have a:0≤k∧k≤3∧-1000000≤x∧x≤1000000∧-1000000≤y∧y≤1000000:=by simpa [triB] using b
 unfold hasT at h;rw [Qx] at h;dsimp only at h;have c:=Xm (show 0≤k∧k≤3 from ⟨a.1,a.2.1⟩);have a1:=c1x_bd x k;have d:=c1y_bd y k;have a3:=c2x_bd x k;have a4:=c2y_bd y k;clear b;rcases c with rfl | rfl | rfl | rfl <;> simp only [Zt,Zs,Zp,Zo,Zn,Zm,Zl,Zk,Zj,Zi,Zh,Zg] at h <;> rcases h with ⟨rfl,rfl,rfl,rfl⟩ | ⟨rfl,rfl,rfl,rfl⟩ | ⟨rfl,rfl,rfl,rfl⟩ <;> constructor <;> omega
theorem sdR_is (p q r s x y k:Int):sdR (sdM p q r s (2*x+1) (2*y+1) (c1x x k) (c1y y k) (c2x x k) (c2y y k) 3)=(sd (p,q,r,s) (x,y,k):Int):=by
 have e:sdM p q r s (2*x+1) (2*y+1) (c1x x k) (c1y y k) (c2x x k) (c2y y k) 3=sdS (p,q,r,s) (x,y,k):=by
  simp only [sdM,sdS,crs];omega
 rw [e];unfold sdR sd;by_cases h:0<sdS (p,q,r,s) (x,y,k)
 ·rw [if_pos h,if_pos h];rfl
 ·rw [if_neg h,if_neg h];rfl
theorem side_any (w:World) (v0 h j v3:Value) (pa:Option Addr) (c d i:Nat) (pl:List T3) (p q r s:Int) (l:TRow w pa pl) (hi:i<pl.length) (n:c=pl.length) (a:triT (pl.getD i (0,0,0))=true) (b:hasT (pl.getD i (0,0,0)) (p,q,r,s)=true) (hs:Steps w) :
  Rt 142 #[.agg #[v0,h,j,v3,.slice pa c d],.agg #[I p,I q,I r,I s],I (i:Int)] w (I (sd (p,q,r,s) (pl.getD i (0,0,0)):Int)):=by
 obtain ⟨g,rfl,t0,e,f⟩:=l i hi;rw [Qz pl i hi] at a b ⊢;obtain ⟨x,y,k,o⟩:∃ x y k,pl[i]=(x,y,k):=⟨_,_,_,rfl⟩;rw [o] at t0 e f a b ⊢;have:=side_num w v0 h j v3 g c d i p q r s x y k _ _ _ _ _ _ (sdB_of a b) t0 e f γ (fun V m=>Corners_yes x y k V a (hs.kept m));rw [sdR_is] at this;exact this
def fdT (kd:Int) (tv:Bool) (a b:Nat):Nat×Nat:=if tv=decide (kd=2) then (b,a) else (a,b)
theorem foldedP_any (w:World) (v0 s t v4:Value) (l n o a b:Nat) (kd:Int) (M:Nat→M6) (p:MRow w l n M) (q:a<n) (r:n≤300) (h:mapM (M a)=true) :
  Rt 143 #[.agg #[v0,s,t,.slice (Az l) n o,v4],I kd,I (a:Int),I (b:Int)] w (.agg #[I ((fdT kd (tov (M a)) a b).1:Int),I ((fdT kd (tov (M a)) a b).2:Int)]):=by
 have k:=Hd (fun (V:World) hV=>turnedOver_any V v0 s t v4 l n o a M (p.kept hV) q r h);obtain ⟨tv,j⟩:∃ tv,tv=tov (M a):=⟨_,rfl⟩;rw [← j] at k ⊢;clear p q r h j;obtain ⟨g,d⟩:∃ g,g=decide (kd=2):=⟨_,rfl⟩;have u:(kd == 2)=g:=by rw [d];by_cases e:kd=2 <;> simp [e]
 by_cases hq:tv=g
 ·have i:Hid (fdT kd tv a b=(b,a)):=if_pos (by rw [hq,d]);have m:(tv == g)=true:=by simp [hq]
  generalize fdT kd tv a b=R at i ⊢;clear hq d;go_enter Tryz.func143,Tryz.ntmps143;go_wp2_with (go_at_call 126;(with_reducible refine (k.out _ Ψ).mono ?_);rintro e w1 ⟨rfl,c⟩;have r0:At w1 (w.heap.size+1) 0 (I 0):=Qa c δ;have r1:At w1 (w.heap.size+1) 1 (I 0):=Qa c δ;have f0:Fn w1 (w.heap.size+1) 0:=(c.frozen ξ).trans δ;have f1:Fn w1 (w.heap.size+1) 1:=(c.frozen ξ).trans δ;have z1:=Bt r0;have f:=Hd (Qc β2 c);clear c)
  refine bodyPost_ret (v:=.agg #[I (b:Int),I (a:Int)]) (by simp [results,Tryz.results143,go_sem, *]) rfl ⟨by rw [i.out], ?_⟩;with_reducible repeat' (first | exact f.out | refine Qb ?_ | refine Qh ?_ ?_)
  all_goals (dsimp only;omega)
 ·have i:Hid (fdT kd tv a b=(a,b)):=if_neg (by rw [← d];exact hq);have m:(tv == g)=false:=by simp [hq]
  generalize fdT kd tv a b=R at i ⊢;clear hq d;go_enter Tryz.func143,Tryz.ntmps143;go_wp2_with (go_at_call 126;(with_reducible refine (k.out _ Ψ).mono ?_);rintro e w1 ⟨rfl,c⟩;have r0:At w1 (w.heap.size+1) 0 (I 0):=Qa c δ;have r1:At w1 (w.heap.size+1) 1 (I 0):=Qa c δ;have f0:Fn w1 (w.heap.size+1) 0:=(c.frozen ξ).trans δ;have f1:Fn w1 (w.heap.size+1) 1:=(c.frozen ξ).trans δ;have z1:=Bt r0;have f:=Hd (Qc β2 c);clear c)
  refine bodyPost_ret (v:=.agg #[I (a:Int),I (b:Int)]) (by simp [results,Tryz.results143,go_sem, *]) rfl ⟨by rw [i.out], ?_⟩;with_reducible repeat' (first | exact f.out | refine Qb ?_ | refine Qh ?_ ?_)
  all_goals (dsimp only;omega)
structure Sam (w w':World) (R:Nat→Prop):Prop where
 size:w.heap.size≤w'.heap.size
 blk:∀ k,k<w.heap.size→¬ R k→w'.heap[k]?=w.heap[k]?
theorem Sam.cell {R:Nat→Prop} (h:Sam w w' R) {a:Addr} (b:w.cell? a=some v) (c:¬ R a.block):w'.cell? a=some v :=
 (World.cell?_of_block (h.blk a.block (World.block_lt_of_cell? w a b) c)).trans b
theorem Sam.refl (w:World) (R:Nat→Prop):Sam w w R:=⟨Nr _,fun _ _ _=>rfl⟩
theorem Sam.trans {w1 c:World} {R Q:Nat→Prop} (h1:Sam w w1 R) (h2:Sam w1 c Q):Sam w c (fun k=>R k∨Q k) :=
 ⟨Nt h1.size h2.size,fun k a b=>(h2.blk k (Nl a h1.size) fun q=>b (Or.inr q)).trans (h1.blk k a fun q=>b (Or.inl q))⟩
theorem Sam.mono {R Q:Nat→Prop} (h:Sam w w' R) (hq:∀ k,k<w.heap.size→R k→Q k):Sam w w' Q:=⟨h.size,fun k a b=>h.blk k a fun r=>b (hq k a r)⟩
theorem Sam.below {R:Nat→Prop} (h:Bl w w'):Sam w w' R:=⟨h.size,fun k a _=>h.block k a⟩
theorem Sam.grown {row:Option Nat} (h:w.grownBy w' row):Sam w w' (fun k=>row=some k):=⟨h.size,fun k a b=>h.block k a fun e=>b e.symm⟩
theorem Sam.own {R:Nat→Prop} {f:List Value} (h:Sam w w' R) (l:w.ownsRow base e k v n f) (j:∀ g,v.ownBlock=some g→¬ R g):w'.ownsRow base e k v n f:=by
 obtain ⟨d,h0 | ⟨g,a,b,rfl,i,c,h1,h2,h3,h4⟩⟩:=l
 ·exact ⟨d,Or.inl h0⟩
 ·exact ⟨d,Or.inr ⟨g,a,b,rfl,i,(h.blk g (Array.getElem?_eq_some_iff.1 c).1 (j g rfl)).trans c,h1,h2,h3,h4⟩⟩
theorem Sam.em {R:Nat→Prop} {c:Nat} {ls:List (E4×Value×Nat)} (h:Sam w w' R) (a:EM w r ls c) (b:¬ R r):EM w' r ls c:=(h.blk r (Array.getElem?_eq_some_iff.1 a).1 b).trans a
structure MD where
 a0:List Nat
 b0:List (Nat×Nat)
 a1:List Nat
 b1:List (Nat×Nat)
def mdZ:MD:=⟨[],[],[],[]⟩
def nV (l:List Nat):List Value:=l.map fun (i:Nat)=>I (i:Int)
def pV (l:List (Nat×Nat)):List Value:=l.flatMap fun p=>[I (p.1:Int),I (p.2:Int)]
theorem Vs (l:List Nat) (i:Nat):nV (l ++ [i])=nV l ++ [I (i:Int)]:=by simp [nV]
theorem pV_add (l:List (Nat×Nat)) (p:Nat×Nat):pV (l ++ [p])=pV l ++ [I (p.1:Int),I (p.2:Int)]:=by simp [pV]
structure Ow (w:World) (base:Nat) (s0 s1 s2 s3:Value) (D:MD):Prop where
 o0:w.ownsRow base 3 1 s0 D.a0.length (nV D.a0)
 o1:w.ownsRow base 216 2 s1 D.b0.length (pV D.b0)
 o2:w.ownsRow base 3 1 s2 D.a1.length (nV D.a1)
 o3:w.ownsRow base 216 2 s3 D.b1.length (pV D.b1)
 d0:∀ g,s0.ownBlock=some g→s2.ownBlock≠some g
 d1:∀ g,s1.ownBlock=some g→s3.ownBlock≠some g
def mtB (s0 s1 s2 s3:Value) (k:Nat):Prop:=s0.ownBlock=some k∨s1.ownBlock=some k∨s2.ownBlock=some k∨s3.ownBlock=some k
theorem Jn {s:Nat} {v':Value} {t d:List Value} (h:w.ownsRow base e k v n t) (o:w.ownsRow base j r v' s d) (c:e≠j):∀ g,v.ownBlock=some g→v'.ownBlock≠some g:=by
 intro g hg a;obtain ⟨_,⟨rfl,_⟩ | ⟨q,l,m,rfl,_,p,_⟩⟩:=h
 ·cases hg
 ·obtain ⟨_,⟨rfl,_⟩ | ⟨u,f,i,rfl,_,b,_⟩⟩:=o
  ·cases a
  ·simp only [Value.ownBlock,Option.some.injEq] at hg a;subst hg a;rw [p] at b;simp only [Option.some.injEq,Obj.cells.injEq] at b;exact c b.2.1
theorem ow_zero (w:World) (base:Nat):Ow w base SN SN SN SN mdZ :=
 ⟨World.ownsRow_nil _ _ _ _,World.ownsRow_nil _ _ _ _,World.ownsRow_nil _ _ _ _,World.ownsRow_nil _ _ _ _,(fun g h=>by cases h),(fun g h=>by cases h)⟩
theorem Ow.sam {R:Nat→Prop} {d f:Value} {D:MD} (h:Ow w base b c d f D) (hs:Sam w w' R) (a:∀ k,mtB b c d f k→¬ R k):Ow w' base b c d f D :=
 ⟨hs.own h.o0 fun g e=>a g (Or.inl e),hs.own h.o1 fun g e=>a g (Or.inr (Or.inl e)),hs.own h.o2 fun g e=>a g (Or.inr (Or.inr (Or.inl e))),hs.own h.o3 fun g e=>a g (Or.inr (Or.inr (Or.inr e))),h.d0,h.d1⟩
theorem Ow.low {a d:Value} {D:MD} (h:Ow w base a b c d D) (f:mtB a b c d k):base≤k∧k<w.heap.size:=by
 rcases f with e | e | e | e
 ·exact h.o0.lt k e
 ·exact h.o1.lt k e
 ·exact h.o2.lt k e
 ·exact h.o3.lt k e
theorem Sam.set (w:World) (b o:Nat) (u:Value):Sam w (w.setCell ⟨b,o,none⟩ u) (fun k=>k=b):=(Sam.grown (Ql w b o u)).mono fun k _ h=>by simpa using h.symm
theorem Sam.then {w1 a:World} {R Q:Nat→Prop} (h1:Sam w w1 R) (h2:Sam w1 a Q) (hq:∀ k,k<w.heap.size→Q k→R k):Sam w a R:=(h1.trans h2).mono fun k b h=>h.elim id (hq k b)
theorem Ow.put0 {d:World} {R:Nat→Prop} {j a:Value} {D:MD} (h:Ow w base j b a c D) (hs:Sam w d R) (h1:∀ g,b.ownBlock=some g→¬ R g) (h2:∀ g,a.ownBlock=some g→¬ R g) (h3:∀ g,c.ownBlock=some g→¬ R g) {l:List Nat} (i:d.ownsRow base 3 1 t l.length (nV l)) (f:∀ g,t.ownBlock=some g→a.ownBlock≠some g):Ow d base t b a c ⟨l,D.b0,D.a1,D.b1⟩ :=
 ⟨i,hs.own h.o1 h1,hs.own h.o2 h2,hs.own h.o3 h3,fun g e=>f g e,h.d1⟩
theorem Ow.put1 {d:World} {R:Nat→Prop} {j a:Value} {D:MD} (h:Ow w base b j c a D) (hs:Sam w d R) (h0:∀ g,b.ownBlock=some g→¬ R g) (h2:∀ g,c.ownBlock=some g→¬ R g) (h3:∀ g,a.ownBlock=some g→¬ R g) {l:List (Nat×Nat)} (i:d.ownsRow base 216 2 t l.length (pV l)) (f:∀ g,t.ownBlock=some g→a.ownBlock≠some g):Ow d base b t c a ⟨D.a0,l,D.a1,D.b1⟩ :=
 ⟨hs.own h.o0 h0,i,hs.own h.o2 h2,hs.own h.o3 h3,h.d0,fun g e=>f g e⟩
theorem Ow.put2 {d:World} {R:Nat→Prop} {a j:Value} {D:MD} (h:Ow w base a b j c D) (hs:Sam w d R) (h0:∀ g,a.ownBlock=some g→¬ R g) (h1:∀ g,b.ownBlock=some g→¬ R g) (h3:∀ g,c.ownBlock=some g→¬ R g) {l:List Nat} (i:d.ownsRow base 3 1 t l.length (nV l)) (f:∀ g,t.ownBlock=some g→a.ownBlock≠some g):Ow d base a b t c ⟨D.a0,D.b0,l,D.b1⟩ :=
 ⟨hs.own h.o0 h0,hs.own h.o1 h1,i,hs.own h.o3 h3,fun g e q=>f g q e,h.d1⟩
theorem Ow.put3 {d:World} {R:Nat→Prop} {a j:Value} {D:MD} (h:Ow w base b a c j D) (hs:Sam w d R) (h0:∀ g,b.ownBlock=some g→¬ R g) (h1:∀ g,a.ownBlock=some g→¬ R g) (h2:∀ g,c.ownBlock=some g→¬ R g) {l:List (Nat×Nat)} (i:d.ownsRow base 216 2 t l.length (pV l)) (f:∀ g,t.ownBlock=some g→a.ownBlock≠some g):Ow d base b a c t ⟨D.a0,D.b0,D.a1,l⟩ :=
 ⟨hs.own h.o0 h0,hs.own h.o1 h1,hs.own h.o2 h2,i,h.d0,fun g e q=>f g q e⟩
def mtF (D:MD) (near:Nat) (f:Nat×Nat):MD:=if near=0 then ⟨D.a0,D.b0 ++ [f],D.a1,D.b1⟩ else ⟨D.a0,D.b0,D.a1,D.b1 ++ [f]⟩
def mtO (D:MD) (near i j:Nat):MD:=if near=0 then ⟨D.a0 ++ [i],D.b0,D.a1 ++ [j],D.b1⟩ else ⟨D.a0 ++ [j],D.b0,D.a1 ++ [i],D.b1⟩
def mt (D:MD) (kd:Int) (tv:Bool) (near i j:Nat):MD:=if kd=0 then mtO D near i j else mtF D near (fdT kd tv i j)
def MtTo (w w':World) (base:Nat) (s0 s1 s2 s3:Value) (D:MD) (e:Ending):Prop := ∃ t0 t1 t2 t3,e=.returned (.agg #[t0,t1,t2,t3])∧Ow w' base t0 t1 t2 t3 D∧Sam w w' (mtB s0 s1 s2 s3)∧(∀ k,mtB t0 t1 t2 t3 k→mtB s0 s1 s2 s3 k∨w.heap.size≤k)∧Below base w w'
theorem mt_fold1 {o p c:World} {l m n:Value} {D:MD} {f:Nat×Nat} (a:Ow w base l b m n D) (x:Sam w o (fun k=>b.ownBlock=some k)) (z:o.ownsRow base 216 2 t (D.b0.length+1) (pV D.b0 ++ [I (f.1:Int),I (f.2:Int)])) (i:t.ownBlock=b.ownBlock∨t.ownBlock=some H1) (s:Sam o p (fun k=>k=N6)) (u:Sam p c (fun k=>k=Nt)) (h6:w.heap.size≤N6) (B:w.heap.size≤Nt) (A:N6<H1) (v:Nt<H1) (y:Below base w c):MtTo w c base l b m n ⟨D.a0,D.b0 ++ [f],D.a1,D.b1⟩ (.returned (.agg #[l,t,m,n])):=by
 have r:Sam w c (fun k=>b.ownBlock=some k):=(x.then s fun k d e=>by omega).then u fun k d e=>by omega
 have low:∀ g,t.ownBlock=some g→g<w.heap.size∨g=H1:=fun g e=>by
  rcases i with h | h
  ·rw [h] at e;exact Or.inl (a.o1.lt g e).2
  ·rw [h] at e;simp at e;exact Or.inr e.symm
 have j:c.ownsRow base 216 2 t (D.b0 ++ [f]).length (pV (D.b0 ++ [f])):=by
  rw [List.length_append,pV_add];exact u.own (s.own z fun g e q=>by have:=low g e;omega) fun g e q=>by have:=low g e;omega
 refine ⟨_,_,_,_,rfl,Ow.put1 a r (Jn a.o0 a.o1 ψ) (Jn a.o2 a.o1 ψ) (fun g e q=>a.d1 g q e) j (fun g e q=>by
   rcases i with h | h
   ·rw [h] at e;exact a.d1 g e q
   ·rw [h] at e;have:=(a.o3.lt g q).2;simp at e;omega),r.mono fun k _ h=>Or.inr (Or.inl h),fun k d=>?_,y⟩
 rcases d with e | e | e | e
 ·exact Or.inl (Or.inl e)
 ·rcases i with h | h
  ·rw [h] at e;exact Or.inl (Or.inr (Or.inl e))
  ·rw [h] at e;simp at e;exact Or.inr γ
 ·exact Or.inl (Or.inr (Or.inr (Or.inl e)))
 ·exact Or.inl (Or.inr (Or.inr (Or.inr e)))
theorem mt_fold3 {o p c:World} {l m n:Value} {D:MD} {f:Nat×Nat} (a:Ow w base l m n b D) (x:Sam w o (fun k=>b.ownBlock=some k)) (z:o.ownsRow base 216 2 t (D.b1.length+1) (pV D.b1 ++ [I (f.1:Int),I (f.2:Int)])) (i:t.ownBlock=b.ownBlock∨t.ownBlock=some H1) (s:Sam o p (fun k=>k=N6)) (u:Sam p c (fun k=>k=Nt)) (h6:w.heap.size≤N6) (B:w.heap.size≤Nt) (A:N6<H1) (v:Nt<H1) (y:Below base w c):MtTo w c base l m n b ⟨D.a0,D.b0,D.a1,D.b1 ++ [f]⟩ (.returned (.agg #[l,m,n,t])):=by
 have r:Sam w c (fun k=>b.ownBlock=some k):=(x.then s fun k d e=>by omega).then u fun k d e=>by omega
 have low:∀ g,t.ownBlock=some g→g<w.heap.size∨g=H1:=fun g e=>by
  rcases i with h | h
  ·rw [h] at e;exact Or.inl (a.o3.lt g e).2
  ·rw [h] at e;simp at e;exact Or.inr e.symm
 have j:c.ownsRow base 216 2 t (D.b1 ++ [f]).length (pV (D.b1 ++ [f])):=by
  rw [List.length_append,pV_add];exact u.own (s.own z fun g e q=>by have:=low g e;omega) fun g e q=>by have:=low g e;omega
 refine ⟨_,_,_,_,rfl,Ow.put3 a r (Jn a.o0 a.o3 ψ) (fun g e q=>a.d1 g e q) (Jn a.o2 a.o3 ψ) j (fun g e q=>by
   rcases i with h | h
   ·rw [h] at e;exact a.d1 g q e
   ·rw [h] at e;have:=(a.o1.lt g q).2;simp at e;omega),r.mono fun k _ h=>Or.inr (Or.inr (Or.inr h)),fun k d=>?_,y⟩
 rcases d with e | e | e | e
 ·exact Or.inl (Or.inl e)
 ·exact Or.inl (Or.inr (Or.inl e))
 ·exact Or.inl (Or.inr (Or.inr (Or.inl e)))
 ·rcases i with h | h
  ·rw [h] at e;exact Or.inl (Or.inr (Or.inr (Or.inr e)))
  ·rw [h] at e;simp at e;exact Or.inr γ
def ABv (bh:Nat):Value:=.func (.func 90) #[] #[.pointer (Az bh)]
def Hg (w:World) (bh N:Nat) (h:Nat→Int):Prop := ∃ gh oh ch,At w bh 0 (.slice (Ad gh oh) N ch)∧∀ i,i<N→At w gh (oh+i) (I (h i))
theorem Hg.kept {a N:Nat} {h:Nat→Int} (k:Hg w a N h) (b:Bl w w'):Hg w' a N h:=by
 obtain ⟨d,e,c,h1,h2⟩:=k;exact ⟨d,e,c,Qa b h1,fun i hi=>Qa b (h2 i hi)⟩
theorem Gj (w:World) (c N a b:Nat) (h:Nat→Int) (k:Hg w c N h) (i:a<N) (j:b<N) (_p:N≤300) :
  Rt 90 #[I (a:Int),I (b:Int),.pointer (Az c)] w (.bool (decide (h b<h a))):=by
 obtain ⟨o,u,n,h1,h2⟩:=k;have d:=h2 a i;have g:=h2 b j;obtain ⟨x,e⟩:∃ x,x=h a:=⟨_,rfl⟩;obtain ⟨y,f⟩:∃ y,y=h b:=⟨_,rfl⟩;rw [← e] at d ⊢;rw [← f] at g ⊢;clear e f h2;have q:(a:Int)<(N:Int):=γ;have r:(b:Int)<(N:Int):=γ;have s:(0:Int)≤(a:Int):=γ;have t:(0:Int)≤(b:Int):=γ;have z1:=Bt h1;have z2:=Bt d;go_enter Tryz.func90,Tryz.ntmps90;go_upto_region 1 with fail
 obtain ⟨l,m⟩:=kcn w;refine wk ?_;repeat (go_big_quiet_step (fail))
 refine kq1 (fun v hq=>?_);clear l m;go_wp2;go_ret;exact ⟨rfl,hq⟩
def arB (h:Nat→Int) (p:Nat×Nat) (i:Nat):Bool:=decide (h p.1<h i) != decide (h p.2<h i)
theorem Kc (w:World) (f N lo hi i:Nat) (h:Nat→Int) (l:Hg w f N h) (h0:lo<N) (h1:hi<N) (h2:i<N) (k:N≤300) :
  Rt 148 #[.agg #[I (lo:Int),I (hi:Int)],I (i:Int),ABv f] w (.bool (arB h (lo,hi) i)):=by
 have CA:Hid (∀ (a b:Nat) (V:World),a<N→b<N→Bl w V→Rt 90 #[I (a:Int),I (b:Int),.pointer (Az f)] V (.bool (decide (h b<h a)))):=fun a b V p q g=>Gj V f N a b h (l.kept g) p q k;clear l;obtain ⟨b1,d⟩:∃ b,b=decide (h lo<h i):=⟨_,rfl⟩;obtain ⟨b2,e⟩:∃ b,b=decide (h hi<h i):=⟨_,rfl⟩;have m:Hid (∀ V:World,Bl w V→Rt 90 #[I (i:Int),I (lo:Int),.pointer (Az f)] V (.bool b1)):=fun V g=>by rw [d];exact CA.out i lo V h2 h0 g
 have n:Hid (∀ V:World,Bl w V→Rt 90 #[I (i:Int),I (hi:Int),.pointer (Az f)] V (.bool b2)):=fun V g=>by rw [e];exact CA.out i hi V h2 h1 g
 have o:Hid (arB h (lo,hi) i=(b1 != b2)):=by rw [d,e];rfl
 clear d e CA h0 h1 h2 k;unfold ABv;go_enter Tryz.func148,Tryz.ntmps148;go_upto_region 1 with fail
 refine Qi (fun j hW0=>?_);have c:Hid (Bl w j):=γ4;have t:At j w.heap.size 0 (I (lo:Int)):=ν;have u:At j w.heap.size 1 (I (hi:Int)):=ν;have z0:=Bt t;clear hW0;obtain ⟨r,s⟩:=kcn j;refine wk ?_;repeat (go_big_quiet_step ((first | (go_at_call 90;(with_reducible exact Qf (m.out _ (Qc c.out (Kin.h _))))) | (go_at_call 90;(with_reducible exact Qf (n.out _ (Qc c.out (Kin.h _))))) | fail)))
 refine kq1 (fun v hq=>?_);clear r s;go_wp2;go_ret;exact ⟨Qv (by rw [o.out];cases b1 <;> cases b2 <;> rfl),Qc c.out hq⟩
theorem misCl_any (w:World) (c f N lo hi:Nat) (h:Nat→Int) (k:Hg w c N h) (g:At w f 0 (ABv c)) (h0:lo<N) (h1:hi<N) (i:N≤300) :
  Rt 150 #[.agg #[I (lo:Int),I (hi:Int)],.pointer (Az f)] w (.bool (decide (h hi<h lo))):=by
 have d:=Hd (fun (V:World) hV=>Gj V c N lo hi h (k.kept hV) h0 h1 i);obtain ⟨b1,a⟩:∃ b,b=decide (h hi<h lo):=⟨_,rfl⟩;rw [← a] at d ⊢;have m:=Bt g;clear a k h0 h1 i;unfold ABv at g;go_enter Tryz.func150,Tryz.ntmps150;go_wp2_with (go_at_call 90;(with_reducible refine (d.out _ Θ).mono ?_);rintro e w1 ⟨rfl,j⟩;have l:=Hd (Qc β1 j);clear j)
 go_ret;exact ⟨rfl,l.out⟩
theorem mt_on0 {x z y G v:World} {H2:Nat} {n f d:Value} {D:MD} (a:Ow w base n c f d D) (J:Sam w x (fun k=>n.ownBlock=some k)) (P:x.ownsRow base 3 1 t (D.a0.length+1) (nV D.a0 ++ [I (i:Int)])) (A:∀ g,t.ownBlock=some g→n.ownBlock=some g∨g=H1) (H:Sam x z (fun k=>k=N6))
  (r:Sam z y (fun k=>f.ownBlock=some k)) (B:y.ownsRow base 3 1 u (D.a1.length+1) (nV D.a1 ++ [I (j:Int)])) (l:∀ g,u.ownBlock=some g→f.ownBlock=some g∨g=H2) (p:Sam y G (fun k=>k=N6)) (K:Sam G v (fun k=>k=Nt)) (h6:w.heap.size≤N6) (T:w.heap.size≤Nt) (R:N6<H1) (L:Nt<H1) (M:H1<H2) (O:Below base w v) :
  MtTo w v base n c f d ⟨D.a0 ++ [i],D.b0,D.a1 ++ [j],D.b1⟩ (.returned (.agg #[t,c,u,d])):=by
 have m:∀ g,t.ownBlock=some g→g<w.heap.size∨g=H1:=fun g e=>(A g e).imp (fun h=>(a.o0.lt g h).2) id;have C:∀ g,u.ownBlock=some g→g<w.heap.size∨g=H2:=fun g e=>(l g e).imp (fun h=>(a.o2.lt g h).2) id
 have F:∀ g,t.ownBlock=some g→f.ownBlock≠some g:=fun g e q=>by
  rcases A g e with h | h
  ·exact a.d0 g h q
  ·have:=(a.o2.lt g q).2;omega
 have a1:Ow x base t c f d ⟨D.a0 ++ [i],D.b0,D.a1,D.b1⟩:=Ow.put0 a J (Jn a.o1 a.o0 ψ) (fun g e q=>a.d0 g q e) (Jn a.o3 a.o0 ψ) (by rw [List.length_append,Vs];exact P) F
 have E:∀ k,mtB t c f d k→k<w.heap.size∨k=H1:=fun k b=>by
  rcases b with e | e | e | e
  ·exact m k e
  ·exact Or.inl (a.o1.lt k e).2
  ·exact Or.inl (a.o2.lt k e).2
  ·exact Or.inl (a.o3.lt k e).2
 have o:Ow z base t c f d ⟨D.a0 ++ [i],D.b0,D.a1,D.b1⟩:=a1.sam H fun k b e=>by have:=E k b;omega
 have Q:∀ g,u.ownBlock=some g→t.ownBlock≠some g:=fun g e q=>by
  rcases l g e with h | h
  ·exact F g q h
  ·have:=m g q;omega
 have a3:Ow y base t c u d ⟨D.a0 ++ [i],D.b0,D.a1 ++ [j],D.b1⟩:=Ow.put2 o r (F) (Jn o.o1 o.o2 ψ) (Jn o.o3 o.o2 ψ) (by rw [List.length_append,Vs];exact B) Q
 have s:∀ k,mtB t c u d k→k<w.heap.size∨k=H1∨k=H2:=fun k b=>by
  rcases b with e | e | e | e
  ·exact (m k e).imp id Or.inl
  ·exact Or.inl (a.o1.lt k e).2
  ·exact (C k e).imp id Or.inr
  ·exact Or.inl (a.o3.lt k e).2
 have a4:Ow v base t c u d ⟨D.a0 ++ [i],D.b0,D.a1 ++ [j],D.b1⟩:=(a3.sam p fun k b e=>by have:=s k b;omega).sam K fun k b e=>by have:=s k b;omega
 have N:Sam w v (mtB n c f d):=((((J.mono fun k _ e=>(Or.inl e:mtB n c f d k)).then H fun k b e=>by omega).then r fun k _ e=>Or.inr (Or.inr (Or.inl e))).then p fun k b e=>by omega).then K fun k b e=>by omega
 refine ⟨_,_,_,_,rfl,a4,N,fun k b=>?_,O⟩;rcases b with e | e | e | e
 ·exact (A k e).imp (fun e=>Or.inl e) (fun h=>by omega)
 ·exact Or.inl (Or.inr (Or.inl e))
 ·exact (l k e).imp (fun e=>Or.inr (Or.inr (Or.inl e))) (fun h=>by omega)
 ·exact Or.inl (Or.inr (Or.inr (Or.inr e)))
theorem mt_on2 {x z y G v:World} {H2:Nat} {f n d:Value} {D:MD} (a:Ow w base f c n d D) (J:Sam w x (fun k=>n.ownBlock=some k)) (P:x.ownsRow base 3 1 t (D.a1.length+1) (nV D.a1 ++ [I (i:Int)])) (A:∀ g,t.ownBlock=some g→n.ownBlock=some g∨g=H1) (H:Sam x z (fun k=>k=N6))
  (r:Sam z y (fun k=>f.ownBlock=some k)) (B:y.ownsRow base 3 1 u (D.a0.length+1) (nV D.a0 ++ [I (j:Int)])) (l:∀ g,u.ownBlock=some g→f.ownBlock=some g∨g=H2) (p:Sam y G (fun k=>k=N6)) (K:Sam G v (fun k=>k=Nt)) (h6:w.heap.size≤N6) (T:w.heap.size≤Nt) (R:N6<H1) (L:Nt<H1) (M:H1<H2) (O:Below base w v) :
  MtTo w v base f c n d ⟨D.a0 ++ [j],D.b0,D.a1 ++ [i],D.b1⟩ (.returned (.agg #[u,c,t,d])):=by
 have m:∀ g,t.ownBlock=some g→g<w.heap.size∨g=H1:=fun g e=>(A g e).imp (fun h=>(a.o2.lt g h).2) id;have C:∀ g,u.ownBlock=some g→g<w.heap.size∨g=H2:=fun g e=>(l g e).imp (fun h=>(a.o0.lt g h).2) id
 have F:∀ g,t.ownBlock=some g→f.ownBlock≠some g:=fun g e q=>by
  rcases A g e with h | h
  ·exact a.d0 g q h
  ·have:=(a.o0.lt g q).2;omega
 have a1:Ow x base f c t d ⟨D.a0,D.b0,D.a1 ++ [i],D.b1⟩:=Ow.put2 a J (fun g e q=>a.d0 g e q) (Jn a.o1 a.o2 ψ) (Jn a.o3 a.o2 ψ) (by rw [List.length_append,Vs];exact P) F
 have E:∀ k,mtB f c t d k→k<w.heap.size∨k=H1:=fun k b=>by
  rcases b with e | e | e | e
  ·exact Or.inl (a.o0.lt k e).2
  ·exact Or.inl (a.o1.lt k e).2
  ·exact m k e
  ·exact Or.inl (a.o3.lt k e).2
 have o:Ow z base f c t d ⟨D.a0,D.b0,D.a1 ++ [i],D.b1⟩:=a1.sam H fun k b e=>by have:=E k b;omega
 have Q:∀ g,u.ownBlock=some g→t.ownBlock≠some g:=fun g e q=>by
  rcases l g e with h | h
  ·exact F g q h
  ·have:=m g q;omega
 have a3:Ow y base u c t d ⟨D.a0 ++ [j],D.b0,D.a1 ++ [i],D.b1⟩:=Ow.put0 o r (Jn o.o1 o.o0 ψ) (F) (Jn o.o3 o.o0 ψ) (by rw [List.length_append,Vs];exact B) Q
 have s:∀ k,mtB u c t d k→k<w.heap.size∨k=H1∨k=H2:=fun k b=>by
  rcases b with e | e | e | e
  ·exact (C k e).imp id Or.inr
  ·exact Or.inl (a.o1.lt k e).2
  ·exact (m k e).imp id Or.inl
  ·exact Or.inl (a.o3.lt k e).2
 have a4:Ow v base u c t d ⟨D.a0 ++ [j],D.b0,D.a1 ++ [i],D.b1⟩:=(a3.sam p fun k b e=>by have:=s k b;omega).sam K fun k b e=>by have:=s k b;omega
 have N:Sam w v (mtB f c n d):=((((J.mono fun k _ e=>(Or.inr (Or.inr (Or.inl e)):mtB f c n d k)).then H fun k b e=>by omega).then r fun k _ e=>Or.inl e).then p fun k b e=>by omega).then K fun k b e=>by omega
 refine ⟨_,_,_,_,rfl,a4,N,fun k b=>?_,O⟩;rcases b with e | e | e | e
 ·exact (l k e).imp (fun e=>Or.inl e) (fun h=>by omega)
 ·exact Or.inl (Or.inr (Or.inl e))
 ·exact (A k e).imp (fun e=>Or.inr (Or.inr (Or.inl e))) (fun h=>by omega)
 ·exact Or.inl (Or.inr (Or.inr (Or.inr e)))
def tgn (L:List T3) (R:List Nat):List T3:=R.map fun j=>L.getD j (0,0,0)
theorem tgn_take {R:List Nat} (hi:i<R.length):tgn L (R.take (i+1))=tgn L (R.take i) ++ [L.getD R[i] (0,0,0)]:=by
 unfold tgn;rw [List.take_add_one,List.getElem?_eq_getElem hi,List.map_append];rfl
def NRow (w:World) (g o:Nat) (R:List Nat):Prop := ∀ i (h:i<R.length),At w g (o+i) (I ((R[i]:Nat):Int))
theorem NRow.kept {o:Nat} {R:List Nat} (h:NRow w g o R) (a:Bl w w'):NRow w' g o R:=fun i hi=>Qa a (h i hi)
theorem Yc (w:World) (u:Value) (T:TypeId):∀ j z,[u][j]?=some z→(w.alloc (.cells #[u] T)).cell? ((⟨w.heap.size,0,none⟩:Addr).add j)=some z:=by
 intro j z a;match j,a with
 | 0,a=>simp at a;subst a;simp [Addr.add,go_sem]
theorem Qp {P:Program} {c:Array Oper} {o:Oper} {a:Act} {K:Act→World→Prop} {Q:Exit→Act→World→Prop} {E:Prop} {R:Ending→World→Prop} (d:o.guard=none)
  (f:FuncId) (args:Array Value) (b:(execOp a.eval o).run P w=.ok (.enter f args) w) (i:Calls P f args w R) (h:∀ e w',R e w'→∃ v,e=.returned v∧K (a.put o.dst v) w') :
  if Region.wanted o (yielded c a.tmps)=true then Oper.wp P o a w K Q else E:=by
 have l:Region.wanted o (yielded c a.tmps)=true:=by simp [Region.wanted,d]
 rw [if_pos l];unfold Oper.wp;rw [b,Oper.upon_enter];refine i.mono fun e g j=>?_;obtain ⟨v,rfl,k⟩:=h e g j;exact k
theorem named_any (w:World) (m:Option Addr) (n r s p o q Q on cn:Nat) (pa:Option Addr) (L:List T3) (R:List Nat) (hT:TRow w m L) (V:NRow w Q on R) (W:∀ j∈R,j<L.length) (a2:R.length≤300) (_hL:L.length≤300) :
  Cl 101 #[pileV m L.length n r s p o pa q,.slice (Ad Q on) R.length cn] w fun e w'=>∃ a c,e=.returned (.slice a R.length c)∧TRow w' a (tgn L R)∧Bl w w'∧∀ g,a=Az g→w.heap.size≤g∧g<w'.heap.size:=by
 have P:Hid (TRow w m L∧NRow w Q on R∧∀ j∈R,j<L.length):=⟨hT,V,W⟩;obtain ⟨X,N,u,z,A⟩:=info_parts inf23;have t:=H4 N u z A;clear hT V W N u z A;unfold pileV;go_enter Tryz.func101,Tryz.ntmps101;go_wp2_with (at_make;refine wpList_make_own _ rfl (.const (I 0)) (.tmp 9) 55 rfl (w.heap.size+1) 39 X (.agg #[I 0,I 0,I 0]) 3 Tryz.underlying55 t.out.1 t.out.2.1 t.out.2.2.1 .i64 .i64 _ R.length rfl rfl rfl (by rw [t.out.2.2.2];omega) Ξ ξ ?mk)
 case mk =>
  intro w1 b M;have K:Below (w.alloc (.cells #[.slice m L.length n,.map (some r),.map (some s),.slice (Az p) L.length o,.slice pa L.length q] 61)).heap.size (w.alloc (.cells #[.slice m L.length n,.map (some r),.map (some s),.slice (Az p) L.length o,.slice pa L.length q] 61)) w1:=(Below.refl _ _).grown M (Nr _) (fun k h=>by cases h);have B:Hid (Below (w.alloc (.cells #[.slice m L.length n,.map (some r),.map (some s),.slice (Az p) L.length o,.slice pa L.length q] 61)).heap.size (w.alloc (.cells #[.slice m L.length n,.map (some r),.map (some s),.slice (Az p) L.length o,.slice pa L.length q] 61)) w1∧w1.ownsRow (w.heap.size+1) 39 3 (.slice (Az (w.heap.size+1)) 0 R.length) 0 []):=⟨K,by simpa using b⟩;clear b M K;go_wp2;go_loopg [5,13] R.length (fun gk s5 U wx=>∃ (i:Nat) (v:Value),i≤R.length∧gk=R.length - i∧v=s5∧U=I (i:Int)∧wx.ownsRow (w.heap.size+1) 39 3 v i (flatV (tgn L (R.take i)))∧Below (w.alloc (.cells #[.slice m L.length n,.map (some r),.map (some s),.slice (Az p) L.length o,.slice pa L.length q] 61)).heap.size (w.alloc (.cells #[.slice m L.length n,.map (some r),.map (some s),.slice (Az p) L.length o,.slice pa L.length q] 61)) wx)
  case atStart=>exact ⟨0,_,γ,rfl,rfl,rfl,by simpa [tgn,flatV] using B.out.2,B.out.1⟩
  case round =>
   clear B;obtain ⟨i,v,hi,rfl,rfl,rfl,C,J⟩:=hrel;have O:=Hd (Qc β1 J);have p0:At wr w.heap.size 0 (.slice m L.length n):=Qa J δ;have zp:=Bt p0;have F:=H2 C J;have zw:w.heap.size+1≤wr.heap.size:=by have:=J.size;simp at this;omega
   clear C J;by_cases h1:i<R.length
   ·have i1:(i:Int)<(R.length:Int):=γ;have i0:(0:Int)≤(i:Int):=γ;have r0:=Qa O.out (P.out.2.1 i h1);have zn:=Bt r0;have T:=P.out.2.2 R[i] (Lm h1);obtain ⟨j,D⟩:∃ j,j=R[i]:=⟨_,rfl⟩;rw [← D] at r0 T;have j1:(j:Int)<(L.length:Int):=γ;have j0:(0:Int)≤(j:Int):=γ;obtain ⟨H,rfl,t0,Y,Z⟩:=(P.out.1.kept O.out) j T;obtain ⟨x,y,k,E⟩:∃ x y k,L[j]=(x,y,k):=⟨_,_,_,rfl⟩
    have HE:Hid (tgn L (R.take (i+1))=tgn L (R.take i) ++ [(x,y,k)]):=by
     have:tgn L (R.take (i+1))=tgn L (R.take i) ++ [(x,y,k)]:=by
      rw [tgn_take h1,← D,List.getD_eq_getElem?_getD,List.getElem?_eq_getElem T,← E];rfl
     exact this
    rw [E] at t0 Y Z;dsimp only at t0 Y Z;have zt:=Bt t0;clear D E;go_wp2_with (at_builtin;refine wpList_append_own _ rfl (.tmp 17) (.tmp 24) 55 rfl (w.heap.size+1) 39 X (.agg #[I 0,I 0,I 0]) 3 24 Tryz.underlying55 t.out.1 t.out.2.1 t.out.2.2.1 t.out.2.2.2 rfl ψ v i (flatV (tgn L (R.take i))) rfl (Qj F.out.1 β1) ⟨wr.heap.size,0,none⟩ 1 1 [I x,I y,I k] rfl rfl (Xg wr x y k) (Uq x y k) Ξ γ ω ?grow)
    case grow =>
     intro v' w3 b d _
     have G:Hid (w3.ownsRow (w.heap.size+1) 39 3 v' (i+1) (flatV (tgn L (R.take (i+1))))∧Below (w.alloc (.cells #[.slice (Az H) L.length n,.map (some r),.map (some s),.slice (Az p) L.length o,.slice pa L.length q] 61)).heap.size (w.alloc (.cells #[.slice (Az H) L.length n,.map (some r),.map (some s),.slice (Az p) L.length o,.slice pa L.length q] 61)) w3):=by
      refine ⟨?_, ?_⟩
      ·rw [HE.out,Xr];exact b
      ·refine (Qb F.out.2).grown d (Qb F.out.2).size (fun k hk=>?_);have:=Qw F.out.1 k hk;simp;omega
     clear b d;go_wp2;go_roundg (R.length - (i+1))
     case measure=>omega
     case rel=>exact ⟨i+1,_,γ,rfl,rfl,σ,G.out.1,G.out.2⟩
   ·have i1:¬ (i:Int)<(R.length:Int):=γ;obtain rfl:i=R.length:=γ;have C:=F.out.1;rw [List.take_length] at C;have f:(tgn L R).length=R.length:=by simp [tgn]
    obtain ⟨a,c,rfl,hT⟩:=Xc (l:=tgn L R) (by rw [f];exact C)
    have HT:Hid (TRow wr a (tgn L R)∧Bl w wr∧∀ g,a=Az g→w.heap.size≤g∧g<wr.heap.size):=⟨hT,O.out,fun g e=>by
     have:=C.lt g (by rw [e];rfl);exact ⟨γ,this.2⟩⟩
    rw [f];clear C hT F O f;go_wp2;go_ret;exact ⟨a,⟨c,rfl⟩,HT.out⟩
end Go.Proofs.YtjkjpopghkeibaaGreatDoor
