/- A part of it. -/
import Derived.Test.YtbjmnlefkbhbdaaGreatDoorQlal
import Derived.Test.YtbjmnlefkbhbdaaGreatDoorQlan
set_option maxRecDepth 100000
set_option maxHeartbeats 40000000
namespace Go.Proofs.YtbjmnlefkbhbdaaGreatDoor
open Go.RowKit
variable {L:List T3} {w w':World} {b base d e g i k m n r:Nat} {a pa:Option Addr} {M:Nat→M6} {f:Nat→Int} {c:List Int}
def Seen (L:List T3) (f:Nat→Int) (A:List T3):Prop := ∀ i (h:i<L.length),(0≤f i↔L[i]∈A)∧(f i=-1∨0≤f i)
def plF (pl:List T3) (i:Nat):Int×Int×Int:=pl.getD i (0,0,0)
theorem seen_start (L:List T3):Seen L (fun _=>-1) []:=fun i h=>⟨ν,Or.inl rfl⟩
theorem Seen.more {A:List T3} (c:L.Nodup) (h:Seen L f A) (hi:i<L.length) (k:Nat):Seen L (fun j=>if j=i then (k:Int) else f j) (A ++ [L[i]]):=fun j b=>by
 by_cases e:j=i
 ·subst e;simp
 ·have a:L[j]≠L[i]:=fun q=>e (Xl c b hi q);simp only [if_neg e,List.mem_append,List.mem_singleton,a,or_false];exact h j b
structure HgW (WE wx:World) (g n:Nat) (f:Nat→Int) (B:Nat) (x y k:Int) (v:Value):Prop where
 z:ZRow wx g n f
 bel:Bl WE wx
 b0:At wx B 0 (I x)
 b1:At wx B 1 (I y)
 b2:At wx B 2 (I k)
 b3:At wx B 3 v
theorem HgW.kept {a b:World} {B:Nat} {x y k:Int} {v:Value} (h:HgW a b g n f B x y k v) (hb:Bl b w'):HgW a w' g n f B x y k v :=
 ⟨h.z.kept hb,Qb h.bel hb,Qa hb h.b0,Qa hb h.b1,Qa hb h.b2,Qa hb h.b3⟩
theorem HgW.put {b c:World} {B:Nat} {x y k:Int} {v:Value} (h:HgW b c g n f B x y k v) (hg:b.heap.size≤g) (a:B≠g) (hi:i<n) (u:Int):HgW b (c.setCell ⟨g,i,none⟩ (I u)) g n (fun j=>if j=i then u else f j) B x y k v :=
 ⟨h.z.set u hi,h.bel.setCell (p:=⟨g,i,none⟩) hg _,Jt h.b0 a,Jt h.b1 a,Jt h.b2 a,Jt h.b3 a⟩
def MOk1 (L:List T3) (M:Nat→M6) (i:Nat):Prop:=mapM (M i)=true∧triT (mvt (M i) (L.getD i (0,0,0)))=true
def MOk (kd:E4→Int) (L:List T3) (M:Nat→M6):Prop:=(∀ i,i<L.length→MOk1 L M i)∧∀ i,i<L.length→FitI kd L M i
theorem fit_bool (kd:E4→Int) (L:List T3) (M:Nat→M6):∃ bf:Bool,Hid (bf=true↔∀ i,i<L.length→FitI kd L M i)∧∀ W w' e,FitTo kd L M W w' e→e=.returned (.bool bf)∧Bl W w':=by
 by_cases q:∀ i,i<L.length→FitI kd L M i
 ·refine ⟨true, ?_,fun W w' e h=>?_⟩
  ·have:true=true↔∀ i,i<L.length→FitI kd L M i:=⟨fun _=>q,fun _=>rfl⟩;exact this
  ·obtain ⟨⟨b,c,hb⟩,a⟩:=h;exact ⟨by rw [c,hb.2 q],a⟩
 ·refine ⟨false, ?_,fun W w' e h=>?_⟩
  ·have:false=true↔∀ i,i<L.length→FitI kd L M i:=⟨fun h=>(by cases h),fun h=>absurd h q⟩;exact this
  ·obtain ⟨⟨b,c,hb⟩,a⟩:=h
   cases b
   ·exact ⟨c,a⟩
   ·exact absurd (hb.1 rfl) q
def SprTo (w w':World) (ad:Option Addr) (cc ra rk gm cm:Nat) (L:List T3) (kd:E4→Int) (M:Nat→M6) (e:Ending):Prop :=
 (∃ z0 k0 d0 m1 m2 z3 k3 d3 z4 k4 d4,e=.returned (.tuple #[.agg #[.slice z0 k0 d0,.map m1,.map m2,.slice z3 k3 d3,.slice z4 k4 d4],.bool false])∧¬ MOk kd L M∧Bl w w')
 ∨ (∃ pa pc,e=.returned (.tuple #[.agg #[.slice ad L.length cc,.map (some ra),.map (some rk),.slice (Az gm) L.length cm,.slice pa L.length pc],.bool true])∧MOk kd L M∧TRow w' pa (pls L M L.length)∧Bl w w')
theorem sprTo_of {b:Option Addr} {c j pc:Nat} {kd:E4→Int} {a:Bool} (h1:a=true↔∀ i,i<L.length→FitI kd L M i) (h2:∀ i,i<L.length→MOk1 L M i) (k:TRow w' pa (pls L M L.length)) (f:Bl w w'):SprTo w w' b c g j e d L kd M (.returned (.tuple #[.agg #[.slice b L.length c,.map (some g),.map (some j),.slice (Az e) L.length d,.slice pa L.length pc],.bool a])):=by
 cases a
 ·exact Or.inl ⟨_,_,_,_,_,_,_,_,_,_,_,rfl,fun h=>by simpa using h1.2 h.2,f⟩
 ·exact Or.inr ⟨_,_,rfl,⟨h2,h1.1 rfl⟩,k,f⟩
theorem Vj (w:World) (T O P r cm:Nat) (J:Option Addr) (L:List T3) (kd:E4→Int) (M:Nat→M6) (hs:Steps w) (ae:PA w J O L) (hK:KL w P kd) (hL:L.length≤300) (H:∀ t∈L,(0≤t.1∧t.1≤8)∧(0≤t.2.1∧t.2.1≤8)∧(0≤t.2.2∧t.2.2≤3)) (hM:MRow w r L.length M) :
  Cl 39 #[.agg #[.slice J L.length T,.map (some O),.map (some P)],.slice (Az r) L.length cm] w fun e w'=>SprTo w w' J T O P r cm L kd M e:=by
 have CF:Hid (∀ (m:World) (pa:Option Addr) (pn pc:Nat),Bl w m→(∀ i,i<L.length→mapM (M i)=true)→Cl 83 #[.agg #[.slice J L.length T,.map (some O),.map (some P),.slice (Az r) L.length cm,.slice pa pn pc]] m fun e w'=>FitTo kd L M m w' e):=fun m pa pn pc l hG=>fits_gen m T O P r cm J pa pn pc L kd M (hs.kept l) (ae.kept l) (hK.kept l) hL H (hM.kept l) hG
 have CM:Hid (∀ (i:Nat) (hi:i<L.length),∃ X Y K N:Int,((N=0∧MOk1 L M i∧mvt (M i) L[i]=(X,Y,K))∨(N≠0∧¬ MOk1 L M i))∧∀ m:World,Bl w m→Rt 8 #[.agg #[I (M i).1,I (M i).2.1,I (M i).2.2.1,I (M i).2.2.2.1,I (M i).2.2.2.2.1,I (M i).2.2.2.2.2],.agg #[I L[i].1,I L[i].2.1,I L[i].2.2]] m (.tuple #[.agg #[I X,I Y,I K],I N])):=fun i hi=>by
  by_cases z:MOk1 L M i
  ·have p:=z;unfold MOk1 at p;rw [Qq L i hi] at p;exact ⟨(mvt (M i) L[i]).1,(mvt (M i) L[i]).2.1,(mvt (M i) L[i]).2.2,0,Or.inl ⟨rfl,z,rfl⟩,fun m l=>Move_in (M i) L[i] m p.1 (H _ (Lm hi)) (hs.kept l) p.2⟩
  ·have p:=z;unfold MOk1 at p;rw [Qq L i hi] at p;by_cases hm:mapM (M i)=true
   ·obtain ⟨h1,h2,h3,h4,h5,h7⟩:=mvt_gen (a:=(M i).1) (b:=(M i).2.1) (c:=(M i).2.2.1) (d:=(M i).2.2.2.1) (e:=(M i).2.2.2.2.1) (f:=(M i).2.2.2.2.2) hm (H _ (Lm hi)).1 (H _ (Lm hi)).2.1 (H _ (Lm hi)).2.2 (X:=(mvt (M i) L[i]).1) (Y:=(mvt (M i) L[i]).2.1) (K:=(mvt (M i) L[i]).2.2) rfl
    have ht:triT (mvt (M i) L[i])=false:=by
     cases q:triT (mvt (M i) L[i])
     ·rfl
     ·exact absurd ⟨hm,q⟩ p
    exact ⟨0,0,0,2,Or.inr ⟨τ,z⟩,fun m l=>Move_no _ _ _ _ _ _ _ _ _ _ _ _ m hm h7 h1 h2 h3 h4 h5 ht (hs.kept l)⟩
   ·have bt:mapB (M i).1 (M i).2.1 (M i).2.2.1 (M i).2.2.2.1 (M i).2.2.2.2.1 (M i).2.2.2.2.2=false:=by simpa [mapM] using hm
    exact ⟨0,0,0,3,Or.inr ⟨τ,z⟩,fun m l=>Move_out _ _ _ _ _ _ _ _ _ m (Or.inl bt)⟩
 have HR:=H2 ae.1 hM;obtain ⟨i3,b8,a8,aa,ab⟩:=info_parts inf23;have HI:=H4 b8 a8 aa ab;have qn:((L.length:Int) != (L.length:Int))=false:=ν;clear hs ae hK H hM b8 a8 aa ab;go_enter Tryz.func39,Tryz.ntmps39;go_wp2;go_loopg [24] L.length (fun gk bv wx=>∃ (i:Nat) (v:Value),i≤L.length∧gk=L.length - i∧bv=I (i:Int)∧(∀ i',i'<i→MOk1 L M i')∧SpB ((w.alloc (.cells #[.slice J L.length T,.map (some O),.map (some P)] 65)).alloc (.cells #[SN,.map none,.map none,SN,SN] 67)) wx (w.heap.size+1+1) J L.length T O P r cm v (pls L M i))
 case atStart=>exact ⟨0,SN,γ,rfl,rfl,fun i' bs=>by omega,⟨ζ,ζ,ζ,ζ,ζ,ζ,⟨by simp [pls,flatV],.inl ⟨rfl,by simp [pls]⟩⟩,ν,Qc (Qd _)⟩⟩
 case round =>
  obtain ⟨i,v,hi,rfl,rfl,az,hS⟩:=hrel;have ac:=Hd az;clear az;have s:=Hd hS;have HB:=Hd (Qb β2 hS.bel);have zB:=hS.lt;clear hS;by_cases h1:i<L.length
  ·have i1:(i:Int)<(L.length:Int):=γ;have i0:(0:Int)≤(i:Int):=γ;obtain ⟨d6,rfl,t0,t1,t2⟩:=HR.out.1 i h1;replace t0:=Qa HB.out t0;replace t1:=Qa HB.out t1;replace t2:=Qa HB.out t2;have zt:=Bt t0;obtain ⟨⟨y0,y1,y2,y3,y4,y5⟩,_⟩:=HR.out.2 i h1;obtain ⟨A,B,C,D,E,F,ag⟩:∃ A B C D E F,M i=(A,B,C,D,E,F):=⟨_,_,_,_,_,_,rfl⟩;obtain ⟨x,y,k,ai⟩:∃ x y k,L[i]=(x,y,k):=⟨_,_,_,rfl⟩;obtain ⟨X,Y,K,N,b6,b7⟩:=CM.out i h1
   have bi:Hid ((N=0∧MOk1 L M i∧pls L M (i+1)=pls L M i ++ [(X,Y,K)])∨(N≠0∧¬ MOk1 L M i)):=by
    have:(N=0∧MOk1 L M i∧pls L M (i+1)=pls L M i ++ [(X,Y,K)])∨(N≠0∧¬ MOk1 L M i):=by
     rcases b6 with ⟨bn,bo,bp⟩ | h
     ·exact Or.inl ⟨bn,bo,by rw [pls_succ,← bp,Qq L i h1]⟩
     ·exact Or.inr h
    exact this
   clear b6
   have ak:Hid (∀ m:World,Bl wr m→Rt 8 #[.agg #[I A,I B,I C,I D,I E,I F],.agg #[I x,I y,I k]] m (.tuple #[.agg #[I X,I Y,I K],I N])):=fun m l=>by
    have h:=b7 m (Qb HB.out l);rw [ag,ai] at h;exact h
   rw [ag] at y0 y1 y2 y3 y4 y5;rw [ai] at t0 t1 t2;dsimp only at y0 y1 y2 y3 y4 y5 t0 t1 t2;clear b7 ag ai;go_wp2;refine Qj (fun R hW0=>?_)
   have a2:Hid (Bl wr R):=by
    have:Bl wr R:=Θ;exact this
   obtain ⟨B9,U⟩:∃ b,b=wr.heap.size:=⟨_,rfl⟩;have x0:At R B9 0 (I x):=by rw [hW0,U];simp [go_sem]
   have x1:At R B9 1 (I y):=by rw [hW0,U];simp [go_sem]
   have x2:At R B9 2 (I k):=by rw [hW0,U];simp [go_sem]
   clear hW0;rw [← U];clear U;have G:=Qb HB.out a2.out;replace y0:=Qa G y0;replace y1:=Qa G y1;replace y2:=Qa G y2;replace y3:=Qa G y3;replace y4:=Qa G y4;replace y5:=Qa G y5;have bz:=Bt y0;have c5:=Bt x0;have aj:Hid (∀ m:World,Bl R m→Rt 8 #[.agg #[I A,I B,I C,I D,I E,I F],.agg #[I x,I y,I k]] m (.tuple #[.agg #[I X,I Y,I K],I N])):=fun m l=>ak.out m (Qb a2.out l);clear G t0 t1 t2 zt;go_cut [9,10] (fun s9 bu wx=>∃ g9:Nat,s9=.pointer (Az g9)∧bu=I N∧(At wx g9 0 (I X)∧At wx g9 1 (I Y)∧At wx g9 2 (I K))∧Bl R wx)
   case first =>
    go_region_held3 (fun w'=>At w' r (i*6) (I A)∧At w' r (i*6+1) (I B)∧At w' r (i*6+2) (I C)∧At w' r (i*6+3) (I D)∧At w' r (i*6+4) (I E)∧At w' r (i*6+5) (I F)∧At w' B9 0 (I x)∧At w' B9 1 (I y)∧At w' B9 2 (I k))
     ((refine ⟨?_, ?_, ?_, ?_, ?_, ?_, ?_, ?_, ?_⟩ <;> (repeat' (first | (with_reducible assumption) | (with_reducible refine Jt ?_ ?_) | (dsimp only;omega) | (simp [go_sem];done) | (with_reducible refine Ql ?_) | (with_reducible refine Qi ?_)))))
     ((go_at_call 8;refine (aj.out _ Ξ).mono ?_;rintro e n ⟨rfl,hb⟩;have bb:At n r (i*6) (I A):=Qa hb δ;have cu:At n r (i*6+1) (I B):=Qa hb δ;have cw:At n r (i*6+2) (I C):=Qa hb δ;have cx:At n r (i*6+3) (I D):=Qa hb δ;have cy:At n r (i*6+4) (I E):=Qa hb δ;have cz:At n r (i*6+5) (I F):=Qa hb δ;have ba:At n B9 0 (I x):=Qa hb δ;have cq:At n B9 1 (I y):=Qa hb δ;have ct:At n B9 2 (I k):=Qa hb δ;(first | (have V:=Uh (g:=R.heap.size) rfl hb;obtain ⟨⟨ap,aq,ar⟩,⟨au,av,aw⟩,ax⟩:=V) | (have V:=fresh3_d (g:=R.heap.size) rfl hb;obtain ⟨⟨ap,aq,ar⟩,⟨au,av,aw⟩,ax⟩:=V) | (have V:=fresh3_dd (g:=R.heap.size) rfl hb;obtain ⟨⟨ap,aq,ar⟩,⟨au,av,aw⟩,ax⟩:=V) | skip);have hq:Bl R n:=(by with_reducible (first | exact hb | exact Qw hb | exact Qw (Qw hb) | exact Qb β1 hb | exact Qb (Qe β1) hb | exact Qb (Qc (Qe (Qd _))) hb | exact Qb (Qe (Qc (Qe (Qd _)))) hb | exact Qb (Qe (Qe β1)) hb | exact Qb (Qc (Qe (Qe (Qd _)))) hb));have a6:=Hd hq;have c6:=Bt bb;have c7:=Bt ba;have d8:=hq.size;clear hb hq))
    all_goals
     go_wp2;go_meet
     case rel =>
      refine ⟨_,rfl,rfl, ?_, ?_⟩
      ·first | (simp [go_sem];done) | (simp [go_sem, *];done)
      ·with_reducible repeat' (first | exact a6.out | refine Qk ?_ ?_ | refine Qc ?_ | refine Qe ?_)
       all_goals (first | omega | (dsimp only;omega) | (simp;done))
   case rest =>
    obtain ⟨g9,rfl,rfl,⟨e0,e1,e2⟩,ay⟩:=hcut;have Q:=Hd (s.out.kept (Qb a2.out ay));have z9:=Bt e0;have c4:=Q.out.c4;have bw:=Q.out.lt;clear s HB a2 ak aj ay y0 y1 y2 y3 y4 y5 x0 x1 x2 bz c5 zB;rcases bi.out with af | af
    ·obtain ⟨a7,z,hP⟩:=af;subst a7;have HP:=Hd hP
     have bk:Hid (∀ i',i'<i+1→MOk1 L M i'):=fun i' bs=>by
      by_cases e:i'=i
      ·exact e ▸ z
      ·exact ac.out i' γ
     clear hP z;have d7:w.heap.size+1+1+1≤wc.heap.size:=γ;have am:=Hd (Qu L M i)
     have HO:Hid (wc.ownsRow (w.heap.size+1+1+1) 44 3 v i (flatV (pls L M i))):=by
      have:=Q.out.own;rw [am.out] at this;exact this
     go_wp2_with (at_builtin;refine wpList_append_own _ rfl (.tmp 42) (.tmp 44) 40 rfl (w.heap.size+1+1+1) 44 i3 (.agg #[I 0,I 0,I 0]) 3 24 Tryz.underlying40 HI.out.1 HI.out.2.1 HI.out.2.2.1 HI.out.2.2.2 rfl τ v i (flatV (pls L M i)) rfl (Qh HO.out β1) ⟨wc.heap.size,0,none⟩ 1 1 [I X,I Y,I K] rfl rfl (Jq wc X Y K) (Zd X Y K) Γ γ ψ ?grow)
     case grow =>
      intro v' w3 W u _
      obtain ⟨gv,cv,rfl⟩:∃ gv cv,v'=.slice (Az gv) (i+1) cv:=by
       rcases W.2 with ⟨_,h0⟩ | ⟨gv,cv,_,h,_⟩
       ·omega
       ·exact ⟨gv,cv,h⟩
      have hk:=Q.out.kept (Qc (o:=.cells #[I X,I Y,I K] 44) (Qd wc));have hN:=hk.more (t:=(X,Y,K)) u (by rw [am.out];exact W);rw [← HP.out] at hN;have HN:=(show Hid _ from hN)
      have ah:some (w.heap.size+1+1)≠v.ownBlock:=fun e=>by
       have:=Qn hk.own _ e.symm;omega
      have d4:=u.cell hk.c4 ah;have k4:Fn w3 (w.heap.size+1+1) 4:=(Fo (a:=⟨w.heap.size+1+1,4,none⟩) (u.block _ hk.lt ah)).trans hk.f4;have z3:=Bt d4;clear W u hk hN ah;go_wp2;go_roundg (L.length - (i+1))
      case measure=>omega
      case rel=>exact ⟨i+1,_,γ,rfl,σ,bk.out,HN.out⟩
    ·obtain ⟨a7,b9⟩:=af;have qc:(N != 0)=true:=by simpa using a7
     have j:=Q.out.bel;have d0:At wc (w.heap.size+1) 0 SN:=Qa j ζ;have d1:At wc (w.heap.size+1) 1 (.map none):=Qa j ζ;have d2:At wc (w.heap.size+1) 2 (.map none):=Qa j ζ;have d3:At wc (w.heap.size+1) 3 SN:=Qa j ζ;have d4:At wc (w.heap.size+1) 4 SN:=Qa j ζ;have Z:=Bt d0;have k0:Fn wc (w.heap.size+1) 0:=(j.frozen ν).trans ζ;have k1:Fn wc (w.heap.size+1) 1:=(j.frozen ν).trans ζ;have k2:Fn wc (w.heap.size+1) 2:=(j.frozen ν).trans ζ;have k3:Fn wc (w.heap.size+1) 3:=(j.frozen ν).trans ζ;have k4:Fn wc (w.heap.size+1) 4:=(j.frozen ν).trans ζ;have bh:=Hd (Qb β2 j);have bj:=Hd b9;clear j b9 a7 c4 bw;go_wp2;refine bodyPost_ret (v:=.tuple #[.agg #[SN,.map none,.map none,SN,SN],.bool false]) (by simp [results,Tryz.results39,go_sem, *]) rfl (Or.inl ⟨none,0,0,none,none,none,0,0,none,0,0,rfl,fun b5=>bj.out (b5.1 i h1), ?_⟩);with_reducible repeat' (first | exact bh.out | refine Qk ?_ ?_ | refine Qc ?_)
     all_goals (dsimp only;omega)
  ·have i1:¬ (i:Int)<(L.length:Int):=γ;obtain rfl:i=L.length:=γ;obtain ⟨pa,pc,rfl,hT⟩:=Yt s.out.own;rw [Qu] at s;have c0:=s.out.c0;have c1:=s.out.c1;have c2:=s.out.c2;have c3:=s.out.c3;have c4:=s.out.c4;have HT:=Hd hT;have bm:Hid (∀ g,pa=Az g→w.heap.size+1+1+1≤g):=fun g e=>Qn s.out.own g (by rw [e];rfl);clear hT;have d0:At wr (w.heap.size+1) 0 SN:=Qa s.out.bel ζ;have d1:At wr (w.heap.size+1) 1 (.map none):=Qa s.out.bel ζ;have d2:At wr (w.heap.size+1) 2 (.map none):=Qa s.out.bel ζ;have d3:At wr (w.heap.size+1) 3 SN:=Qa s.out.bel ζ;have d4:At wr (w.heap.size+1) 4 SN:=Qa s.out.bel ζ;have Z:=Bt d0;have k0:Fn wr (w.heap.size+1) 0:=(s.out.bel.frozen ν).trans ζ;have k1:Fn wr (w.heap.size+1) 1:=(s.out.bel.frozen ν).trans ζ;have k2:Fn wr (w.heap.size+1) 2:=(s.out.bel.frozen ν).trans ζ;have k3:Fn wr (w.heap.size+1) 3:=(s.out.bel.frozen ν).trans ζ;have k4:Fn wr (w.heap.size+1) 4:=(s.out.bel.frozen ν).trans ζ
   obtain ⟨bf,bg,br⟩:∃ bf:Bool,Hid (bf=true↔∀ i,i<L.length→FitI kd L M i)∧∀ m:World,Bl wr m→Rt 83 #[.agg #[.slice J L.length T,.map (some O),.map (some P),.slice (Az r) L.length cm,.slice pa L.length pc]] m (.bool bf):=by
    obtain ⟨bf,h1,h2⟩:=fit_bool kd L M;exact ⟨bf,h1,fun m l=>(CF.out m pa L.length pc (Qb HB.out l) (fun i hi=>(ac.out i hi).1)).mono fun e w' h=>h2 _ _ _ h⟩
   have bc:Hid (∀ m:World,Bl wr m→Rt 83 #[.agg #[.slice J L.length T,.map (some O),.map (some P),.slice (Az r) L.length cm,.slice pa L.length pc]] m (.bool bf)):=fun m l=>br m l;have be:=Hd HB.out;clear CF CM HR HI s HB;go_wp2
   go_region_held3 (fun w'=>At w' (w.heap.size+1+1) 0 (.slice J L.length T)∧At w' (w.heap.size+1+1) 1 (.map (some O))∧At w' (w.heap.size+1+1) 2 (.map (some P))∧At w' (w.heap.size+1+1) 3 (.slice (Az r) L.length cm)∧At w' (w.heap.size+1+1) 4 (.slice pa L.length pc))
    ((refine ⟨?_, ?_, ?_, ?_, ?_⟩ <;> (repeat' (first | (with_reducible assumption) | (with_reducible refine Jt ?_ ?_) | (dsimp only;omega) | (simp [go_sem];done) | (with_reducible refine Ql ?_) | (with_reducible refine Qi ?_)))))
    ((go_at_call 83;refine (bc.out _ Ξ).mono ?_;rintro e n ⟨rfl,hb⟩;have an:At n (w.heap.size+1+1) 0 (.slice J L.length T):=Qa hb δ;have c8:At n (w.heap.size+1+1) 1 (.map (some O)):=Qa hb δ;have c9:At n (w.heap.size+1+1) 2 (.map (some P)):=Qa hb δ;have ca:At n (w.heap.size+1+1) 3 (.slice (Az r) L.length cm):=Qa hb δ;have cb:At n (w.heap.size+1+1) 4 (.slice pa L.length pc):=Qa hb δ;have ao:At n (w.heap.size+1) 0 SN:=Qa hb δ;have ci:Fn n (w.heap.size+1) 0:=(hb.frozen (by dsimp only;first | exact Z | (simp;exact Z))).trans (by first | exact k0 | (simp [go_sem,k0];done));have ce:At n (w.heap.size+1) 1 (.map none):=Qa hb δ;have cj:Fn n (w.heap.size+1) 1:=(hb.frozen (by dsimp only;first | exact Z | (simp;exact Z))).trans (by first | exact k1 | (simp [go_sem,k1];done));have cf:At n (w.heap.size+1) 2 (.map none):=Qa hb δ;have cl:Fn n (w.heap.size+1) 2:=(hb.frozen (by dsimp only;first | exact Z | (simp;exact Z))).trans (by first | exact k2 | (simp [go_sem,k2];done));have cg:At n (w.heap.size+1) 3 SN:=Qa hb δ;have co:Fn n (w.heap.size+1) 3:=(hb.frozen (by dsimp only;first | exact Z | (simp;exact Z))).trans (by first | exact k3 | (simp [go_sem,k3];done));have ch:At n (w.heap.size+1) 4 SN:=Qa hb δ;have cp:Fn n (w.heap.size+1) 4:=(hb.frozen (by dsimp only;first | exact Z | (simp;exact Z))).trans (by first | exact k4 | (simp [go_sem,k4];done));have hq:Bl wr n:=(by with_reducible (first | exact hb | exact Qw hb | exact Qw (Qw hb)));have a6:=Hd hq;have c6:=Bt ao;have c7:=Bt an;clear hb hq))
   all_goals
    go_wp2;refine bodyPost_ret (v:=.tuple #[.agg #[.slice J L.length T,.map (some O),.map (some P),.slice (Az r) L.length cm,.slice pa L.length pc],.bool bf]) (by simp [results,Tryz.results39,go_sem, *]) rfl ?_;have bq:=HT.out.kept a6.out;refine sprTo_of bg.out ac.out ?_ ?_
    ·with_reducible repeat' (first | exact bq | refine TRow.far ?_ ?_ | refine TRow.dr ?_)
     all_goals (intro g e;have:=bm.out g e;dsimp only;omega)
    ·with_reducible repeat' (first | exact Qb be.out a6.out | refine Qk ?_ ?_ | refine Qe ?_)
     all_goals (dsimp only;omega)
theorem spread_len (w:World) (n d g h b e:Nat) (c f:Option Addr) (a:b≠n) :
  Rt 39 #[.agg #[.slice c n d,.map (some g),.map (some h)],.slice f b e] w (.tuple #[.agg #[SN,.map none,.map none,SN,SN],.bool false]):=by
 have i:((b:Int) != (n:Int))=true:=by
  rw [bne_iff_ne];omega
 clear a;go_enter Tryz.func39,Tryz.ntmps39;go_wp2;refine bodyPost_ret (v:=.tuple #[.agg #[SN,.map none,.map none,SN,SN],.bool false]) (by simp [results,Tryz.results39,go_sem]) rfl ⟨rfl, ?_⟩;with_reducible repeat (first | exact Qd _ | refine Qc ?_ | refine Qk ?_ ?_)
 all_goals simp
open Go.ChangeMaps
structure PileAt (w:World) (ad:Option Addr) (cc ra rk gm cm:Nat) (pa:Option Addr) (pc:Nat) (L:List T3) (kd:E4→Int) (M:Nat→M6):Prop where
 tr:PA w ad ra L
 kl:KL w rk kd
 mr:MRow w gm L.length M
 pl:TRow w pa (pls L M L.length)
theorem PileAt.kept {f c:Nat} {pc:Nat} {kd:E4→Int} (h:PileAt w a b e f d c pa pc L kd M) (hb:Bl w w'):PileAt w' a b e f d c pa pc L kd M:=⟨h.tr.kept hb,h.kl.kept hb,h.mr.kept hb,h.pl.kept hb⟩
def pileV (ad:Option Addr) (n cc ra rk gm cm:Nat) (pa:Option Addr) (pc:Nat):Value:=.agg #[.slice ad n cc,.map (some ra),.map (some rk),.slice (Az gm) n cm,.slice pa n pc]
def PlacedTo (kd:E4→Int) (L:List T3) (w w':World) (e:Ending):Prop:=Bl w w'∧((∃ M ad cc ra rk gm cm pa pc,Cons kd L M∧e=.returned (.tuple #[pileV ad L.length cc ra rk gm cm pa pc,I 0])∧PileAt w' ad cc ra rk gm cm pa pc L kd M)∨((¬ ∃ N,Cons kd L N)∧e=.returned (.tuple #[.agg #[SN,.map none,.map none,SN,SN],I 8])))
def set5 (w:World) (b:Nat) (u0 u1 u2 u3 u4:Value):World:=((((w.setCell ⟨b,0,none⟩ u0).setCell ⟨b,1,none⟩ u1).setCell ⟨b,2,none⟩ u2).setCell ⟨b,3,none⟩ u3).setCell ⟨b,4,none⟩ u4
theorem set5_grown (w:World) (b:Nat) (a c d e f:Value):w.grownBy (set5 w b a c d e f) (some b):=Jg (Jg (Jg (Jg (Qg _ _ _ _) (Qg _ _ _ _)) (Qg _ _ _ _)) (Qg _ _ _ _)) (Qg _ _ _ _)
theorem MRow.not_at (h:MRow w g n M) (h0:0<n) (a:w.cell? ⟨b,0,none⟩=some SN):some g≠some b:=fun e=>by
 cases e;have:=(h 0 h0).1.1;(try simp only [At,I] at this);rw [Nat.zero_mul,a] at this
 cases this
theorem TRow.not_at {l:List T3} (h:TRow w pa l) (h0:0<l.length) (c:w.cell? ⟨b,0,none⟩=some SN):∀ g,pa=some ⟨g,0,none⟩→g≠b:=fun g e e2=>by
 obtain ⟨d,a,c0,_⟩:=h 0 h0;(try simp only [Az] at a);rw [e] at a
 cases a;subst e2;(try simp only [At,I] at c0);rw [Nat.zero_mul,c] at c0
 cases c0
theorem TRow.grown {l:List T3} (h:TRow w pa l) (hg:w.grownBy w' (some b)) (c:∀ g,pa=Az g→g≠b):TRow w' pa l:=fun i hi=>by
 obtain ⟨g,e,c0,c1,c2⟩:=h i hi;have a:some g≠some b:=fun e2=>c g e (by simpa using e2);exact ⟨g,e,hg.cell c0 a,hg.cell c1 a,hg.cell c2 a⟩
structure PX (w0 w:World) (r base ra rk gm:Nat) (ad pa:Option Addr) (k:Nat) (L:List T3) (M:Nat→M6) (ks:List Int) (nk:Nat):Prop where
 pk:PK w0 w base ra rk (.slice ad L.length k) L (gix L) (kf ks nk)
 mr:MRow w gm L.length M
 tr:TRow w pa (pls L M L.length)
 lo:w0.heap.size≤r
 n1:r≠ra
 n2:r≠rk
 n3:r<base
 n4:gm≠r
 n5:∀ g,pa=Az g→g≠r
theorem PX.kept {g:World} {f:Nat} (h:PX g w r base e f b a pa k L M c d) (hb:Bl w w'):PX g w' r base e f b a pa k L M c d:=⟨h.pk.kept hb,h.mr.kept hb,h.tr.kept hb,h.lo,h.n1,h.n2,h.n3,h.n4,h.n5⟩
theorem PX.dr {g:World} {f:Nat} (h:PX g w r base e f b a pa k L M c d):PX g w.drew r base e f b a pa k L M c d:=h.kept (Qe (Qd _))
theorem PX.set {g:World} {f:Nat} (h:PX g w r base e f b a pa k L M c d) (o:Nat) (u:Value):PX g (w.setCell ⟨r,o,none⟩ u) r base e f b a pa k L M c d:=by
 have hg:=Qg w r o u;exact ⟨h.pk.grown hg h.lo h.n1 h.n2 h.n3,h.mr.grown hg (by have:=h.n4;simpa using this),h.tr.grown hg h.n5,h.lo,h.n1,h.n2,h.n3,h.n4,h.n5⟩
def SOk (kd:E4→Int) (L:List T3) (mn:Nat) (M:Nat→M6) (S:List (T3×List T3)):Prop:=mn=L.length∧MOk kd L M∧StOk L (plF (pls L M L.length)) S
def Lv (S:List (T3×List T3)) (L:List T3) (f:Nat→Int) (m k:Nat):Prop := ∀ i (_:i<L.length) m' k' (hm:m'<S.length) (hk:k'<S[m'].2.length),S[m'].2[k']=L[i]→(m'<m∨m'=m∧k'<k)→f i=(k':Int)
theorem lv_zero (S:List (T3×List T3)) (L:List T3) (f:Nat→Int):Lv S L f 0 0:=fun i _ b a _ _ _ h=>by omega
theorem mem_sofar {S:List (T3×List T3)} {a:Nat} (h1:m<S.length) (d:a<S.length) (c:b<S[a].2.length) (h:a<m∨a=m∧b<k):S[a].2[b]∈allS (S.take m) ++ S[m].2.take k:=by
 rcases h with h | ⟨rfl,h⟩
 ·refine List.mem_append_left _ ?_;unfold allS;rw [List.mem_flatMap];refine ⟨S[a], ?_,Lm c⟩;rw [List.mem_take_iff_getElem];exact ⟨a,γ,rfl⟩
 ·refine List.mem_append_right _ ?_;rw [List.mem_take_iff_getElem];exact ⟨b,γ,rfl⟩
theorem Lv.step {S:List (T3×List T3)} (h:Lv S L f m k) (n:L.Nodup) (h1:m<S.length) (h2:k<S[m].2.length) (hi:i<L.length) (e:L[i]=S[m].2[k]) (c:S[m].2[k] ∉ allS (S.take m) ++ S[m].2.take k):Lv S L (fun j=>if j=i then (k:Int) else f j) m (k+1):=by
 intro j d b a l g q o;by_cases hji:j=i
 ·subst hji;show (if j=j then (k:Int) else f j)=(a:Int)
  rw [if_pos rfl];by_cases hold:b<m∨b=m∧a<k
  ·exfalso
   have:=mem_sofar h1 l g hold;rw [q,e] at this;exact c this
  ·have:a=k:=γ;omega
 ·show (if j=i then (k:Int) else f j)=(a:Int)
  rw [if_neg hji];by_cases hold:b<m∨b=m∧a<k
  ·exact h j d b a l g q hold
  ·exfalso
   have h3:b=m:=γ;subst h3;have h4:a=k:=γ;subst h4;exact hji (Xl n d hi (q.symm.trans e.symm))
theorem Lv.next {S:List (T3×List T3)} (h:Lv S L f m k) (h1:m<S.length) (j:k=S[m].2.length):Lv S L f (m+1) 0:=fun i hi b g d a q c=>by
 refine h i hi b g d a q ?_;by_cases e:b=m
 ·subst e;exact Or.inr ⟨rfl,γ⟩
 ·exact Or.inl γ
def SeenV (L:List T3) (f:Nat→Int) (A:List T3) (S:List (T3×List T3)) (m k:Nat):Prop:=Seen L f A∧Lv S L f m k
def HgTv (L pl:List T3) (S:List (T3×List T3)) (w w':World) (e:Ending):Prop := ∃ a n c,∃ b:Bool,e=.returned (.tuple #[.slice a n c,.bool b])∧(b=true↔StOk L (plF pl) S)∧Bl w w'∧(b=true→∃ g f,a=Az g∧n=L.length∧ZRow w' g L.length f∧Lv S L f S.length 0∧w.heap.size≤g)
theorem heights_lv (w:World) (n cc pc sc ra rk gm cm:Nat) (ad pa sp:Option Addr) (L pl:List T3) (S:List (T3×List T3)) (hT:TRow w ad L) (hP:TRow w pa pl) (hS:SRow w sp S) (hn:n=L.length) (bh:pl.length=n) (av:L.Pairwise ltT) (bo:0<n) (hL:n≤300) (bz:S.length≤17592186044416) (ba:∀ s∈S,s.2.length≤17592186044416) :
  Cl 40 #[.agg #[.slice ad n cc,.map (some ra),.map (some rk),.slice (Az gm) n cm,.slice pa n pc],.slice sp S.length sc] w fun e w'=>HgTv L pl S w w' e:=by
 have A:=H7 hT hP hS hn bh (up_nodup av) ba
 have CN:Hid (∀ (W:World) (x y k:Int),Bl w W→Cl 85 #[.agg #[.slice ad n cc,.map (some ra),.map (some rk)],.agg #[I x,I y,I k]] W fun e w'=>NumTo L (x,y,k) W w' e):=fun W x y k hW=>by
  rw [hn];exact number_any W ad cc _ _ L x y k (hT.kept hW) av γ
 have hq:=neq23;clear hT hP hS hn bh av ba;go_enter Tryz.func40,Tryz.ntmps40;go_wp2_with (go_at_call 42;refine (repeat_any (-1) (w.heap.size+1) n _ γ ζ).mono ?_;rintro e w1 ⟨rfl,an,hb⟩;have a2:=H2 (rp_zrow an) hb;clear an hb)
 obtain ⟨Q,aa⟩:∃ W,W=((w.alloc (.cells #[.slice ad n cc,.map (some ra),.map (some rk),.slice (Az gm) n cm,.slice pa n pc] 67)).alloc (.cells #[I (-1)] 3)):=⟨_,rfl⟩
 have HQ:Hid (At Q w.heap.size 0 (.slice ad n cc)∧At Q w.heap.size 1 (.map (some ra))∧At Q w.heap.size 2 (.map (some rk))∧At Q w.heap.size 4 (.slice pa n pc)):=by
  rw [aa];exact ⟨ζ,ζ,ζ,ζ⟩
 have hz:Q.heap.size=w.heap.size+2:=by rw [aa];simp
 have ax:Hid (Bl w Q):=by rw [aa];exact Qc β1
 rw [← aa] at a2;obtain ⟨g,hg⟩:∃ g,g=w.heap.size+1+1:=⟨_,rfl⟩;rw [show Q.heap.size=g by omega] at a2;have HG:Hid (g=w.heap.size+1+1∧Q.heap.size=g):=⟨hg,γ⟩;rw [← hg];clear aa hg hz;go_wp2;go_loopg [21] S.length (fun gk bq wx=>∃ (m:Nat) (f:Nat→Int),m≤S.length∧gk=S.length - m∧bq=I (m:Int)∧Pre L (plF pl) S m∧SeenV L f (allS (S.take m)) S m 0∧ZRow wx g n f∧Bl Q wx)
 case atStart=>exact ⟨0,_,γ,rfl,rfl,pre_zero _ _ _,⟨seen_start L,lv_zero _ _ _⟩,a2.out.1,a2.out.2⟩
 case round =>
  clear a2;obtain ⟨m,f,hm,rfl,rfl,ai,a7,hZ,hB⟩:=hrel;have Z:=H4 ai a7 hZ hB;have a:=Hd (Qb ax.out hB);clear ai a7 hZ hB;by_cases h1:m<S.length
  ·have i1:(m:Int)<(S.length:Int):=γ;have i0:(0:Int)≤(m:Int):=γ;obtain ⟨gs,sa,ag,rfl,c0,c1,c2,c3,bc⟩:=A.out.2.2.1 m h1;have bj:=Hd bc;replace c0:=Qa a.out c0;replace c1:=Qa a.out c1;replace c2:=Qa a.out c2;replace c3:=Qa a.out c3;have zs:=Bt c0;obtain ⟨X,Y,K,aq⟩:∃ X Y K,S[m].1=(X,Y,K):=⟨_,_,_,rfl⟩;obtain ⟨l,hl⟩:∃ l,l=S[m].2.length:=⟨_,rfl⟩;rw [aq] at c0 c1 c2;rw [← hl] at c3;dsimp only at c0 c1 c2;have F:=H2 aq hl
   have c5:l≤17592186044416:=by
    rw [hl];exact A.out.2.2.2.2.2.2 _ (Lm h1)
   clear bc aq hl;go_upto_region 5 with fail
   refine Qj (fun W0 hW0=>?_);obtain ⟨B,G⟩:∃ B,B=wr.heap.size:=⟨_,rfl⟩
   have N:Hid (Bl wr W0∧B=wr.heap.size):=by
    refine ⟨?_,G⟩;rw [hW0];with_reducible repeat (first | exact Qd _ | refine Qc ?_ | refine Qk ?_ ?_)
    all_goals (dsimp only;omega)
   have x0:At W0 B 0 (I X):=by rw [hW0,G];simp [go_sem]
   have x1:At W0 B 1 (I Y):=by rw [hW0,G];simp [go_sem]
   have x2:At W0 B 2 (I K):=by rw [hW0,G];simp [go_sem]
   have x3:At W0 B 3 (.slice sa l ag):=by rw [hW0,G];simp [go_sem]
   rw [← G];clear hW0 G c0 c1 c2 c3;have zB:=Bt x0
   obtain ⟨bb,r⟩:∃ bb:Bool,Hid (bb=false↔(l≠0∧∀ q (h:q+1=m),ltT (S[q]'γ).1 S[m].1)):=by
    by_cases q:l≠0∧∀ q (h:q+1=m),ltT (S[q]'γ).1 S[m].1
    ·exact ⟨false,⟨fun _=>q,fun _=>rfl⟩⟩
    ·exact ⟨true,⟨(fun h=>by cases h),fun h=>absurd h q⟩⟩
   go_cut [45] (fun br wx=>br=.bool bb∧Bl W0 wx)
   case first =>
    by_cases hl0:l=0
    ·have p:Hid (bb=true):=by
      cases q:bb
      ·exact absurd hl0 (r.out.1 q).1
      ·exact rfl
     subst hl0;obtain ⟨kc,kn⟩:=kcn W0;refine wk ?_;repeat (go_big_quiet_step (fail))
     refine kq1 (fun wq hq=>?_);clear kc kn;go_wp2;go_meet
     case rel=>exact ⟨by rw [p.out],hq⟩
    ·have ql:((l:Int) == 0)=false:=by simpa using hl0
     by_cases hm0:m=0
     ·have p:Hid (bb=false):=r.out.2 ⟨hl0,fun q h=>by omega⟩;subst hm0;obtain ⟨kc,kn⟩:=kcn W0;refine wk ?_;repeat (go_big_quiet_step (fail))
      refine kq1 (fun wq hq=>?_);clear kc kn;go_wp2;go_meet
      case rel=>exact ⟨by rw [p.out],hq⟩
     ·obtain ⟨V,rfl⟩:∃ V,m=V+1:=⟨m - 1,γ⟩;have bn:V<S.length:=γ;obtain ⟨bw,c7,bv,e1,d0,d1,d2,_,_⟩:=(A.out.2.2.1.kept (Qb a.out N.out.1)) V bn
      cases e1;obtain ⟨X',Y',K',ab⟩:∃ X Y K,S[V].1=(X,Y,K):=⟨_,_,_,rfl⟩;rw [ab] at d0 d1 d2;dsimp only at d0 d1 d2;have c8:=Bt d0;obtain ⟨c,hc⟩:∃ c,c=cmpT X' Y' K' X Y K:=⟨_,rfl⟩;have HC:Hid (∀ W:World,Rt 84 #[.agg #[I X',I Y',I K'],.agg #[I X,I Y,I K]] W (I c)):=fun W=>hc ▸ Xx X' Y' K' X Y K W
      have HL:Hid (bb=decide (0≤c)):=by
       have bf:c<0↔ltT S[V].1 S[V+1].1:=by rw [hc,ab,F.out.1];exact cmpT_lt0 _ _ _ _ _ _
       have:bb=decide (0≤c):=by
        cases q:bb
        ·have:=(r.out.1 q).2 V rfl;have:=bf.2 this;symm
         rw [decide_eq_false_iff_not];omega
        ·symm
         rw [decide_eq_true_eq];refine Int.not_lt.1 fun h=>?_
         have:=r.out.2 ⟨hl0,fun q' h'=>by
          obtain rfl:q'=V:=γ;exact bf.1 h⟩
         rw [q] at this
         cases this
       exact this
      have im:(0:Int)<((V+1:Nat):Int):=γ;have em:((V+1:Nat):Int) - 1=(V:Int):=γ;have c6:(V:Int)<(S.length:Int):=γ;clear hc ab hl0;obtain ⟨kc,kn⟩:=kcn W0;refine wk ?_;repeat (go_big_quiet_step ((go_at_call 84;exact Qm (HC.out _))))
      refine kq1 (fun wq hq=>?_);clear kc kn;go_wp2;go_meet
      case rel=>exact ⟨by rw [HL.out],hq⟩
   case rest =>
    obtain ⟨rfl,C⟩:=hcut;have ao:Hid (HgW Q wc g n f B X Y K (.slice sa l ag)):=⟨(Z.out.2.2.1.kept N.out.1).kept C,Qb Z.out.2.2.2 (Qb N.out.1 C),Qa C x0,Qa C x1,Qa C x2,Qa C x3⟩;have ay:=Hd (Qb a.out (Qb N.out.1 C));have b3:=ao.out.b3;have zb:=Bt b3
    have az:Hid (B≠g∧Q.heap.size≤g):=by
     have h:=Z.out.2.2.2.size;have h2:=HG.out;have h3:=N.out.2;have:=bk (Z.out.2.2.1 0 bo).1;exact ⟨by dsimp only at this;omega,γ⟩
    clear x0 x1 x2 x3 zB C
    cases bb
    ·have b5:Hid (Pri L (plF pl) S m 0 h1):=Z.out.1.start h1 (fun e=>(r.out.1 rfl).1 (by rw [F.out.2,e];rfl)) (r.out.1 rfl).2
     have b7:Hid (SeenV L f (allS (S.take m) ++ S[m].2.take 0) S m 0):=by
      have:=Z.out.2.1;rw [List.take_zero,List.append_nil];exact this
     clear Z a N r;go_wp2;clear b3 zb;go_loopg [49] l (fun gk bs wx=>∃ (k:Nat) (f':Nat→Int),k≤l∧gk=l - k∧bs=I (k:Int)∧Pri L (plF pl) S m k h1∧SeenV L f' (allS (S.take m) ++ S[m].2.take k) S m k∧HgW Q wx g n f' B X Y K (.slice sa l ag))
     case atStart=>exact ⟨0,f,γ,rfl,rfl,b5.out,b7.out,ao.out⟩
     case round =>
      clear b5 b7 ao ay;obtain ⟨k,f',hk,rfl,rfl,aj,M,hW⟩:=hrel;have HJ:=H3 aj M hW;have a:=Hd (Qb ax.out hW.bel);have p0:=Qa hW.bel HQ.out.1;have p1:=Qa hW.bel HQ.out.2.1;have p2:=Qa hW.bel HQ.out.2.2.1;have b3:=hW.b3;have zp:=Bt p0;have zb:=Bt b3;clear aj M hW;by_cases h2:k<l
      ·have k1:(k:Int)<(l:Int):=γ;have k0:(0:Int)≤(k:Int):=γ;have R:k<S[m].2.length:=by rw [← F.out.2];exact h2
       obtain ⟨ga,rfl,t0,t1,t2⟩:=(bj.out.kept a.out) k R;obtain ⟨x,y,z,ae⟩:∃ x y z,S[m].2[k]=(x,y,z):=⟨_,_,_,rfl⟩;rw [ae] at t0 t1 t2;dsimp only at t0 t1 t2;have HX:=Hd ae;have zt:=Bt t0;clear ae;go_upto_region 10 with fail
       refine Qj (fun W2 a8=>?_);obtain ⟨B2,a6⟩:∃ B,B=wr.heap.size:=⟨_,rfl⟩
       have O:Hid (Bl wr W2):=by
        have:Bl wr W2:=by
         rw [a8];with_reducible repeat (first | exact Qd _ | refine Qc ?_ | refine Qk ?_ ?_)
         all_goals (dsimp only;omega)
        exact this
       have y0:At W2 B2 0 (I x):=by rw [a8,a6];simp [go_sem]
       have y1:At W2 B2 1 (I y):=by rw [a8,a6];simp [go_sem]
       have y2:At W2 B2 2 (I z):=by rw [a8,a6];simp [go_sem]
       rw [← a6];clear a8 a6;replace p0:=Qa O.out p0;replace p1:=Qa O.out p1;replace p2:=Qa O.out p2;have zy:=Bt y0;replace zp:w.heap.size<W2.heap.size:=bk p0;clear t0 t1 t2 zt b3 zb;go_upto_region 11 with (go_at_call 85;refine (CN.out _ x y z (Qb a.out O.out)).mono ?_;rintro e w3 ⟨i,bt,rfl,hi,H,be,au⟩;have HN:=H2 H be;have P:Hid (HgW Q w3 g n f' B X Y K (.slice (Az ga) l ag)):=(HJ.out.2.2.kept O.out).kept au;have aw:=Hd (Qb a.out (Qb O.out au));clear H be au)
       clear y0 y1 y2 p0 p1 p2 zp zy;have x0:=P.out.b0;have x1:=P.out.b1;have x2:=P.out.b2;have p4:=Qa P.out.bel HQ.out.2.2.2;have zb:=Bt x0;have zp:=Bt p4
       obtain ⟨b2,o⟩:∃ b2:Bool,Hid (b2=false↔(bt=true∧f' i<0∧plF pl i=(X,Y,K))):=by
        by_cases q:bt=true∧f' i<0∧plF pl i=(X,Y,K)
        ·exact ⟨false,⟨fun _=>q,fun _=>rfl⟩⟩
        ·exact ⟨true,⟨(fun h=>by cases h),fun h=>absurd h q⟩⟩
       go_cut [79] (fun bu wx=>bu=.bool b2∧Bl w3 wx)
       case first =>
        cases bt
        ·have p:Hid (b2=true):=by
          cases q:b2
          ·exact absurd (o.out.1 q).1 τ
          ·exact rfl
         obtain ⟨kc,kn⟩:=kcn w3;refine wk ?_;repeat (go_big_quiet_step (fail))
         refine kq1 (fun wq hq=>?_);clear kc kn;go_wp2;go_meet
         case rel=>exact ⟨by rw [p.out],hq⟩
        ·obtain ⟨d,_⟩:=HN.out.2 rfl;have ac:i<n:=by rw [A.out.2.2.2.1];exact d
         have ii:(i:Int)<(n:Int):=γ;have bp:(0:Int)≤(i:Int):=γ;obtain ⟨u,hu⟩:∃ u,u=f' i:=⟨_,rfl⟩;obtain ⟨z0,_⟩:=P.out.z i ac;rw [← hu] at z0;have HU:=Hd hu;clear hu;have zg:=Bt z0;have am:i<pl.length:=by rw [A.out.2.2.2.2.1];exact ac
         obtain ⟨gp,rfl,q0,q1,q2⟩:=(A.out.2.1.kept aw.out) i am;have zq:=Bt q0;obtain ⟨px,py,pk,U⟩:∃ x y k,pl[i]=(x,y,k):=⟨_,_,_,rfl⟩;rw [U] at q0 q1 q2;dsimp only at q0 q1 q2
         have b6:Hid (plF pl i=(px,py,pk)):=by
          have:plF pl i=(px,py,pk):=by unfold plF;rw [Qq pl i am,U]
          exact this
         clear U;by_cases hu0:0≤u
         ·have p:Hid (b2=true):=by
           cases q:b2
           ·have:=(o.out.1 q).2.1;rw [← HU.out] at this;omega
           ·exact rfl
          obtain ⟨kc,kn⟩:=kcn w3;refine wk ?_;repeat (go_big_quiet_step (fail))
          refine kq1 (fun wq hq=>?_);clear kc kn;go_wp2;go_meet
          case rel=>exact ⟨by rw [p.out],hq⟩
         ·have p:Hid (b2 = !sameT px py pk X Y K):=by
           have:b2 = !sameT px py pk X Y K:=by
            cases q:b2
            ·have:=(o.out.1 q).2.2;rw [b6.out] at this;simp only [Prod.mk.injEq] at this;obtain ⟨rfl,rfl,rfl⟩:=this;simp [sameT]
            ·cases q2:sameT px py pk X Y K
             ·rfl
             ·exfalso
              have:b2=false:=o.out.2 ⟨rfl,by rw [← HU.out];omega,by
               rw [b6.out];simp only [sameT,decide_eq_true_eq] at q2;simp only [Prod.mk.injEq];exact q2⟩
              rw [q] at this
              cases this
           exact this
          obtain ⟨kc,kn⟩:=kcn w3;refine wk ?_;repeat (go_big_quiet_step (fail))
          refine kq1 (fun wq hq=>?_);clear kc kn;go_wp2;go_meet
          case rel=>exact ⟨by rw [p.out],hq⟩
       case rest =>
        obtain ⟨rfl,ap⟩:=hcut;have b9:=Hd (P.out.kept ap);have bi:=Hd (Qb aw.out ap);clear x0 x1 x2 p4 zb zp ap
        cases b2
        ·obtain ⟨H,bm,U⟩:=o.out.1 rfl;subst H;obtain ⟨d,D⟩:=HN.out.2 rfl;have ac:i<n:=by rw [A.out.2.2.2.1];exact d
         have ii:(i:Int)<(n:Int):=γ;have bp:(0:Int)≤(i:Int):=γ;obtain ⟨z0,zf⟩:=b9.out.z i ac;have zg:=Bt z0
         have b8:Hid (Pri L (plF pl) S m (k+1) h1∧SeenV L (fun j=>if j=i then (k:Int) else f' j) (allS (S.take m) ++ S[m].2.take (k+1)) S m (k+1)):=by
          have T:S[m].2[k] ∉ allS (S.take m) ++ S[m].2.take k:=fun E=>by
           rw [HX.out,← D] at E;have:=(HJ.out.2.1.1 i d).1.2 E;omega
          refine ⟨HJ.out.1.step R ⟨i,d,by rw [HX.out];exact D,by rw [F.out.1];exact U⟩ T, ?_,HJ.out.2.1.2.step A.out.2.2.2.2.2.1 h1 R d (by rw [HX.out];exact D) T⟩;have:=HJ.out.2.1.1.more A.out.2.2.2.2.2.1 d k;rw [D,← HX.out] at this;rw [List.take_succ_eq_append_getElem R,← List.append_assoc];exact this
         clear bm U D;go_wp2;go_roundg (l - (k+1))
         case measure=>omega
         case rel=>exact ⟨k+1,_,γ,rfl,σ,b8.out.1,b8.out.2,b9.out.put az.out.2 az.out.1 ac _⟩
        ·go_wp2;refine bodyPost_ret (v:=.tuple #[SN,.bool false]) (by simp [results,Tryz.results40,go_sem]) rfl ⟨none,0,0,false,rfl, ?_,bi.out,fun h=>by cases h⟩;simp only [Bool.false_eq_true,false_iff];intro J
         have T:¬ (bt=true∧f' i<0∧plF pl i=(X,Y,K)):=fun h=>by
          have:=o.out.2 h
          cases this
         obtain ⟨j,hj,e1,e2⟩:=J.pl _ (Lm h1) _ (Lm R);rw [HX.out] at e1;rw [F.out.1] at e2;have H:bt=true:=HN.out.1.2 (e1 ▸ Lm hj);obtain ⟨d,D⟩:=HN.out.2 H;have:=Xl A.out.2.2.2.2.2.1 d hj (D.trans e1.symm);subst this;refine T ⟨H,Int.not_le.1 fun h0=>?_,e2⟩;have E:=(HJ.out.2.1.1 i d).1.1 h0;rw [D,← HX.out] at E;exact not_nd A.out.2.2.2.2.2.1 h1 R E J
      ·have k1:¬ (k:Int)<(l:Int):=γ;have af:k=S[m].2.length:=by rw [← F.out.2];omega
       have ah:Hid (Pre L (plF pl) S (m+1)∧SeenV L f' (allS (S.take (m+1))) S (m+1) 0):=by
        refine ⟨HJ.out.1.fin af, ?_,HJ.out.2.1.2.next h1 af⟩;have:=HJ.out.2.1.1;rw [af,List.take_length] at this;rw [Kp h1];exact this
       clear af;go_wp2;go_roundg (S.length - (m+1))
       case measure=>omega
       case rel=>exact ⟨m+1,f',γ,rfl,σ,ah.out.1,ah.out.2,HJ.out.2.2.z,HJ.out.2.2.bel⟩
    ·go_wp2;refine bodyPost_ret (v:=.tuple #[SN,.bool false]) (by simp [results,Tryz.results40,go_sem]) rfl ⟨none,0,0,false,rfl, ?_,ay.out,fun h=>by cases h⟩;simp only [Bool.false_eq_true,false_iff];intro J
     have T:¬ (l≠0∧∀ q (h:q+1=m),ltT (S[q]'γ).1 S[m].1):=fun h=>by
      have:=r.out.2 h
      cases this
     refine T ⟨fun e=>not_ne h1 (by rw [← F.out.2];exact e) J,fun q h=>?_⟩;subst h;exact J.up q h1
  ·have i1:¬ (m:Int)<(S.length:Int):=γ;obtain rfl:m=S.length:=γ;have CC:=Hd (fun (W:World) hW=>contains_any W g n n f (-1) (Z.out.2.2.1.kept hW) hL);go_wp2_with (go_at_call 86;refine (CC.out _ (Qd _)).mono ?_;rintro e w2 ⟨b,rfl,hb,ar⟩;have HC:=H3 hb (Qb a.out ar) (Z.out.2.2.1.kept ar);clear hb ar)
   refine bodyPost_ret (v:=.tuple #[.slice (Az g) n n,.bool (!b)]) (by simp [results,Tryz.results40,go_sem]) rfl ⟨_,_,_,!b,rfl, ?_,HC.out.2.1,fun _=>⟨g,f,rfl,A.out.2.2.2.1,by rw [← A.out.2.2.2.1];exact HC.out.2.2,Z.out.2.1.2,by rw [HG.out.1];omega⟩⟩
   have ak:(∀ t∈L,t∈allS S)↔b=false:=by
    have hs:=Z.out.2.1.1;rw [List.take_length] at hs;constructor
    ·intro hc
     cases q:b
     ·rfl
     ·obtain ⟨j,hj,e⟩:=HC.out.1.1 q;have bg:j<L.length:=by rw [← A.out.2.2.2.1];exact hj
      have:=(hs j bg).1.2 (hc _ (Lm bg));omega
    ·intro hb t ht;obtain ⟨j,hj,e⟩:=List.getElem_of_mem ht;rw [← e];rcases (hs j hj).2 with h | h
     ·have:=HC.out.1.2 ⟨j,by rw [A.out.2.2.2.1];exact hj,h⟩;rw [hb] at this
      cases this
     ·exact (hs j hj).1.1 h
   constructor
   ·intro hb;exact Z.out.1.all A.out.2.2.2.2.2.1 rfl (ak.2 (by simpa using hb))
   ·intro J;have:=ak.1 (J.cov A.out.2.2.2.2.2.1);rw [this];rfl
theorem plF_pls (hi:i<L.length):plF (pls L M L.length) i=mvt (M i) L[i]:=by
 unfold plF pls;rw [List.getD_eq_getElem?_getD,List.getElem?_map,List.getElem?_range hi,Option.map_some,Option.getD_some,Qq L i hi]
def tgn (L:List T3) (R:List Nat):List T3:=R.map fun j=>L.getD j (0,0,0)
theorem tgn_take {R:List Nat} (hi:i<R.length):tgn L (R.take (i+1))=tgn L (R.take i) ++ [L.getD R[i] (0,0,0)]:=by
 unfold tgn;rw [List.take_add_one,List.getElem?_eq_getElem hi,List.map_append];rfl
def NRow (w:World) (g o:Nat) (R:List Nat):Prop := ∀ i (h:i<R.length),At w g (o+i) (I ((R[i]:Nat):Int))
theorem NRow.kept {o:Nat} {R:List Nat} (h:NRow w g o R) (hb:Bl w w'):NRow w' g o R:=fun i hi=>Qa hb (h i hi)
end Go.Proofs.YtbjmnlefkbhbdaaGreatDoor
namespace Go.Proofs.YtbjmnlefkbhbdaaGreatDoor
open Go.RowKit Go.Shelf Go.ChangeMaps
variable {w w':World} {base g i k:Nat} {pl:List T3} {a:Option Addr}
def Upw (h:Nat→Int) (R:List Nat):Prop:=R.Pairwise (fun a b=>¬ h b<h a)
def plcA (pl:List T3) (k:Nat):Int×Int×Int:=pl.getD k (0,0,0)
def NW (w:World) (g:Nat) (R:List Nat):Prop := ∀ i (h:i<R.length),At w g i (I ((R[i]:Nat):Int))∧Fn w g i
theorem NW.kept {R:List Nat} (h:NW w g R) (hb:Bl w w'):NW w' g R:=fun i hi=>by
 obtain ⟨h1,h2⟩:=h i hi;exact ⟨Qa hb h1,(hb.frozen (bk h1)).trans h2⟩
theorem NW.grown {R:List Nat} {row:Option Nat} (h:NW w g R) (hg:w.grownBy w' row) (b:some g≠row):NW w' g R:=fun i hi=>by
 obtain ⟨h1,h2⟩:=h i hi;exact ⟨hg.cell h1 b,(Fo (a:=⟨g,i,none⟩) (hg.block g (bk h1) b)).trans h2⟩
def SortsN (w:World) (N:Nat) (rv:Value) (h:Nat→Int):Prop := ∀ (W:World) (g cap:Nat) (R:List Nat),Bl w W→w.heap.size≤g→R≠[]→R.length≤300→(∀ j∈R,j<N)→NW W g R →
 Cl 99 #[.slice (Az g) R.length cap,.func (.func 100) #[rv] #[]] W fun e w'=>e=.returned (.tuple #[])∧∃ R':List Nat,R'.Perm R∧Upw h R'∧NW w' g R'∧W.grownBy w' (some g)
def Gk (pl:List T3) (e:T3):List Nat:=(List.range pl.length).filter fun k=>decide (pl.getD k (0,0,0)=e)
theorem Gn_eq (pl:List T3):∀ i e,Gn pl i e=((List.range i).filter fun k=>decide (pl.getD k (0,0,0)=e)).map (fun k:Nat=>(k:Int))
 | 0,e=>by simp [Gn]
 | i+1,e=>by
  unfold Gn;rw [List.range_succ,List.filter_append,List.map_append,← Gn_eq pl i e];by_cases q:e=pl.getD i (0,0,0)
  ·rw [if_pos q,← q];simp [q]
  ·rw [if_neg q];have a:¬ pl.getD i (0,0,0)=e:=fun h=>q h.symm;simp only [List.filter_cons,List.filter_nil,a,decide_false,Bool.false_eq_true,if_false,List.map_nil,List.append_nil]
theorem Kq {e:T3}:k∈Gk pl e↔k<pl.length∧pl.getD k (0,0,0)=e:=by
 unfold Gk;rw [List.mem_filter,List.mem_range,decide_eq_true_eq]
theorem Gk_len (pl:List T3) (e:T3):(Gk pl e).length≤pl.length:=by
 have:=List.length_filter_le (fun k=>decide (pl.getD k (0,0,0)=e)) (List.range pl.length);rw [List.length_range] at this;exact this
theorem Gk_nodup (pl:List T3) (e:T3):(Gk pl e).Nodup:=List.Pairwise.filter _ List.nodup_range
theorem own_nw {c:Nat} {e:T3} (h:w.ownsRow base 3 1 (.slice (some ⟨g,0,none⟩) (Gn pl pl.length e).length c) (Gn pl pl.length e).length ((Gn pl pl.length e).map (Value.int .i64))):NW w g (Gk pl e):=fun i hi=>by
 have hl:(Gn pl pl.length e).length=(Gk pl e).length:=by (try simp only [At,I,Fn,Az,Ad]);rw [Gn_eq,List.length_map];rfl
 have d:=h.cellAt i γ;have e1:(Gn pl pl.length e)=(Gk pl e).map (fun k:Nat=>(k:Int)):=Gn_eq pl pl.length e;refine ⟨?_, ?_⟩
 ·(try simp only [At,I]);rw [d,e1]
  simp [hi]
 ·rcases h.2 with ⟨h1,_⟩ | ⟨f,a,b,h1,_,h3,_⟩
  ·cases h1
  ·cases h1;simp [World.frozen?,h3]
theorem inf98:(Tryz.prog.info? 109).map (fun i=>(i.zero,i.size,i.bytes))=some (some (.agg #[I 0,I 0,I 0,SN]),4,48):=μ
theorem cell_four (w:World) (a b c d:Value) (T:TypeId):∀ j u,([a,b,c,d])[j]?=some u→(w.alloc (.cells #[a,b,c,d] T)).cell? ((⟨w.heap.size,0,none⟩:Addr).add j)=some u:=by
 intro j u e;match j,e with
 | 0,e=>simp at e;subst e;simp [Addr.add,go_sem]
 | 1,e=>simp at e;subst e;simp [Addr.add,go_sem]
 | 2,e=>simp at e;subst e;simp [Addr.add,go_sem]
 | 3,e=>simp at e;subst e;simp [Addr.add,go_sem]
structure Far (wA:World) (z g:Nat) (S:List (T3×Nat×Nat)):Prop where
 lt:g<z
 s:∀ s∈S,s.2.1<z∧wA.heap.size≤s.2.1∧s.2.1≠g
 far:S.Pairwise (fun x y=>x.2.1≠y.2.1)
theorem Far.ne {c:World} {z:Nat} {S:List (T3×Nat×Nat)} (h:Far c z g S) (hi:i<S.length) (a:k<S.length) (b:i≠k):S[i].2.1≠S[k].2.1:=by
 have hp:=List.pairwise_iff_getElem.1 h.far;rcases Nat.lt_or_ge i k with q | q
 ·exact hp i k hi a q
 ·exact (hp k i a hi γ).symm
structure STW (wA wx:World) (z g:Nat) (v:Value) (L pl:List T3) (h:Nat→Int) (S:List (T3×Nat×Nat)) (k:Nat) (H:List (T3×List Nat)) (R:List (T3×Value)):Prop where
 row:∀ i (hi:i<S.length),At wx g i (.slice (Az (S[i].2.1)) (Gk pl S[i].1).length S[i].2.2)
 left:∀ i (hi:i<S.length),k≤i→NW wx S[i].2.1 (Gk pl S[i].1)
 own:wx.ownsRow z 109 4 v R.length (rowS R)
 len:R.length=k∧H.length=k
 tris:∀ i (hi:i<R.length) (hj:i<H.length),R[i].1=H[i].1∧TrisAt wx R[i].2 (tgn L H[i].2)
 off:∀ s∈R,∀ q,s.2.ownBlock=some q→z≤q∧q<wx.heap.size∧v.ownBlock≠some q
 done:∀ i (hi:i<H.length) (hj:i<S.length),H[i].1=S[i].1∧H[i].2.Perm (Gk pl S[i].1)∧Upw h H[i].2
 b:Bl wA wx
 zz:z≤wx.heap.size
theorem STW.next {A B y t x:World} {z m D J C:Nat} {p:Option Addr} {v:Value} {o:Obj} {L:List T3} {P:Nat→Int} {S:List (T3×Nat×Nat)} {H:List (T3×List Nat)} {R:List (T3×Value)} {l:List Nat} (h:STW A B z g v L pl P S k H R) (hk:k<S.length) (M:Far A z g S) (a7:A.heap.size≤z)
  (d:B.grownBy y (some S[k].2.1)) (hp:l.Perm (Gk pl S[k].1)) (hs:Upw P l) (X:Bl y t) (ht:TRow t p (tgn L l)) (T:J=(tgn L l).length) (Y:∀ q,p=Az q→y.heap.size≤q∧q<t.heap.size)
  (c:(t.alloc o).grownBy x v.ownBlock) (n:x.ownsRow z 109 4 (.slice (Az m) (R.length+1) D) (R.length+1) (rowS R ++ [I S[k].1.1,I S[k].1.2.1,I S[k].1.2.2,.slice p J C])) (F:v.ownBlock=some m∨m=t.heap.size+1) (f:l≠[]) :
  STW A x z g (.slice (Az m) (R.length+1) D) L pl P S (k+1) (H ++ [(S[k].1,l)]) (R ++ [(S[k].1,.slice p J C)]):=by
 have z2:B.heap.size≤y.heap.size:=d.size;have z8:=X.size;have z3:=c.size;have zz:=h.zz;rw [World.size_alloc] at z3;have j:∀ q,v.ownBlock=some q→z≤q∧q<B.heap.size:=fun q e=>h.own.lt q e;have E:=M.s S[k] (Lm hk);have N:Bl y (t.alloc o):=Qc X;
 have G:∀ b q u,b<z→b≠S[k].2.1→At B b q u→At x b q u:=fun b q u hb f hc =>
  c.cell (Qa N (d.cell hc (by simpa using f))) (fun e=>by have:=(j _ e.symm).1;dsimp only at this;omega)
 have Q:∀ b O,b<z→b≠S[k].2.1→NW B b O→NW x b O:=fun b O hb f hN =>
  ((hN.grown d (by simpa using f)).kept N).grown c (fun e=>by have:=(j _ e.symm).1;omega)
 refine ⟨fun i hi=>G _ _ _ M.lt E.2.2.symm (h.row i hi),fun i hi a6=>?_, ?_,⟨by simp [h.len.1],by simp [h.len.2]⟩,fun i hi Z=>?_,fun s hs q hq=>?_,fun i hi Z=>?_, ?_,γ⟩
 ·exact Q _ _ (M.s _ (Lm hi)).1 (M.ne hi hk γ) (h.left i hi γ)
 ·rw [List.length_append,rowS_add];exact n
 ·by_cases q:i<R.length
  ·have q2:i<H.length:=by rw [h.len.2,← h.len.1];exact q
   obtain ⟨t1,t2⟩:=h.tris i q q2;rw [List.getElem_append_left q,List.getElem_append_left q2];refine ⟨t1, ?_⟩;have o1:=h.off R[i] (Lm q)
   have t3:=t2.grown d (fun b e=>by
    have:=(o1 b e).1;intro e2;simp at e2;omega)
   exact (t3.kept N).grown c (fun b e e2=>(o1 b e).2.2 e2.symm)
  ·have U:i=R.length:=by rw [List.length_append,List.length_singleton] at hi;omega
   have q4:i=H.length:=by rw [U,h.len.1,h.len.2]
   have e1:(R ++ [(S[k].1,Value.slice p J C)])[i]=(S[k].1,Value.slice p J C):=by
    rw [List.getElem_append_right γ];simp
   have e2:(H ++ [(S[k].1,l)])[i]=(S[k].1,l):=by
    rw [List.getElem_append_right γ];simp
   rw [e1,e2];refine ⟨rfl,p,C,by rw [T], ?_⟩;refine (ht.kept β1).grownN c (fun b e e3=>?_);have f1:=(Y b e).1;have f2:=(j b e3.symm).2;omega
 ·have a2:z≤m∧m<x.heap.size:=n.lt m rfl;rcases List.mem_append.1 hs with hs | hs
  ·obtain ⟨o1,o2,o3⟩:=h.off s hs q hq;refine ⟨o1,γ,fun e=>?_⟩;simp only [Value.ownBlock,Option.some.injEq] at e;rcases F with K | K
   ·exact o3 (by rw [K,e])
   ·omega
  ·simp at hs;subst hs;obtain ⟨q8,W,_⟩:=ht 0 (by simpa [tgn] using List.length_pos_iff.2 f);obtain ⟨f1,f2⟩:=Y q8 W;rw [W] at hq;simp only [Value.ownBlock,Option.some.injEq] at hq ⊢;subst hq;refine ⟨γ,γ,fun e=>?_⟩;have e9:m=q8:=by simpa using e
   rcases F with K | K
   ·have:=(j m K).2;omega
   ·omega
 ·by_cases q:i<H.length
  ·rw [List.getElem_append_left q];exact h.done i q Z
  ·have U:i=H.length:=by rw [List.length_append,List.length_singleton] at hi;omega
   have e2:(H ++ [(S[k].1,l)])[i]=(S[k].1,l):=by
    rw [List.getElem_append_right γ];simp
   have q4:i=k:=by rw [U,h.len.2]
   rw [e2];subst q4;exact ⟨rfl,hp,hs⟩
 ·have b2:Bl A y:=h.b.grown d h.b.size (fun r e=>by cases e;exact E.2.1);have V:Bl A (t.alloc o):=b2.trans (N.mono b2.size);exact V.grown c V.size (fun r e=>by have:=(j r e).1;omega)
structure Ordr (w:World) (bh bf gh oh ch gf of_ cf:Nat) (hs:List Int) (fs:List Nat):Prop where
 h:At w bh 0 (.slice (Ad gh oh) hs.length ch)
 f:At w bf 0 (.slice (Ad gf of_) fs.length cf)
 hr:Row w (Ad gh oh) hs
 fr:NRow w gf of_ fs
theorem Ordr.kept {c b j e gf a d:Nat} {hs:List Int} {g:List Nat} (o:Ordr w c b i j e gf a d hs g) (hb:Bl w w'):Ordr w' c b i j e gf a d hs g:=⟨Qa hb o.h,Qa hb o.f,o.hr.kept hb,o.fr.kept hb⟩
def hgt (hs:List Int) (fs:List Nat) (a:Nat):Int:=hs.getD (fs.getD a 0) 0
theorem row_get {o:Nat} {hs:List Int} (h:Row w (some ⟨g,o,none⟩) hs) (hi:i<hs.length):w.cell? ⟨g,o+i,none⟩=some (I (hs.getD i 0)):=by
 obtain ⟨b,off,e,a⟩:=h i hi
 cases e;(try simp only [I]);rw [a,List.getD_eq_getElem?_getD,List.getElem?_eq_getElem hi]
 rfl
theorem above_any (w:World) (p n J M H gf k G a b:Nat) (hs:List Int) (c:List Nat) (o:Ordr w p n J M H gf k G hs c) (g:a<c.length) (hb:b<c.length) (i:∀ j∈c,j<hs.length) (_h1:c.length≤300) (_h2:hs.length≤300) :
  Rt 72 #[I (a:Int),I (b:Int),.pointer (Az p),.pointer (Az n)] w (.bool (decide (hgt hs c b<hgt hs c a))):=by
 have D:=o.h;have E:=o.f;have m:=o.fr a g;have F:=o.fr b hb;have B:=i c[a] (Lm g);have C:=i c[b] (Lm hb);have d:=row_get o.hr B;have e:=row_get o.hr C
 have q:hgt hs c a=hs.getD c[a] 0:=by
  unfold hgt;rw [List.getD_eq_getElem?_getD (l:=c),List.getElem?_eq_getElem g];rfl
 have r:hgt hs c b=hs.getD c[b] 0:=by
  unfold hgt;rw [List.getD_eq_getElem?_getD (l:=c),List.getElem?_eq_getElem hb];rfl
 rw [q,r];obtain ⟨x,z⟩:∃ x,x=c[a]:=⟨_,rfl⟩;obtain ⟨y,A⟩:∃ y,y=c[b]:=⟨_,rfl⟩;rw [← z] at m B d ⊢;rw [← A] at F C e ⊢;obtain ⟨u,s⟩:∃ u,u=hs.getD x 0:=⟨_,rfl⟩;obtain ⟨v,t⟩:∃ v,v=hs.getD y 0:=⟨_,rfl⟩;rw [← s] at d ⊢;rw [← t] at e ⊢;have N:(a:Int)<(c.length:Int):=γ;have O:(b:Int)<(c.length:Int):=γ;have i3:(x:Int)<(hs.length:Int):=γ;have P:(y:Int)<(hs.length:Int):=γ;have k1:(0:Int)≤(a:Int):=γ;have k2:(0:Int)≤(b:Int):=γ;have k3:(0:Int)≤(x:Int):=γ;have Q:(0:Int)≤(y:Int):=γ;have z0:=Bt D;have z1:=Bt E;have z2:=Bt m;have z3:=Bt d;clear o i z A s t q r;go_enter Tryz.func72,Tryz.ntmps72;go_wp2;obtain ⟨K,L⟩:=kcn w;refine wk ?_;repeat (go_big_quiet_step (fail))
 refine kq1 (fun R hq=>?_);clear K L D E m F d e;go_wp2;go_ret;exact ⟨rfl,hq⟩
def cmpN (hs:List Int) (fs:List Nat) (a b:Nat):Int:=if hgt hs fs a<hgt hs fs b then -1 else if hgt hs fs b<hgt hs fs a then 1 else 0
theorem Ut (w:World) (s n x A v gf k u a b:Nat) (hs:List Int) (c:List Nat) (o:Ordr w s n x A v gf k u hs c) (y:a<c.length) (hb:b<c.length) (z:∀ j∈c,j<hs.length) (h1:c.length≤300) (h2:hs.length≤300) :
  Rt 100 #[.func (.func 72) #[] #[.pointer (Az s),.pointer (Az n)],I (a:Int),I (b:Int)] w (I (cmpN hs c a b)):=by
 have l:=Hd (fun (W:World) hW=>above_any W s n x A v gf k u b a hs c (o.kept hW) hb y z h1 h2);have t:=Hd (fun (W:World) hW=>above_any W s n x A v gf k u a b hs c (o.kept hW) y hb z h1 h2)
 have h:Hid (cmpN hs c a b=if decide (hgt hs c a<hgt hs c b)=true then -1 else if decide (hgt hs c b<hgt hs c a)=true then 1 else 0):=by
  have:cmpN hs c a b=if decide (hgt hs c a<hgt hs c b)=true then -1 else if decide (hgt hs c b<hgt hs c a)=true then 1 else 0:=by simp [cmpN]
  exact this
 obtain ⟨r,hr⟩:∃ r,r=cmpN hs c a b:=⟨_,rfl⟩;obtain ⟨p,hp⟩:∃ p,p=decide (hgt hs c a<hgt hs c b):=⟨_,rfl⟩;obtain ⟨q,hq⟩:∃ q,q=decide (hgt hs c b<hgt hs c a):=⟨_,rfl⟩;rw [← hp] at l h;rw [← hq] at t h;rw [← hr] at h ⊢;clear hp hq hr o z y hb h1 h2
 cases p
 ·cases q
  ·have m:=Hd h.out;clear h;go_enter Tryz.func100,Tryz.ntmps100
   go_wp2_with (first
    | (go_at_call 72;refine (l.out _ (Qd _)).mono ?_;rintro e w1 ⟨rfl,d⟩;have f:=Hd d;clear d l)
    | (go_at_call 72;refine (t.out _ f.out).mono ?_;rintro e B ⟨rfl,g⟩;have i:=Hd (Qb f.out g);clear g))
   go_ret;exact ⟨Ja m.out.symm,i.out⟩
  ·have m:=Hd h.out;clear h;go_enter Tryz.func100,Tryz.ntmps100
   go_wp2_with (first
    | (go_at_call 72;refine (l.out _ (Qd _)).mono ?_;rintro e w1 ⟨rfl,d⟩;have f:=Hd d;clear d l)
    | (go_at_call 72;refine (t.out _ f.out).mono ?_;rintro e B ⟨rfl,g⟩;have i:=Hd (Qb f.out g);clear g))
   go_ret;exact ⟨Ja m.out.symm,i.out⟩
 ·have m:=Hd h.out;clear h;go_enter Tryz.func100,Tryz.ntmps100;go_wp2_with (go_at_call 72;refine (l.out _ (Qd _)).mono ?_;rintro e w1 ⟨rfl,d⟩;have f:=Hd d;clear d)
  go_ret;exact ⟨Ja m.out.symm,f.out⟩
theorem named_any (w:World) (m:Option Addr) (n q r p o pc Q U cn:Nat) (pa:Option Addr) (L:List T3) (R:List Nat) (J:TRow w m L) (W:NRow w Q U R) (X:∀ j∈R,j<L.length) (a2:R.length≤300) (_hL:L.length≤300) :
  Cl 101 #[pileV m L.length n q r p o pa pc,.slice (Ad Q U) R.length cn] w fun e w'=>∃ a c,e=.returned (.slice a R.length c)∧TRow w' a (tgn L R)∧Bl w w'∧∀ g,a=Az g→w.heap.size≤g∧g<w'.heap.size:=by
 have P:Hid (TRow w m L∧NRow w Q U R∧∀ j∈R,j<L.length):=⟨J,W,X⟩;obtain ⟨i3,N,t,u,z⟩:=info_parts inf23;have s:=H4 N t u z;clear J W X N t u z;unfold pileV;go_enter Tryz.func101,Tryz.ntmps101;go_wp2_with (at_make;refine wpList_make_own _ rfl (.const (I 0)) (.tmp 9) 40 rfl (w.heap.size+1) 44 i3 (.agg #[I 0,I 0,I 0]) 3 Tryz.underlying40 s.out.1 s.out.2.1 s.out.2.2.1 .i64 .i64 _ R.length rfl rfl rfl (by rw [s.out.2.2.2];omega) Γ ν ?mk)
 case mk =>
  intro w1 b M;have K:Below (w.alloc (.cells #[.slice m L.length n,.map (some q),.map (some r),.slice (Az p) L.length o,.slice pa L.length pc] 67)).heap.size (w.alloc (.cells #[.slice m L.length n,.map (some q),.map (some r),.slice (Az p) L.length o,.slice pa L.length pc] 67)) w1:=(Below.refl _ _).grown M (Nr _) (fun k h=>by cases h);have A:Hid (Below (w.alloc (.cells #[.slice m L.length n,.map (some q),.map (some r),.slice (Az p) L.length o,.slice pa L.length pc] 67)).heap.size (w.alloc (.cells #[.slice m L.length n,.map (some q),.map (some r),.slice (Az p) L.length o,.slice pa L.length pc] 67)) w1∧w1.ownsRow (w.heap.size+1) 44 3 (.slice (Az (w.heap.size+1)) 0 R.length) 0 []):=⟨K,by simpa using b⟩;clear b M K;go_wp2;go_loopg [5,13] R.length (fun gk s5 V wx=>∃ (i:Nat) (v:Value),i≤R.length∧gk=R.length - i∧v=s5∧V=I (i:Int)∧wx.ownsRow (w.heap.size+1) 44 3 v i (flatV (tgn L (R.take i)))∧Below (w.alloc (.cells #[.slice m L.length n,.map (some q),.map (some r),.slice (Az p) L.length o,.slice pa L.length pc] 67)).heap.size (w.alloc (.cells #[.slice m L.length n,.map (some q),.map (some r),.slice (Az p) L.length o,.slice pa L.length pc] 67)) wx)
  case atStart=>exact ⟨0,_,γ,rfl,rfl,rfl,by simpa [tgn,flatV] using A.out.2,A.out.1⟩
  case round =>
   clear A;obtain ⟨i,v,hi,rfl,rfl,rfl,B,H⟩:=hrel;have O:=Hd (Qb β1 H);have p0:At wr w.heap.size 0 (.slice m L.length n):=Qa H ζ;have zp:=Bt p0;have E:=H2 B H;have zw:w.heap.size+1≤wr.heap.size:=by have:=H.size;simp at this;omega
   clear B H;by_cases h1:i<R.length
   ·have i1:(i:Int)<(R.length:Int):=γ;have i0:(0:Int)≤(i:Int):=γ;have r0:=Qa O.out (P.out.2.1 i h1);have zn:=Bt r0;have T:=P.out.2.2 R[i] (Lm h1);obtain ⟨j,C⟩:∃ j,j=R[i]:=⟨_,rfl⟩;rw [← C] at r0 T;have j1:(j:Int)<(L.length:Int):=γ;have j0:(0:Int)≤(j:Int):=γ;obtain ⟨G,rfl,t0,Y,Z⟩:=(P.out.1.kept O.out) j T;obtain ⟨x,y,k,D⟩:∃ x y k,L[j]=(x,y,k):=⟨_,_,_,rfl⟩
    have HE:Hid (tgn L (R.take (i+1))=tgn L (R.take i) ++ [(x,y,k)]):=by
     have:tgn L (R.take (i+1))=tgn L (R.take i) ++ [(x,y,k)]:=by
      rw [tgn_take h1,← C,List.getD_eq_getElem?_getD,List.getElem?_eq_getElem T,← D];rfl
     exact this
    rw [D] at t0 Y Z;dsimp only at t0 Y Z;have zt:=Bt t0;clear C D;go_wp2_with (at_builtin;refine wpList_append_own _ rfl (.tmp 17) (.tmp 24) 40 rfl (w.heap.size+1) 44 i3 (.agg #[I 0,I 0,I 0]) 3 24 Tryz.underlying40 s.out.1 s.out.2.1 s.out.2.2.1 s.out.2.2.2 rfl τ v i (flatV (tgn L (R.take i))) rfl (Qh E.out.1 β1) ⟨wr.heap.size,0,none⟩ 1 1 [I x,I y,I k] rfl rfl (Jq wr x y k) (Zd x y k) Γ γ ψ ?grow)
    case grow =>
     intro v' w3 b d _
     have F:Hid (w3.ownsRow (w.heap.size+1) 44 3 v' (i+1) (flatV (tgn L (R.take (i+1))))∧Below (w.alloc (.cells #[.slice (Az G) L.length n,.map (some q),.map (some r),.slice (Az p) L.length o,.slice pa L.length pc] 67)).heap.size (w.alloc (.cells #[.slice (Az G) L.length n,.map (some q),.map (some r),.slice (Az p) L.length o,.slice pa L.length pc] 67)) w3):=by
      refine ⟨?_, ?_⟩
      ·rw [HE.out,Uy];exact b
      ·refine (Qc E.out.2).grown d (Qc E.out.2).size (fun k hk=>?_);have:=Qn E.out.1 k hk;simp;omega
     clear b d;go_wp2;go_roundg (R.length - (i+1))
     case measure=>omega
     case rel=>exact ⟨i+1,_,γ,rfl,rfl,σ,F.out.1,F.out.2⟩
   ·have i1:¬ (i:Int)<(R.length:Int):=γ;obtain rfl:i=R.length:=γ;have B:=E.out.1;rw [List.take_length] at B;have f:(tgn L R).length=R.length:=by simp [tgn]
    obtain ⟨a,c,rfl,J⟩:=Yt (l:=tgn L R) (by rw [f];exact B)
    have HT:Hid (TRow wr a (tgn L R)∧Bl w wr∧∀ g,a=Az g→w.heap.size≤g∧g<wr.heap.size):=⟨J,O.out,fun g e=>by
     have:=B.lt g (by rw [e];rfl);exact ⟨γ,this.2⟩⟩
    rw [f];clear B J E O f;go_wp2;go_ret;exact ⟨a,⟨c,rfl⟩,HT.out⟩
theorem four_one (a b c:Int) (d:Option Addr) (n m:Nat):∀ u ∈ [I a,I b,I c,.slice d n m],u.oneCell'=true:=by
 intro u e;simp at e;rcases e with rfl | rfl | rfl | rfl <;> rfl
theorem heap_of {h:Nat→Int} {S:List (T3×Nat×Nat)} {H:List (T3×List Nat)} (hl:H.length=S.length) (g:∀ i (hi:i<H.length) (c:i<S.length),H[i].1=S[i].1∧H[i].2.Perm (Gk pl S[i].1)∧Upw h H[i].2) (r:S.Pairwise (fun x y=>ltT x.1 y.1)) (p:∀ s∈S,Gk pl s.1≠[]) (l:∀ k,k<pl.length→∃ s∈S,s.1=pl.getD k (0,0,0)) (f:∀ i j,i<pl.length→j<pl.length→pl.getD i (0,0,0)=pl.getD j (0,0,0)→i≠j→h i≠h j) :
  Heap pl.length (plcA pl) h H:=by
 refine ⟨?_, ?_, ?_⟩
 ·rw [List.pairwise_iff_getElem];intro i j hi c m;have hp:=List.pairwise_iff_getElem.1 r i j γ γ m;rw [(g i hi γ).1,(g j c γ).1];exact hp
 ·intro s hs;obtain ⟨i,hi,rfl⟩:=List.getElem_of_mem hs;obtain ⟨e1,e2,q⟩:=g i hi γ
  have n:∀ j∈H[i].2,j<pl.length∧pl.getD j (0,0,0)=H[i].1:=fun j c=>by
   rw [e1];exact Kq.1 (e2.mem_iff.1 c)
  refine ⟨fun e=>?_, ?_,n⟩
  ·rw [e] at e2;exact p S[i] (Lm _) e2.symm.eq_nil
  ·have o:H[i].2.Nodup:=e2.nodup_iff.2 (Gk_nodup _ _);refine (q.and o).imp_of_mem (fun {a b} l hb d=>?_);have h1:=n a l;have h2:=n b hb;have:=f a b h1.1 h2.1 (by rw [h1.2,h2.2]) d.2;have:=d.1;omega
 ·intro j c;obtain ⟨s,hs,e⟩:=l j c;obtain ⟨i,hi,rfl⟩:=List.getElem_of_mem hs;refine ⟨H[i],Lm γ, ?_⟩;exact (g i γ hi).2.1.mem_iff.2 (Kq.2 ⟨c,e.symm⟩)
def SRowF (w:World) (base:Nat) (a:Option Addr) (S:List (T3×List T3)):Prop :=
 ∀ i (h:i<S.length),∃ g sa sc,a=Az g∧base≤g∧At w g (i*4) (I S[i].1.1)∧At w g (i*4+1) (I S[i].1.2.1)∧At w g (i*4+2) (I S[i].1.2.2)∧At w g (i*4+3) (.slice sa S[i].2.length sc)∧TRow w sa S[i].2∧∀ q,sa=Az q→base≤q
theorem SRowF.row {S:List (T3×List T3)} (h:SRowF w base a S):SRow w a S:=fun i hi=>by
 obtain ⟨g,c,d,e,_,c0,c1,c2,c3,b,_⟩:=h i hi;exact ⟨g,c,d,e,c0,c1,c2,c3,b⟩
theorem SRowF.kept {S:List (T3×List T3)} (h:SRowF w base a S) (hb:Bl w w'):SRowF w' base a S:=fun i hi=>by
 obtain ⟨g,c,d,e,hl,c0,c1,c2,c3,b,hq⟩:=h i hi;exact ⟨g,c,d,e,hl,Qa hb c0,Qa hb c1,Qa hb c2,Qa hb c3,b.kept hb,hq⟩
theorem SRowF.low {b:Nat} {S:List (T3×List T3)} (h:SRowF w base a S) (hl:b≤base):SRowF w b a S:=fun i hi=>by
 obtain ⟨g,d,f,e,h1,c0,c1,c2,c3,c,hq⟩:=h i hi;exact ⟨g,d,f,e,γ,c0,c1,c2,c3,c,fun q e=>by have:=hq q e;omega⟩
theorem SRowF.set {S:List (T3×List T3)} (h:SRowF w base a S) {p:Addr} {u:Value} (hp:p.block<base):SRowF (w.setCell p u) base a S:=fun i hi=>by
 obtain ⟨g,c,d,e,h1,c0,c1,c2,c3,b,hq⟩:=h i hi;exact ⟨g,c,d,e,h1,Xc c0 θ,Xc c1 θ,Xc c2 θ,Xc c3 θ,b.far (fun q e=>by have:=hq q e;omega),hq⟩
theorem srow_of {v:Value} {L:List T3} {H:List (T3×List Nat)} {R:List (T3×Value)} (d:w.ownsRow base 109 4 v R.length (rowS R)) (hl:R.length=H.length) (m:∀ i (hi:i<R.length) (n:i<H.length),R[i].1=H[i].1∧TrisAt w R[i].2 (tgn L H[i].2)) (l:∀ s∈R,∀ q,s.2.ownBlock=some q→base≤q):∃ a c,v=.slice a H.length c∧SRowF w base a (H.map fun s=>(s.1,tgn L s.2)):=by
 rcases d.2 with ⟨rfl,h0⟩ | ⟨g,e,j,rfl,f,_⟩
 ·refine ⟨none,0,by (try simp only [At,I,Fn,Az,Ad]);rw [← hl,h0],fun i hi=>?_⟩;(try simp only [At,I,Fn,Az,Ad] at hi);rw [List.length_map] at hi
  omega
 ·refine ⟨some ⟨g,0,none⟩,e,by (try simp only [At,I,Fn,Az,Ad]);rw [hl],fun i hi=>?_⟩;have h:i<H.length:=by simpa using hi
  have b:i<R.length:=γ;obtain ⟨e1,a,c,e2,k⟩:=m i b h;obtain ⟨r0,r1,r2,r3⟩:=rowS_at R i b;(try simp only [At,I,Az]);rw [List.getElem_map]
  refine ⟨g,a,c,rfl,f, ?_, ?_, ?_, ?_,k,fun q eq=>l R[i] (Lm b) q (by (try simp only [At,I,Fn,Az,Ad]);rw [e2,eq];rfl)⟩
  ·(try simp only);rw [d.cellAt (i*4) γ,r0,e1]
  ·(try simp only);rw [d.cellAt (i*4+1) γ,r1,e1]
  ·(try simp only);rw [d.cellAt (i*4+2) γ,r2,e1]
  ·(try simp only);rw [d.cellAt (i*4+3) γ,r3,e2]
theorem stacks_any (w:World) (G pa:Option Addr) (J N O M K pc:Nat) (L pl:List T3) (rv:Value) (h:Nat→Int) (hl:pl.length=L.length) (hT:TRow w G L) (hP:TRow w pa pl) (h0:0<L.length) (hn:L.length≤300) (hS:∀ W,Bl w W→SortsN W L.length rv h) (a6:∀ i j,i<pl.length→j<pl.length→pl.getD i (0,0,0)=pl.getD j (0,0,0)→i≠j→h i≠h j) :
  Cl 67 #[pileV G L.length J N O M K pa pc,rv] w fun e w'=>∃ a c H,e=.returned (.slice a H.length c)∧Heap L.length (plcA pl) h H∧SRowF w' w.heap.size a (H.map fun s=>(s.1,tgn L s.2))∧Bl w w':=by
 obtain ⟨n,a2⟩:∃ n,n=L.length:=⟨_,rfl⟩;unfold pileV;rw [← a2];have Y:Hid (n=L.length∧pl.length=n):=⟨a2,γ⟩;have ae:Bl w (w.alloc (.cells #[.slice G n J,.map (some N),.map (some O),.slice (Az M) n K,.slice pa n pc] 67)):=Qc (Qd _);have ap:=hS _ ae
 have CP:Hid (Cl 98 #[.agg #[.slice G n J,.map (some N),.map (some O),.slice (Az M) n K,.slice pa n pc]] (w.alloc (.cells #[.slice G n J,.map (some N),.map (some O),.slice (Az M) n K,.slice pa n pc] 67)) fun e w'=>∃ g m c S,e=.returned (.slice (Az g) m c)∧PiledTo (w.alloc (.cells #[.slice G n J,.map (some N),.map (some O),.slice (Az M) n K,.slice pa n pc] 67)) w' pl g m c S):=by
  have:=piled_any (w.alloc (.cells #[.slice G n J,.map (some N),.map (some O),.slice (Az M) n K,.slice pa n pc] 67)) G (Az M) pa n J n K pc (some N) (some O) pl (hP.kept ae) γ γ;rw [hl,← a2] at this;exact this
 have HT:=H2 hT hP;have HD:=Hd a6;have ao:=Hd ap;obtain ⟨bs,az,b5,b6,b7⟩:=info_parts inf98;have HI:=H4 az b5 b6 b7;have c5:n≤300:=γ;have bz:0<n:=γ;clear hT hP hS a6 ap ae hl a2 h0 hn az b5 b6 b7;go_enter Tryz.func67,Tryz.ntmps67;go_wp2_with (go_at_call 98;refine CP.out.mono ?_;rintro e w1 ⟨g,m,c,S,rfl,aa⟩;obtain rfl:=aa.len;have f:=Hd aa;clear aa)
 obtain ⟨B,V⟩:∃ B,B=w.alloc (.cells #[.slice G n J,.map (some N),.map (some O),.slice (Az M) n K,.slice pa n pc] 67):=⟨_,rfl⟩;have c7:B.heap.size=w.heap.size+1:=by rw [V];simp
 have P:Hid (At B w.heap.size 0 (.slice G n J)∧At B w.heap.size 1 (.map (some N))∧At B w.heap.size 2 (.map (some O))∧At B w.heap.size 3 (.slice (Az M) n K)∧At B w.heap.size 4 (.slice pa n pc)):=by
  rw [V];exact ⟨ζ,ζ,ζ,ζ,ζ⟩
 have Z:Hid (Bl w B):=by rw [V];exact Qc (Qd _)
 rw [← V] at f ao;obtain ⟨z,hz⟩:∃ z,z=w1.heap.size:=⟨_,rfl⟩;have ay:∀ e,(Gn pl pl.length e).length=(Gk pl e).length:=fun e=>by rw [Gn_eq,List.length_map];rfl
 have p:Hid (Far B z g S∧B.heap.size≤z∧(∀ s∈S,Gk pl s.1≠[])∧S.length≤300):=by
  have bq:g<w1.heap.size:=by
   obtain ⟨s,hs,_⟩:=f.out.all 0 (by have:=Y.out.2;omega);exact bk (f.out.row 0 (List.length_pos_of_mem hs))
  refine ⟨⟨by rw [hz];exact bq,fun s hs=>?_,f.out.far⟩,by rw [hz];exact f.out.b.size,fun s hs e=>?_, ?_⟩
  ·have h1:=(f.out.own s hs).lt s.2.1 rfl;exact ⟨by rw [hz];exact h1.2,h1.1,f.out.off s hs⟩
  ·refine f.out.ne s hs ?_;have:=ay s.1;rw [e] at this;exact List.length_eq_zero_iff.1 this
  ·have h1:=sub_lenP (S.map (fun s=>s.1)) pl (by
    refine List.pairwise_map.2 (f.out.ord.imp ?_);intro a b h e;exact Xo b.1 (by rw [e] at h;exact h)) (fun e he=>by
    obtain ⟨s,hs,rfl⟩:=List.mem_map.1 he;have b8:=f.out.ne s hs;rw [Gn_eq] at b8;obtain ⟨k,hk⟩:=List.exists_mem_of_ne_nil (Gk pl s.1) (fun e=>b8 (by show List.map _ (Gk pl s.1)=[];rw [e];rfl));have:=Kq.1 hk;rw [← this.2,List.getD_eq_getElem?_getD,List.getElem?_eq_getElem this.1];exact Lm _)
   rw [List.length_map] at h1;have:=Y.out.2;omega
 have an:Hid (STW B w1 z g SN L pl h S 0 [] []):=by
  have:STW B w1 z g SN L pl h S 0 [] []:=by
   refine ⟨fun i hi=>?_,fun i hi _=>own_nw (f.out.own S[i] (Lm hi)),⟨by simp [rowS],Or.inl ⟨rfl,rfl⟩⟩,⟨rfl,rfl⟩,fun i hi=>by simp at hi,fun s hs=>by simp at hs,fun i hi=>by simp at hi,f.out.b,γ⟩;show World.cell? _ _=_
   rw [f.out.row i hi,ay]
  exact this
 clear V hz;go_wp2;go_loopg [5,11] S.length (fun gk s5 bt wx=>∃ (k:Nat) (v:Value) (H:List (T3×List Nat)) (R:List (T3×Value)),k≤S.length∧gk=S.length - k∧v=s5∧bt=I (k:Int)∧STW B wx z g v L pl h S k H R)
 case atStart=>exact ⟨0,_,[],[],γ,rfl,rfl,rfl,an.out⟩
 case round =>
  clear an;obtain ⟨k,v,H,R,hk,rfl,rfl,rfl,hW⟩:=hrel;have A:=Hd hW;clear hW;by_cases h1:k<S.length
  ·have i1:(k:Int)<(S.length:Int):=γ;have i0:(0:Int)≤(k:Int):=γ;have c0:=A.out.row k h1;have zg:=Bt c0;have C:=p.out.1.s S[k] (Lm h1);have Q:=p.out.2.2.1 S[k] (Lm h1);have CS:=ao.out wr S[k].2.1 S[k].2.2 (Gk pl S[k].1) A.out.b C.2.1 Q (by have:=Gk_len pl S[k].1;have:=Y.out.2;omega) (fun j hj=>by have:=(Kq.1 hj).1;have:=Y.out;omega) (A.out.left k h1 (Nr _));obtain ⟨gb,ah⟩:∃ gb,gb=S[k].2.1:=⟨_,rfl⟩;obtain ⟨cb,ag⟩:∃ cb,cb=S[k].2.2:=⟨_,rfl⟩;obtain ⟨nb,ai⟩:∃ nb,nb=(Gk pl S[k].1).length:=⟨_,rfl⟩;rw [← ah,← ag,← ai] at c0 CS;have bm:=Hd CS;have F:=H3 ah ag ai;clear CS C ah ag ai Q;go_wp2_with (go_at_call 99;refine bm.out.mono ?_;rintro e w2 ⟨rfl,R',hp,hs,hN,ax⟩;have l:=H4 hp hs hN ax;clear hp hs hN ax)
   have C:=p.out.1.s S[k] (Lm h1);have Q:=p.out.2.2.1 S[k] (Lm h1);have D:Bl B w2:=A.out.b.grown l.out.2.2.2 A.out.b.size (fun r e=>by cases e;rw [F.out.1];exact C.2.1);have af:Bl w w2:=Z.out.trans (D.mono Z.out.size);have p0:=Qa D P.out.1;have p1:=Qa D P.out.2.1;have p2:=Qa D P.out.2.2.1;have p3:=Qa D P.out.2.2.2.1;have p4:=Qa D P.out.2.2.2.2;have ab:R'.length=nb:=by rw [F.out.2.2];exact l.out.1.length_eq
   have T:R'≠[]:=fun e=>Q (by have:=l.out.1;rw [e] at this;exact this.symm.eq_nil);have ac:0<R'.length:=List.length_pos_iff.2 T;obtain ⟨j,hj⟩:∃ j,j=R'[0]:=⟨_,rfl⟩;have r0:=(l.out.2.2.1 0 ac).1;have E:=Kq.1 (l.out.1.mem_iff.1 (Lm ac));rw [← hj] at r0 E;obtain ⟨gp,rfl,t0,t1,t2⟩:=(HT.out.2.kept af) j E.1;have b9:pl[j]=S[k].1:=by rw [← E.2,List.getD_eq_getElem?_getD,List.getElem?_eq_getElem E.1];rfl
   rw [b9] at t0 t1 t2;obtain ⟨x,hx⟩:∃ x,x=S[k].1.1:=⟨_,rfl⟩;obtain ⟨y,hy⟩:∃ y,y=S[k].1.2.1:=⟨_,rfl⟩;obtain ⟨t,ht⟩:∃ t,t=S[k].1.2.2:=⟨_,rfl⟩;rw [← hx] at t0;rw [← hy] at t1;rw [← ht] at t2;have a7:=H3 hx hy ht;have j1:(j:Int)<(n:Int):=by have:=Y.out.2;have:=E.1;omega
   have j0:(0:Int)≤(j:Int):=γ;have ca:(0:Int)<(nb:Int):=γ;have cd:0<nb:=γ;have zp:=Bt p0;have zb:=Bt r0;have zt:=Bt t0
   have CN:Hid (∀ W:World,Bl w2 W→Cl 101 #[.agg #[.slice G n J,.map (some N),.map (some O),.slice (Az M) n K,.slice (Az gp) n pc],.slice (Az gb) nb cb] W fun e w'=>∃ a c,e=.returned (.slice a nb c)∧TRow w' a (tgn L R')∧Bl W w'∧∀ g,a=Az g→W.heap.size≤g∧g<w'.heap.size):=fun W hW=>by
    have:=named_any W G J N O M K pc gb 0 cb (Az gp) L R' ((HT.out.1.kept af).kept hW) (fun i hi=>by rw [Nat.zero_add];exact Qa hW (l.out.2.2.1 i hi).1) (fun j hj=>by have:=(Kq.1 (l.out.1.mem_iff.1 hj)).1;have:=Y.out;omega) (by have:=Y.out;have:=Gk_len pl S[k].1;have:=F.out.2.2;omega) (by have:=Y.out.1;omega);unfold pileV at this;rw [← Y.out.1,ab] at this;exact this
   have ak:=H2 T ab;have am:=Hd A.out.len.1;have br:z≤w2.heap.size:=Nt A.out.zz l.out.2.2.2.size
   have bn:Hid (w2.ownsRow z 109 4 v R.length (rowS R)):=A.out.own.kept l.out.2.2.2 (by
    cases hu:v.ownBlock with
    | none=>exact Or.inl rfl
    | some q =>
     refine Or.inr (fun e1=>?_);have h5:=(A.out.own.lt q hu).1;have h6:=F.out.1;have h7:=C.1;simp at e1;omega)
   have bv:k≤300:=by have:=p.out.2.2.2;omega
   have u:Hid (∀ b,b<z→some b≠v.ownBlock):=fun b hb e=>by have:=(A.out.own.lt b e.symm).1;omega
   have X:w.heap.size<z:=by have:=p.out.2.1;omega
   have bu:gb<z:=by rw [F.out.1];exact C.1
   have aj:gp<z:=by
    obtain ⟨g',e9,u0,_⟩:=HT.out.2 j E.1
    cases e9;have u9:=Bt u0;omega
   clear hx hy ht b9 E ab T ac hj D af C Q
   go_region_held3 (fun w'=>At w' w.heap.size 0 (.slice G n J)∧At w' w.heap.size 1 (.map (some N))∧At w' w.heap.size 2 (.map (some O))∧At w' w.heap.size 3 (.slice (Az M) n K)∧At w' w.heap.size 4 (.slice (Az gp) n pc)∧At w' gb 0 (I (j:Int))∧At w' gp (j*3) (I x)∧At w' gp (j*3+1) (I y)∧At w' gp (j*3+2) (I t))
    ((refine ⟨?_, ?_, ?_, ?_, ?_, ?_, ?_, ?_, ?_⟩ <;> (first | (with_reducible (repeat (first | assumption | refine Ql ?_ | refine Qi ?_));done) | (simp [go_sem];done))))
    (first
     | (go_at_call 101;refine (CN.out _ ω).mono ?_;rintro e w8 ⟨a8,c8,rfl,ar,av,aw⟩;have o:Bl w2 w8:=Qb ω av;have HQ:Hid (TRow w8 a8 (tgn L R')∧Bl w2 w8∧∀ g,a8=some ⟨g,0,none⟩→w2.heap.size≤g∧g<w8.heap.size):=⟨ar,o,aw⟩;have ba:=Qa o p0;have bb:=Qa o p1;have bc:=Qa o p2;have be:=Qa o p3;have bf:=Qa o p4;have bg:=Qa o r0;have bh:=Qa o t0;have bi:=Qa o t1;have bj:=Qa o t2;have c6:z≤w8.heap.size:=Nt br o.size;clear ar av aw o)
     | (refine step_append_lies _ γ2 (.tmp 19) (.tmp 31) 28 γ2 z 109 bs (.agg #[I 0,I 0,I 0,SN]) 4 48 Tryz.underlying28 HI.out.1 HI.out.2.1 HI.out.2.2.1 HI.out.2.2.2 rfl τ v R.length (rowS R) γ2 (Qh bn.out (Qc HQ.out.2.1)) ⟨w8.heap.size,0,none⟩ 1 1 [I x,I y,I t,.slice a8 nb c8] γ2 rfl (cell_four _ _ _ _ _ _) (four_one _ _ _ _ _ _) τ (by have:=am.out;unfold maxLen;omega) (by have:=am.out;omega) ψ (w8.heap.size+1) ν ?_;intro gq bp W3 U d au bw;have s0:=d.cell (Ql ba) (u.out _ X);have s1:=d.cell (Ql bb) (u.out _ X);have s2:=d.cell (Ql bc) (u.out _ X);have s3:=d.cell (Ql be) (u.out _ X);have s4:=d.cell (Ql bf) (u.out _ X);have s5:=d.cell (Ql bg) (u.out _ bu);have s6:=d.cell (Ql bh) (u.out _ aj);have s7:=d.cell (Ql bi) (u.out _ aj);have s8:=d.cell (Ql bj) (u.out _ aj);have bo:Hid (STW B W3 z g (.slice (some ⟨gq,0,none⟩) (R.length+1) bp) L pl h S (k+1) (H ++ [(S[k].1,R')]) (R ++ [(S[k].1,.slice a8 nb c8)])):=(A.out.next h1 p.out.1 p.out.2.1 (F.out.1 ▸ l.out.2.2.2) l.out.1 l.out.2.1 HQ.out.2.1 HQ.out.1 (by rw [← ak.out.2];simp [tgn]) HQ.out.2.2 d (by rw [← a7.out.1,← a7.out.2.1,← a7.out.2.2];exact U) au ak.out.1);clear U d au))
   all_goals
    go_wp2;go_roundg (S.length - (k+1))
    case measure=>omega
    case rel=>exact ⟨k+1,_,_,_,γ,rfl,rfl,σ,bo.out⟩
  ·have i1:¬ (k:Int)<(S.length:Int):=γ;obtain rfl:k=S.length:=γ;obtain ⟨a,c9,rfl,aq⟩:=srow_of A.out.own (by rw [A.out.len.1,A.out.len.2]) A.out.tris (fun s hs q hq=>(A.out.off s hs q hq).1)
   have HE:Hid (Heap n (plcA pl) h H∧SRowF wr w.heap.size a (H.map fun s=>(s.1,tgn L s.2))∧Bl w wr):=by
    refine ⟨?_,aq.low (by have:=p.out.2.1;omega),Z.out.trans (A.out.b.mono Z.out.size)⟩;have:=heap_of A.out.len.2 A.out.done f.out.ord p.out.2.2.1 f.out.all HD.out;rw [Y.out.2] at this;exact this
   clear aq;go_wp2;go_ret;exact ⟨a,c9,H,rfl,HE.out⟩
end Go.Proofs.YtbjmnlefkbhbdaaGreatDoor
