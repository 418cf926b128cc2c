/- A part of it. -/
import Derived.Test.YtbjmnlefkbhbdaaGreatDoorQlak
import Derived.Test.YtbjmnlefkbhbdaaGreatDoorQlam
set_option maxRecDepth 100000
set_option maxHeartbeats 40000000
namespace Go.Proofs.YtbjmnlefkbhbdaaGreatDoor
open Go.RowKit
variable {l:List T3} {B g n:Nat} {v:Value} {a w w':World} {pa:Option Addr}
def pls (L:List T3) (M:Nat→M6) (n:Nat):List T3:=(List.range n).map fun i=>mvt (M i) (L.getD i (0,0,0))
theorem Qu (L:List T3) (M:Nat→M6) (n:Nat):(pls L M n).length=n:=by simp [pls]
theorem pls_succ (L:List T3) (M:Nat→M6) (n:Nat):pls L M (n+1)=pls L M n ++ [mvt (M n) (L.getD n (0,0,0))]:=by
 unfold pls;rw [List.range_succ,List.map_append];rfl
structure SpB (w0 wx:World) (B:Nat) (ad:Option Addr) (n cc ra rk gm cm:Nat) (v:Value) (l:List T3):Prop where
 c0:At wx B 0 (.slice ad n cc)
 c1:At wx B 1 (.map (some ra))
 c2:At wx B 2 (.map (some rk))
 c3:At wx B 3 (.slice (Az gm) n cm)
 c4:At wx B 4 v
 f4:Fn wx B 4
 own:wx.ownsRow (B+1) 44 3 v l.length (flatV l)
 low:w0.heap.size≤B
 bel:Bl w0 wx
theorem SpB.lt {i:World} {b:Option Addr} {c f e d:Nat} (h:SpB i a B b n c f g e d v l):B<a.heap.size:=bk h.c0
theorem SpB.kept {g i:World} {a:Option Addr} {b e f d c:Nat} (h:SpB g i B a n b e f d c v l) (hb:Bl i w'):SpB g w' B a n b e f d c v l :=
 ⟨Qa hb h.c0,Qa hb h.c1,Qa hb h.c2,Qa hb h.c3,Qa hb h.c4,(hb.frozen h.lt).trans h.f4,Qh h.own hb,h.low,Qb h.bel hb⟩
theorem SpB.more {s u c:World} {f:Option Addr} {q r j i:Nat} {v':Value} {t:T3} (h:SpB s u B f n g q r j i v l) (hg:u.grownBy c v.ownBlock) (o:c.ownsRow (B+1) 44 3 v' (l.length+1) (flatV l ++ [I t.1,I t.2.1,I t.2.2])):SpB s (c.setCell ⟨B,4,none⟩ v') B f n g q r j i v' (l ++ [t]):=by
 have b:some B≠v.ownBlock:=fun e=>by
  have:=Qn h.own B e.symm;omega
 have d:v'.ownBlock≠some B:=fun e=>by
  have:=Qn o B e;omega
 have g1:=h.bel.grown hg h.bel.size (fun k x=>by have:=Qn h.own k x;have:=h.low;omega);have m:B<c.heap.size:=Nl h.lt hg.size;have c4:=hg.cell h.c4 b;have f4:Fn c B 4:=(Fo (a:=⟨B,4,none⟩) (hg.block B h.lt b)).trans h.f4;refine ⟨Qo (hg.cell h.c0 b) γ,Qo (hg.cell h.c1 b) γ,Qo (hg.cell h.c2 b) γ,Qo (hg.cell h.c3 b) γ,Js c4, ?_, ?_,h.low, ?_⟩
 ·simp [go_sem,f4]
 ·rw [Uy,List.length_append,List.length_singleton];exact o.kept (Qg c B 4 v') (Or.inr d)
 ·exact g1.setCell (p:=⟨B,4,none⟩) h.low _
theorem TRow.far {p:Addr} {u:Value} (h:TRow w pa l) (a:∀ g,pa=Az g→g≠p.block):TRow (w.setCell p u) pa l:=fun i hi=>by
 obtain ⟨g,e,c0,c1,c2⟩:=h i hi;exact ⟨g,e,Jt c0 (a g e),Jt c1 (a g e),Jt c2 (a g e)⟩
theorem TRow.dr (h:TRow w pa l):TRow w.drew pa l:=fun i hi=>by
 obtain ⟨g,e,c0,c1,c2⟩:=h i hi;exact ⟨g,e,Qi c0,Qi c1,Qi c2⟩
theorem Uh {v:World} (hg:v.heap.size=g) (hb:Below ((v.alloc (.cells #[I 0,I 0,I 0] 44))).heap.size ((v.alloc (.cells #[I 0,I 0,I 0] 44))) a):(At a g 0 (I 0)∧At a g 1 (I 0)∧At a g 2 (I 0))∧(Fn a g 0∧Fn a g 1∧Fn a g 2)∧g<a.heap.size:=by
 subst hg;have c0:At a v.heap.size 0 (I 0):=Qa hb ζ;refine ⟨⟨c0,Qa hb ζ,Qa hb ζ⟩,⟨?_, ?_, ?_⟩,bk c0⟩
 all_goals exact (hb.frozen ν).trans ζ
theorem fresh3_d {v:World} (hg:v.heap.size=g) (hb:Below ((v.alloc (.cells #[I 0,I 0,I 0] 44)).drew).heap.size ((v.alloc (.cells #[I 0,I 0,I 0] 44)).drew) a):(At a g 0 (I 0)∧At a g 1 (I 0)∧At a g 2 (I 0))∧(Fn a g 0∧Fn a g 1∧Fn a g 2)∧g<a.heap.size:=by
 subst hg;have c0:At a v.heap.size 0 (I 0):=Qa hb ζ;refine ⟨⟨c0,Qa hb ζ,Qa hb ζ⟩,⟨?_, ?_, ?_⟩,bk c0⟩
 all_goals exact (hb.frozen ν).trans ζ
theorem fresh3_dd {v:World} (hg:v.heap.size=g) (hb:Below ((v.alloc (.cells #[I 0,I 0,I 0] 44)).drew.drew).heap.size ((v.alloc (.cells #[I 0,I 0,I 0] 44)).drew.drew) a):(At a g 0 (I 0)∧At a g 1 (I 0)∧At a g 2 (I 0))∧(Fn a g 0∧Fn a g 1∧Fn a g 2)∧g<a.heap.size:=by
 subst hg;have c0:At a v.heap.size 0 (I 0):=Qa hb ζ;refine ⟨⟨c0,Qa hb ζ,Qa hb ζ⟩,⟨?_, ?_, ?_⟩,bk c0⟩
 all_goals exact (hb.frozen ν).trans ζ
theorem spread_pile (w:World) (H z G j T:Nat) (q:Option Addr) (L:List T3) (kd:E4→Int) (M:Nat→M6) (hs:Steps w) (Z:PA w q z L) (hK:KL w G kd) (hL:L.length≤300) (a2:∀ t∈L,(0≤t.1∧t.1≤8)∧(0≤t.2.1∧t.2.1≤8)∧(0≤t.2.2∧t.2.2≤3)) (hM:MRow w j L.length M) (hC:Cons kd L M) (hG:∀ i,i<L.length→GoodM (M i) 48000) :
  Cl 39 #[.agg #[.slice q L.length H,.map (some z),.map (some G)],.slice (Az j) L.length T] w fun e w'=>∃ pa pc,e=.returned (.tuple #[.agg #[.slice q L.length H,.map (some z),.map (some G),.slice (Az j) L.length T,.slice pa L.length pc],.bool true])∧TRow w' pa (pls L M L.length)∧Bl w w':=by
 have CF:Hid (∀ (f:World) (pa:Option Addr) (pn pc:Nat),Bl w f→Rt 83 #[.agg #[.slice q L.length H,.map (some z),.map (some G),.slice (Az j) L.length T,.slice pa pn pc]] f (.bool true)):=fun f pa pn pc d=>fits_any f H z G j T q pa pn pc L kd M (hs.kept d) (Z.kept d) (hK.kept d) hL a2 (hM.kept d) hC hG;have CM:Hid (∀ (f:World) (i:Nat) (hi:i<L.length),Bl w f→Rt 8 #[.agg #[I (M i).1,I (M i).2.1,I (M i).2.2.1,I (M i).2.2.2.1,I (M i).2.2.2.2.1,I (M i).2.2.2.2.2],.agg #[I L[i].1,I L[i].2.1,I L[i].2.2]] f (.tuple #[.agg #[I (mvt (M i) L[i]).1,I (mvt (M i) L[i]).2.1,I (mvt (M i) L[i]).2.2],I 0])):=fun f i hi d=>Move_small (M i) L[i] f (hG i hi) (a2 _ (Lm hi)) (hs.kept d);have HR:=H2 Z.1 hM;obtain ⟨i3,aq,U,V,W⟩:=info_parts inf23;have HI:=H4 aq U V W;have qn:((L.length:Int) != (L.length:Int))=false:=ν;clear hs Z hK a2 hM hC hG aq U V W;go_enter Tryz.func39,Tryz.ntmps39;go_wp2;go_loopg [24] L.length (fun gk b6 wx=>∃ (i:Nat) (v:Value),i≤L.length∧gk=L.length - i∧b6=I (i:Int)∧SpB ((w.alloc (.cells #[.slice q L.length H,.map (some z),.map (some G)] 65)).alloc (.cells #[SN,.map none,.map none,SN,SN] 67)) wx (w.heap.size+1+1) q L.length H z G j T v (pls L M i))
 case atStart=>exact ⟨0,SN,γ,rfl,rfl,⟨ζ,ζ,ζ,ζ,ζ,ζ,⟨by simp [pls,flatV],.inl ⟨rfl,by simp [pls]⟩⟩,ν,Qc (Qd _)⟩⟩
 case round =>
  obtain ⟨i,v,hi,rfl,rfl,hS⟩:=hrel;have l:=Hd hS;have O:=Hd (Qb β2 hS.bel);have zB:=hS.lt;clear hS;by_cases h1:i<L.length
  ·have i1:(i:Int)<(L.length:Int):=γ;have i0:(0:Int)≤(i:Int):=γ;obtain ⟨bz,rfl,t0,t1,t2⟩:=HR.out.1 i h1;replace t0:=Qa O.out t0;replace t1:=Qa O.out t1;replace t2:=Qa O.out t2;have zt:=Bt t0;obtain ⟨⟨y0,y1,y2,y3,y4,y5⟩,_⟩:=HR.out.2 i h1;have aw:=CM.out;obtain ⟨A,B,C,D,E,F,a6⟩:∃ A B C D E F,M i=(A,B,C,D,E,F):=⟨_,_,_,_,_,_,rfl⟩;obtain ⟨x,y,k,aa⟩:∃ x y k,L[i]=(x,y,k):=⟨_,_,_,rfl⟩;obtain ⟨X,Y,K,a7⟩:∃ X Y K,mvt (M i) L[i]=(X,Y,K):=⟨_,_,_,rfl⟩
   have ac:Hid (∀ f:World,Bl wr f→Rt 8 #[.agg #[I A,I B,I C,I D,I E,I F],.agg #[I x,I y,I k]] f (.tuple #[.agg #[I X,I Y,I K],I 0])):=fun f d=>by
    have h:=CM.out f i h1 (Qb O.out d);rw [a7,a6,aa] at h;exact h
   rw [a6] at y0 y1 y2 y3 y4 y5;rw [aa] at t0 t1 t2;dsimp only at y0 y1 y2 y3 y4 y5 t0 t1 t2
   have HP:Hid (pls L M (i+1)=pls L M i ++ [(X,Y,K)]):=by
    have:pls L M (i+1)=pls L M i ++ [(X,Y,K)]:=by
     rw [pls_succ,← a7,List.getD_eq_getElem?_getD,List.getElem?_eq_getElem h1];rfl
    exact this
   clear aw a6 aa a7;go_wp2;refine Qj (fun p hW0=>?_)
   have P:Hid (Bl wr p):=by
    have:Bl wr p:=Θ;exact this
   obtain ⟨N,r⟩:∃ b,b=wr.heap.size:=⟨_,rfl⟩;have x0:At p N 0 (I x):=by rw [hW0,r];simp [go_sem]
   have x1:At p N 1 (I y):=by rw [hW0,r];simp [go_sem]
   have x2:At p N 2 (I k):=by rw [hW0,r];simp [go_sem]
   clear hW0;rw [← r];clear r;have n:=Qb O.out P.out;replace y0:=Qa n y0;replace y1:=Qa n y1;replace y2:=Qa n y2;replace y3:=Qa n y3;replace y4:=Qa n y4;replace y5:=Qa n y5;have b7:=Bt y0;have b8:=Bt x0;have ab:Hid (∀ f:World,Bl p f→Rt 8 #[.agg #[I A,I B,I C,I D,I E,I F],.agg #[I x,I y,I k]] f (.tuple #[.agg #[I X,I Y,I K],I 0])):=fun f d=>ac.out f (Qb P.out d);clear n t0 t1 t2 zt;go_cut [9,10] (fun s9 b5 wx=>∃ g9:Nat,s9=.pointer (Az g9)∧b5=I 0∧(At wx g9 0 (I X)∧At wx g9 1 (I Y)∧At wx g9 2 (I K))∧Bl p wx)
   case first =>
    go_region_held3 (fun w'=>At w' j (i*6) (I A)∧At w' j (i*6+1) (I B)∧At w' j (i*6+2) (I C)∧At w' j (i*6+3) (I D)∧At w' j (i*6+4) (I E)∧At w' j (i*6+5) (I F)∧At w' N 0 (I x)∧At w' N 1 (I y)∧At w' N 2 (I k))
     ((refine ⟨?_, ?_, ?_, ?_, ?_, ?_, ?_, ?_, ?_⟩ <;> (repeat' (first | (with_reducible assumption) | (with_reducible refine Jt ?_ ?_) | (dsimp only;omega) | (simp [go_sem];done) | (with_reducible refine Ql ?_) | (with_reducible refine Qi ?_)))))
     ((go_at_call 8;refine (ab.out _ Ξ).mono ?_;rintro e c ⟨rfl,hb⟩;have au:At c j (i*6) (I A):=Qa hb δ;have bs:At c j (i*6+1) (I B):=Qa hb δ;have bt:At c j (i*6+2) (I C):=Qa hb δ;have bu:At c j (i*6+3) (I D):=Qa hb δ;have bv:At c j (i*6+4) (I E):=Qa hb δ;have bw:At c j (i*6+5) (I F):=Qa hb δ;have ar:At c N 0 (I x):=Qa hb δ;have bq:At c N 1 (I y):=Qa hb δ;have br:At c N 2 (I k):=Qa hb δ;(first | (have s:=Uh (g:=p.heap.size) rfl hb;obtain ⟨⟨ah,ai,aj⟩,⟨ak,am,an⟩,ao⟩:=s) | (have s:=fresh3_d (g:=p.heap.size) rfl hb;obtain ⟨⟨ah,ai,aj⟩,⟨ak,am,an⟩,ao⟩:=s) | (have s:=fresh3_dd (g:=p.heap.size) rfl hb;obtain ⟨⟨ah,ai,aj⟩,⟨ak,am,an⟩,ao⟩:=s) | skip);have hq:Bl p c:=(by with_reducible (first | exact hb | exact Qw hb | exact Qw (Qw hb) | exact Qb β1 hb | exact Qb (Qe β1) hb | exact Qb (Qc (Qe (Qd _))) hb | exact Qb (Qe (Qc (Qe (Qd _)))) hb | exact Qb (Qe (Qe β1)) hb | exact Qb (Qc (Qe (Qe (Qd _)))) hb));have Q:=Hd hq;have b9:=Bt au;have ba:=Bt ar;have c7:=hq.size;clear hb hq))
    all_goals
     go_wp2;go_meet
     case rel =>
      refine ⟨_,rfl,rfl, ?_, ?_⟩
      ·first | (simp [go_sem];done) | (simp [go_sem, *];done)
      ·with_reducible repeat' (first | exact Q.out | refine Qk ?_ ?_ | refine Qc ?_ | refine Qe ?_)
       all_goals (first | omega | (dsimp only;omega) | (simp;done))
   case rest =>
    obtain ⟨g9,rfl,rfl,⟨e0,e1,e2⟩,ap⟩:=hcut;have R:=Hd (l.out.kept (Qb P.out ap));have z9:=Bt e0;have c4:=R.out.c4;have c6:=R.out.lt;clear l O P ac ab ap y0 y1 y2 y3 y4 y5 x0 x1 x2 b7 b8 zB;have c5:w.heap.size+1+1+1≤wc.heap.size:=γ;have ae:=Hd (Qu L M i)
    have HO:Hid (wc.ownsRow (w.heap.size+1+1+1) 44 3 v i (flatV (pls L M i))):=by
     have:=R.out.own;rw [ae.out] at this;exact this
    go_wp2_with (at_builtin;refine wpList_append_own _ rfl (.tmp 42) (.tmp 44) 40 rfl (w.heap.size+1+1+1) 44 i3 (.agg #[I 0,I 0,I 0]) 3 24 Tryz.underlying40 HI.out.1 HI.out.2.1 HI.out.2.2.1 HI.out.2.2.2 rfl τ v i (flatV (pls L M i)) rfl (Qh HO.out β1) ⟨wc.heap.size,0,none⟩ 1 1 [I X,I Y,I K] rfl rfl (Jq wc X Y K) (Zd X Y K) Γ γ ψ ?grow)
    case grow =>
     intro v' w3 u m _
     obtain ⟨gv,cv,rfl⟩:∃ gv cv,v'=.slice (Az gv) (i+1) cv:=by
      rcases u.2 with ⟨_,h0⟩ | ⟨gv,cv,_,h,_⟩
      ·omega
      ·exact ⟨gv,cv,h⟩
     have hk:=R.out.kept (Qc (o:=.cells #[I X,I Y,I K] 44) (Qd wc));have hN:=hk.more (t:=(X,Y,K)) m (by rw [ae.out];exact u);rw [← HP.out] at hN;have HN:=(show Hid _ from hN)
     have a8:some (w.heap.size+1+1)≠v.ownBlock:=fun e=>by
      have:=Qn hk.own _ e.symm;omega
     have d4:=m.cell hk.c4 a8;have k4:Fn w3 (w.heap.size+1+1) 4:=(Fo (a:=⟨w.heap.size+1+1,4,none⟩) (m.block _ hk.lt a8)).trans hk.f4;have z3:=Bt d4;clear u m hk hN a8;go_wp2;go_roundg (L.length - (i+1))
     case measure=>omega
     case rel=>exact ⟨i+1,_,γ,rfl,σ,HN.out⟩
  ·have i1:¬ (i:Int)<(L.length:Int):=γ;obtain rfl:i=L.length:=γ;obtain ⟨pa,pc,rfl,hT⟩:=Yt l.out.own;rw [Qu] at l;have c0:=l.out.c0;have c1:=l.out.c1;have c2:=l.out.c2;have c3:=l.out.c3;have c4:=l.out.c4;have HT:=Hd hT;have ay:Hid (∀ g,pa=Az g→w.heap.size+1+1+1≤g):=fun g e=>Qn l.out.own g (by rw [e];rfl);clear hT;have d0:At wr (w.heap.size+1) 0 SN:=Qa l.out.bel ζ;have d1:At wr (w.heap.size+1) 1 (.map none):=Qa l.out.bel ζ;have d2:At wr (w.heap.size+1) 2 (.map none):=Qa l.out.bel ζ;have d3:At wr (w.heap.size+1) 3 SN:=Qa l.out.bel ζ;have d4:At wr (w.heap.size+1) 4 SN:=Qa l.out.bel ζ;have J:=Bt d0;have k0:Fn wr (w.heap.size+1) 0:=(l.out.bel.frozen ν).trans ζ;have k1:Fn wr (w.heap.size+1) 1:=(l.out.bel.frozen ν).trans ζ;have k2:Fn wr (w.heap.size+1) 2:=(l.out.bel.frozen ν).trans ζ;have k3:Fn wr (w.heap.size+1) 3:=(l.out.bel.frozen ν).trans ζ;have k4:Fn wr (w.heap.size+1) 4:=(l.out.bel.frozen ν).trans ζ;have av:Hid (∀ f:World,Bl wr f→Rt 83 #[.agg #[.slice q L.length H,.map (some z),.map (some G),.slice (Az j) L.length T,.slice pa L.length pc]] f (.bool true)):=fun f d=>CF.out f pa L.length pc (Qb O.out d);have ax:=Hd O.out;clear CF CM HR HI l O;go_wp2
   go_region_held3 (fun w'=>At w' (w.heap.size+1+1) 0 (.slice q L.length H)∧At w' (w.heap.size+1+1) 1 (.map (some z))∧At w' (w.heap.size+1+1) 2 (.map (some G))∧At w' (w.heap.size+1+1) 3 (.slice (Az j) L.length T)∧At w' (w.heap.size+1+1) 4 (.slice pa L.length pc))
    ((refine ⟨?_, ?_, ?_, ?_, ?_⟩ <;> (repeat' (first | (with_reducible assumption) | (with_reducible refine Jt ?_ ?_) | (dsimp only;omega) | (simp [go_sem];done) | (with_reducible refine Ql ?_) | (with_reducible refine Qi ?_)))))
    ((go_at_call 83;refine (av.out _ Ξ).mono ?_;rintro e c ⟨rfl,hb⟩;have af:At c (w.heap.size+1+1) 0 (.slice q L.length H):=Qa hb δ;have bb:At c (w.heap.size+1+1) 1 (.map (some z)):=Qa hb δ;have bc:At c (w.heap.size+1+1) 2 (.map (some G)):=Qa hb δ;have be:At c (w.heap.size+1+1) 3 (.slice (Az j) L.length T):=Qa hb δ;have bf:At c (w.heap.size+1+1) 4 (.slice pa L.length pc):=Qa hb δ;have ag:At c (w.heap.size+1) 0 SN:=Qa hb δ;have bk:Fn c (w.heap.size+1) 0:=(hb.frozen (by dsimp only;first | exact J | (simp;exact J))).trans (by first | exact k0 | (simp [go_sem,k0];done));have bg:At c (w.heap.size+1) 1 (.map none):=Qa hb δ;have bm:Fn c (w.heap.size+1) 1:=(hb.frozen (by dsimp only;first | exact J | (simp;exact J))).trans (by first | exact k1 | (simp [go_sem,k1];done));have bh:At c (w.heap.size+1) 2 (.map none):=Qa hb δ;have bn:Fn c (w.heap.size+1) 2:=(hb.frozen (by dsimp only;first | exact J | (simp;exact J))).trans (by first | exact k2 | (simp [go_sem,k2];done));have bi:At c (w.heap.size+1) 3 SN:=Qa hb δ;have bo:Fn c (w.heap.size+1) 3:=(hb.frozen (by dsimp only;first | exact J | (simp;exact J))).trans (by first | exact k3 | (simp [go_sem,k3];done));have bj:At c (w.heap.size+1) 4 SN:=Qa hb δ;have bp:Fn c (w.heap.size+1) 4:=(hb.frozen (by dsimp only;first | exact J | (simp;exact J))).trans (by first | exact k4 | (simp [go_sem,k4];done));have hq:Bl wr c:=(by with_reducible (first | exact hb | exact Qw hb | exact Qw (Qw hb)));have Q:=Hd hq;have b9:=Bt ag;have ba:=Bt af;clear hb hq))
   all_goals
    go_wp2;refine bodyPost_ret (v:=.tuple #[.agg #[.slice q L.length H,.map (some z),.map (some G),.slice (Az j) L.length T,.slice pa L.length pc],.bool true]) (by simp [results,Tryz.results39,go_sem, *]) rfl ⟨pa,pc,rfl, ?_, ?_⟩
    ·have az:=HT.out.kept Q.out;with_reducible repeat' (first | exact az | refine TRow.far ?_ ?_ | refine TRow.dr ?_)
     all_goals (intro g e;have:=ay.out g e;dsimp only;omega)
    ·with_reducible repeat' (first | exact Qb ax.out Q.out | refine Qk ?_ ?_ | refine Qe ?_)
     all_goals (dsimp only;omega)
def rowS (R:List (T3×Value)):List Value:=R.flatMap fun s=>[I s.1.1,I s.1.2.1,I s.1.2.2,s.2]
theorem rowS_add (l m:List (T3×Value)):rowS (l ++ m)=rowS l ++ rowS m:=by simp [rowS]
theorem rowS_at:∀ (R:List (T3×Value)) (i:Nat) (h:i<R.length),(rowS R)[i*4]?=some (I R[i].1.1)∧(rowS R)[i*4+1]?=some (I R[i].1.2.1)∧(rowS R)[i*4+2]?=some (I R[i].1.2.2)∧(rowS R)[i*4+3]?=some R[i].2
 | s :: r,0,_=>by simp [rowS]
 | s :: r,i+1,h=>by
  have a:=rowS_at r i (by simpa using h);have e:rowS (s :: r)=[I s.1.1,I s.1.2.1,I s.1.2.2,s.2] ++ rowS r:=by simp [rowS]
  have f:∀ k,(rowS (s :: r))[(i+1)*4+k]?=(rowS r)[i*4+k]?:=fun k=>by
   rw [e,List.getElem?_append_right ψ];congr 1
   simp;omega
  have f0:=f 0;rw [Nat.add_zero,Nat.add_zero] at f0;simp only [List.getElem_cons_succ];exact ⟨f0.trans a.1,(f 1).trans a.2.1,(f 2).trans a.2.2.1,(f 3).trans a.2.2.2⟩
def TrisAt (w:World) (v:Value) (l:List T3):Prop := ∃ a c,v=.slice a l.length c∧TRow w a l
theorem TrisAt.kept (h:TrisAt w v l) (hb:Bl w w'):TrisAt w' v l:=by
 obtain ⟨a,c,e,b⟩:=h;exact ⟨a,c,e,b.kept hb⟩
theorem TRow.grownN {row:Option Nat} (h:TRow w pa l) (hg:w.grownBy w' row) (b:∀ g,pa=Az g→some g≠row):TRow w' pa l:=fun i hi=>by
 obtain ⟨g,e,c0,c1,c2⟩:=h i hi;have a:=b g e;exact ⟨g,e,hg.cell c0 a,hg.cell c1 a,hg.cell c2 a⟩
theorem TrisAt.grown {row:Option Nat} (h:TrisAt w v l) (hg:w.grownBy w' row) (b:∀ g,v.ownBlock=some g→some g≠row):TrisAt w' v l:=by
 obtain ⟨a,c,rfl,d⟩:=h;exact ⟨a,c,rfl,d.grownN hg fun g e=>b g (by rw [e];rfl)⟩
end Go.Proofs.YtbjmnlefkbhbdaaGreatDoor
namespace Go.Proofs.YtbjmnlefkbhbdaaGreatDoor
open Go.RowKit Go.Shelf Go.ChangeMaps
def Gn (pl:List T3):Nat→Int×Int×Int→List Int
 | 0,_=>[]
 | i+1,e=>if e=pl.getD i (0,0,0) then Gn pl i (pl.getD i (0,0,0)) ++ [(i:Int)] else Gn pl i e
theorem Gn_len (pl:List T3):∀ i e,(Gn pl i e).length≤i
 | 0,e=>by simp [Gn]
 | i+1,e=>by
  unfold Gn;split
  ·rw [List.length_append,List.length_singleton];have:=Gn_len pl i (pl.getD i (0,0,0));omega
  ·have:=Gn_len pl i e;omega
theorem Gn_mem (pl:List T3) (e:T3):∀ i (k:Nat),(k:Int)∈Gn pl i e↔k<i∧pl.getD k (0,0,0)=e
 | 0,k=>by simp [Gn]
 | i+1,k=>by
  unfold Gn;by_cases q:e=pl.getD i (0,0,0)
  ·rw [if_pos q,← q,List.mem_append,Gn_mem pl e i k];constructor
   ·rintro (h | h)
    ·exact ⟨γ,h.2⟩
    ·simp at h;have:k=i:=γ;subst this;exact ⟨γ,q.symm⟩
   ·rintro ⟨h1,h2⟩;by_cases q2:k<i
    ·exact Or.inl ⟨q2,h2⟩
    ·have:k=i:=γ;subst this;exact Or.inr ν
  ·rw [if_neg q,Gn_mem pl e i k];constructor
   ·rintro ⟨h1,h2⟩;exact ⟨γ,h2⟩
   ·rintro ⟨h1,h2⟩;refine ⟨?_,h2⟩;by_cases q2:k<i
    ·exact q2
    ·have:k=i:=γ;subst this;exact absurd h2.symm q
theorem Gn_nat (pl:List T3):∀ i e,∀ x∈Gn pl i e,∃ k:Nat,x=(k:Int)
 | 0,e,x,h=>by simp [Gn] at h
 | i+1,e,x,h=>by
  unfold Gn at h;split at h
  ·rcases List.mem_append.1 h with h | h
   ·exact Gn_nat pl i _ x h
   ·simp at h;exact ⟨i,h⟩
  ·exact Gn_nat pl i e x h
theorem sub_lenP {α:Type} [DecidableEq α]:∀ (l m:List α),l.Nodup→(∀ x∈l,x∈m)→l.length≤m.length
 | [],_,_,_=>by simp
 | x :: r,b,h,hs=>by
  rw [List.nodup_cons] at h;have c:=hs x ν
  have h1:=sub_lenP r (b.erase x) h.2 (fun y d=>by
   have a:y≠x:=fun e=>h.1 (e ▸ d);exact (List.mem_erase_of_ne a).2 (hs y (by simp [d])))
  rw [List.length_erase_of_mem c] at h1;have:=List.length_pos_of_mem c;rw [List.length_cons];omega
structure PLW (w wx:World) (rm n pc:Nat) (pa:Option Addr) (pl:List T3) (i:Nat):Prop where
 m:TGP wx (w.heap.size+2) rm SN (Gn pl i)
 p:At wx w.heap.size 4 (.slice pa n pc)
 b:Bl w wx
def blkOf:Value→Nat
 | .slice (some a) _ _=>a.block
 | _=>0
def capOf:Value→Nat
 | .slice _ _ c=>c
 | _=>0
structure PiledTo (w w':World) (pl:List T3) (g m c:Nat) (S:List (T3×Nat×Nat)):Prop where
 len:S.length=m
 ord:S.Pairwise (fun x y=>ltT x.1 y.1)
 row:∀ i (hi:i<S.length),At w' g i (.slice (Az (S[i].2.1)) (Gn pl pl.length S[i].1).length S[i].2.2)
 own:∀ s∈S,w'.ownsRow w.heap.size 3 1 (.slice (Az s.2.1) (Gn pl pl.length s.1).length s.2.2) (Gn pl pl.length s.1).length ((Gn pl pl.length s.1).map (Value.int .i64))
 ne:∀ s∈S,Gn pl pl.length s.1≠[]
 all:∀ k,k<pl.length→∃ s∈S,s.1=pl.getD k (0,0,0)
 far:S.Pairwise (fun x y=>x.2.1≠y.2.1)
 off:∀ s∈S,s.2.1≠g
 b:Bl w w'
theorem Tlk_of {ls:List (T3×Value×Nat)} {c:Nat} (b:TGood ls c) {x:(T3×Value×Nat)} (a:x∈ls):Tlk ls x.1=some x.2.1:=by
 have h1:=b.1;clear b;induction ls with
 | nil=>cases a
 | cons y r ih =>
  rw [List.map_cons,List.nodup_cons] at h1;unfold Tlk;rcases List.mem_cons.1 a with rfl | a
  ·rw [if_pos rfl]
  ·have:y.1≠x.1:=fun e=>h1.1 (e ▸ List.mem_map.2 ⟨x,a,rfl⟩);rw [if_neg this];exact ih a h1.2
theorem Tlk_some {ls:List (T3×Value×Nat)} {k:T3} {v:Value} (h:Tlk ls k=some v):∃ x∈ls,x.1=k∧x.2.1=v:=by
 induction ls with
 | nil=>cases h
 | cons y r ih =>
  unfold Tlk at h;by_cases q:y.1=k
  ·rw [if_pos q] at h;simp at h;exact ⟨y,ν,q,h⟩
  ·rw [if_neg q] at h;obtain ⟨x,a,e⟩:=ih h;exact ⟨x,by simp [a],e⟩
theorem piled_any (w:World) (ad ma pa:Option Addr) (na ca nm cm pc:Nat) (ra rk:Option Nat) (pl:List T3) (hT:TRow w pa pl) (h0:0<pl.length) (hn:pl.length≤300) :
  Cl 98 #[.agg #[.slice ad na ca,.map ra,.map rk,.slice ma nm cm,.slice pa pl.length pc]] w fun e w'=>∃ g m c S,e=.returned (.slice (Az g) m c)∧PiledTo w w' pl g m c S:=by
 obtain ⟨F,rfl⟩:∃ F,pa=Az F:=by
  obtain ⟨g,e,_⟩:=hT 0 h0;exact ⟨g,e⟩
 have HT:=Hd hT;obtain ⟨i3,ak,X,Y,Z⟩:=info_parts inf3;have HI:=H4 ak X Y Z;obtain ⟨n,L⟩:∃ n,n=pl.length:=⟨_,rfl⟩;have l:=Hd L;have b9:n≤300:=γ;have ax:0<n:=γ;rw [← L];clear hT ak X Y Z L h0 hn;have ay:=@run_makeMap Tryz.prog;go_enter Tryz.func98,Tryz.ntmps98;go_wp2;obtain ⟨W1,hW1⟩:∃ W1,W1=(w.alloc (.cells #[.slice ad na ca,.map ra,.map rk,.slice ma nm cm,.slice (Az F) n pc] 67)).alloc (.map #[] 0):=⟨_,rfl⟩
 have ae:Hid (PLW w W1 (w.heap.size+1) n pc (Az F) pl 0):=by
  have:PLW w W1 (w.heap.size+1) n pc (Az F) pl 0:=by
   rw [hW1];refine ⟨⟨[],0, ?_,⟨ν,ν,ν⟩,fun e _=>rfl,fun e v h=>by simp [Tlk] at h,fun e e' v v' _ h=>by simp [Tlk] at h⟩,ζ,Qc β1⟩;have h9:=heap_alloc_new (w.alloc (.cells #[.slice ad na ca,.map ra,.map rk,.slice ma nm cm,.slice (Az F) n pc] 67)) (.map #[] 0);rw [World.size_alloc] at h9;exact h9
  exact this
 rw [← hW1];clear hW1 ay;go_loopg [10] n (fun gk b6 wx=>∃ i:Nat,i≤n∧gk=n - i∧b6=I (i:Int)∧PLW w wx (w.heap.size+1) n pc (Az F) pl i)
 case atStart=>exact ⟨0,γ,rfl,rfl,ae.out⟩
 case round =>
  clear ae;obtain ⟨i,hi,rfl,rfl,hP⟩:=hrel;have P:=Hd hP;clear hP;by_cases h1:i<n
  ·have i1:(i:Int)<(n:Int):=γ;have i0:(0:Int)≤(i:Int):=γ;have a7:i<pl.length:=by rw [← l.out];exact h1
   obtain ⟨g',eg,q0,O,q2⟩:=(HT.out.kept P.out.b) i a7
   cases eg;obtain ⟨t,ht⟩:∃ t,t=pl[i]:=⟨_,rfl⟩;obtain ⟨x,y,z⟩:=t;rw [← ht] at q0 O q2;dsimp only at q0 O q2;have hgt:pl.getD i (0,0,0)=(x,y,z):=by rw [List.getD_eq_getElem?_getD,List.getElem?_eq_getElem a7,ht];rfl
   have zg:=Bt q0;obtain ⟨v0,st,f,W,R,aq,M,H⟩:=(P.out.m.kept (w':=(wr.alloc (.cells #[I x,I y,I z] 44)).alloc (.cells #[I (i:Int)] 3)) β2).entry γ (fun g h=>by simp [Value.ownBlock] at h) (x,y,z) (i:Int);have b5:(Instr.mapEntry 217 (.map (some (w.heap.size+1))) (.agg #[I x,I y,I z])).run Tryz.prog ((wr.alloc (.cells #[I x,I y,I z] 44)).alloc (.cells #[I (i:Int)] 3))=.ok (.tuple #[v0,I st]) f:=W;have C:f.heap.size=wr.heap.size+2:=by rw [aq];simp
   have b8:w.heap.size+1<wr.heap.size:=by
    obtain ⟨ls,c,h,_⟩:=P.out.m;exact h.lt
   have az:At f (wr.heap.size+1) 0 (I (i:Int)):=R.cell ζ (fun e=>by simp at e;omega)
   have a6:Hid ((Gn pl i (x,y,z)).length≤300):=by
    have:=Gn_len pl i (x,y,z);have:(Gn pl i (x,y,z)).length≤300:=γ;exact this
   have ac:=Hd M;have ao:At f w.heap.size 4 (.slice (Az F) n pc):=R.cell (Qa β2 P.out.p) (fun e=>by simp at e)
   have u:Bl w f:=by
    have k1:Bl w ((wr.alloc (.cells #[I x,I y,I z] 44)).alloc (.cells #[I (i:Int)] 3)):=Qc (Qc P.out.b);exact k1.grown R k1.size (fun r e=>by cases e;omega)
   have ab:Hid (∀ g o T,f.grownBy T v0.ownBlock→T.ownsRow (w.heap.size+2) 3 1 (.slice (Az g) ((Gn pl i (x,y,z)).length+1) o) ((Gn pl i (x,y,z)).length+1) ((Gn pl i (x,y,z)).map (Value.int .i64) ++ [I (i:Int)])→(v0.ownBlock=some g∨g=wr.heap.size+2) →
     ∃ W4,(Instr.entryStore 217 (.map (some (w.heap.size+1))) (I st) (.slice (Az g) ((Gn pl i (x,y,z)).length+1) o)).run Tryz.prog T=.ok () W4∧PLW w W4 (w.heap.size+1) n pc (Az F) pl (i+1)):=fun g o T u1 u2 u3=>by
    obtain ⟨W4,s1,s2,s3⟩:=H (.slice (Az g) ((Gn pl i (x,y,z)).length+1) o) T u1 u2 (u3.imp (fun q=>q.symm) (fun q=>by rw [q,C];rfl));have nb:∀ r,v0.ownBlock=some r→w.heap.size+2≤r:=fun r e=>(M.lt r e).1;have k3:Bl w T:=u.grown u1 u.size (fun r e=>by have:=nb r e;omega);refine ⟨W4,s1, ?_,s2.cell (u1.cell ao (fun e=>by have:=nb _ e.symm;dsimp only at this;omega)) (fun e=>by simp at e),k3.grown s2 k3.size (fun r e=>by cases e;omega)⟩
    have e9:(fun j=>if j=(x,y,z) then Gn pl i (x,y,z) ++ [(i:Int)] else Gn pl i j)=Gn pl (i+1):=by
     funext j
     show _=if j=pl.getD i (0,0,0) then Gn pl i (pl.getD i (0,0,0)) ++ [(i:Int)] else Gn pl i j
     rw [hgt]
    rw [e9] at s3;exact s3
   obtain ⟨nG,aa⟩:∃ m,m=(Gn pl i (x,y,z)).length:=⟨_,rfl⟩;obtain ⟨xG,ap⟩:∃ m,m=(Gn pl i (x,y,z)).map (Value.int .i64):=⟨_,rfl⟩;rw [← aa,← ap] at ac ab;rw [← aa] at a6;clear M H W R aq hgt ht aa ap u ao a7;go_wp2_with (at_builtin;refine wpList_append_lies _ rfl (.tmp 17) (.tmp 19) 23 rfl (w.heap.size+2) 3 i3 (I 0) 1 8 Tryz.underlying23 HI.out.1 HI.out.2.1 HI.out.2.2.1 HI.out.2.2.2 rfl τ v0 nG xG rfl ac.out ⟨wr.heap.size+1,0,none⟩ 1 1 [I (i:Int)] rfl rfl (Xb _ az) (Jx _) τ (by have:=a6.out;unfold maxLen;omega) (by have:=a6.out;omega) γ f.heap.size rfl ?grow)
   case grow =>
    intro g o T N J ah b7;obtain ⟨W4,ba,af⟩:=ab.out g o T J N ah;have au:=Hd af;clear af N ah J;go_wp2;go_roundg (n - (i+1))
    case measure=>omega
    case rel=>exact ⟨i+1,γ,rfl,σ,au.out⟩
  ·have i1:¬ (i:Int)<(n:Int):=γ;obtain rfl:i=n:=γ;obtain ⟨f,C⟩:∃ f,f=wr.alloc (.cells #[.map (some (w.heap.size+1))] 217):=⟨_,rfl⟩;have Q:Bl wr f:=by rw [C];exact Qc (Qd _)
   obtain ⟨ls,c,t1,t2,t3,t4,t5⟩:=P.out.m.kept Q;have ai:At f wr.heap.size 0 (.map (some (w.heap.size+1))):=by rw [C];simp [go_sem]
   have aj:F<w.heap.size:=by
    obtain ⟨g',eg,q0,_⟩:=HT.out 0 (by rw [← l.out];omega)
    cases eg;exact bk q0
   have u:Bl w f:=Qb P.out.b Q
   have B:∀ x∈ls,∃ g q,x.2.1=.slice (Az g) (Gn pl i x.1).length q∧f.ownsRow (w.heap.size+2) 3 1 x.2.1 (Gn pl i x.1).length ((Gn pl i x.1).map (Value.int .i64))∧Gn pl i x.1≠[]:=fun x d=>by
    obtain ⟨a1,a2,_⟩:=t4 x.1 x.2.1 (Tlk_of t2 d);obtain ⟨g,q,e⟩:=Uq a1 (List.length_pos_iff.2 a2);exact ⟨g,q,e,a1,a2⟩
   have ag:∀ x∈ls,RowAt f F i x:=fun x d=>by
    obtain ⟨g,q,e,a1,a2⟩:=B x d;have hl:=List.length_pos_iff.2 a2;obtain ⟨k,U⟩:=Gn_nat pl i x.1 ((Gn pl i x.1)[0]) (Lm hl);have D:=(Gn_mem pl x.1 i k).1 (by rw [← U];exact Lm hl);rw [e] at a1;have hc:=a1.cellAt 0 γ;have K:k<pl.length:=by rw [← l.out];exact D.1
    obtain ⟨g',eg,q0,O,q2⟩:=(HT.out.kept u) k K
    cases eg;have e3:pl[k]=x.1:=by rw [← D.2,List.getD_eq_getElem?_getD,List.getElem?_eq_getElem K];rfl
    rw [e3] at q0 O q2;refine ⟨g,_,q,k,e,hl, ?_,D.1,q0,O,q2⟩;show World.cell? _ _=_
    rw [hc,List.getElem?_map,List.getElem?_eq_getElem hl,U];rfl
   have V:ls.length≤300:=by
    have h1:=sub_lenP (ls.map (fun x=>x.1)) pl t2.1 (fun e he=>by
     obtain ⟨x,d,rfl⟩:=List.mem_map.1 he;obtain ⟨g,q,e,a1,a2⟩:=B x d;have hl:=List.length_pos_iff.2 a2;obtain ⟨k,U⟩:=Gn_nat pl i x.1 ((Gn pl i x.1)[0]) (Lm hl);have D:=(Gn_mem pl x.1 i k).1 (by rw [← U];exact Lm hl);have K:k<pl.length:=by rw [← l.out];exact D.1
     rw [← D.2,List.getD_eq_getElem?_getD,List.getElem?_eq_getElem K];exact Lm K)
    rw [List.length_map,← l.out] at h1;omega
   have G:∀ k,k<pl.length→∃ x∈ls,x.1=pl.getD k (0,0,0):=fun k U=>by
    have hm:=(Gn_mem pl (pl.getD k (0,0,0)) i k).2 ⟨by rw [l.out];exact U,rfl⟩
    cases hl:Tlk ls (pl.getD k (0,0,0)) with
    | none =>
     rw [t3 _ hl] at hm
     cases hm
    | some v =>
     obtain ⟨x,d,e,_⟩:=Tlk_some hl;exact ⟨x,d,e⟩
   have h0:ls≠[]:=fun e=>by
    obtain ⟨x,d,_⟩:=G 0 (by rw [← l.out];exact ax);rw [e] at d
    cases d
   have CS:Hid (Cl 138 #[.func (.func 164) #[] #[.pointer (Az wr.heap.size)],.func (.func 140) #[] #[.pointer (Az w.heap.size)]] f fun e w'=>SRows f w' ls e):=sortedRows_any f wr.heap.size (w.heap.size+1) c w.heap.size F i pc ls t2 h0 V ai t1 (Qa Q P.out.p) (Nl aj u.size) ag;have ar:=H5 B G t2 t5 u;have av:=Hd C;clear t1 t2 t3 t4 t5 ai B ag V G h0 Q u C;go_wp2_with (first | (go_at_call 139;refine (values_any _ _).mono ?_;rintro e w2 ⟨rfl,rfl⟩;rw [← av.out]) | (go_at_call 138;refine CS.out.mono ?_;rintro e w3 ⟨g,q,E,rfl,h1,h2,h3,h4,h5⟩;have HF:=H5 h1 h2 h3 h4 h5;clear h1 h2 h3 h4 h5))
   go_ret;obtain ⟨f1,f2,f3,f4,f5⟩:=HF.out;obtain ⟨l1,l2,l3,l4,l5⟩:=ar.out;have zm:=P.out.b.size;have A:∀ x∈E,x∈ls:=fun x d=>f1.mem_iff.1 d;have L:=l.out;subst L;have an:(E.map (fun x=>x.1)).Nodup:=(f1.map (fun x=>x.1)).nodup_iff.2 l3.1;refine ⟨g,E.length,q,E.map (fun x=>(x.1,blkOf x.2.1,capOf x.2.1)),ν,⟨ν, ?_, ?_, ?_, ?_, ?_, ?_, ?_,Qb l5 f5⟩⟩
   ·rw [List.pairwise_map];have a8:=List.pairwise_map.1 an;exact (f2.and a8).imp (fun {a b} h=>ltT_three h.1 (fun e=>h.2 e.symm))
   ·intro j hj;have am:j<E.length:=by simpa using hj
    obtain ⟨g1,O,e1,_⟩:=l1 E[j] (A _ (Lm am));show World.cell? _ _=_
    rw [f3 j am,List.getElem_map];rw [e1];simp [blkOf,capOf]
   ·intro s hs;obtain ⟨x,d,rfl⟩:=List.mem_map.1 hs;obtain ⟨g1,O,e1,o1,_⟩:=l1 x (A x d);have o2:=Qh o1 f5;rw [e1] at o2 ⊢;exact ⟨o2.1,o2.2.imp id (fun ⟨g,o,aw,h1,h2,h3⟩=>⟨g,o,aw,h1,Nt γ h2,h3⟩)⟩
   ·intro s hs;obtain ⟨x,d,rfl⟩:=List.mem_map.1 hs;obtain ⟨g1,O,e1,_,o2⟩:=l1 x (A x d);exact o2
   ·intro k U;obtain ⟨x,d,e1⟩:=l2 k U;exact ⟨_,List.mem_map.2 ⟨x,f1.mem_iff.2 d,rfl⟩,e1⟩
   ·rw [List.pairwise_map];have a8:=List.pairwise_map.1 an;refine a8.imp_of_mem (fun {a b} ha hb h=>?_);have k1:=l4 a.1 b.1 a.2.1 b.2.1 h (Tlk_of l3 (A a ha)) (Tlk_of l3 (A b hb));obtain ⟨g1,O,e1,_⟩:=l1 a (A a ha);obtain ⟨g2,q2,e2,_⟩:=l1 b (A b hb);rw [e1,e2] at k1 ⊢;simpa [Value.ownBlock,blkOf] using k1
   ·intro s hs;obtain ⟨x,d,rfl⟩:=List.mem_map.1 hs;obtain ⟨g1,O,e1,o1,o2⟩:=l1 x (A x d);rw [e1] at o1 ⊢;have z1:=(o1.lt g1 rfl).2;simp only [blkOf];omega
theorem facesCl_any (w:World) (pb n i l f:Nat) (h:Option Addr) (kd:E4→Int) (o a b c d q:Int) (j:KL w f kd) (p:At w pb 0 (.slice h n i)) (r:At w pb 1 (.map (some l))) (s:At w pb 2 (.map (some f))) :
  Rt 103 #[I o,.agg #[I a,I b,I c,I d,I q],.pointer (Az pb)] w (.bool (decide (kd (a,b,c,d)=0))):=by
 have g:=Hd (fun (W':World) hW'=>Yj W' h n i l f kd a b c d (j.kept hW'));have u:=Bt p;clear j;obtain ⟨z,k⟩:∃ z,z=kd (a,b,c,d):=⟨_,rfl⟩;rw [← k] at g ⊢;clear k;go_enter Tryz.func103,Tryz.ntmps103;go_wp2_with (go_at_call 104;refine (g.out _ Δ).mono ?_;rintro e t ⟨rfl,hb⟩;have m:=Hd (Qb β1 hb);clear hb)
 exact bodyPost_ret (v:=.bool (decide (z=0))) (by simp [results,Tryz.results103,go_sem];rw [Bool.eq_iff_iff];simp) rfl ⟨rfl,m.out⟩
theorem pfaces_any (w:World) (h d f:Nat) (c:Option Addr) (L:List T3) (kd:E4→Int) (hs:Steps w) (k:PA w c d L) (p:KL w f kd) (u:L.length≤300) (n:L.Nodup) (m:∀ t∈L,(0≤t.1∧t.1≤8)∧(0≤t.2.1∧t.2.1≤8)∧(0≤t.2.2∧t.2.2≤3)) :
  Cl 69 #[.agg #[.slice c L.length h,.map (some d),.map (some f)]] w fun e w'=>∃ g part,e=.returned (.slice (Az g) L.length L.length)∧ZRow w' g L.length part∧PartsOk (fun e=>decide (kd e=0)) L part∧w.heap.size≤g∧Bl w w':=by
 have r:Hid (∀ a:World,Bl w a→At a w.heap.size 0 (.slice c L.length h)→At a w.heap.size 1 (.map (some d))→At a w.heap.size 2 (.map (some f))→Cl 19 #[.agg #[.slice c L.length h,.map (some d),.map (some f)],.func (.func 103) #[] #[.pointer (Az w.heap.size)]] a fun e w'=>∃ g part,e=.returned (.slice (Az g) L.length L.length)∧ZRow w' g L.length part∧PartsOk (fun e=>decide (kd e=0)) L part∧a.heap.size≤g∧Bl a w'):=fun a b v x y =>
  Gm a h d f c L 103 #[.pointer (Az w.heap.size)] (fun _ _=>by simp [go_sem]) _ (hs.kept b) (k.kept b) u n m (fun i j _ _ z A B C s _ _ _ h2=>facesCl_any s w.heap.size L.length h d f c kd i z A B C j (p.kept (Qb b h2)) (Qa h2 v) (Qa h2 x) (Qa h2 y))
 clear hs k p n m;go_enter Tryz.func69,Tryz.ntmps69;go_wp2_with (go_at_call 19;refine (r.out _ Δ ζ ζ ζ).mono ?_;rintro e w1 ⟨g,part,rfl,q,l,hg,hb⟩;have o:Hid (ZRow w1 g L.length part∧PartsOk (fun e=>decide (kd e=0)) L part∧w.heap.size≤g∧Bl w w1):=⟨q,l,Nt ν hg,Qb β1 hb⟩;clear q l hg hb)
 go_ret;exact ⟨g,part,rfl,o.out.1,o.out.2.1,o.out.2.2.1,o.out.2.2.2⟩
end Go.Proofs.YtbjmnlefkbhbdaaGreatDoor
