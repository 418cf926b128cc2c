/- A part of it. -/
import Derived.Test.YtjkjpopghkeibaaGreatDoorQlal
import Derived.Test.YtjkjpopghkeibaaGreatDoorQlao
import Derived.Test.YtjkjpopghkeibaaGreatDoorQlap
import Derived.Shelf.SlSortCmp.NoneTotal
set_option maxRecDepth 100000
set_option maxHeartbeats 40000000
namespace Go.Proofs.YtjkjpopghkeibaaGreatDoor
open Go.RowKit
variable {l:List T3} {B d g n:Nat} {f u v:Value} {a w w':World} {pa:Option Addr}
def pls (L:List T3) (M:Nat→M6) (n:Nat):List T3:=(List.range n).map fun i=>mvt (M i) (L.getD i (0,0,0))
theorem Yj (L:List T3) (M:Nat→M6) (n:Nat):(pls L M n).length=n:=by simp [pls]
theorem pls_succ (L:List T3) (M:Nat→M6) (n:Nat):pls L M (n+1)=pls L M n ++ [mvt (M n) (L.getD n (0,0,0))]:=by
 unfold pls;rw [List.range_succ,List.map_append];rfl
structure SpB (w0 wx:World) (B:Nat) (ad:Option Addr) (n cc ra rk gm cm:Nat) (v:Value) (l:List T3):Prop where
 c0:At wx B 0 (.slice ad n cc)
 c1:At wx B 1 (.map (some ra))
 c2:At wx B 2 (.map (some rk))
 c3:At wx B 3 (.slice (Az gm) n cm)
 c4:At wx B 4 v
 f4:Fn wx B 4
 own:wx.ownsRow (B+1) 39 3 v l.length (flatV l)
 low:w0.heap.size≤B
 bel:Bl w0 wx
theorem SpB.lt {i:World} {b:Option Addr} {c f e:Nat} (h:SpB i a B b n c f g e d v l):B<a.heap.size:=bk h.c0
theorem SpB.kept {i j:World} {b:Option Addr} {c f e:Nat} (h:SpB i j B b n c f g e d v l) (a:Bl j w'):SpB i w' B b n c f g e d v l :=
 ⟨Qa a h.c0,Qa a h.c1,Qa a h.c2,Qa a h.c3,Qa a h.c4,(a.frozen h.lt).trans h.f4,Qj h.own a,h.low,Qc h.bel a⟩
theorem SpB.more {s u c:World} {f:Option Addr} {q r j i:Nat} {v':Value} {t:T3} (h:SpB s u B f n g q r j i v l) (hg:u.grownBy c v.ownBlock) (o:c.ownsRow (B+1) 39 3 v' (l.length+1) (flatV l ++ [I t.1,I t.2.1,I t.2.2])):SpB s (c.setCell ⟨B,4,none⟩ v') B f n g q r j i v' (l ++ [t]):=by
 have b:some B≠v.ownBlock:=fun e=>by
  have:=Qw h.own B e.symm;omega
 have d:v'.ownBlock≠some B:=fun e=>by
  have:=Qw o B e;omega
 have x:=h.bel.grown hg h.bel.size (fun k y=>by have:=Qw h.own k y;have:=h.low;omega);have m:B<c.heap.size:=Nl h.lt hg.size;have c4:=hg.cell h.c4 b;have f4:Fn c B 4:=(Fo (a:=⟨B,4,none⟩) (hg.block B h.lt b)).trans h.f4;refine ⟨Qn (hg.cell h.c0 b) γ,Qn (hg.cell h.c1 b) γ,Qn (hg.cell h.c2 b) γ,Qn (hg.cell h.c3 b) γ,Jq c4, ?_, ?_,h.low, ?_⟩
 ·simp [go_sem,f4]
 ·rw [Xr,List.length_append,List.length_singleton];exact o.kept (Ql c B 4 v') (Or.inr d)
 ·exact x.setCell (p:=⟨B,4,none⟩) h.low _
theorem TRow.far {p:Addr} (h:TRow w pa l) (a:∀ g,pa=Az g→g≠p.block):TRow (w.setCell p u) pa l:=fun i hi=>by
 obtain ⟨g,e,c0,c1,c2⟩:=h i hi;exact ⟨g,e,Xh c0 (a g e),Xh c1 (a g e),Xh c2 (a g e)⟩
theorem TRow.dr (h:TRow w pa l):TRow w.drew pa l:=fun i hi=>by
 obtain ⟨g,e,c0,c1,c2⟩:=h i hi;exact ⟨g,e,Qq c0,Qq c1,Qq c2⟩
theorem fresh3_a {v:World} (hg:v.heap.size=g) (b:Below ((v.alloc (.cells #[I 0,I 0,I 0] 39))).heap.size ((v.alloc (.cells #[I 0,I 0,I 0] 39))) a):(At a g 0 (I 0)∧At a g 1 (I 0)∧At a g 2 (I 0))∧(Fn a g 0∧Fn a g 1∧Fn a g 2)∧g<a.heap.size:=by
 subst hg;have c0:At a v.heap.size 0 (I 0):=Qa b δ;refine ⟨⟨c0,Qa b δ,Qa b δ⟩,⟨?_, ?_, ?_⟩,bk c0⟩
 all_goals exact (b.frozen ξ).trans δ
theorem fresh3_d {v:World} (hg:v.heap.size=g) (b:Below ((v.alloc (.cells #[I 0,I 0,I 0] 39)).drew).heap.size ((v.alloc (.cells #[I 0,I 0,I 0] 39)).drew) a):(At a g 0 (I 0)∧At a g 1 (I 0)∧At a g 2 (I 0))∧(Fn a g 0∧Fn a g 1∧Fn a g 2)∧g<a.heap.size:=by
 subst hg;have c0:At a v.heap.size 0 (I 0):=Qa b δ;refine ⟨⟨c0,Qa b δ,Qa b δ⟩,⟨?_, ?_, ?_⟩,bk c0⟩
 all_goals exact (b.frozen ξ).trans δ
theorem fresh3_dd {v:World} (hg:v.heap.size=g) (b:Below ((v.alloc (.cells #[I 0,I 0,I 0] 39)).drew.drew).heap.size ((v.alloc (.cells #[I 0,I 0,I 0] 39)).drew.drew) a):(At a g 0 (I 0)∧At a g 1 (I 0)∧At a g 2 (I 0))∧(Fn a g 0∧Fn a g 1∧Fn a g 2)∧g<a.heap.size:=by
 subst hg;have c0:At a v.heap.size 0 (I 0):=Qa b δ;refine ⟨⟨c0,Qa b δ,Qa b δ⟩,⟨?_, ?_, ?_⟩,bk c0⟩
 all_goals exact (b.frozen ξ).trans δ
theorem spread_pile (w:World) (N H J l V:Nat) (s:Option Addr) (L:List T3) (kd:E4→Int) (M:Nat→M6) (hs:Steps w) (a6:PA w s H L) (hK:KL w J kd) (hL:L.length≤300) (a7:∀ t∈L,(0≤t.1∧t.1≤8)∧(0≤t.2.1∧t.2.1≤8)∧(0≤t.2.2∧t.2.2≤3)) (hM:MRow w l L.length M) (hC:Cons kd L M) (hG:∀ i,i<L.length→GoodM (M i) 48000) :
  Cl 32 #[.agg #[.slice s L.length N,.map (some H),.map (some J)],.slice (Az l) L.length V] w fun e w'=>∃ pa q,e=.returned (.tuple #[.agg #[.slice s L.length N,.map (some H),.map (some J),.slice (Az l) L.length V,.slice pa L.length q],.bool true])∧TRow w' pa (pls L M L.length)∧Bl w w':=by
 have CF:Hid (∀ (j:World) (pa:Option Addr) (pn q:Nat),Bl w j→Rt 81 #[.agg #[.slice s L.length N,.map (some H),.map (some J),.slice (Az l) L.length V,.slice pa pn q]] j (.bool true)):=fun j pa pn q f=>fits_any j N H J l V s pa pn q L kd M (hs.kept f) (a6.kept f) (hK.kept f) hL a7 (hM.kept f) hC hG;have CM:Hid (∀ (j:World) (i:Nat) (hi:i<L.length),Bl w j→Rt 80 #[.agg #[I (M i).1,I (M i).2.1,I (M i).2.2.1,I (M i).2.2.2.1,I (M i).2.2.2.2.1,I (M i).2.2.2.2.2],.agg #[I L[i].1,I L[i].2.1,I L[i].2.2]] j (.tuple #[.agg #[I (mvt (M i) L[i]).1,I (mvt (M i) L[i]).2.1,I (mvt (M i) L[i]).2.2],I 0])):=fun j i hi f=>Move_small (M i) L[i] j (hG i hi) (a7 _ (Lm hi)) (hs.kept f);have HR:=H2 a6.1 hM;obtain ⟨i3,au,W,Z,a2⟩:=info_parts inf23;have HI:=H4 au W Z a2;have qn:((L.length:Int) != (L.length:Int))=false:=ξ;clear hs a6 hK a7 hM hC hG au W Z a2;go_enter Tryz.func32,Tryz.ntmps32;go_wp2;go_loopg [24] L.length (fun gk b8 wx=>∃ (i:Nat) (v:Value),i≤L.length∧gk=L.length - i∧b8=I (i:Int)∧SpB ((w.alloc (.cells #[.slice s L.length N,.map (some H),.map (some J)] 59)).alloc (.cells #[SN,.map none,.map none,SN,SN] 61)) wx (w.heap.size+1+1) s L.length N H J l V v (pls L M i))
 case atStart=>exact ⟨0,SN,γ,rfl,rfl,⟨δ,δ,δ,δ,δ,δ,⟨by simp [pls,flatV],.inl ⟨rfl,by simp [pls]⟩⟩,ξ,Qb (Qe _)⟩⟩
 case round =>
  obtain ⟨i,v,hi,rfl,rfl,hS⟩:=hrel;have m:=Hd hS;have Q:=Hd (Qc β2 hS.bel);have zB:=hS.lt;clear hS;by_cases h1:i<L.length
  ·have i1:(i:Int)<(L.length:Int):=γ;have i0:(0:Int)≤(i:Int):=γ;obtain ⟨cb,rfl,t0,t1,t2⟩:=HR.out.1 i h1;replace t0:=Qa Q.out t0;replace t1:=Qa Q.out t1;replace t2:=Qa Q.out t2;have zt:=Bt t0;obtain ⟨⟨y0,y1,y2,y3,y4,y5⟩,_⟩:=HR.out.2 i h1;have ay:=CM.out;obtain ⟨A,B,C,D,E,F,a8⟩:∃ A B C D E F,M i=(A,B,C,D,E,F):=⟨_,_,_,_,_,_,rfl⟩;obtain ⟨x,y,k,ac⟩:∃ x y k,L[i]=(x,y,k):=⟨_,_,_,rfl⟩;obtain ⟨X,Y,K,aa⟩:∃ X Y K,mvt (M i) L[i]=(X,Y,K):=⟨_,_,_,rfl⟩
   have af:Hid (∀ j:World,Bl wr j→Rt 80 #[.agg #[I A,I B,I C,I D,I E,I F],.agg #[I x,I y,I k]] j (.tuple #[.agg #[I X,I Y,I K],I 0])):=fun j f=>by
    have h:=CM.out j i h1 (Qc Q.out f);rw [aa,a8,ac] at h;exact h
   rw [a8] at y0 y1 y2 y3 y4 y5;rw [ac] at t0 t1 t2;dsimp only at y0 y1 y2 y3 y4 y5 t0 t1 t2
   have HP:Hid (pls L M (i+1)=pls L M i ++ [(X,Y,K)]):=by
    have:pls L M (i+1)=pls L M i ++ [(X,Y,K)]:=by
     rw [pls_succ,← aa,List.getD_eq_getElem?_getD,List.getElem?_eq_getElem h1];rfl
    exact this
   clear ay a8 ac aa;go_wp2;refine Qi (fun r hW0=>?_)
   have R:Hid (Bl wr r):=by
    have:Bl wr r:=γ4;exact this
   obtain ⟨P,u⟩:∃ b,b=wr.heap.size:=⟨_,rfl⟩;have x0:At r P 0 (I x):=by rw [hW0,u];simp [go_sem]
   have x1:At r P 1 (I y):=by rw [hW0,u];simp [go_sem]
   have x2:At r P 2 (I k):=by rw [hW0,u];simp [go_sem]
   clear hW0;rw [← u];clear u;have p:=Qc Q.out R.out;replace y0:=Qa p y0;replace y1:=Qa p y1;replace y2:=Qa p y2;replace y3:=Qa p y3;replace y4:=Qa p y4;replace y5:=Qa p y5;have b9:=Bt y0;have ba:=Bt x0;have ae:Hid (∀ j:World,Bl r j→Rt 80 #[.agg #[I A,I B,I C,I D,I E,I F],.agg #[I x,I y,I k]] j (.tuple #[.agg #[I X,I Y,I K],I 0])):=fun j f=>af.out j (Qc R.out f);clear p t0 t1 t2 zt;go_cut [9,10] (fun s9 b7 wx=>∃ g9:Nat,s9=.pointer (Az g9)∧b7=I 0∧(At wx g9 0 (I X)∧At wx g9 1 (I Y)∧At wx g9 2 (I K))∧Bl r wx)
   case first =>
    go_region_held3 (fun w'=>At w' l (i*6) (I A)∧At w' l (i*6+1) (I B)∧At w' l (i*6+2) (I C)∧At w' l (i*6+3) (I D)∧At w' l (i*6+4) (I E)∧At w' l (i*6+5) (I F)∧At w' P 0 (I x)∧At w' P 1 (I y)∧At w' P 2 (I k))
     ((refine ⟨?_, ?_, ?_, ?_, ?_, ?_, ?_, ?_, ?_⟩ <;> (repeat' (first | (with_reducible assumption) | (with_reducible refine Xh ?_ ?_) | (dsimp only;omega) | (simp [go_sem];done) | (with_reducible refine Qk ?_) | (with_reducible refine Qq ?_)))))
     ((go_at_call 80;refine (ae.out _ γ1).mono ?_;rintro e d ⟨rfl,c⟩;have aw:At d l (i*6) (I A):=Qa c ζ;have bu:At d l (i*6+1) (I B):=Qa c ζ;have bv:At d l (i*6+2) (I C):=Qa c ζ;have bw:At d l (i*6+3) (I D):=Qa c ζ;have bz:At d l (i*6+4) (I E):=Qa c ζ;have ca:At d l (i*6+5) (I F):=Qa c ζ;have av:At d P 0 (I x):=Qa c ζ;have bs:At d P 1 (I y):=Qa c ζ;have bt:At d P 2 (I k):=Qa c ζ;(first | (have z:=fresh3_a (g:=r.heap.size) rfl c;obtain ⟨⟨aj,ak,am⟩,⟨an,ao,ap⟩,aq⟩:=z) | (have z:=fresh3_d (g:=r.heap.size) rfl c;obtain ⟨⟨aj,ak,am⟩,⟨an,ao,ap⟩,aq⟩:=z) | (have z:=fresh3_dd (g:=r.heap.size) rfl c;obtain ⟨⟨aj,ak,am⟩,⟨an,ao,ap⟩,aq⟩:=z) | skip);have hq:Bl r d:=(by with_reducible (first | exact c | exact Jb c | exact Jb (Jb c) | exact Qc β1 c | exact Qc (Qg β1) c | exact Qc (Qb (Qg (Qe _))) c | exact Qc (Qg (Qb (Qg (Qe _)))) c | exact Qc (Qg (Qg β1)) c | exact Qc (Qb (Qg (Qg (Qe _)))) c));have T:=Hd hq;have bb:=Bt aw;have bc:=Bt av;have cf:=hq.size;clear c hq))
    all_goals
     go_wp2;go_meet
     case rel =>
      refine ⟨_,rfl,rfl, ?_, ?_⟩
      ·first | (simp [go_sem];done) | (simp [go_sem, *];done)
      ·with_reducible repeat' (first | exact T.out | refine Qh ?_ ?_ | refine Qb ?_ | refine Qg ?_)
       all_goals (first | omega | (dsimp only;omega) | (simp;done))
   case rest =>
    obtain ⟨g9,rfl,rfl,⟨e0,e1,e2⟩,ar⟩:=hcut;have U:=Hd (m.out.kept (Qc R.out ar));have z9:=Bt e0;have c4:=U.out.c4;have ce:=U.out.lt;clear m Q R af ae ar y0 y1 y2 y3 y4 y5 x0 x1 x2 b9 ba zB;have cd:w.heap.size+1+1+1≤wc.heap.size:=γ;have ag:=Hd (Yj L M i)
    have HO:Hid (wc.ownsRow (w.heap.size+1+1+1) 39 3 v i (flatV (pls L M i))):=by
     have:=U.out.own;rw [ag.out] at this;exact this
    go_wp2_with (at_builtin;refine wpList_append_own _ rfl (.tmp 42) (.tmp 44) 55 rfl (w.heap.size+1+1+1) 39 i3 (.agg #[I 0,I 0,I 0]) 3 24 Tryz.underlying55 HI.out.1 HI.out.2.1 HI.out.2.2.1 HI.out.2.2.2 rfl ψ v i (flatV (pls L M i)) rfl (Qj HO.out β1) ⟨wc.heap.size,0,none⟩ 1 1 [I X,I Y,I K] rfl rfl (Xg wc X Y K) (Uq X Y K) Ξ γ ω ?grow)
    case grow =>
     intro v' w3 G n _
     obtain ⟨gv,cv,rfl⟩:∃ gv cv,v'=.slice (Az gv) (i+1) cv:=by
      rcases G.2 with ⟨_,h0⟩ | ⟨gv,cv,_,h,_⟩
      ·omega
      ·exact ⟨gv,cv,h⟩
     have hk:=U.out.kept (Qb (o:=.cells #[I X,I Y,I K] 39) (Qe wc));have hN:=hk.more (t:=(X,Y,K)) n (by rw [ag.out];exact G);rw [← HP.out] at hN;have HN:=(show Hid _ from hN)
     have ab:some (w.heap.size+1+1)≠v.ownBlock:=fun e=>by
      have:=Qw hk.own _ e.symm;omega
     have d4:=n.cell hk.c4 ab;have k4:Fn w3 (w.heap.size+1+1) 4:=(Fo (a:=⟨w.heap.size+1+1,4,none⟩) (n.block _ hk.lt ab)).trans hk.f4;have z3:=Bt d4;clear G n hk hN ab;go_wp2;go_roundg (L.length - (i+1))
     case measure=>omega
     case rel=>exact ⟨i+1,_,γ,rfl,σ,HN.out⟩
  ·have i1:¬ (i:Int)<(L.length:Int):=γ;obtain rfl:i=L.length:=γ;obtain ⟨pa,q,rfl,hT⟩:=Xc m.out.own;rw [Yj] at m;have c0:=m.out.c0;have c1:=m.out.c1;have c2:=m.out.c2;have c3:=m.out.c3;have c4:=m.out.c4;have HT:=Hd hT;have b5:Hid (∀ g,pa=Az g→w.heap.size+1+1+1≤g):=fun g e=>Qw m.out.own g (by rw [e];rfl);clear hT;have d0:At wr (w.heap.size+1) 0 SN:=Qa m.out.bel δ;have d1:At wr (w.heap.size+1) 1 (.map none):=Qa m.out.bel δ;have d2:At wr (w.heap.size+1) 2 (.map none):=Qa m.out.bel δ;have d3:At wr (w.heap.size+1) 3 SN:=Qa m.out.bel δ;have d4:At wr (w.heap.size+1) 4 SN:=Qa m.out.bel δ;have O:=Bt d0;have k0:Fn wr (w.heap.size+1) 0:=(m.out.bel.frozen ξ).trans δ;have k1:Fn wr (w.heap.size+1) 1:=(m.out.bel.frozen ξ).trans δ;have k2:Fn wr (w.heap.size+1) 2:=(m.out.bel.frozen ξ).trans δ;have k3:Fn wr (w.heap.size+1) 3:=(m.out.bel.frozen ξ).trans δ;have k4:Fn wr (w.heap.size+1) 4:=(m.out.bel.frozen ξ).trans δ;have ax:Hid (∀ j:World,Bl wr j→Rt 81 #[.agg #[.slice s L.length N,.map (some H),.map (some J),.slice (Az l) L.length V,.slice pa L.length q]] j (.bool true)):=fun j f=>CF.out j pa L.length q (Qc Q.out f);have az:=Hd Q.out;clear CF CM HR HI m Q;go_wp2
   go_region_held3 (fun w'=>At w' (w.heap.size+1+1) 0 (.slice s L.length N)∧At w' (w.heap.size+1+1) 1 (.map (some H))∧At w' (w.heap.size+1+1) 2 (.map (some J))∧At w' (w.heap.size+1+1) 3 (.slice (Az l) L.length V)∧At w' (w.heap.size+1+1) 4 (.slice pa L.length q))
    ((refine ⟨?_, ?_, ?_, ?_, ?_⟩ <;> (repeat' (first | (with_reducible assumption) | (with_reducible refine Xh ?_ ?_) | (dsimp only;omega) | (simp [go_sem];done) | (with_reducible refine Qk ?_) | (with_reducible refine Qq ?_)))))
    ((go_at_call 81;refine (ax.out _ γ1).mono ?_;rintro e d ⟨rfl,c⟩;have ah:At d (w.heap.size+1+1) 0 (.slice s L.length N):=Qa c ζ;have be:At d (w.heap.size+1+1) 1 (.map (some H)):=Qa c ζ;have bf:At d (w.heap.size+1+1) 2 (.map (some J)):=Qa c ζ;have bg:At d (w.heap.size+1+1) 3 (.slice (Az l) L.length V):=Qa c ζ;have bh:At d (w.heap.size+1+1) 4 (.slice pa L.length q):=Qa c ζ;have ai:At d (w.heap.size+1) 0 SN:=Qa c ζ;have bn:Fn d (w.heap.size+1) 0:=(c.frozen (by dsimp only;first | exact O | (simp;exact O))).trans (by first | exact k0 | (simp [go_sem,k0];done));have bi:At d (w.heap.size+1) 1 (.map none):=Qa c ζ;have bo:Fn d (w.heap.size+1) 1:=(c.frozen (by dsimp only;first | exact O | (simp;exact O))).trans (by first | exact k1 | (simp [go_sem,k1];done));have bj:At d (w.heap.size+1) 2 (.map none):=Qa c ζ;have bp:Fn d (w.heap.size+1) 2:=(c.frozen (by dsimp only;first | exact O | (simp;exact O))).trans (by first | exact k2 | (simp [go_sem,k2];done));have bk:At d (w.heap.size+1) 3 SN:=Qa c ζ;have bq:Fn d (w.heap.size+1) 3:=(c.frozen (by dsimp only;first | exact O | (simp;exact O))).trans (by first | exact k3 | (simp [go_sem,k3];done));have bm:At d (w.heap.size+1) 4 SN:=Qa c ζ;have br:Fn d (w.heap.size+1) 4:=(c.frozen (by dsimp only;first | exact O | (simp;exact O))).trans (by first | exact k4 | (simp [go_sem,k4];done));have hq:Bl wr d:=(by with_reducible (first | exact c | exact Jb c | exact Jb (Jb c)));have T:=Hd hq;have bb:=Bt ai;have bc:=Bt ah;clear c hq))
   all_goals
    go_wp2;refine bodyPost_ret (v:=.tuple #[.agg #[.slice s L.length N,.map (some H),.map (some J),.slice (Az l) L.length V,.slice pa L.length q],.bool true]) (by simp [results,Tryz.results32,go_sem, *]) rfl ⟨pa,q,rfl, ?_, ?_⟩
    ·have b6:=HT.out.kept T.out;with_reducible repeat' (first | exact b6 | refine TRow.far ?_ ?_ | refine TRow.dr ?_)
     all_goals (intro g e;have:=b5.out g e;dsimp only;omega)
    ·with_reducible repeat' (first | exact Qc az.out T.out | refine Qh ?_ ?_ | refine Qg ?_)
     all_goals (dsimp only;omega)
theorem mvt_gen {a b c d e f x y k:Int} (h1:mapB a b c d e f=true) (r:0≤x∧x≤8) (s:0≤y∧y≤8) (i:0≤k∧k≤3) {X Y K:Int} (h:(X,Y,K)=mvt (a,b,c,d,e,f) (x,y,k)) :
  dot a b (2*x+1) (2*y+1)+e=2*X+1∧dot c d (2*x+1) (2*y+1)+f=2*Y+1∧(0≤K∧K≤3)∧dot a b (outX k) (outY k)=outX K∧dot c d (outX k) (outY k)=outY K∧triB x y k=true:=by
 have q:=Kt h1;simp only [mvt,Prod.mk.injEq] at h;obtain ⟨o,p,g⟩:=h;rcases Xz h1 with ⟨j,rfl,rfl,n⟩ | ⟨rfl,l,m,rfl⟩
 ·rcases j with rfl | rfl <;> rcases n with rfl | rfl <;> rcases Xm i with rfl | rfl | rfl | rfl <;> simp [outX,outY,kdT,dot,triB] at * <;> (subst g;simp;omega)
 ·rcases l with rfl | rfl <;> rcases m with rfl | rfl <;> rcases Xm i with rfl | rfl | rfl | rfl <;> simp [outX,outY,kdT,dot,triB] at * <;> (subst g;simp;omega)
def triT (t:T3):Bool:=triB t.1 t.2.1 t.2.2
theorem Move_in (m:M6) (t:T3) (w:World) (h:mapM m=true) (g:(0≤t.1∧t.1≤8)∧(0≤t.2.1∧t.2.1≤8)∧(0≤t.2.2∧t.2.2≤3)) (hs:Steps w) (j:triT (mvt m t)=true) :
  Rt 80 #[.agg #[I m.1,I m.2.1,I m.2.2.1,I m.2.2.2.1,I m.2.2.2.2.1,I m.2.2.2.2.2],.agg #[I t.1,I t.2.1,I t.2.2]] w (.tuple #[.agg #[I (mvt m t).1,I (mvt m t).2.1,I (mvt m t).2.2],I 0]):=by
 obtain ⟨a,b,c,d,e,f⟩:=m;obtain ⟨x,y,k⟩:=t;obtain ⟨h1,h2,h3,h4,h5,i⟩:=mvt_gen h g.1 g.2.1 g.2.2 (X:=(mvt (a,b,c,d,e,f) (x,y,k)).1) (Y:=(mvt (a,b,c,d,e,f) (x,y,k)).2.1) (K:=(mvt (a,b,c,d,e,f) (x,y,k)).2.2) rfl;exact Move_yes a b c d e f x y k _ _ _ w h i h1 h2 h3 h4 h5 j hs
def rowS (R:List (T3×Value)):List Value:=R.flatMap fun s=>[I s.1.1,I s.1.2.1,I s.1.2.2,s.2]
theorem rowS_add (l m:List (T3×Value)):rowS (l ++ m)=rowS l ++ rowS m:=by simp [rowS]
theorem rowS_len (R:List (T3×Value)):(rowS R).length=R.length*4:=by
 induction R with
 | nil=>rfl
 | cons s r ih =>
  have:rowS (s :: r)=[I s.1.1,I s.1.2.1,I s.1.2.2,s.2] ++ rowS r:=by simp [rowS]
  rw [this,List.length_append,ih];simp;omega
theorem Qbk:∀ (R:List (T3×Value)) (i:Nat) (h:i<R.length),(rowS R)[i*4]?=some (I R[i].1.1)∧(rowS R)[i*4+1]?=some (I R[i].1.2.1)∧(rowS R)[i*4+2]?=some (I R[i].1.2.2)∧(rowS R)[i*4+3]?=some R[i].2
 | s :: r,0,_=>by simp [rowS]
 | s :: r,i+1,h=>by
  have a:=Qbk r i (by simpa using h);have e:rowS (s :: r)=[I s.1.1,I s.1.2.1,I s.1.2.2,s.2] ++ rowS r:=by simp [rowS]
  have f:∀ k,(rowS (s :: r))[(i+1)*4+k]?=(rowS r)[i*4+k]?:=fun k=>by
   rw [e,List.getElem?_append_right ω];congr 1
   simp;omega
  have f0:=f 0;rw [Nat.add_zero,Nat.add_zero] at f0;simp only [List.getElem_cons_succ];exact ⟨f0.trans a.1,(f 1).trans a.2.1,(f 2).trans a.2.2.1,(f 3).trans a.2.2.2⟩
def TrisAt (w:World) (v:Value) (l:List T3):Prop := ∃ a c,v=.slice a l.length c∧TRow w a l
theorem TrisAt.kept (h:TrisAt w v l) (b:Bl w w'):TrisAt w' v l:=by
 obtain ⟨a,c,e,d⟩:=h;exact ⟨a,c,e,d.kept b⟩
theorem TRow.grownN {row:Option Nat} (h:TRow w pa l) (hg:w.grownBy w' row) (b:∀ g,pa=Az g→some g≠row):TRow w' pa l:=fun i hi=>by
 obtain ⟨g,e,c0,c1,c2⟩:=h i hi;have a:=b g e;exact ⟨g,e,hg.cell c0 a,hg.cell c1 a,hg.cell c2 a⟩
theorem TrisAt.grown {row:Option Nat} (h:TrisAt w v l) (hg:w.grownBy w' row) (b:∀ g,v.ownBlock=some g→some g≠row):TrisAt w' v l:=by
 obtain ⟨a,c,rfl,d⟩:=h;exact ⟨a,c,rfl,d.grownN hg fun g e=>b g (by rw [e];rfl)⟩
structure HSt (w0 wx:World) (B:Nat) (p0 p1 p2 p3 p4 v:Value) (R:List (T3×Value)) (S:List (T3×List T3)):Prop where
 c0:At wx B 0 p0
 c1:At wx B 1 p1
 c2:At wx B 2 p2
 c3:At wx B 3 p3
 c4:At wx B 4 p4
 c5:At wx B 5 v
 f5:Fn wx B 5
 own:wx.ownsRow (B+1) 73 4 v R.length (rowS R)
 apart:∀ s∈R,∀ g,s.2.ownBlock=some g→B<g∧g<wx.heap.size∧v.ownBlock≠some g
 len:R.length=S.length
 hold:∀ i (h:i<R.length) (h':i<S.length),R[i].1=S[i].1∧TrisAt wx R[i].2 S[i].2
 low:w0.heap.size≤B
 bel:Bl w0 wx
theorem HSt.lt {g:World} {b c d e:Value} {R:List (T3×Value)} {S:List (T3×List T3)} (h:HSt g a B b c d e f v R S):B<a.heap.size:=bk h.c0
theorem HSt.kept {k l:World} {c d e j:Value} {R:List (T3×Value)} {S:List (T3×List T3)} (h:HSt k l B c d e f j v R S) (a:Bl l w'):HSt k w' B c d e f j v R S :=
 ⟨Qa a h.c0,Qa a h.c1,Qa a h.c2,Qa a h.c3,Qa a h.c4,Qa a h.c5,(a.frozen h.lt).trans h.f5,Qj h.own a,fun s hs g hg=>by
  have:=h.apart s hs g hg;exact ⟨this.1,Nl this.2.1 a.size,this.2.2⟩,h.len,fun i hi b=>⟨(h.hold i hi b).1,(h.hold i hi b).2.kept a⟩,h.low,Qc h.bel a⟩
theorem HSt.more {z o f:World} {r t x y v':Value} {R:List (T3×Value)} {S:List (T3×List T3)} (h:HSt z o B r t u x y v R S) (hg:o.grownBy f v.ownBlock) (q:f.ownsRow (B+1) 73 4 v' (R.length+1) (rowS R ++ [I 0,I 0,I 0,SN])) (hv:v'.ownBlock=v.ownBlock∨v'.ownBlock=some o.heap.size) :
  HSt z (f.setCell ⟨B,5,none⟩ v') B r t u x y v' (R ++ [((0,0,0),SN)]) (S ++ [((0,0,0),[])]):=by
 have b:some B≠v.ownBlock:=fun e=>by
  have:=Qw h.own B e.symm;omega
 have l:v'.ownBlock≠some B:=fun e=>by
  have:=Qw q B e;omega
 have C:=h.bel.grown hg h.bel.size (fun k E=>by have:=Qw h.own k E;have:=h.low;omega);have j:=Ql f B 5 v';have c5:=hg.cell h.c5 b;have f5:Fn f B 5:=(Fo (a:=⟨B,5,none⟩) (hg.block B h.lt b)).trans h.f5;refine ⟨Qn (hg.cell h.c0 b) γ,Qn (hg.cell h.c1 b) γ,Qn (hg.cell h.c2 b) γ,Qn (hg.cell h.c3 b) γ,Qn (hg.cell h.c4 b) γ,Jq c5,by simp [go_sem,f5], ?_, ?_,by simp [h.len], ?_,h.low,C.setCell (p:=⟨B,5,none⟩) h.low _⟩
 ·rw [rowS_add,List.length_append,List.length_singleton];exact q.kept j (Or.inr l)
 ·intro s hs g c;rcases List.mem_append.1 hs with hs | hs
  ·obtain ⟨a1,A,a3⟩:=h.apart s hs g c;refine ⟨a1,Nl A (Nt hg.size j.size),fun e=>?_⟩;rcases hv with e2 | e2
   ·exact a3 (e2 ▸ e)
   ·rw [e2] at e
    cases e;omega
  ·simp at hs;subst hs;simp [Value.ownBlock] at c
 ·intro i hi D;by_cases hiR:i<R.length
  ·have d:i<S.length:=by rw [← h.len];exact hiR
   obtain ⟨e1,e2⟩:=h.hold i hiR d;have m:(R ++ [((0,0,0),SN)])[i]=R[i]:=List.getElem_append_left hiR;have n:(S ++ [((0,0,0),[])])[i]=S[i]:=List.getElem_append_left d;rw [m,n];refine ⟨e1,(e2.grown hg fun g e=>?_).grown j fun g e=>?_⟩
   ·exact fun e3=>(h.apart _ (Lm hiR) g e).2.2 e3.symm
   ·have:=(h.apart _ (Lm hiR) g e).1;intro e3
    cases e3;omega
  ·have e1:i=R.length:=by simp at hi;omega
   have e2:i=S.length:=by rw [e1,h.len]
   have m:(R ++ [((0,0,0),SN)])[i]=((0,0,0),SN):=by
    rw [List.getElem_append_right γ];simp [e1]
   have n:(S ++ [((0,0,0),[])])[i]=((0,0,0),[]):=by
    rw [List.getElem_append_right γ];simp [e2]
   rw [m,n];exact ⟨rfl,none,0,rfl,fun i hi=>by simp at hi⟩
theorem HSt.put {E m v:World} {b o:Nat} {y z A C D:Value} {R:List (T3×Value)} {S:List (T3×List T3)} (h:HSt E m B y z A C D (.slice (Az b) R.length o) R S) {i:Nat} (_hi:i<R.length) {t:T3}
  (hg:m.grownBy v (some b)) (H:v.ownsRow (B+1) 73 4 (.slice (Az b) R.length o) R.length (rowS (R.set i (t,u)))) (x:∀ g,u.ownBlock=some g→B<g∧g<m.heap.size∧g≠b) (hT:TrisAt m u l) :
  HSt E v B y z A C D (.slice (Az b) R.length o) (R.set i (t,u)) (S.set i (t,l)):=by
 have J:B+1≤b:=Qw h.own b rfl
 have c:some B≠some b:=fun e=>by
  cases e;omega
 refine ⟨hg.cell h.c0 c,hg.cell h.c1 c,hg.cell h.c2 c,hg.cell h.c3 c,hg.cell h.c4 c,hg.cell h.c5 c,(Fo (a:=⟨B,5,none⟩) (hg.block B h.lt c)).trans h.f5,by rw [List.length_set];exact H, ?_,by simp [h.len], ?_,h.low,h.bel.grown hg h.bel.size (fun k G=>by cases G;have:=h.low;omega)⟩
 ·intro s hs g d;rcases List.mem_or_eq_of_mem_set hs with hs | hs
  ·obtain ⟨a1,n,a3⟩:=h.apart s hs g d;exact ⟨a1,Nl n hg.size,a3⟩
  ·subst hs;obtain ⟨a1,n,a3⟩:=x g d;refine ⟨a1,Nl n hg.size,fun e=>a3 ?_⟩
   cases e;rfl
 ·intro j F q;rw [List.getElem_set,List.getElem_set];by_cases e:i=j
  ·rw [if_pos e,if_pos e];exact ⟨rfl,hT.grown hg fun g p e2=>(x g p).2.2 (by cases e2;rfl)⟩
  ·rw [if_neg e,if_neg e];have f:j<R.length:=by simpa using F
   have r:j<S.length:=by simpa using q
   obtain ⟨e1,e2⟩:=h.hold j f r;exact ⟨e1,e2.grown hg fun g p e3=>(h.apart _ (Lm f) g p).2.2 (by rw [e3];rfl)⟩
open Go.ChangeMaps
def tg (L:List T3) (j:Nat):Int×Int×Int:=L.getD j (0,0,0)
theorem HSt.cells {m b:World} {a r:Nat} {g i j l:Value} {R:List (T3×Value)} {S:List (T3×List T3)} (h:HSt m b B f g i j l (.slice (Az a) r d) R S) (hr:r=R.length) {k:Nat} (e:k<R.length):At b a (k*4) (I R[k].1.1)∧At b a (k*4+1) (I R[k].1.2.1)∧At b a (k*4+2) (I R[k].1.2.2)∧At b a (k*4+3) R[k].2:=by
 obtain ⟨e0,e1,e2,e3⟩:=Qbk R k e;have n:=rowS_len R;subst hr;have c:=h.own;exact ⟨(c.cellAt (k*4) γ).trans e0,(c.cellAt (k*4+1) γ).trans e1,(c.cellAt (k*4+2) γ).trans e2,(c.cellAt (k*4+3) γ).trans e3⟩
end Go.Proofs.YtjkjpopghkeibaaGreatDoor
namespace Go.Proofs
open Go.Shelf
def Tryz.sortClash_ren:Go.Shelf.Ren:=⟨fun | 6=>57 | 15=>111 | 14=>110 | 28=>159 | 29=>160 | 20=>151 | 21=>152 | 22=>153 | 23=>154 | 24=>155 | 25=>156 | 26=>157 | 27=>158 | 46=>211 | 47=>212 | 48=>213 | 49=>214 | 50=>215 | 57=>232 | n=>n,fun | 22=>81 | 24=>125 | 25=>129 | 3=>3 | 39=>176 | 0=>0 | 53=>229 | 55=>231 | 4=>4 | 46=>223 | 45=>222 | 50=>154 | 5=>5 | 9=>9 | 66=>268 | 70=>272 | 76=>286 | 77=>287 | n=>n,fun | n=>n⟩
theorem Tryz.sortClash:Go.Proofs.SlLaysF0.n6 Tryz.prog Tryz.sortClash_ren:={
 mixed:=by kernel_rfl
 f6:=⟨Tryz.f57.name,by decide,Tryz.func57.trans (congrArg some (by kernel_rfl))⟩
 f14:=⟨Tryz.f110.name,by decide,Tryz.func110.trans (congrArg some (by kernel_rfl))⟩
 f15:=Tryz.func111.trans (congrArg some (by kernel_rfl))
 f20:=⟨Tryz.f151.name,by decide,Tryz.func151.trans (congrArg some (by kernel_rfl))⟩
 f21:=⟨Tryz.f152.name,by decide,Tryz.func152.trans (congrArg some (by kernel_rfl))⟩
 f22:=⟨Tryz.f153.name,by decide,Tryz.func153.trans (congrArg some (by kernel_rfl))⟩
 f23:=⟨Tryz.f154.name,by decide,Tryz.func154.trans (congrArg some (by kernel_rfl))⟩
 f24:=⟨Tryz.f155.name,by decide,Tryz.func155.trans (congrArg some (by kernel_rfl))⟩
 f25:=⟨Tryz.f156.name,by decide,Tryz.func156.trans (congrArg some (by kernel_rfl))⟩
 f26:=⟨Tryz.f157.name,by decide,Tryz.func157.trans (congrArg some (by kernel_rfl))⟩
 f27:=⟨Tryz.f158.name,by decide,Tryz.func158.trans (congrArg some (by kernel_rfl))⟩
 f28:=Tryz.func159.trans (congrArg some (by kernel_rfl))
 f29:=Tryz.func160.trans (congrArg some (by kernel_rfl))
 f46:=⟨Tryz.f211.name,by decide,Tryz.func211.trans (congrArg some (by kernel_rfl))⟩
 f47:=Tryz.func212.trans (congrArg some (by kernel_rfl))
 f48:=Tryz.func213.trans (congrArg some (by kernel_rfl))
 f49:=⟨Tryz.f214.name,by decide,Tryz.func214.trans (congrArg some (by kernel_rfl))⟩
 f50:=⟨Tryz.f215.name,by decide,Tryz.func215.trans (congrArg some (by kernel_rfl))⟩
 f57:=⟨Tryz.f232.name,by decide,Tryz.func232.trans (congrArg some (by kernel_rfl))⟩
 t0:=Tryz.underlying0
 a0:=Tryz.isAgg0
 z0:=Tryz.sizeOf0
 v0:=Tryz.zeroValue0
 t3:=Tryz.underlying3
 a3:=Tryz.isAgg3
 z3:=Tryz.sizeOf3
 v3:=Tryz.zeroValue3
 t4:=Tryz.underlying4
 a4:=Tryz.isAgg4
 z4:=Tryz.sizeOf4
 v4:=Tryz.zeroValue4
 t5:=Tryz.underlying5
 a5:=Tryz.isAgg5
 z5:=Tryz.sizeOf5
 v5:=Tryz.zeroValue5
 t9:=Tryz.underlying9
 a9:=Tryz.isAgg9
 z9:=Tryz.sizeOf9
 v9:=Tryz.zeroValue9
 t22:=Tryz.underlying81
 a22:=Tryz.isAgg81
 z22:=Tryz.sizeOf81
 v22:=Tryz.zeroValue81
 t25:=Tryz.underlying129
 a25:=Tryz.isAgg129
 z25:=Tryz.sizeOf129
 v25:=Tryz.zeroValue129
 t39:=Tryz.underlying176
 a39:=Tryz.isAgg176
 z39:=Tryz.sizeOf176
 v39:=Tryz.zeroValue176
 t45:=Tryz.underlying222
 a45:=Tryz.isAgg222
 z45:=Tryz.sizeOf222
 v45:=Tryz.zeroValue222
 t46:=Tryz.underlying223
 a46:=Tryz.isAgg223
 z46:=Tryz.sizeOf223
 v46:=Tryz.zeroValue223
 t50:=Tryz.underlying154
 a50:=Tryz.isAgg154
 z50:=Tryz.sizeOf154
 v50:=Tryz.zeroValue154
 t53:=Tryz.underlying229
 a53:=Tryz.isAgg229
 z53:=Tryz.sizeOf229
 v53:=Tryz.zeroValue229
 t55:=Tryz.underlying231
 a55:=Tryz.isAgg231
 z55:=Tryz.sizeOf231
 v55:=Tryz.zeroValue231
 t66:=Tryz.underlying268
 a66:=Tryz.isAgg268
 z66:=Tryz.sizeOf268
 v66:=Tryz.zeroValue268
 t70:=Tryz.underlying272
 a70:=Tryz.isAgg272
 z70:=Tryz.sizeOf272
 v70:=Tryz.zeroValue272
 t76:=Tryz.underlying286
 a76:=Tryz.isAgg286
 z76:=Tryz.sizeOf286
 v76:=Tryz.zeroValue286
 t77:=Tryz.underlying287
 a77:=Tryz.isAgg287
 z77:=Tryz.sizeOf287
 v77:=Tryz.zeroValue287 }
end Go.Proofs
namespace Go.Proofs.YtjkjpopghkeibaaGreatDoor
open Go.RowKit Go.Shelf Go.Lib
open Go.Sort hiding Below
theorem Qaf (a b p q:Int) (w:World) :
  Cl 112 #[.agg #[I a,I b],.agg #[I p,I q]] w fun e w'=>e=.returned (I (cmpP a b p q))∧GD w w':=by
 go_enter Tryz.func112,Tryz.ntmps112;go_wp2
 go_region_held3 (fun w'=>At w' w.heap.size 0 (I a)∧At w' w.heap.size 1 (I b)∧At w' (w.heap.size+1) 0 (I p)∧At w' (w.heap.size+1) 1 (I q))
  ((refine ⟨?_, ?_, ?_, ?_⟩ <;> (repeat' (first | (with_reducible assumption) | (dsimp only;omega) | (simp [go_sem];done) | (with_reducible refine Qk ?_) | (with_reducible refine Qq ?_)))))
  (first | (go_at_call 61;refine (Yn _ _ _).mono ?_;rintro e c ⟨rfl,rfl⟩) | (go_at_call 59;refine (Kq (cmp3 a p) (cmp3 b q) _ _ _ ε ε).mono ?_;rintro e d ⟨rfl,rfl⟩))
 all_goals
  go_wp2;go_ret;refine ⟨rfl, ?_⟩;with_reducible repeat' (first | exact Zd _ | refine Jy ?_ | refine Yq ?_)
theorem Qbg (a b c d p q r s:Int) (w:World) :
  Cl 60 #[.agg #[I a,I b,I c,I d],.agg #[I p,I q,I r,I s]] w fun e w'=>e=.returned (I (cmpE a b c d p q r s))∧GD w w':=by
 go_enter Tryz.func60,Tryz.ntmps60;go_wp2
 go_region_held3 (fun w'=>At w' w.heap.size 0 (I a)∧At w' w.heap.size 1 (I b)∧At w' w.heap.size 2 (I c)∧At w' w.heap.size 3 (I d)∧At w' (w.heap.size+1) 0 (I p)∧At w' (w.heap.size+1) 1 (I q)∧At w' (w.heap.size+1) 2 (I r)∧At w' (w.heap.size+1) 3 (I s))
  ((refine ⟨?_, ?_, ?_, ?_, ?_, ?_, ?_, ?_⟩ <;> (repeat' (first | (with_reducible assumption) | (dsimp only;omega) | (simp [go_sem];done) | (with_reducible refine Qk ?_) | (with_reducible refine Qq ?_)))))
  (first
   | (go_at_call 112;refine (Qaf _ _ _ _ _).mono ?_;rintro e w8 ⟨rfl,hg⟩;have hb:=gd_below hg;have g:At w8 w.heap.size 0 (I a):=Qa hb μ;have h:At w8 w.heap.size 1 (I b):=Qa hb μ;have i:At w8 w.heap.size 2 (I c):=Qa hb μ;have j:At w8 w.heap.size 3 (I d):=Qa hb μ;have k:At w8 (w.heap.size+1) 0 (I p):=Qa hb μ;have l:At w8 (w.heap.size+1) 1 (I q):=Qa hb μ;have m:At w8 (w.heap.size+1) 2 (I r):=Qa hb μ;have n:At w8 (w.heap.size+1) 3 (I s):=Qa hb μ;have hq:GD w w8:=(by with_reducible (first | exact Vi f.out hg | exact Vi (Yq f.out) hg | exact Vi (Yq (Jy (Jy (Zd _)))) hg | exact Vi (Jy (Jy (Zd _))) hg));have f:=Hd hq;clear hq;clear hb hg)
   | (go_at_call 59;refine (Kq (cmpP a b p q) (cmpP c d r s) _ _ _ ε ε).mono ?_;rintro e o ⟨rfl,rfl⟩))
 all_goals
  go_wp2;go_ret;refine ⟨rfl, ?_⟩;with_reducible repeat' (first | exact f.out | refine Jy ?_ | refine Yq ?_)
def cmpC (x y:C5):Int:=or2 (cmpE x.1.1 x.1.2.1 x.1.2.2.1 x.1.2.2.2 y.1.1 y.1.2.1 y.1.2.2.1 y.1.2.2.2) (cmp3 x.2 y.2)
theorem cmpE_zero (a b c d p q r s:Int):cmpE a b c d p q r s=0↔sameB a b c d p q r s=true:=by
 unfold cmpE cmpP or2 cmp3 sameB;simp only [decide_eq_true_eq];repeat' split
 all_goals omega
theorem cmpC_lt (x y:C5):ltOf cmpC x y=true↔ltC x y=true:=by
 unfold ltOf cmpC ltC;rw [decide_eq_true_eq,Bool.or_eq_true,Bool.and_eq_true,← Vg,← cmpE_zero,decide_eq_true_eq];unfold or2;split
 ·rename_i h
  rw [h];unfold cmp3;repeat' split
  all_goals omega
 ·rename_i h
  constructor
  ·exact Or.inl
  ·rintro (a | ⟨a,_⟩)
   ·exact a
   ·exact absurd a h
theorem cmpC_not (x y:C5):ltOf cmpC x y=false↔ltC x y=false:=by
 rw [← Bool.not_eq_true,cmpC_lt,Bool.not_eq_true]
theorem swoC:SWO (ltOf cmpC):={
 irrefl:=fun x=>by rw [cmpC_not];exact Qbn x
 trans:=fun x y z h1 h2=>by
  rw [cmpC_lt] at *;exact Qab h1 h2
 ntrans:=fun x y z h1 h2=>by
  rw [cmpC_not,← Bool.not_eq_true,Ku] at *;omega }
def encC (x:C5):List Value:=[I x.1.1,I x.1.2.1,I x.1.2.2.1,I x.1.2.2.2,I x.2]
theorem compareC_gd (a b c d k p q r s l:Int) (w:World) :
  Cl 58 #[.agg #[I a,I b,I c,I d,I k],.agg #[I p,I q,I r,I s,I l]] w fun e w'=>e=.returned (I (or2 (cmpE a b c d p q r s) (cmp3 k l)))∧GD w w':=by
 go_enter Tryz.func58,Tryz.ntmps58;go_wp2
 go_region_held3 (fun w'=>At w' w.heap.size 0 (I a)∧At w' w.heap.size 1 (I b)∧At w' w.heap.size 2 (I c)∧At w' w.heap.size 3 (I d)∧At w' w.heap.size 4 (I k)∧At w' (w.heap.size+1) 0 (I p)∧At w' (w.heap.size+1) 1 (I q)∧At w' (w.heap.size+1) 2 (I r)∧At w' (w.heap.size+1) 3 (I s)∧At w' (w.heap.size+1) 4 (I l))
  ((refine ⟨?_, ?_, ?_, ?_, ?_, ?_, ?_, ?_, ?_, ?_⟩ <;> (repeat' (first | (with_reducible assumption) | (dsimp only;omega) | (simp [go_sem];done) | (with_reducible refine Qk ?_) | (with_reducible refine Qq ?_)))))
  (first
   | (go_at_call 60;refine (Qbg _ _ _ _ _ _ _ _ _).mono ?_;rintro e w8 ⟨rfl,hg⟩;have hb:=gd_below hg;have g:At w8 w.heap.size 0 (I a):=Qa hb μ;have h:At w8 w.heap.size 1 (I b):=Qa hb μ;have i:At w8 w.heap.size 2 (I c):=Qa hb μ;have j:At w8 w.heap.size 3 (I d):=Qa hb μ;have m:At w8 w.heap.size 4 (I k):=Qa hb μ;have n:At w8 (w.heap.size+1) 0 (I p):=Qa hb μ;have o:At w8 (w.heap.size+1) 1 (I q):=Qa hb μ;have t:At w8 (w.heap.size+1) 2 (I r):=Qa hb μ;have u:At w8 (w.heap.size+1) 3 (I s):=Qa hb μ;have v:At w8 (w.heap.size+1) 4 (I l):=Qa hb μ;have hq:GD w w8:=(by with_reducible (first | exact Vi f.out hg | exact Vi (Yq f.out) hg | exact Vi (Yq (Jy (Jy (Zd _)))) hg | exact Vi (Jy (Jy (Zd _))) hg));have f:=Hd hq;clear hq;clear hb hg)
   | (go_at_call 61;refine (Yn _ _ _).mono ?_;rintro e x ⟨rfl,rfl⟩)
   | (go_at_call 59;refine (Kq (cmpE a b c d p q r s) (cmp3 k l) _ _ _ ε ε).mono ?_;rintro e y ⟨rfl,rfl⟩))
 all_goals
  go_wp2;go_ret;refine ⟨rfl, ?_⟩;with_reducible repeat' (first | exact f.out | refine Jy ?_ | refine Yq ?_)
theorem closureC_gd (x y:C5) (W:World):Cl 58 #[.agg (encC x).toArray,.agg (encC y).toArray] W fun e w'=>e=.returned (I (cmpC x y))∧∃ q os',w'=grow (W.drewN q) os':=compareC_gd _ _ _ _ _ _ _ _ _ _ W
theorem flatJ_enc (l:List C5):flatJ l=l.flatMap encC:=rfl
theorem flatC_at:∀ (a:List C5) (j:Nat),j<a.length*5→(a.flatMap encC)[j]?=some ((encC (a.getD (j / 5) default))[j % 5]!)
 | [],j,h=>by simp at h
 | x :: r,j,h=>by
  rw [List.flatMap_cons];by_cases hj:j<5
  ·rw [List.getElem?_append_left (by simpa [encC] using hj),show j / 5=0 by omega,show j % 5=j by omega];have h4:j=0∨j=1∨j=2∨j=3∨j=4:=γ;rcases h4 with rfl | rfl | rfl | rfl | rfl <;> rfl
  ·rw [List.getElem?_append_right (by simp [encC];omega),show (encC x).length=5 from rfl];have b:=flatC_at r (j - 5) (by simp at h;omega);rw [b,show j / 5=(j - 5) / 5+1 by omega,show j % 5=(j - 5) % 5 by omega];rfl
theorem holdsC {w:World} {base g n c:Nat} {a:List C5} (h:w.ownsRow base 125 5 (.slice (Az g) n c) n (flatJ a)) (i:n=a.length):HoldsK encC 5 w g 0 a.toArray:=by
 subst i;intro j b;rw [size_flatK] at b;simp only [List.size_toArray] at b;rw [get_flatK _ _ _ _ (by simpa using b)];refine ⟨?_, ?_⟩
 ·have f:=h.cellAt j γ;rw [Nat.zero_add,f,flatJ_enc,flatC_at a j b];simp
 ·rcases h.2 with ⟨h1,_⟩ | ⟨k,d,e,h1,_,h3,_⟩
  ·cases h1
  ·cases h1;simp [World.frozen?,h3]
theorem grown_sortedC {w:World} {g m:Nat} {os:Array Obj} (d:Array C5):w.grownBy (sortWorldK encC 5 w g 0 m d os) (some g):=by
 refine ⟨rfl,rfl,rfl,size_sortWorldK_c _ _ _ _ _ _ _ _,fun k b a=>?_⟩;unfold sortWorldK putRowK;rw [heap_grow_old _ _ (by simpa using b)];have:g≠k:=fun e=>a (by rw [e]);simp [putRow,mapBlock,Sort.ahead,Array.getElem?_modify,this]
theorem sortClash_any (w:World) (base c8:Nat) (n:Option Addr) (a:List C5) (h:w.ownsRow base 125 5 (.slice n a.length c8) a.length (flatJ a)) (B:a.length<4611686018427387904) :
  Cl 57 #[.slice n a.length c8,.func (.func 58) #[] #[]] w fun e w'=>e=.returned (.tuple #[])∧∃ Bs',Bs'.Perm a∧Bs'.Pairwise (fun x y=>ltC y x=false)∧JRow w' n Bs'∧w.grownBy w' (Value.slice n a.length c8).ownBlock:=by
 by_cases h0:a=[]
 ·subst h0;have o:=AnyF.slices_SortFunc_none Tryz.sortClash n c8 (.func (.func 58) #[] #[]) w;refine o.mono ?_;rintro e w' ⟨rfl,rfl⟩;exact ⟨rfl,[],List.Perm.refl _,List.Pairwise.nil,fun i hi=>by simp at hi,⟨rfl,rfl,rfl,Nr _,fun _ _ _=>rfl⟩⟩
 ·have t:0<a.length:=List.length_pos_iff.2 h0
  obtain ⟨g,rfl⟩:∃ g,n=Az g:=by
   rcases h.2 with ⟨h1,h2⟩ | ⟨g,u,z,h1,_⟩
   ·omega
   ·cases h1;exact ⟨g,rfl⟩
  have r:=holdsC h rfl;have hg:g<w.heap.size:=(h.lt g rfl).2;have d:=AnyQ.slices_SortFunc Tryz.sortClash 5 Tryz.isAgg125 Tryz.sizeOf125 encC (fun _=>rfl) (fun x v hv=>by simp [encC] at hv;rcases hv with rfl | rfl | rfl | rfl | rfl <;> rfl) cmpC swoC 58 #[] g 0 c8 a.toArray w (enters_of Tryz.func58 η rfl) (fun _ _ _ _ x y=>closureC_gd x y _) r hg (by simpa using B);change Cl 57 _ _ _ at d
  rw [List.size_toArray] at d;refine d.mono ?_;rintro e w' ⟨rfl,b,m,os,hp,hs,rfl⟩;have l:b.size=a.length:=by simpa using hp.1
  refine ⟨rfl,b.toList, ?_, ?_, ?_,grown_sortedC b⟩
  ·have h3:=hp.2.2
   have e1:(b.extract 0 a.length).toList=b.toList:=by
    rw [← l];simp
   have e2:(a.toArray.extract 0 a.length).toList=a:=ξ;rw [e1,e2] at h3;exact h3
  ·rw [List.pairwise_iff_getElem];intro i j hi s p;have:=hs i j (Nat.zero_le _) p (by simpa [l] using s);rw [cmpC_not] at this;have k:i<b.size:=by simpa using hi
   have q:j<b.size:=by simpa using s
   rw [getElem!_pos b i k,getElem!_pos b j q] at this;simpa using this
  ·intro i hi;have k:i<b.size:=by simpa using hi
   have A:=holdsK_sortWorldK_c encC 5 w g 0 a.toArray b m os r hg (by simpa using l)
   have f:∀ c,c<5→(sortWorldK encC 5 w g 0 m b os).cell? ⟨g,i*5+c,none⟩=some ((encC b.toList[i])[c]!):=fun c o=>by
    have:=(A.cell k o).1;rw [Nat.zero_add] at this;rw [this,getElem!_pos b i k];simp
   exact ⟨g,rfl,f 0 γ,f 1 γ,f 2 γ,f 3 γ,f 4 γ⟩
end Go.Proofs.YtjkjpopghkeibaaGreatDoor
namespace Go.Proofs.YtjkjpopghkeibaaGreatDoor
open Go.RowKit Go.Shelf Go.ChangeMaps
def Gn (pl:List T3):Nat→Int×Int×Int→List Int
 | 0,_=>[]
 | i+1,e=>if e=pl.getD i (0,0,0) then Gn pl i (pl.getD i (0,0,0)) ++ [(i:Int)] else Gn pl i e
theorem Gn_len (pl:List T3):∀ i e,(Gn pl i e).length≤i
 | 0,e=>by simp [Gn]
 | i+1,e=>by
  unfold Gn;split
  ·rw [List.length_append,List.length_singleton];have:=Gn_len pl i (pl.getD i (0,0,0));omega
  ·have:=Gn_len pl i e;omega
theorem Gn_mem (pl:List T3) (e:T3):∀ i (k:Nat),(k:Int)∈Gn pl i e↔k<i∧pl.getD k (0,0,0)=e
 | 0,k=>by simp [Gn]
 | i+1,k=>by
  unfold Gn;by_cases q:e=pl.getD i (0,0,0)
  ·rw [if_pos q,← q,List.mem_append,Gn_mem pl e i k];constructor
   ·rintro (h | h)
    ·exact ⟨γ,h.2⟩
    ·simp at h;have:k=i:=γ;subst this;exact ⟨γ,q.symm⟩
   ·rintro ⟨h1,h2⟩;by_cases q2:k<i
    ·exact Or.inl ⟨q2,h2⟩
    ·have:k=i:=γ;subst this;exact Or.inr ξ
  ·rw [if_neg q,Gn_mem pl e i k];constructor
   ·rintro ⟨h1,h2⟩;exact ⟨γ,h2⟩
   ·rintro ⟨h1,h2⟩;refine ⟨?_,h2⟩;by_cases q2:k<i
    ·exact q2
    ·have:k=i:=γ;subst this;exact absurd h2.symm q
theorem Gn_nat (pl:List T3):∀ i e,∀ x∈Gn pl i e,∃ k:Nat,x=(k:Int)
 | 0,e,x,h=>by simp [Gn] at h
 | i+1,e,x,h=>by
  unfold Gn at h;split at h
  ·rcases List.mem_append.1 h with h | h
   ·exact Gn_nat pl i _ x h
   ·simp at h;exact ⟨i,h⟩
  ·exact Gn_nat pl i e x h
theorem sub_lenP {α:Type} [DecidableEq α]:∀ (l m:List α),l.Nodup→(∀ x∈l,x∈m)→l.length≤m.length
 | [],_,_,_=>by simp
 | x :: r,b,h,hs=>by
  rw [List.nodup_cons] at h;have c:=hs x ξ
  have h1:=sub_lenP r (b.erase x) h.2 (fun y d=>by
   have a:y≠x:=fun e=>h.1 (e ▸ d);exact (List.mem_erase_of_ne a).2 (hs y (by simp [d])))
  rw [List.length_erase_of_mem c] at h1;have:=List.length_pos_of_mem c;rw [List.length_cons];omega
structure PLW (w wx:World) (rm n pc:Nat) (pa:Option Addr) (pl:List T3) (i:Nat):Prop where
 m:TGP wx (w.heap.size+2) rm SN (Gn pl i)
 p:At wx w.heap.size 4 (.slice pa n pc)
 b:Bl w wx
theorem PLW.kept {w c w':World} {a n pc i:Nat} {pa:Option Addr} {pl:List T3} (h:PLW w c a n pc pa pl i) (hb:Bl c w'):PLW w w' a n pc pa pl i:=⟨h.m.kept hb,Qa hb h.p,Qc h.b hb⟩
def blkOf:Value→Nat
 | .slice (some a) _ _=>a.block
 | _=>0
def capOf:Value→Nat
 | .slice _ _ c=>c
 | _=>0
structure PiledTo (w w':World) (pl:List T3) (g m c:Nat) (S:List (T3×Nat×Nat)):Prop where
 len:S.length=m
 ord:S.Pairwise (fun x y=>ltT x.1 y.1)
 row:∀ i (hi:i<S.length),At w' g i (.slice (Az (S[i].2.1)) (Gn pl pl.length S[i].1).length S[i].2.2)
 own:∀ s∈S,w'.ownsRow w.heap.size 3 1 (.slice (Az s.2.1) (Gn pl pl.length s.1).length s.2.2) (Gn pl pl.length s.1).length ((Gn pl pl.length s.1).map (Value.int .i64))
 ne:∀ s∈S,Gn pl pl.length s.1≠[]
 all:∀ k,k<pl.length→∃ s∈S,s.1=pl.getD k (0,0,0)
 far:S.Pairwise (fun x y=>x.2.1≠y.2.1)
 off:∀ s∈S,s.2.1≠g
 b:Bl w w'
theorem Tlk_of {ls:List (T3×Value×Nat)} {c:Nat} (b:TGood ls c) {x:(T3×Value×Nat)} (a:x∈ls):Tlk ls x.1=some x.2.1:=by
 have h1:=b.1;clear b;induction ls with
 | nil=>cases a
 | cons y r ih =>
  rw [List.map_cons,List.nodup_cons] at h1;unfold Tlk;rcases List.mem_cons.1 a with rfl | a
  ·rw [if_pos rfl]
  ·have:y.1≠x.1:=fun e=>h1.1 (e ▸ List.mem_map.2 ⟨x,a,rfl⟩);rw [if_neg this];exact ih a h1.2
theorem Tlk_some {ls:List (T3×Value×Nat)} {k:T3} {v:Value} (h:Tlk ls k=some v):∃ x∈ls,x.1=k∧x.2.1=v:=by
 induction ls with
 | nil=>cases h
 | cons y r ih =>
  unfold Tlk at h;by_cases q:y.1=k
  ·rw [if_pos q] at h;simp at h;exact ⟨y,ξ,q,h⟩
  ·rw [if_neg q] at h;obtain ⟨x,a,e⟩:=ih h;exact ⟨x,by simp [a],e⟩
theorem piled_any (w:World) (ad ma pa:Option Addr) (na ca nm cm pc:Nat) (ra rk:Option Nat) (pl:List T3) (hT:TRow w pa pl) (h0:0<pl.length) (hn:pl.length≤300) :
  Cl 72 #[.agg #[.slice ad na ca,.map ra,.map rk,.slice ma nm cm,.slice pa pl.length pc]] w fun e w'=>∃ g m c S,e=.returned (.slice (Az g) m c)∧PiledTo w w' pl g m c S:=by
 obtain ⟨F,rfl⟩:∃ F,pa=Az F:=by
  obtain ⟨g,e,_⟩:=hT 0 h0;exact ⟨g,e⟩
 have HT:=Hd hT;obtain ⟨i3,ak,X,Y,Z⟩:=info_parts inf3;have HI:=H4 ak X Y Z;obtain ⟨n,L⟩:∃ n,n=pl.length:=⟨_,rfl⟩;have l:=Hd L;have b9:n≤300:=γ;have ax:0<n:=γ;rw [← L];clear hT ak X Y Z L h0 hn;have ay:=@run_makeMap Tryz.prog;go_enter Tryz.func72,Tryz.ntmps72;go_wp2;obtain ⟨W1,hW1⟩:∃ W1,W1=(w.alloc (.cells #[.slice ad na ca,.map ra,.map rk,.slice ma nm cm,.slice (Az F) n pc] 61)).alloc (.map #[] 0):=⟨_,rfl⟩
 have ae:Hid (PLW w W1 (w.heap.size+1) n pc (Az F) pl 0):=by
  have:PLW w W1 (w.heap.size+1) n pc (Az F) pl 0:=by
   rw [hW1];refine ⟨⟨[],0, ?_,⟨ξ,ξ,ξ⟩,fun e _=>rfl,fun e v h=>by simp [Tlk] at h,fun e e' v v' _ h=>by simp [Tlk] at h⟩,δ,Qb β1⟩;have h9:=heap_alloc_new (w.alloc (.cells #[.slice ad na ca,.map ra,.map rk,.slice ma nm cm,.slice (Az F) n pc] 61)) (.map #[] 0);rw [World.size_alloc] at h9;exact h9
  exact this
 rw [← hW1];clear hW1 ay;go_loopg [10] n (fun gk b6 wx=>∃ i:Nat,i≤n∧gk=n - i∧b6=I (i:Int)∧PLW w wx (w.heap.size+1) n pc (Az F) pl i)
 case atStart=>exact ⟨0,γ,rfl,rfl,ae.out⟩
 case round =>
  clear ae;obtain ⟨i,hi,rfl,rfl,hP⟩:=hrel;have P:=Hd hP;clear hP;by_cases h1:i<n
  ·have i1:(i:Int)<(n:Int):=γ;have i0:(0:Int)≤(i:Int):=γ;have a7:i<pl.length:=by rw [← l.out];exact h1
   obtain ⟨g',eg,q0,O,q2⟩:=(HT.out.kept P.out.b) i a7
   cases eg;obtain ⟨t,ht⟩:∃ t,t=pl[i]:=⟨_,rfl⟩;obtain ⟨x,y,z⟩:=t;rw [← ht] at q0 O q2;dsimp only at q0 O q2;have hgt:pl.getD i (0,0,0)=(x,y,z):=by rw [List.getD_eq_getElem?_getD,List.getElem?_eq_getElem a7,ht];rfl
   have zg:=Bt q0;obtain ⟨v0,st,f,W,R,aq,M,H⟩:=(P.out.m.kept (w':=(wr.alloc (.cells #[I x,I y,I z] 39)).alloc (.cells #[I (i:Int)] 3)) β2).entry γ (fun g h=>by simp [Value.ownBlock] at h) (x,y,z) (i:Int);have b5:(Instr.mapEntry 187 (.map (some (w.heap.size+1))) (.agg #[I x,I y,I z])).run Tryz.prog ((wr.alloc (.cells #[I x,I y,I z] 39)).alloc (.cells #[I (i:Int)] 3))=.ok (.tuple #[v0,I st]) f:=W;have C:f.heap.size=wr.heap.size+2:=by rw [aq];simp
   have b8:w.heap.size+1<wr.heap.size:=by
    obtain ⟨ls,c,h,_⟩:=P.out.m;exact h.lt
   have az:At f (wr.heap.size+1) 0 (I (i:Int)):=R.cell δ (fun e=>by simp at e;omega)
   have a6:Hid ((Gn pl i (x,y,z)).length≤300):=by
    have:=Gn_len pl i (x,y,z);have:(Gn pl i (x,y,z)).length≤300:=γ;exact this
   have ac:=Hd M;have ao:At f w.heap.size 4 (.slice (Az F) n pc):=R.cell (Qa β2 P.out.p) (fun e=>by simp at e)
   have u:Bl w f:=by
    have k1:Bl w ((wr.alloc (.cells #[I x,I y,I z] 39)).alloc (.cells #[I (i:Int)] 3)):=Qb (Qb P.out.b);exact k1.grown R k1.size (fun r e=>by cases e;omega)
   have ab:Hid (∀ g o T,f.grownBy T v0.ownBlock→T.ownsRow (w.heap.size+2) 3 1 (.slice (Az g) ((Gn pl i (x,y,z)).length+1) o) ((Gn pl i (x,y,z)).length+1) ((Gn pl i (x,y,z)).map (Value.int .i64) ++ [I (i:Int)])→(v0.ownBlock=some g∨g=wr.heap.size+2) →
     ∃ W4,(Instr.entryStore 187 (.map (some (w.heap.size+1))) (I st) (.slice (Az g) ((Gn pl i (x,y,z)).length+1) o)).run Tryz.prog T=.ok () W4∧PLW w W4 (w.heap.size+1) n pc (Az F) pl (i+1)):=fun g o T u1 u2 u3=>by
    obtain ⟨W4,s1,s2,s3⟩:=H (.slice (Az g) ((Gn pl i (x,y,z)).length+1) o) T u1 u2 (u3.imp (fun q=>q.symm) (fun q=>by rw [q,C];rfl));have nb:∀ r,v0.ownBlock=some r→w.heap.size+2≤r:=fun r e=>(M.lt r e).1;have k3:Bl w T:=u.grown u1 u.size (fun r e=>by have:=nb r e;omega);refine ⟨W4,s1, ?_,s2.cell (u1.cell ao (fun e=>by have:=nb _ e.symm;dsimp only at this;omega)) (fun e=>by simp at e),k3.grown s2 k3.size (fun r e=>by cases e;omega)⟩
    have e9:(fun j=>if j=(x,y,z) then Gn pl i (x,y,z) ++ [(i:Int)] else Gn pl i j)=Gn pl (i+1):=by
     funext j
     show _=if j=pl.getD i (0,0,0) then Gn pl i (pl.getD i (0,0,0)) ++ [(i:Int)] else Gn pl i j
     rw [hgt]
    rw [e9] at s3;exact s3
   obtain ⟨nG,aa⟩:∃ m,m=(Gn pl i (x,y,z)).length:=⟨_,rfl⟩;obtain ⟨xG,ap⟩:∃ m,m=(Gn pl i (x,y,z)).map (Value.int .i64):=⟨_,rfl⟩;rw [← aa,← ap] at ac ab;rw [← aa] at a6;clear M H W R aq hgt ht aa ap u ao a7;go_wp2_with (at_builtin;refine wpList_append_lies _ rfl (.tmp 17) (.tmp 19) 22 rfl (w.heap.size+2) 3 i3 (I 0) 1 8 Tryz.underlying22 HI.out.1 HI.out.2.1 HI.out.2.2.1 HI.out.2.2.2 rfl ψ v0 nG xG rfl ac.out ⟨wr.heap.size+1,0,none⟩ 1 1 [I (i:Int)] rfl rfl (Yd _ az) (Xx _) ψ (by have:=a6.out;unfold maxLen;omega) (by have:=a6.out;omega) γ f.heap.size rfl ?grow)
   case grow =>
    intro g o T N J ah b7;obtain ⟨W4,ba,af⟩:=ab.out g o T J N ah;have au:=Hd af;clear af N ah J;go_wp2;go_roundg (n - (i+1))
    case measure=>omega
    case rel=>exact ⟨i+1,γ,rfl,σ,au.out⟩
  ·have i1:¬ (i:Int)<(n:Int):=γ;obtain rfl:i=n:=γ;obtain ⟨f,C⟩:∃ f,f=wr.alloc (.cells #[.map (some (w.heap.size+1))] 187):=⟨_,rfl⟩;have Q:Bl wr f:=by rw [C];exact Qb (Qe _)
   obtain ⟨ls,c,t1,t2,t3,t4,t5⟩:=P.out.m.kept Q;have ai:At f wr.heap.size 0 (.map (some (w.heap.size+1))):=by rw [C];simp [go_sem]
   have aj:F<w.heap.size:=by
    obtain ⟨g',eg,q0,_⟩:=HT.out 0 (by rw [← l.out];omega)
    cases eg;exact bk q0
   have u:Bl w f:=Qc P.out.b Q
   have B:∀ x∈ls,∃ g q,x.2.1=.slice (Az g) (Gn pl i x.1).length q∧f.ownsRow (w.heap.size+2) 3 1 x.2.1 (Gn pl i x.1).length ((Gn pl i x.1).map (Value.int .i64))∧Gn pl i x.1≠[]:=fun x d=>by
    obtain ⟨a1,a2,_⟩:=t4 x.1 x.2.1 (Tlk_of t2 d);obtain ⟨g,q,e⟩:=own_slice a1 (List.length_pos_iff.2 a2);exact ⟨g,q,e,a1,a2⟩
   have ag:∀ x∈ls,RowAt f F i x:=fun x d=>by
    obtain ⟨g,q,e,a1,a2⟩:=B x d;have hl:=List.length_pos_iff.2 a2;obtain ⟨k,U⟩:=Gn_nat pl i x.1 ((Gn pl i x.1)[0]) (Lm hl);have D:=(Gn_mem pl x.1 i k).1 (by rw [← U];exact Lm hl);rw [e] at a1;have hc:=a1.cellAt 0 γ;have K:k<pl.length:=by rw [← l.out];exact D.1
    obtain ⟨g',eg,q0,O,q2⟩:=(HT.out.kept u) k K
    cases eg;have e3:pl[k]=x.1:=by rw [← D.2,List.getD_eq_getElem?_getD,List.getElem?_eq_getElem K];rfl
    rw [e3] at q0 O q2;refine ⟨g,_,q,k,e,hl, ?_,D.1,q0,O,q2⟩;show World.cell? _ _=_
    rw [hc,List.getElem?_map,List.getElem?_eq_getElem hl,U];rfl
   have V:ls.length≤300:=by
    have h1:=sub_lenP (ls.map (fun x=>x.1)) pl t2.1 (fun e he=>by
     obtain ⟨x,d,rfl⟩:=List.mem_map.1 he;obtain ⟨g,q,e,a1,a2⟩:=B x d;have hl:=List.length_pos_iff.2 a2;obtain ⟨k,U⟩:=Gn_nat pl i x.1 ((Gn pl i x.1)[0]) (Lm hl);have D:=(Gn_mem pl x.1 i k).1 (by rw [← U];exact Lm hl);have K:k<pl.length:=by rw [← l.out];exact D.1
     rw [← D.2,List.getD_eq_getElem?_getD,List.getElem?_eq_getElem K];exact Lm K)
    rw [List.length_map,← l.out] at h1;omega
   have G:∀ k,k<pl.length→∃ x∈ls,x.1=pl.getD k (0,0,0):=fun k U=>by
    have hm:=(Gn_mem pl (pl.getD k (0,0,0)) i k).2 ⟨by rw [l.out];exact U,rfl⟩
    cases hl:Tlk ls (pl.getD k (0,0,0)) with
    | none =>
     rw [t3 _ hl] at hm
     cases hm
    | some v =>
     obtain ⟨x,d,e,_⟩:=Tlk_some hl;exact ⟨x,d,e⟩
   have h0:ls≠[]:=fun e=>by
    obtain ⟨x,d,_⟩:=G 0 (by rw [← l.out];exact ax);rw [e] at d
    cases d
   have CS:Hid (Cl 122 #[.func (.func 177) #[] #[.pointer (Az wr.heap.size)],.func (.func 124) #[] #[.pointer (Az w.heap.size)]] f fun e w'=>SRows f w' ls e):=sortedRows_any f wr.heap.size (w.heap.size+1) c w.heap.size F i pc ls t2 h0 V ai t1 (Qa Q P.out.p) (Nl aj u.size) ag;have ar:=H5 B G t2 t5 u;have av:=Hd C;clear t1 t2 t3 t4 t5 ai B ag V G h0 Q u C;go_wp2_with (first | (go_at_call 123;refine (values_any _ _).mono ?_;rintro e w2 ⟨rfl,rfl⟩;rw [← av.out]) | (go_at_call 122;refine CS.out.mono ?_;rintro e w3 ⟨g,q,E,rfl,h1,h2,h3,h4,h5⟩;have HF:=H5 h1 h2 h3 h4 h5;clear h1 h2 h3 h4 h5))
   go_ret;obtain ⟨f1,f2,f3,f4,f5⟩:=HF.out;obtain ⟨l1,l2,l3,l4,l5⟩:=ar.out;have zm:=P.out.b.size;have A:∀ x∈E,x∈ls:=fun x d=>f1.mem_iff.1 d;have L:=l.out;subst L;have an:(E.map (fun x=>x.1)).Nodup:=(f1.map (fun x=>x.1)).nodup_iff.2 l3.1;refine ⟨g,E.length,q,E.map (fun x=>(x.1,blkOf x.2.1,capOf x.2.1)),ξ,⟨ξ, ?_, ?_, ?_, ?_, ?_, ?_, ?_,Qc l5 f5⟩⟩
   ·rw [List.pairwise_map];have a8:=List.pairwise_map.1 an;exact (f2.and a8).imp (fun {a b} h=>Qaa h.1 (fun e=>h.2 e.symm))
   ·intro j hj;have am:j<E.length:=by simpa using hj
    obtain ⟨g1,O,e1,_⟩:=l1 E[j] (A _ (Lm am));show World.cell? _ _=_
    rw [f3 j am,List.getElem_map];rw [e1];simp [blkOf,capOf]
   ·intro s hs;obtain ⟨x,d,rfl⟩:=List.mem_map.1 hs;obtain ⟨g1,O,e1,o1,_⟩:=l1 x (A x d);have o2:=Qj o1 f5;rw [e1] at o2 ⊢;exact ⟨o2.1,o2.2.imp id (fun ⟨g,o,aw,h1,h2,h3⟩=>⟨g,o,aw,h1,Nt γ h2,h3⟩)⟩
   ·intro s hs;obtain ⟨x,d,rfl⟩:=List.mem_map.1 hs;obtain ⟨g1,O,e1,_,o2⟩:=l1 x (A x d);exact o2
   ·intro k U;obtain ⟨x,d,e1⟩:=l2 k U;exact ⟨_,List.mem_map.2 ⟨x,f1.mem_iff.2 d,rfl⟩,e1⟩
   ·rw [List.pairwise_map];have a8:=List.pairwise_map.1 an;refine a8.imp_of_mem (fun {a b} ha hb h=>?_);have k1:=l4 a.1 b.1 a.2.1 b.2.1 h (Tlk_of l3 (A a ha)) (Tlk_of l3 (A b hb));obtain ⟨g1,O,e1,_⟩:=l1 a (A a ha);obtain ⟨g2,q2,e2,_⟩:=l1 b (A b hb);rw [e1,e2] at k1 ⊢;simpa [Value.ownBlock,blkOf] using k1
   ·intro s hs;obtain ⟨x,d,rfl⟩:=List.mem_map.1 hs;obtain ⟨g1,O,e1,o1,o2⟩:=l1 x (A x d);rw [e1] at o1 ⊢;have z1:=(o1.lt g1 rfl).2;simp only [blkOf];omega
end Go.Proofs.YtjkjpopghkeibaaGreatDoor
