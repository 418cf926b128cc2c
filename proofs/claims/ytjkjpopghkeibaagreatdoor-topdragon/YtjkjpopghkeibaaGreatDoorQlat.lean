/- A part of it. -/
import Derived.Test.YtjkjpopghkeibaaGreatDoorQlam
import Derived.Test.YtjkjpopghkeibaaGreatDoorQlar
import Derived.Test.YtjkjpopghkeibaaGreatDoorQlas
set_option maxRecDepth 100000
set_option maxHeartbeats 40000000
namespace Go.Proofs.YtjkjpopghkeibaaGreatDoor
open Go.RowKit
variable {w w':World} {c d v:Value} {B a b base g i k m n o s:Nat} {f:Nat→Int} {e:TypeId} {L:List T3} {row:Option Nat}
def Seen (L:List T3) (f:Nat→Int) (A:List T3):Prop := ∀ i (h:i<L.length),(0≤f i↔L[i]∈A)∧(f i=-1∨0≤f i)
def plF (pl:List T3) (i:Nat):Int×Int×Int:=pl.getD i (0,0,0)
theorem seen_start (L:List T3):Seen L (fun _=>-1) []:=fun i h=>⟨ξ,Or.inl rfl⟩
theorem Seen.more {A:List T3} (c:L.Nodup) (h:Seen L f A) (hi:i<L.length) (k:Nat):Seen L (fun j=>if j=i then (k:Int) else f j) (A ++ [L[i]]):=fun j b=>by
 by_cases e:j=i
 ·subst e;simp
 ·have a:L[j]≠L[i]:=fun q=>e (Ys c b hi q);simp only [if_neg e,List.mem_append,List.mem_singleton,a,or_false];exact h j b
structure HgW (WE wx:World) (g n:Nat) (f:Nat→Int) (B:Nat) (x y k:Int) (v:Value):Prop where
 z:ZRow wx g n f
 bel:Bl WE wx
 b0:At wx B 0 (I x)
 b1:At wx B 1 (I y)
 b2:At wx B 2 (I k)
 b3:At wx B 3 v
theorem HgW.kept {b c:World} {x y k:Int} (h:HgW b c g n f B x y k v) (a:Bl c w'):HgW b w' g n f B x y k v :=
 ⟨h.z.kept a,Qc h.bel a,Qa a h.b0,Qa a h.b1,Qa a h.b2,Qa a h.b3⟩
theorem HgW.put {b c:World} {x y k:Int} (h:HgW b c g n f B x y k v) (hg:b.heap.size≤g) (a:B≠g) (hi:i<n) (u:Int):HgW b (c.setCell ⟨g,i,none⟩ (I u)) g n (fun j=>if j=i then u else f j) B x y k v :=
 ⟨h.z.set u hi,h.bel.setCell (p:=⟨g,i,none⟩) hg _,Xh h.b0 a,Xh h.b1 a,Xh h.b2 a,Xh h.b3 a⟩
open Go.ChangeMaps
def PlaceTo (kd:E4→Int) (L:List T3) (w w':World) (e:Ending):Prop:=Bl w w'∧((∃ M g,Cons kd L M∧e=.returned (.tuple #[.slice (Az g) L.length L.length,I 0])∧MRow w' g L.length M)∨((¬ ∃ N,Cons kd L N)∧e=.returned (.tuple #[SN,I 8])))
def Lv (S:List (T3×List T3)) (L:List T3) (f:Nat→Int) (m k:Nat):Prop := ∀ i (_:i<L.length) m' k' (hm:m'<S.length) (hk:k'<S[m'].2.length),S[m'].2[k']=L[i]→(m'<m∨m'=m∧k'<k)→f i=(k':Int)
theorem lv_zero (S:List (T3×List T3)) (L:List T3) (f:Nat→Int):Lv S L f 0 0:=fun i _ b a _ _ _ h=>by omega
theorem mem_sofar {S:List (T3×List T3)} (h1:m<S.length) (d:a<S.length) (c:b<S[a].2.length) (h:a<m∨a=m∧b<k):S[a].2[b]∈allS (S.take m) ++ S[m].2.take k:=by
 rcases h with h | ⟨rfl,h⟩
 ·refine List.mem_append_left _ ?_;unfold allS;rw [List.mem_flatMap];refine ⟨S[a], ?_,Lm c⟩;rw [List.mem_take_iff_getElem];exact ⟨a,γ,rfl⟩
 ·refine List.mem_append_right _ ?_;rw [List.mem_take_iff_getElem];exact ⟨b,γ,rfl⟩
theorem Lv.step {S:List (T3×List T3)} (h:Lv S L f m k) (n:L.Nodup) (h1:m<S.length) (h2:k<S[m].2.length) (hi:i<L.length) (e:L[i]=S[m].2[k]) (c:S[m].2[k] ∉ allS (S.take m) ++ S[m].2.take k):Lv S L (fun j=>if j=i then (k:Int) else f j) m (k+1):=by
 intro j d b a l g q o;by_cases hji:j=i
 ·subst hji;show (if j=j then (k:Int) else f j)=(a:Int)
  rw [if_pos rfl];by_cases hold:b<m∨b=m∧a<k
  ·exfalso
   have:=mem_sofar h1 l g hold;rw [q,e] at this;exact c this
  ·have:a=k:=γ;omega
 ·show (if j=i then (k:Int) else f j)=(a:Int)
  rw [if_neg hji];by_cases hold:b<m∨b=m∧a<k
  ·exact h j d b a l g q hold
  ·exfalso
   have h3:b=m:=γ;subst h3;have h4:a=k:=γ;subst h4;exact hji (Ys n d hi (q.symm.trans e.symm))
theorem Lv.next {S:List (T3×List T3)} (h:Lv S L f m k) (h1:m<S.length) (j:k=S[m].2.length):Lv S L f (m+1) 0:=fun i hi b g d a q c=>by
 refine h i hi b g d a q ?_;by_cases e:b=m
 ·subst e;exact Or.inr ⟨rfl,γ⟩
 ·exact Or.inl γ
def SeenV (L:List T3) (f:Nat→Int) (A:List T3) (S:List (T3×List T3)) (m k:Nat):Prop:=Seen L f A∧Lv S L f m k
def HgTv (L pl:List T3) (S:List (T3×List T3)) (w w':World) (e:Ending):Prop := ∃ a n c,∃ b:Bool,e=.returned (.tuple #[.slice a n c,.bool b])∧(b=true↔StOk L (plF pl) S)∧Bl w w'∧(b=true→∃ g f,a=Az g∧n=L.length∧ZRow w' g L.length f∧Lv S L f S.length 0∧w.heap.size≤g)
theorem heights_lv (w:World) (n cc pc sc ra rk gm cm:Nat) (ad pa sp:Option Addr) (L pl:List T3) (S:List (T3×List T3)) (hT:TRow w ad L) (hP:TRow w pa pl) (hS:SRow w sp S) (hn:n=L.length) (bh:pl.length=n) (av:L.Pairwise ltT) (bo:0<n) (hL:n≤300) (bz:S.length≤17592186044416) (ba:∀ s∈S,s.2.length≤17592186044416) :
  Cl 38 #[.agg #[.slice ad n cc,.map (some ra),.map (some rk),.slice (Az gm) n cm,.slice pa n pc],.slice sp S.length sc] w fun e w'=>HgTv L pl S w w' e:=by
 have A:=H7 hT hP hS hn bh (up_nodup av) ba
 have CN:Hid (∀ (W:World) (x y k:Int),Bl w W→Cl 88 #[.agg #[.slice ad n cc,.map (some ra),.map (some rk)],.agg #[I x,I y,I k]] W fun e w'=>NumTo L (x,y,k) W w' e):=fun W x y k hW=>by
  rw [hn];exact number_any W ad cc _ _ L x y k (hT.kept hW) av γ
 have hq:=neq23;clear hT hP hS hn bh av ba;go_enter Tryz.func38,Tryz.ntmps38;go_wp2_with (go_at_call 86;refine (repeat_any (-1) (w.heap.size+1) n _ γ δ).mono ?_;rintro e w1 ⟨rfl,an,hb⟩;have a2:=H2 (rp_zrow an) hb;clear an hb)
 obtain ⟨Q,aa⟩:∃ W,W=((w.alloc (.cells #[.slice ad n cc,.map (some ra),.map (some rk),.slice (Az gm) n cm,.slice pa n pc] 61)).alloc (.cells #[I (-1)] 3)):=⟨_,rfl⟩
 have HQ:Hid (At Q w.heap.size 0 (.slice ad n cc)∧At Q w.heap.size 1 (.map (some ra))∧At Q w.heap.size 2 (.map (some rk))∧At Q w.heap.size 4 (.slice pa n pc)):=by
  rw [aa];exact ⟨δ,δ,δ,δ⟩
 have hz:Q.heap.size=w.heap.size+2:=by rw [aa];simp
 have ax:Hid (Bl w Q):=by rw [aa];exact Qb β1
 rw [← aa] at a2;obtain ⟨g,hg⟩:∃ g,g=w.heap.size+1+1:=⟨_,rfl⟩;rw [show Q.heap.size=g by omega] at a2;have HG:Hid (g=w.heap.size+1+1∧Q.heap.size=g):=⟨hg,γ⟩;rw [← hg];clear aa hg hz;go_wp2;go_loopg [21] S.length (fun gk bq wx=>∃ (m:Nat) (f:Nat→Int),m≤S.length∧gk=S.length - m∧bq=I (m:Int)∧Pre L (plF pl) S m∧SeenV L f (allS (S.take m)) S m 0∧ZRow wx g n f∧Bl Q wx)
 case atStart=>exact ⟨0,_,γ,rfl,rfl,pre_zero _ _ _,⟨seen_start L,lv_zero _ _ _⟩,a2.out.1,a2.out.2⟩
 case round =>
  clear a2;obtain ⟨m,f,hm,rfl,rfl,ai,a7,hZ,hB⟩:=hrel;have Z:=H4 ai a7 hZ hB;have a:=Hd (Qc ax.out hB);clear ai a7 hZ hB;by_cases h1:m<S.length
  ·have i1:(m:Int)<(S.length:Int):=γ;have i0:(0:Int)≤(m:Int):=γ;obtain ⟨gs,sa,ag,rfl,c0,c1,c2,c3,bc⟩:=A.out.2.2.1 m h1;have bj:=Hd bc;replace c0:=Qa a.out c0;replace c1:=Qa a.out c1;replace c2:=Qa a.out c2;replace c3:=Qa a.out c3;have zs:=Bt c0;obtain ⟨X,Y,K,aq⟩:∃ X Y K,S[m].1=(X,Y,K):=⟨_,_,_,rfl⟩;obtain ⟨l,hl⟩:∃ l,l=S[m].2.length:=⟨_,rfl⟩;rw [aq] at c0 c1 c2;rw [← hl] at c3;dsimp only at c0 c1 c2;have F:=H2 aq hl
   have ca:l≤17592186044416:=by
    rw [hl];exact A.out.2.2.2.2.2.2 _ (Lm h1)
   clear bc aq hl;go_upto_region 5 with fail
   refine Qi (fun W0 hW0=>?_);obtain ⟨B,G⟩:∃ B,B=wr.heap.size:=⟨_,rfl⟩
   have N:Hid (Bl wr W0∧B=wr.heap.size):=by
    refine ⟨?_,G⟩;rw [hW0];with_reducible repeat (first | exact Qe _ | refine Qb ?_ | refine Qh ?_ ?_)
    all_goals (dsimp only;omega)
   have x0:At W0 B 0 (I X):=by rw [hW0,G];simp [go_sem]
   have x1:At W0 B 1 (I Y):=by rw [hW0,G];simp [go_sem]
   have x2:At W0 B 2 (I K):=by rw [hW0,G];simp [go_sem]
   have x3:At W0 B 3 (.slice sa l ag):=by rw [hW0,G];simp [go_sem]
   rw [← G];clear hW0 G c0 c1 c2 c3;have zB:=Bt x0
   obtain ⟨bb,r⟩:∃ bb:Bool,Hid (bb=false↔(l≠0∧∀ q (h:q+1=m),ltT (S[q]'γ).1 S[m].1)):=by
    by_cases q:l≠0∧∀ q (h:q+1=m),ltT (S[q]'γ).1 S[m].1
    ·exact ⟨false,⟨fun _=>q,fun _=>rfl⟩⟩
    ·exact ⟨true,⟨(fun h=>by cases h),fun h=>absurd h q⟩⟩
   go_cut [45] (fun br wx=>br=.bool bb∧Bl W0 wx)
   case first =>
    by_cases hl0:l=0
    ·have p:Hid (bb=true):=by
      cases q:bb
      ·exact absurd hl0 (r.out.1 q).1
      ·exact rfl
     subst hl0;obtain ⟨kc,kn⟩:=kcn W0;refine wk ?_;repeat (go_big_quiet_step (fail))
     refine kq1 (fun wq hq=>?_);clear kc kn;go_wp2;go_meet
     case rel=>exact ⟨by rw [p.out],hq⟩
    ·have ql:((l:Int) == 0)=false:=by simpa using hl0
     by_cases hm0:m=0
     ·have p:Hid (bb=false):=r.out.2 ⟨hl0,fun q h=>by omega⟩;subst hm0;obtain ⟨kc,kn⟩:=kcn W0;refine wk ?_;repeat (go_big_quiet_step (fail))
      refine kq1 (fun wq hq=>?_);clear kc kn;go_wp2;go_meet
      case rel=>exact ⟨by rw [p.out],hq⟩
     ·obtain ⟨V,rfl⟩:∃ V,m=V+1:=⟨m - 1,γ⟩;have bn:V<S.length:=γ;obtain ⟨bw,cd,bv,e1,d0,d1,d2,_,_⟩:=(A.out.2.2.1.kept (Qc a.out N.out.1)) V bn
      cases e1;obtain ⟨X',Y',K',ab⟩:∃ X Y K,S[V].1=(X,Y,K):=⟨_,_,_,rfl⟩;rw [ab] at d0 d1 d2;dsimp only at d0 d1 d2;have ce:=Bt d0;obtain ⟨c,hc⟩:∃ c,c=cmpT X' Y' K' X Y K:=⟨_,rfl⟩;have HC:Hid (∀ W:World,Rt 87 #[.agg #[I X',I Y',I K'],.agg #[I X,I Y,I K]] W (I c)):=fun W=>hc ▸ Yo X' Y' K' X Y K W
      have HL:Hid (bb=decide (0≤c)):=by
       have bf:c<0↔ltT S[V].1 S[V+1].1:=by rw [hc,ab,F.out.1];exact cmpT_lt0 _ _ _ _ _ _
       have:bb=decide (0≤c):=by
        cases q:bb
        ·have:=(r.out.1 q).2 V rfl;have:=bf.2 this;symm
         rw [decide_eq_false_iff_not];omega
        ·symm
         rw [decide_eq_true_eq];refine Int.not_lt.1 fun h=>?_
         have:=r.out.2 ⟨hl0,fun q' h'=>by
          obtain rfl:q'=V:=γ;exact bf.1 h⟩
         rw [q] at this
         cases this
       exact this
      have im:(0:Int)<((V+1:Nat):Int):=γ;have em:((V+1:Nat):Int) - 1=(V:Int):=γ;have cb:(V:Int)<(S.length:Int):=γ;clear hc ab hl0;obtain ⟨kc,kn⟩:=kcn W0;refine wk ?_;repeat (go_big_quiet_step ((go_at_call 87;exact Qf (HC.out _))))
      refine kq1 (fun wq hq=>?_);clear kc kn;go_wp2;go_meet
      case rel=>exact ⟨by rw [HL.out],hq⟩
   case rest =>
    obtain ⟨rfl,C⟩:=hcut;have ao:Hid (HgW Q wc g n f B X Y K (.slice sa l ag)):=⟨(Z.out.2.2.1.kept N.out.1).kept C,Qc Z.out.2.2.2 (Qc N.out.1 C),Qa C x0,Qa C x1,Qa C x2,Qa C x3⟩;have ay:=Hd (Qc a.out (Qc N.out.1 C));have b3:=ao.out.b3;have zb:=Bt b3
    have az:Hid (B≠g∧Q.heap.size≤g):=by
     have h:=Z.out.2.2.2.size;have h2:=HG.out;have h3:=N.out.2;have:=bk (Z.out.2.2.1 0 bo).1;exact ⟨by dsimp only at this;omega,γ⟩
    clear x0 x1 x2 x3 zB C
    cases bb
    ·have b5:Hid (Pri L (plF pl) S m 0 h1):=Z.out.1.start h1 (fun e=>(r.out.1 rfl).1 (by rw [F.out.2,e];rfl)) (r.out.1 rfl).2
     have b7:Hid (SeenV L f (allS (S.take m) ++ S[m].2.take 0) S m 0):=by
      have:=Z.out.2.1;rw [List.take_zero,List.append_nil];exact this
     clear Z a N r;go_wp2;clear b3 zb;go_loopg [49] l (fun gk bs wx=>∃ (k:Nat) (f':Nat→Int),k≤l∧gk=l - k∧bs=I (k:Int)∧Pri L (plF pl) S m k h1∧SeenV L f' (allS (S.take m) ++ S[m].2.take k) S m k∧HgW Q wx g n f' B X Y K (.slice sa l ag))
     case atStart=>exact ⟨0,f,γ,rfl,rfl,b5.out,b7.out,ao.out⟩
     case round =>
      clear b5 b7 ao ay;obtain ⟨k,f',hk,rfl,rfl,aj,M,hW⟩:=hrel;have HJ:=H3 aj M hW;have a:=Hd (Qc ax.out hW.bel);have p0:=Qa hW.bel HQ.out.1;have p1:=Qa hW.bel HQ.out.2.1;have p2:=Qa hW.bel HQ.out.2.2.1;have b3:=hW.b3;have zp:=Bt p0;have zb:=Bt b3;clear aj M hW;by_cases h2:k<l
      ·have k1:(k:Int)<(l:Int):=γ;have k0:(0:Int)≤(k:Int):=γ;have R:k<S[m].2.length:=by rw [← F.out.2];exact h2
       obtain ⟨ga,rfl,t0,t1,t2⟩:=(bj.out.kept a.out) k R;obtain ⟨x,y,z,ae⟩:∃ x y z,S[m].2[k]=(x,y,z):=⟨_,_,_,rfl⟩;rw [ae] at t0 t1 t2;dsimp only at t0 t1 t2;have HX:=Hd ae;have zt:=Bt t0;clear ae;go_upto_region 10 with fail
       refine Qi (fun W2 a8=>?_);obtain ⟨B2,a6⟩:∃ B,B=wr.heap.size:=⟨_,rfl⟩
       have O:Hid (Bl wr W2):=by
        have:Bl wr W2:=by
         rw [a8];with_reducible repeat (first | exact Qe _ | refine Qb ?_ | refine Qh ?_ ?_)
         all_goals (dsimp only;omega)
        exact this
       have y0:At W2 B2 0 (I x):=by rw [a8,a6];simp [go_sem]
       have y1:At W2 B2 1 (I y):=by rw [a8,a6];simp [go_sem]
       have y2:At W2 B2 2 (I z):=by rw [a8,a6];simp [go_sem]
       rw [← a6];clear a8 a6;replace p0:=Qa O.out p0;replace p1:=Qa O.out p1;replace p2:=Qa O.out p2;have zy:=Bt y0;replace zp:w.heap.size<W2.heap.size:=bk p0;clear t0 t1 t2 zt b3 zb;go_upto_region 11 with (go_at_call 88;refine (CN.out _ x y z (Qc a.out O.out)).mono ?_;rintro e w3 ⟨i,bt,rfl,hi,H,be,au⟩;have HN:=H2 H be;have P:Hid (HgW Q w3 g n f' B X Y K (.slice (Az ga) l ag)):=(HJ.out.2.2.kept O.out).kept au;have aw:=Hd (Qc a.out (Qc O.out au));clear H be au)
       clear y0 y1 y2 p0 p1 p2 zp zy;have x0:=P.out.b0;have x1:=P.out.b1;have x2:=P.out.b2;have p4:=Qa P.out.bel HQ.out.2.2.2;have zb:=Bt x0;have zp:=Bt p4
       obtain ⟨b2,o⟩:∃ b2:Bool,Hid (b2=false↔(bt=true∧f' i<0∧plF pl i=(X,Y,K))):=by
        by_cases q:bt=true∧f' i<0∧plF pl i=(X,Y,K)
        ·exact ⟨false,⟨fun _=>q,fun _=>rfl⟩⟩
        ·exact ⟨true,⟨(fun h=>by cases h),fun h=>absurd h q⟩⟩
       go_cut [79] (fun bu wx=>bu=.bool b2∧Bl w3 wx)
       case first =>
        cases bt
        ·have p:Hid (b2=true):=by
          cases q:b2
          ·exact absurd (o.out.1 q).1 ψ
          ·exact rfl
         obtain ⟨kc,kn⟩:=kcn w3;refine wk ?_;repeat (go_big_quiet_step (fail))
         refine kq1 (fun wq hq=>?_);clear kc kn;go_wp2;go_meet
         case rel=>exact ⟨by rw [p.out],hq⟩
        ·obtain ⟨d,_⟩:=HN.out.2 rfl;have ac:i<n:=by rw [A.out.2.2.2.1];exact d
         have ii:(i:Int)<(n:Int):=γ;have bp:(0:Int)≤(i:Int):=γ;obtain ⟨u,hu⟩:∃ u,u=f' i:=⟨_,rfl⟩;obtain ⟨z0,_⟩:=P.out.z i ac;rw [← hu] at z0;have HU:=Hd hu;clear hu;have zg:=Bt z0;have am:i<pl.length:=by rw [A.out.2.2.2.2.1];exact ac
         obtain ⟨gp,rfl,q0,q1,q2⟩:=(A.out.2.1.kept aw.out) i am;have zq:=Bt q0;obtain ⟨px,py,pk,U⟩:∃ x y k,pl[i]=(x,y,k):=⟨_,_,_,rfl⟩;rw [U] at q0 q1 q2;dsimp only at q0 q1 q2
         have b6:Hid (plF pl i=(px,py,pk)):=by
          have:plF pl i=(px,py,pk):=by unfold plF;rw [Qz pl i am,U]
          exact this
         clear U;by_cases hu0:0≤u
         ·have p:Hid (b2=true):=by
           cases q:b2
           ·have:=(o.out.1 q).2.1;rw [← HU.out] at this;omega
           ·exact rfl
          obtain ⟨kc,kn⟩:=kcn w3;refine wk ?_;repeat (go_big_quiet_step (fail))
          refine kq1 (fun wq hq=>?_);clear kc kn;go_wp2;go_meet
          case rel=>exact ⟨by rw [p.out],hq⟩
         ·have p:Hid (b2 = !sameT px py pk X Y K):=by
           have:b2 = !sameT px py pk X Y K:=by
            cases q:b2
            ·have:=(o.out.1 q).2.2;rw [b6.out] at this;simp only [Prod.mk.injEq] at this;obtain ⟨rfl,rfl,rfl⟩:=this;simp [sameT]
            ·cases q2:sameT px py pk X Y K
             ·rfl
             ·exfalso
              have:b2=false:=o.out.2 ⟨rfl,by rw [← HU.out];omega,by
               rw [b6.out];simp only [sameT,decide_eq_true_eq] at q2;simp only [Prod.mk.injEq];exact q2⟩
              rw [q] at this
              cases this
           exact this
          obtain ⟨kc,kn⟩:=kcn w3;refine wk ?_;repeat (go_big_quiet_step (fail))
          refine kq1 (fun wq hq=>?_);clear kc kn;go_wp2;go_meet
          case rel=>exact ⟨by rw [p.out],hq⟩
       case rest =>
        obtain ⟨rfl,ap⟩:=hcut;have b9:=Hd (P.out.kept ap);have bi:=Hd (Qc aw.out ap);clear x0 x1 x2 p4 zb zp ap
        cases b2
        ·obtain ⟨H,bm,U⟩:=o.out.1 rfl;subst H;obtain ⟨d,D⟩:=HN.out.2 rfl;have ac:i<n:=by rw [A.out.2.2.2.1];exact d
         have ii:(i:Int)<(n:Int):=γ;have bp:(0:Int)≤(i:Int):=γ;obtain ⟨z0,zf⟩:=b9.out.z i ac;have zg:=Bt z0
         have b8:Hid (Pri L (plF pl) S m (k+1) h1∧SeenV L (fun j=>if j=i then (k:Int) else f' j) (allS (S.take m) ++ S[m].2.take (k+1)) S m (k+1)):=by
          have T:S[m].2[k] ∉ allS (S.take m) ++ S[m].2.take k:=fun E=>by
           rw [HX.out,← D] at E;have:=(HJ.out.2.1.1 i d).1.2 E;omega
          refine ⟨HJ.out.1.step R ⟨i,d,by rw [HX.out];exact D,by rw [F.out.1];exact U⟩ T, ?_,HJ.out.2.1.2.step A.out.2.2.2.2.2.1 h1 R d (by rw [HX.out];exact D) T⟩;have:=HJ.out.2.1.1.more A.out.2.2.2.2.2.1 d k;rw [D,← HX.out] at this;rw [List.take_succ_eq_append_getElem R,← List.append_assoc];exact this
         clear bm U D;go_wp2;go_roundg (l - (k+1))
         case measure=>omega
         case rel=>exact ⟨k+1,_,γ,rfl,σ,b8.out.1,b8.out.2,b9.out.put az.out.2 az.out.1 ac _⟩
        ·go_wp2;refine bodyPost_ret (v:=.tuple #[SN,.bool false]) (by simp [results,Tryz.results38,go_sem]) rfl ⟨none,0,0,false,rfl, ?_,bi.out,fun h=>by cases h⟩;simp only [Bool.false_eq_true,false_iff];intro J
         have T:¬ (bt=true∧f' i<0∧plF pl i=(X,Y,K)):=fun h=>by
          have:=o.out.2 h
          cases this
         obtain ⟨j,hj,e1,e2⟩:=J.pl _ (Lm h1) _ (Lm R);rw [HX.out] at e1;rw [F.out.1] at e2;have H:bt=true:=HN.out.1.2 (e1 ▸ Lm hj);obtain ⟨d,D⟩:=HN.out.2 H;have:=Ys A.out.2.2.2.2.2.1 d hj (D.trans e1.symm);subst this;refine T ⟨H,Int.not_le.1 fun h0=>?_,e2⟩;have E:=(HJ.out.2.1.1 i d).1.1 h0;rw [D,← HX.out] at E;exact not_nd A.out.2.2.2.2.2.1 h1 R E J
      ·have k1:¬ (k:Int)<(l:Int):=γ;have af:k=S[m].2.length:=by rw [← F.out.2];omega
       have ah:Hid (Pre L (plF pl) S (m+1)∧SeenV L f' (allS (S.take (m+1))) S (m+1) 0):=by
        refine ⟨HJ.out.1.fin af, ?_,HJ.out.2.1.2.next h1 af⟩;have:=HJ.out.2.1.1;rw [af,List.take_length] at this;rw [Uh h1];exact this
       clear af;go_wp2;go_roundg (S.length - (m+1))
       case measure=>omega
       case rel=>exact ⟨m+1,f',γ,rfl,σ,ah.out.1,ah.out.2,HJ.out.2.2.z,HJ.out.2.2.bel⟩
    ·go_wp2;refine bodyPost_ret (v:=.tuple #[SN,.bool false]) (by simp [results,Tryz.results38,go_sem]) rfl ⟨none,0,0,false,rfl, ?_,ay.out,fun h=>by cases h⟩;simp only [Bool.false_eq_true,false_iff];intro J
     have T:¬ (l≠0∧∀ q (h:q+1=m),ltT (S[q]'γ).1 S[m].1):=fun h=>by
      have:=r.out.2 h
      cases this
     refine T ⟨fun e=>not_ne h1 (by rw [← F.out.2];exact e) J,fun q h=>?_⟩;subst h;exact J.up q h1
  ·have i1:¬ (m:Int)<(S.length:Int):=γ;obtain rfl:m=S.length:=γ;have CC:=Hd (fun (W:World) hW=>contains_any W g n n f (-1) (Z.out.2.2.1.kept hW) hL);go_wp2_with (go_at_call 89;refine (CC.out _ (Qe _)).mono ?_;rintro e w2 ⟨b,rfl,hb,ar⟩;have HC:=H3 hb (Qc a.out ar) (Z.out.2.2.1.kept ar);clear hb ar)
   refine bodyPost_ret (v:=.tuple #[.slice (Az g) n n,.bool (!b)]) (by simp [results,Tryz.results38,go_sem]) rfl ⟨_,_,_,!b,rfl, ?_,HC.out.2.1,fun _=>⟨g,f,rfl,A.out.2.2.2.1,by rw [← A.out.2.2.2.1];exact HC.out.2.2,Z.out.2.1.2,by rw [HG.out.1];omega⟩⟩
   have ak:(∀ t∈L,t∈allS S)↔b=false:=by
    have hs:=Z.out.2.1.1;rw [List.take_length] at hs;constructor
    ·intro hc
     cases q:b
     ·rfl
     ·obtain ⟨j,hj,e⟩:=HC.out.1.1 q;have bg:j<L.length:=by rw [← A.out.2.2.2.1];exact hj
      have:=(hs j bg).1.2 (hc _ (Lm bg));omega
    ·intro hb t ht;obtain ⟨j,hj,e⟩:=List.getElem_of_mem ht;rw [← e];rcases (hs j hj).2 with h | h
     ·have:=HC.out.1.2 ⟨j,by rw [A.out.2.2.2.1];exact hj,h⟩;rw [hb] at this
      cases this
     ·exact (hs j hj).1.1 h
   constructor
   ·intro hb;exact Z.out.1.all A.out.2.2.2.2.2.1 rfl (ak.2 (by simpa using hb))
   ·intro J;have:=ak.1 (J.cov A.out.2.2.2.2.2.1);rw [this];rfl
theorem Zy {size:Nat} {f:List Value} (h:w.ownsRow B e size v n f):∀ g,v.ownBlock=some g→∃ c,w.heap[g]?=some (.cells c e (0,0)):=by
 intro g hg;rcases h.2 with ⟨rfl,_⟩ | ⟨i,b,a,rfl,_,d,_⟩
 ·simp [Value.ownBlock] at hg
 ·simp only [Value.ownBlock,Option.some.injEq] at hg;subst hg;exact ⟨a,d⟩
def NestV (w:World) (base:Nat) (v:Value) (F:List (List T3)) (vs:List Value):Prop :=
 vs.length=F.length∧w.ownsRow base 55 1 v F.length vs∧(∀ n (h:n<vs.length) (h':n<F.length),w.ownsRow base 39 3 vs[n] F[n].length (flatV F[n])) ∧
 ∀ n m (hn:n<vs.length) (hm:m<vs.length),n≠m→∀ b,vs[n].ownBlock=some b→vs[m].ownBlock≠some b
def Nest (w:World) (base:Nat) (v:Value) (F:List (List T3)):Prop := ∃ vs,NestV w base v F vs
theorem NestV.apart {F:List (List T3)} {a:List Value} (h:NestV w base v F a) (d:n<a.length):a[n].ownBlock=none∨a[n].ownBlock≠v.ownBlock:=by
 cases e:a[n].ownBlock with
 | none=>exact Or.inl rfl
 | some b =>
  right
  intro e2;obtain ⟨c1,f⟩:=Zy (h.2.2.1 n d (by rw [← h.1];exact d)) b e;obtain ⟨c2,c⟩:=Zy h.2.1 b e2.symm;rw [f] at c;simp at c
theorem NestV.grown {F:List (List T3)} {a:List Value} (h:NestV w base v F a) (hg:w.grownBy w' none):NestV w' base v F a :=
 ⟨h.1,h.2.1.kept hg (by cases v.ownBlock <;> simp),fun n h1 h2=>(h.2.2.1 n h1 h2).kept hg (by cases a[n].ownBlock <;> simp),h.2.2.2⟩
theorem NestV.kept {F:List (List T3)} {a:List Value} (h:NestV w base v F a) (b:Bl w w'):NestV w' base v F a:=h.grown (Qy b)
theorem NestV.more {v':Value} {F:List (List T3)} {a:List Value} (h:NestV w base v F a) (g:w'.ownsRow base 55 1 v' (F.length+1) (a ++ [SN])) (hg:w.grownBy w' v.ownBlock):NestV w' base v' (F ++ [[]]) (a ++ [SN]):=by
 refine ⟨by simp [h.1],by simpa using g,fun n h1 h2=>?_,fun n m h1 h2 f b e=>?_⟩
 ·by_cases hn:n<a.length
  ·have c:n<F.length:=by rw [← h.1];exact hn
   rw [List.getElem_append_left hn,List.getElem_append_left c];exact (h.2.2.1 n hn c).kept hg (h.apart hn)
  ·have e1:n=a.length:=by simp at h1;omega
   have e2:n=F.length:=by rw [e1,h.1]
   have d:(a ++ [SN])[n]=SN:=by subst e1;simp
   have i:(F ++ [[]])[n]=[]:=by subst e2;simp
   rw [d,i];exact World.ownsRow_nil _ _ _ _
 ·by_cases hn:n<a.length
  ·rw [List.getElem_append_left hn] at e;by_cases hm:m<a.length
   ·rw [List.getElem_append_left hm];exact h.2.2.2 n m hn hm f b e
   ·have e1:m=a.length:=by simp at h2;omega
    have d:(a ++ [SN])[m]=SN:=by subst e1;simp
    rw [d];simp [Value.ownBlock]
  ·have e1:n=a.length:=by simp at h1;omega
   have d:(a ++ [SN])[n]=SN:=by subst e1;simp
   rw [d] at e;simp [Value.ownBlock] at e
theorem flatV_snoc (l:List T3) (t:T3):flatV (l ++ [t])=flatV l ++ [I t.1,I t.2.1,I t.2.2]:=by simp [flatV]
theorem NestV.put {j p:Nat} {u:Value} {F:List (List T3)} {d:List Value} {t:T3} (h:NestV w base (.slice (Az g) F.length j) F d) (hp:p<d.length) (x:p<F.length)
  (s:w'.ownsRow base 39 3 u (F[p].length+1) (flatV F[p] ++ [I t.1,I t.2.1,I t.2.2])) (hg:w.grownBy w' d[p].ownBlock) (f:u.ownBlock=d[p].ownBlock∨u.ownBlock=some w.heap.size) :
  NestV (w'.setCell ⟨g,p,none⟩ u) base (.slice (Az g) F.length j) (F.set p (F[p] ++ [t])) (d.set p u):=by
 have hv:w'.ownsRow base 55 1 (.slice (Az g) F.length j) F.length d:=h.2.1.kept hg (by
  rcases h.apart hp with e | e
  ·right
   rw [e];simp [Value.ownBlock]
  ·exact Or.inr (fun q=>e q.symm))
 have hs:=hv.stored p u
 have o:u.ownBlock≠some g:=by
  intro e;obtain ⟨c1,v⟩:=Zy s g e;obtain ⟨c2,r⟩:=Zy hv g δ2;rw [v] at r;simp at r
 refine ⟨by simp [h.1],by simpa using hs.1,fun n h1 h2=>?_,fun n m h1 h2 k b i=>?_⟩
 ·have a:n<d.length:=by simpa using h1
  have c:n<F.length:=by simpa using h2
  by_cases e:n=p
  ·subst e;simp only [List.getElem_set_self];rw [flatV_snoc,List.length_append];exact s.kept hs.2 (Or.inr o)
  ·rw [List.getElem_set_ne γ,List.getElem_set_ne γ]
   have k1:=(h.2.2.1 n a c).kept hg (by
    cases e3:d[n].ownBlock with
    | none=>exact Or.inl rfl
    | some b=>exact Or.inr (fun q=>h.2.2.2 n p a hp e b e3 q.symm))
   refine k1.kept hs.2 ?_;rcases h.apart a with l | l
   ·exact Or.inl l
   ·exact Or.inr (by simpa [Value.ownBlock] using l)
 ·have a:n<d.length:=by simpa using h1
  have c:m<d.length:=by simpa using h2
  have lt:∀ q (hq:q<d.length),d[q].ownBlock≠some w.heap.size:=fun q hq e=>by
   have:=((h.2.2.1 q hq (by rw [← h.1];exact hq)).lt _ e).2;omega
  by_cases e:n=p
  ·subst e;rw [List.getElem_set_self] at i;rw [List.getElem_set_ne γ];rcases f with f | f
   ·exact h.2.2.2 n m a c k b (by rw [← f];exact i)
   ·rw [f] at i
    cases i;exact lt m c
  ·rw [List.getElem_set_ne γ] at i;by_cases e2:m=p
   ·subst e2;rw [List.getElem_set_self];rcases f with f | f
    ·rw [f];exact h.2.2.2 n m a c k b i
    ·rw [f];intro q
     cases q;exact lt n a i
   ·rw [List.getElem_set_ne γ];exact h.2.2.2 n m a c k b i
def FW (w1 wx:World) (v:Value) (F:List (List T3)):Prop:=Nest wx w1.heap.size v F∧Bl w1 wx
theorem FW.kept {w1 b:World} {F:List (List T3)} (h:FW w1 b v F) (a:Bl b w'):FW w1 w' v F:=by
 obtain ⟨⟨c,h1⟩,h2⟩:=h;exact ⟨⟨c,h1.kept a⟩,Qc h2 a⟩
theorem Je {P:Program} {o:Oper} {a:Act} {K:Act→World→Prop} {Q:Exit→Act→World→Prop} (s x:Operand) (t:TypeId) (e:o.op=.call { callee:=.builtin .append,args:=#[s,x],argTypes:=#[t,t] }) (b c v':Value) (w':World) (hs:a.eval s=b) (f:a.eval x=c) (hr:(Builtin.append_ #[t,t] o.type #[b,c]).run P w=.ok v' w') (d:K (a.put o.dst v') w'):Oper.wp P o a w K Q:=by
 unfold Oper.wp execOp;simp only [e,resolve,invoke,builtin,Sem.run_bind,Sem.run_pure,Result.andThen_ok,List.map_toArray,List.map_cons,List.map_nil,hs,f,hr];exact d
theorem Nest.mono {base':Nat} {F:List (List T3)} (h:Nest w base v F) (c:base'≤base):Nest w base' v F:=by
 have le:∀ {e:TypeId} {size n:Nat} {v:Value} {xs:List Value},w.ownsRow base e size v n xs→w.ownsRow base' e size v n xs:=fun h=>by
  refine ⟨h.1,h.2.imp id ?_⟩;rintro ⟨g,a,b,h1,h2,h3⟩;exact ⟨g,a,b,h1,Nt c h2,h3⟩
 obtain ⟨i,h1,h2,h3,h4⟩:=h;exact ⟨i,h1,le h2,fun n d f=>le (h3 n d f),h4⟩
theorem Xi {size:Nat} {d:List Value} (h:w.ownsRow base e size v n d):∃ a b,v=.slice a n b∧(0<n→∃ g,a=Az g):=by
 rcases h.2 with ⟨rfl,rfl⟩ | ⟨g,b,c,rfl,_⟩
 ·exact ⟨none,0,rfl,fun h=>by omega⟩
 ·exact ⟨_,b,rfl,fun _=>⟨g,rfl⟩⟩
theorem own_apart {b1 b2 f h n1 n2:Nat} {e1 e2:TypeId} {e:Value} {x1 x2:List Value} (h1:w.ownsRow b1 e1 f d n1 x1) (h2:w.ownsRow b2 e2 h e n2 x2) (c:e1≠e2):∀ g,d.ownBlock=some g→e.ownBlock≠some g:=fun g k1 k2=>by
 rcases h1.2 with ⟨rfl,_⟩ | ⟨g1,_,_,rfl,_,b,_⟩
 ·simp [Value.ownBlock] at k1
 ·rcases h2.2 with ⟨rfl,_⟩ | ⟨g2,_,_,rfl,_,a,_⟩
  ·simp [Value.ownBlock] at k2
  ·obtain rfl:g1=g:=by simpa [Value.ownBlock] using k1
   obtain rfl:g2=g1:=by simpa [Value.ownBlock] using k2
   rw [b] at a;simp at a;exact c a.2
theorem own_grown {i:List Value} (h:w.ownsRow base e s v n i) (hg:w.grownBy w' row) (f:∀ g,v.ownBlock=some g→row≠some g):w'.ownsRow base e s v n i:=by
 refine ⟨h.1, ?_⟩;rcases h.2 with h0 | ⟨g,a,b,rfl,hb,c,h3⟩
 ·exact Or.inl h0
 ·refine Or.inr ⟨g,a,b,rfl,hb, ?_,h3⟩
  have d:g<w.heap.size:=by
   rcases Nat.lt_or_ge g w.heap.size with k | k
   ·exact k
   ·rw [Array.getElem?_eq_none k] at c
    cases c
  rw [hg.block g d (fun k=>f g rfl k.symm)];exact c
theorem own_set {u:Value} {a:List Value} (h:w.ownsRow base e s v n a) (hb:b<base):(w.setCell ⟨b,o,none⟩ u).ownsRow base e s v n a:=own_grown h (Ql w b o u) (fun g hg k=>by
 have:=Qw h g hg
 cases k;omega)
theorem own_low {b1 b2:Nat} {c:List Value} (h:w.ownsRow b1 e s v n c) (hb:b2≤b1):w.ownsRow b2 e s v n c:=by
 refine ⟨h.1, ?_⟩;rcases h.2 with h0 | ⟨g,a,b,rfl,k,h3⟩
 ·exact Or.inl h0
 ·exact Or.inr ⟨g,a,b,rfl,γ,h3⟩
def HB15 (w:World) (z:Nat) (f0 f1 f2 f3 f4 f5 f6 f7 f8 f9 f10 f11 f12 f13 f14:Value):Prop:=At w z 0 (f0)∧At w z 1 (f1)∧At w z 2 (f2)∧At w z 3 (f3)∧At w z 4 (f4)∧At w z 5 (f5)∧At w z 6 (f6)∧At w z 7 (f7)∧At w z 8 (f8)∧At w z 9 (f9)∧At w z 10 (f10)∧At w z 11 (f11)∧At w z 12 (f12)∧At w z 13 (f13)∧At w z 14 (f14)
theorem HB15.kept {z:Nat} {f0 f1 f2 f3 f4 f5 f6 f7 f8 f9 f10 f11 f12 f13 f14:Value} (h:HB15 w z f0 f1 f2 f3 f4 f5 f6 f7 f8 f9 f10 f11 f12 f13 f14) (hb:Bl w w'):HB15 w' z f0 f1 f2 f3 f4 f5 f6 f7 f8 f9 f10 f11 f12 f13 f14:=by
 obtain ⟨h0,h1,h2,h3,h4,h5,h6,f,g,i,a,b,c,d,e⟩:=h;exact ⟨Qa hb h0,Qa hb h1,Qa hb h2,Qa hb h3,Qa hb h4,Qa hb h5,Qa hb h6,Qa hb f,Qa hb g,Qa hb i,Qa hb a,Qa hb b,Qa hb c,Qa hb d,Qa hb e⟩
theorem HB15.grown {z:Nat} {f0 f1 f2 f3 f4 f5 f6 f7 f8 f9 f10 f11 f12 f13 f14:Value} (h:HB15 w z f0 f1 f2 f3 f4 f5 f6 f7 f8 f9 f10 f11 f12 f13 f14) (hg:w.grownBy w' row) (a:some z≠row):HB15 w' z f0 f1 f2 f3 f4 f5 f6 f7 f8 f9 f10 f11 f12 f13 f14:=by
 obtain ⟨h0,h1,h2,h3,h4,h5,h6,g,i,j,b,c,d,e,f⟩:=h;exact ⟨hg.cell h0 a,hg.cell h1 a,hg.cell h2 a,hg.cell h3 a,hg.cell h4 a,hg.cell h5 a,hg.cell h6 a,hg.cell g a,hg.cell i a,hg.cell j a,hg.cell b a,hg.cell c a,hg.cell d a,hg.cell e a,hg.cell f a⟩
def SB4 (w:World) (b:Nat) (u0 u1 u2 u3:Value):Prop:=(At w b 0 (u0)∧At w b 1 (u1)∧At w b 2 (u2)∧At w b 3 (u3))∧(Fn w b 0∧Fn w b 1∧Fn w b 2∧Fn w b 3)
theorem SB4.kept {a e:Value} (h:SB4 w b a c d e) (hb:Bl w w'):SB4 w' b a c d e:=by
 obtain ⟨⟨h0,h1,h2,h3⟩,f0,f1,f2,f3⟩:=h;exact ⟨⟨Qa hb h0,Qa hb h1,Qa hb h2,Qa hb h3⟩,frozen_kept hb h0 f0,frozen_kept hb h1 f1,frozen_kept hb h2 f2,frozen_kept hb h3 f3⟩
theorem SB4.grown {e f:Value} (h:SB4 w b c d e f) (hg:w.grownBy w' row) (a:some b≠row):SB4 w' b c d e f:=by
 obtain ⟨⟨h0,h1,h2,h3⟩,f0,f1,f2,f3⟩:=h;have hl:=bk h0;have fz:∀ o,Fn w b o→Fn w' b o:=fun o k=>(Fo (hg.block b hl a)).trans k;exact ⟨⟨hg.cell h0 a,hg.cell h1 a,hg.cell h2 a,hg.cell h3 a⟩,fz _ f0,fz _ f1,fz _ f2,fz _ f3⟩
theorem SB4.set3 {a e:Value} (h:SB4 w b a c d e):SB4 (w.setCell ⟨b,3,none⟩ v) b a c d v:=by
 obtain ⟨⟨h0,h1,h2,h3⟩,f0,f1,f2,f3⟩:=h;refine ⟨⟨?_, ?_, ?_,Cs _ _ _ h3⟩, ?_, ?_, ?_, ?_⟩
 ·exact (Co _ _ _ _ ξ).trans h0
 ·exact (Co _ _ _ _ ξ).trans h1
 ·exact (Co _ _ _ _ ξ).trans h2
 ·(try simp only [Fn]);rw [Fz];exact f0
 ·(try simp only [Fn]);rw [Fz];exact f1
 ·(try simp only [Fn]);rw [Fz];exact f2
 ·(try simp only [Fn]);rw [Fz];exact f3
def set4 (w:World) (b:Nat) (u0 u1 u2 u3:Value):World:=(((w.setCell ⟨b,0,none⟩ u0).setCell ⟨b,1,none⟩ u1).setCell ⟨b,2,none⟩ u2).setCell ⟨b,3,none⟩ u3
theorem set4_grown (w:World) (b:Nat) (d f g h:Value):w.grownBy (set4 w b d f g h) (some b):=by
 refine ⟨rfl,rfl,rfl,by simp [set4],fun k a c=>?_⟩;have e:∀ (v:World) (o:Nat) (u:Value),k<v.heap.size→(v.setCell ⟨b,o,none⟩ u).heap[k]?=v.heap[k]?:=fun v o u hv=>(Ql v b o u).block k hv c;unfold set4;rw [e _ _ _ (by simpa using a),e _ _ _ (by simpa using a),e _ _ _ (by simpa using a),e _ _ _ a]
theorem SB4.set4 {e f g v0 a v3:Value} (h:SB4 w b d e f g):SB4 (set4 w b v0 a c v3) b v0 a c v3:=by
 obtain ⟨⟨h0,h1,h2,h3⟩,f0,f1,f2,f3⟩:=h;unfold Proofs.YtjkjpopghkeibaaGreatDoor.set4;refine ⟨⟨?_, ?_, ?_, ?_⟩, ?_, ?_, ?_, ?_⟩
 ·simp [go_sem,h0]
 ·simp [go_sem,h1]
 ·simp [go_sem,h2]
 ·simp [go_sem,h3]
 ·simp [f0]
 ·simp [f1]
 ·simp [f2]
 ·simp [f3]
theorem infCr:(Tryz.prog.info? 49).map (fun i=>(i.zero,i.size,i.bytes))=some (some (.agg #[I 0,I 0,I 0,I 0,I 0]),5,40):=η
def sk (kd:C5→Int) (j:C5):C5:=(j.1,kd j)
def crL (kd:C5→Int) (Cs SL:List C5) (i:Nat):List C5:=Cs ++ (SL.take i).map (sk kd)
theorem crL_zero (kd:C5→Int) (a b:List C5):crL kd a b 0=a:=by simp [crL]
theorem crL_one (kd:C5→Int) (b a:List C5) (i:Nat) (h:i<a.length):crL kd b a (i+1)=crL kd b a i ++ [sk kd a[i]]:=by
 unfold crL;have e:a.take (i+1)=a.take i ++ [a[i]]:=by first | exact (List.take_append_getElem h).symm | exact (List.take_concat_get' _ _ h).symm | exact List.take_succ_eq_append_getElem h
 rw [e,List.map_append,← List.append_assoc];rfl
theorem crL_len (kd:C5→Int) (a b:List C5) (i:Nat) (h:i≤b.length):(crL kd a b i).length=a.length+i:=by simp [crL];omega
theorem five1 (a b c d e:Int):∀ u ∈ [I a,I b,I c,I d,I e],u.oneCell'=true:=by
 intro u f;simp at f;rcases f with rfl | rfl | rfl | rfl | rfl <;> rfl
theorem flatJ_app (l:List C5) (x:C5):flatJ (l ++ [x])=flatJ l ++ [I x.1.1,I x.1.2.1,I x.1.2.2.1,I x.1.2.2.2,I x.2]:=by simp [flatJ]
def ltE (x y:C5):Bool:=lessE x.1.1 x.1.2.1 x.1.2.2.1 x.1.2.2.2 y.1.1 y.1.2.1 y.1.2.2.1 y.1.2.2.2
def CrTo (w w':World) (W H:Int) (zs:List Int) (Ls:List C5) (e:Ending):Prop := ∃ va b cb Bs,e=.returned (.agg #[I W,I H,va,.slice b Ls.length cb])∧w'.ownsRow w.heap.size 3 1 va zs.length (zs.map (Value.int .i64))∧Bs.Perm Ls∧Bs.Pairwise (fun x y=>ltE y x=false)∧JRow w' b Bs∧(b=none∨∃ g,b=Az g∧w.heap.size≤g)∧Bl w w'
def CrI (w wx:World) (f0 f1 f2 f3 f4 f5 f6 f7 f8 f9 f10 f11 f12 f13 f14:Value) (W H:Int) (va sv:Value) (zs:List Int) (kd:C5→Int) (Cs SL:List C5) (i:Nat) (v:Value):Prop:=wx.ownsRow (w.heap.size+1+1+1) 49 5 v (crL kd Cs SL i).length (flatJ (crL kd Cs SL i))∧wx.ownsRow (w.heap.size+1+1+1) 3 1 va zs.length (zs.map (Value.int .i64))∧wx.ownsRow (w.heap.size+1+1+1) 142 5 sv SL.length (flatJ SL)∧SB4 wx (w.heap.size+1) (I W) (I H) va v∧SB4 wx (w.heap.size+1+1) (I 0) (I 0) SN SN∧HB15 wx w.heap.size f0 f1 f2 f3 f4 f5 f6 f7 f8 f9 f10 f11 f12 f13 f14∧Bl w wx
theorem creased_any (f0 f1 f2 f3 f4 f5 f6 f7 f8 f9 f10 f11 f12 f13 f14 a6 a7:Value) (W H:Int) (zs:List Int) (kd:C5→Int) (m c:List C5) (w:World) (ac:m.length+c.length≤100000)
  (am:∀ V:World,Bl w V→Cl 52 #[.agg #[I W,I H,a6,a7]] V fun e w'=>∃ va vc,e=.returned (.agg #[I W,I H,va,vc])∧w'.ownsRow V.heap.size 3 1 va zs.length (zs.map (Value.int .i64))∧w'.ownsRow V.heap.size 49 5 vc m.length (flatJ m)∧Bl V w')
  (an:∀ V:World,Bl w V→Cl 75 #[.agg #[f0,f1,f2,f3,f4,f5,f6,f7,f8,f9,f10,f11,f12,f13,f14]] V fun e w'=>∃ v,e=.returned v∧w'.ownsRow V.heap.size 142 5 v c.length (flatJ c)∧Bl V w')
  (ao:∀ (V:World) (j:C5),Bl w V→j∈c→Rt 77 #[.agg #[f0,f1,f2,f3,f4,f5,f6,f7,f8,f9,f10,f11,f12,f13,f14],.agg #[I j.1.1,I j.1.2.1,I j.1.2.2.1,I j.1.2.2.2,I j.2]] V (I (kd j)))
  (ap:∀ (V:World) (base c8:Nat) (O:Option Addr) (M:List C5),V.ownsRow base 49 5 (.slice O M.length c8) M.length (flatJ M)→M.length<4611686018427387904→Cl 78 #[.slice O M.length c8,.func (.func 79) #[] #[]] V fun e w'=>e=.returned (.tuple #[])∧∃ Bs',Bs'.Perm M∧Bs'.Pairwise (fun x y=>ltE y x=false)∧JRow w' O Bs'∧V.grownBy w' (Value.slice O M.length c8).ownBlock) :
  Cl 31 #[.agg #[f0,f1,f2,f3,f4,f5,f6,f7,f8,f9,f10,f11,f12,f13,f14],.agg #[I W,I H,a6,a7]] w fun e w'=>CrTo w w' W H zs (crL kd m c c.length) e:=by
 have b6:=Hd am;have b7:=Hd an;have b8:=Hd ao;have b9:=Hd ap;obtain ⟨i5,ar,ax,ay,az⟩:=info_parts infCr;have HI:=H4 ar ax ay az;have HL:=Hd ac;clear am an ao ap ar ax ay az ac;go_enter Tryz.func31,Tryz.ntmps31;go_upto_region 1 with fail
 refine Qi (fun W0 hW0=>?_)
 have X:Hid (SB4 W0 (w.heap.size+1) (I W) (I H) a6 a7∧SB4 W0 (w.heap.size+1+1) (I 0) (I 0) SN SN∧HB15 W0 w.heap.size f0 f1 f2 f3 f4 f5 f6 f7 f8 f9 f10 f11 f12 f13 f14∧Bl w W0∧W0.heap.size=w.heap.size+1+1+1):=by
  rw [hW0];refine ⟨?_, ?_, ?_, ?_, ?_⟩
  ·simp [SB4,go_sem]
  ·simp [SB4,go_sem]
  ·simp [HB15,go_sem]
  ·with_reducible repeat' (first | exact Qe _ | refine Qb ?_ | refine Qg ?_)
  ·simp [go_sem]
 clear hW0;obtain ⟨⟨k0,k1,k2,k3⟩,_⟩:=X.out.1;go_upto_region 2 with (go_at_call 52;refine (b6.out _ X.out.2.2.2.1).mono ?_;rintro e w5 ⟨va,vc,rfl,hA,hC,hb⟩;have N:Hid (SB4 w5 (w.heap.size+1) (I W) (I H) a6 a7∧SB4 w5 (w.heap.size+1+1) (I 0) (I 0) SN SN∧HB15 w5 w.heap.size f0 f1 f2 f3 f4 f5 f6 f7 f8 f9 f10 f11 f12 f13 f14∧Bl w w5∧w5.ownsRow (w.heap.size+1+1+1) 49 5 vc m.length (flatJ m)∧w5.ownsRow (w.heap.size+1+1+1) 3 1 va zs.length (zs.map (Value.int .i64))):=⟨X.out.1.kept hb,X.out.2.1.kept hb,X.out.2.2.1.kept hb,Qc X.out.2.2.2.1 hb,own_low hC (by have:=X.out.2.2.2.2;omega),own_low hA (by have:=X.out.2.2.2.2;omega)⟩;obtain ⟨J,K,be,_⟩:=Xi hA;obtain ⟨ab,cb,bf,_⟩:=Xi hC;clear hA hC hb k0 k1 k2 k3;subst be;subst bf;obtain ⟨⟨k0,k1,k2,k3⟩,y0,y1,y2,y3⟩:=N.out.1;have kz:=bk k0)
 refine Qi (fun A Q=>?_)
 have U:Hid (SB4 A (w.heap.size+1) (I W) (I H) (.slice J zs.length K) (.slice ab m.length cb)∧SB4 A (w.heap.size+1+1) (I 0) (I 0) SN SN∧HB15 A w.heap.size f0 f1 f2 f3 f4 f5 f6 f7 f8 f9 f10 f11 f12 f13 f14∧Bl w A∧A.ownsRow (w.heap.size+1+1+1) 49 5 (.slice ab m.length cb) m.length (flatJ m)∧A.ownsRow (w.heap.size+1+1+1) 3 1 (.slice J zs.length K) zs.length (zs.map (Value.int .i64))):=by
  have e:A=set4 w5 (w.heap.size+1) (I W) (I H) (.slice J zs.length K) (.slice ab m.length cb):=Q;rw [e];have hg:=set4_grown w5 (w.heap.size+1) (I W) (I H) (.slice J zs.length K) (.slice ab m.length cb)
  have hn:∀ {b s n:Nat} {e:TypeId} {v:Value} {xs:List Value},w5.ownsRow (w.heap.size+1+1+1) e s v n xs→∀ g,v.ownBlock=some g→some (w.heap.size+1)≠some g:=fun h g hg k=>by
   have:=Qw h g hg
   cases k;omega
  refine ⟨N.out.1.set4,N.out.2.1.grown hg ξ,N.out.2.2.1.grown hg ξ,N.out.2.2.2.1.grown hg N.out.2.2.2.1.size (fun k h=>by cases h;omega),own_grown N.out.2.2.2.2.1 hg (hn (b:=0) N.out.2.2.2.2.1),own_grown N.out.2.2.2.2.2 hg (hn (b:=0) N.out.2.2.2.2.2)⟩
 clear Q N X k0 k1 k2 k3 y0 y1 y2 y3 kz;obtain ⟨x0,x1,x2,x3,x4,x5,x6,x7,x8,x9,bh,bi,bj,bm,bn⟩:=U.out.2.2.1;go_wp2_with (go_at_call 75;refine (b7.out _ U.out.2.2.2.1).mono ?_;rintro e w7 ⟨sv,rfl,hS,hb⟩;have b5:w.heap.size+1+1+1≤A.heap.size:=(by have:=bk U.out.2.1.1.1;dsimp only at this;omega);have H7:Hid (CrI w w7 f0 f1 f2 f3 f4 f5 f6 f7 f8 f9 f10 f11 f12 f13 f14 W H (.slice J zs.length K) sv zs kd m c 0 (.slice ab m.length cb)):=⟨by rw [crL_zero];exact Qj U.out.2.2.2.2.1 hb,Qj U.out.2.2.2.2.2 hb,own_low hS b5,U.out.1.kept hb,U.out.2.1.kept hb,U.out.2.2.1.kept hb,Qc U.out.2.2.2.1 hb⟩;obtain ⟨sa,sc,rfl,_,_⟩:=Zz hS;clear hS hb b5)
 clear x0 x1 x2 x3 x4 x5 x6 x7 x8 x9 bh bi bj bm bn U;go_loopg [6,12] c.length (fun gk s6 bg wx=>∃ i:Nat,i≤c.length∧gk=c.length - i∧bg=I (i:Int)∧∃ v,CrI w wx f0 f1 f2 f3 f4 f5 f6 f7 f8 f9 f10 f11 f12 f13 f14 W H (.slice J zs.length K) (.slice sa c.length sc) zs kd m c i v)
 case atStart=>exact ⟨0,γ,rfl,rfl,_,H7.out⟩
 case round =>
  clear H7;obtain ⟨i,hi,rfl,rfl,v,hR⟩:=hrel;have z:=Hd hR;clear hR;by_cases h1:i<c.length
  ·have i1:(i:Int)<(c.length:Int):=γ;have i0:(0:Int)≤(i:Int):=γ;have aj:=Hd (crL_len kd m c i hi);have HE:=Hd (crL_one kd m c i h1)
   have au:JRow wr sa c:=by
    obtain ⟨a9,c9,e9,_,h9⟩:=Zz z.out.2.2.1
    cases e9;exact h9
   obtain ⟨gs,bc,c0,c1,c2,c3,c4⟩:=au i h1;subst bc;have ag:c[i]∈c:=Lm h1;clear au;generalize c[i]=j at c0 c1 c2 c3 c4 ag HE;have CC:Hid (∀ V:World,Bl w V→Rt 77 #[.agg #[f0,f1,f2,f3,f4,f5,f6,f7,f8,f9,f10,f11,f12,f13,f14],.agg #[I j.1.1,I j.1.2.1,I j.1.2.2.1,I j.1.2.2.2,I j.2]] V (I (kd j))):=fun V Z=>b8.out V j Z ag;clear ag;go_upto_region 5 with fail
   refine Qi (fun A Q=>?_);have e6:A=wr.alloc (.cells #[I j.1.1,I j.1.2.1,I j.1.2.2.1,I j.1.2.2.2,I j.2] 142):=Q;have q6:Bl wr A:=by rw [e6];exact Qb (Qe _)
   have s6:At A wr.heap.size 0 (I j.1.1)∧At A wr.heap.size 1 (I j.1.2.1)∧At A wr.heap.size 2 (I j.1.2.2.1)∧At A wr.heap.size 3 (I j.1.2.2.2)∧At A wr.heap.size 4 (I j.2):=by rw [e6];simp [go_sem]
   have z6:A.heap.size=wr.heap.size+1:=by rw [e6];simp [go_sem]
   clear Q e6 c0 c1 c2 c3 c4;have d:Hid (CrI w A f0 f1 f2 f3 f4 f5 f6 f7 f8 f9 f10 f11 f12 f13 f14 W H (.slice J zs.length K) (.slice (Az gs) c.length sc) zs kd m c i v):=⟨Qj z.out.1 q6,Qj z.out.2.1 q6,Qj z.out.2.2.1 q6,z.out.2.2.2.1.kept q6,z.out.2.2.2.2.1.kept q6,z.out.2.2.2.2.2.1.kept q6,Qc z.out.2.2.2.2.2.2 q6⟩;have ai:=Bt z.out.2.2.2.2.1.1.1;clear q6;obtain ⟨F,E⟩:∃ b,b=wr.heap.size:=⟨_,rfl⟩;rw [← E] at s6 z6 ai ⊢;have HZ:=H2 z6 ai;have ba:=Hd E;clear z6 ai E;obtain ⟨t,D,hv,_⟩:=Xi d.out.1;subst hv;obtain ⟨r,T⟩:∃ n,n=(crL kd m c i).length:=⟨_,rfl⟩;have l:=Hd T
   have HS:Hid (∀ V:World,Bl A V→(fun w'=>At w' (w.heap.size+1) 3 (.slice t r D)∧(At w' w.heap.size 0 (f0)∧At w' w.heap.size 1 (f1)∧At w' w.heap.size 2 (f2)∧At w' w.heap.size 3 (f3)∧At w' w.heap.size 4 (f4)∧At w' w.heap.size 5 (f5)∧At w' w.heap.size 6 (f6)∧At w' w.heap.size 7 (f7)∧At w' w.heap.size 8 (f8)∧At w' w.heap.size 9 (f9)∧At w' w.heap.size 10 (f10)∧At w' w.heap.size 11 (f11)∧At w' w.heap.size 12 (f12)∧At w' w.heap.size 13 (f13)∧At w' w.heap.size 14 (f14))∧(At w' F 0 (I j.1.1)∧At w' F 1 (I j.1.2.1)∧At w' F 2 (I j.1.2.2.1)∧At w' F 3 (I j.1.2.2.2)∧At w' F 4 (I j.2))) V):=fun V Z=>by
    have a1:=(d.out.2.2.2.1.kept Z).1.2.2.2;rw [← l.out] at a1
    exact ⟨a1,d.out.2.2.2.2.2.1.kept Z,by
     obtain ⟨b0,b1,b2,b3,b4⟩:=s6;exact ⟨Qa Z b0,Qa Z b1,Qa Z b2,Qa Z b3,Qa Z b4⟩⟩
   clear T;refine Jz (S:=fun w'=>At w' (w.heap.size+1) 3 (.slice t r D)∧(At w' w.heap.size 0 (f0)∧At w' w.heap.size 1 (f1)∧At w' w.heap.size 2 (f2)∧At w' w.heap.size 3 (f3)∧At w' w.heap.size 4 (f4)∧At w' w.heap.size 5 (f5)∧At w' w.heap.size 6 (f6)∧At w' w.heap.size 7 (f7)∧At w' w.heap.size 8 (f8)∧At w' w.heap.size 9 (f9)∧At w' w.heap.size 10 (f10)∧At w' w.heap.size 11 (f11)∧At w' w.heap.size 12 (f12)∧At w' w.heap.size 13 (f13)∧At w' w.heap.size 14 (f14))∧(At w' F 0 (I j.1.1)∧At w' F 1 (I j.1.2.1)∧At w' F 2 (I j.1.2.2.1)∧At w' F 3 (I j.1.2.2.2)∧At w' F 4 (I j.2))) (late:=fun j=>decide (j=11)) η ?_;have C:=HS.out _ (Qg (Qe A));refine Lk 0 (.pointer (Ad (w.heap.size+1) 3)) C ?_;refine Lk 1 (.slice t r D) C ?_;refine Lk 2 (.pointer (Az F)) C ?_;refine Lk 3 (.agg #[I j.1.1,I j.1.2.1,I j.1.2.2.1,I j.1.2.2.2]) C ?_;refine Lk 4 (.agg #[f0,f1,f2,f3,f4,f5,f6,f7,f8,f9,f10,f11,f12,f13,f14]) C ?_;refine Lk 5 (.agg #[I j.1.1,I j.1.2.1,I j.1.2.2.1,I j.1.2.2.2,I j.2]) C ?_;refine Lt.one (i:=6) η rfl rfl ?_;refine Qag 77 #[.agg #[f0,f1,f2,f3,f4,f5,f6,f7,f8,f9,f10,f11,f12,f13,f14],.agg #[I j.1.1,I j.1.2.1,I j.1.2.2.1,I j.1.2.2.2,I j.2]] η (CC.out _ (Qg d.out.2.2.2.2.2.2)) ?_;rintro e w1 ⟨rfl,aq⟩;have Y:Hid (Bl A w1):=Qc (Qg (Qe _)) aq;clear aq;refine ⟨_,rfl,fun _=>HS.out _ Y.out, ?_⟩;try simp only [Ap]
   replace C:=HS.out _ Y.out;refine Lk 7 (.agg #[I j.1.1,I j.1.2.1,I j.1.2.2.1,I j.1.2.2.2,I (kd j)]) C ?_;refine Lt.one (i:=8) η rfl rfl ?_;go_simp;have f:Hid (Bl A (w1.alloc (.cells #[I j.1.1,I j.1.2.1,I j.1.2.2.1,I j.1.2.2.2,I (kd j)] 49))):=Qb Y.out;refine ⟨HS.out _ f.out, ?_⟩
   have L:(w1.alloc (.cells #[I j.1.1,I j.1.2.1,I j.1.2.2.1,I j.1.2.2.2,I (kd j)] 49)).ownsRow (w.heap.size+1+1+1) 49 5 (.slice t r D) r (flatJ (crL kd m c i)):=by
    have:=Qj d.out.1 f.out;rw [← l.out] at this;exact this
   obtain ⟨u8,w8,hr,ah,p,bb,aw⟩:=run_append_own_at (P:=Tryz.prog) (w1.alloc (.cells #[I j.1.1,I j.1.2.1,I j.1.2.2.1,I j.1.2.2.2,I (kd j)] 49)) (w.heap.size+1+1+1) 23 23 49 i5 (.agg #[I 0,I 0,I 0,I 0,I 0]) 5 40 Tryz.underlying23 HI.out.1 HI.out.2.1 HI.out.2.2.1 HI.out.2.2.2 rfl ψ (.slice t r D) r (flatJ (crL kd m c i)) L ⟨w1.heap.size,0,none⟩ 1 1 [I j.1.1,I j.1.2.1,I j.1.2.2.1,I j.1.2.2.2,I (kd j)] rfl (Um w1 49 _ _ _ _ _) (five1 _ _ _ _ _) (by have:=HL.out;have:=l.out;have:=aj.out;unfold maxLen;omega) (by have:=HL.out;have:=l.out;have:=aj.out;omega) (by have a:=f.out.size;have b:=HZ.out;omega);obtain ⟨O,c8,rfl,_⟩:=Xi ah
   have G:∀ b,b<w.heap.size+1+1+1→some b≠(Value.slice t r D).ownBlock:=fun b hb k=>by
    have:=Qw L b k.symm;omega
   have B:Hid (SB4 w8 (w.heap.size+1) (I W) (I H) (.slice J zs.length K) (.slice t r D)∧SB4 w8 (w.heap.size+1+1) (I 0) (I 0) SN SN∧HB15 w8 w.heap.size f0 f1 f2 f3 f4 f5 f6 f7 f8 f9 f10 f11 f12 f13 f14∧w8.ownsRow (w.heap.size+1+1+1) 3 1 (.slice J zs.length K) zs.length (zs.map (Value.int .i64))∧w8.ownsRow (w.heap.size+1+1+1) 142 5 (.slice (Az gs) c.length sc) c.length (flatJ c)):=by
    have a4:=d.out.2.2.2.1.kept f.out;rw [← l.out] at a4;exact ⟨a4.grown p (G _ γ),(d.out.2.2.2.2.1.kept f.out).grown p (G _ γ),(d.out.2.2.2.2.2.1.kept f.out).grown p (G _ γ),own_grown (Qj d.out.2.1 f.out) p (own_apart (Qj d.out.2.1 f.out) L ψ),own_grown (Qj d.out.2.2.1 f.out) p (own_apart (Qj d.out.2.2.1 f.out) L ψ)⟩
   have ad:Hid (Bl w w8):=(Qc d.out.2.2.2.2.2.2 f.out).grown p (Qc d.out.2.2.2.2.2.2 f.out).size (fun k h=>by have:=Qw L k h;omega);have ak:=Hd ah
   have ae:(fun w'=>At w' (w.heap.size+1) 3 (.slice t r D)∧(At w' w.heap.size 0 (f0)∧At w' w.heap.size 1 (f1)∧At w' w.heap.size 2 (f2)∧At w' w.heap.size 3 (f3)∧At w' w.heap.size 4 (f4)∧At w' w.heap.size 5 (f5)∧At w' w.heap.size 6 (f6)∧At w' w.heap.size 7 (f7)∧At w' w.heap.size 8 (f8)∧At w' w.heap.size 9 (f9)∧At w' w.heap.size 10 (f10)∧At w' w.heap.size 11 (f11)∧At w' w.heap.size 12 (f12)∧At w' w.heap.size 13 (f13)∧At w' w.heap.size 14 (f14))∧(At w' F 0 (I j.1.1)∧At w' F 1 (I j.1.2.1)∧At w' F 2 (I j.1.2.2.1)∧At w' F 3 (I j.1.2.2.2)∧At w' F 4 (I j.2))) w8:=by
    have E:some F≠(Value.slice t r D).ownBlock:=fun k=>by
     have:=(z.out.1.lt F (by rw [← l.out];exact k.symm)).2;have:=ba.out;omega
    obtain ⟨_,_,b0,b1,b2,b3,b4⟩:=HS.out _ f.out;exact ⟨B.out.1.1.2.2.2,B.out.2.2.1,p.cell b0 E,p.cell b1 E,p.cell b2 E,p.cell b3 E,p.cell b4 E⟩
   have x3:=B.out.1.1.2.2.2;have xf:=B.out.1.2.2.2.2;try simp only [Ap]
   refine Lt.one (i:=9) η rfl rfl ?_;refine Je (.tmp 17) (.tmp 24) 23 rfl _ _ (.slice O (r+1) c8) w8 rfl rfl hr ?_;refine ⟨fun _=>ae, ?_⟩;try simp only [Ap]
   refine Lk 10 (.pointer (Ad (w.heap.size+1) 3)) ae ?_;refine Lt.one (i:=11) η rfl rfl ?_;refine Zw (w':=w8.setCell ⟨w.heap.size+1,3,none⟩ (.slice O (r+1) c8)) (by first | go_simp | simp [go_sem,x3,xf]) ?_;refine ⟨fun h=>absurd h ψ, ?_⟩;try simp only [Ap]
   refine Lt.done η ?_
   have HF:Hid (CrI w (w8.setCell ⟨w.heap.size+1,3,none⟩ (.slice O (r+1) c8)) f0 f1 f2 f3 f4 f5 f6 f7 f8 f9 f10 f11 f12 f13 f14 W H (.slice J zs.length K) (.slice (Az gs) c.length sc) zs kd m c (i+1) (.slice O (r+1) c8)):=by
    have hg:=Ql w8 (w.heap.size+1) 3 (.slice O (r+1) c8);refine ⟨?_,own_set B.out.2.2.2.1 γ,own_set B.out.2.2.2.2 γ,B.out.1.set3,B.out.2.1.grown hg ξ,B.out.2.2.1.grown hg ξ,ad.out.grown hg ad.out.size (fun k h=>by cases h;omega)⟩;have h9:=own_set (b:=w.heap.size+1) (o:=3) (u:=(.slice O (r+1) c8)) ak.out γ;rw [HE.out,flatJ_app,List.length_append,← l.out];exact h9
   clear ae HS C B ad ak x3 xf G p hr ah bb aw L f Y s6 d;go_wp2;go_roundg (c.length - (i+1))
   case measure=>omega
   case rel=>exact ⟨i+1,γ,rfl,(by have:=HL.out;refine congrArg _ ?_;unfold wrap64;omega),_,HF.out⟩
  ·have i1:¬ (i:Int)<(c.length:Int):=γ;obtain rfl:i=c.length:=γ;obtain ⟨t,D,hv,_⟩:=Xi z.out.1;subst hv;obtain ⟨r,T⟩:∃ n,n=(crL kd m c c.length).length:=⟨_,rfl⟩;have l:=Hd T;have HX:Hid (SB4 wr (w.heap.size+1) (I W) (I H) (.slice J zs.length K) (.slice t r D)):=by rw [l.out];exact z.out.2.2.2.1
   obtain ⟨⟨k0,k1,k2,k3⟩,_⟩:=HX.out
   have C9:Hid (Cl 78 #[.slice t r D,.func (.func 79) #[] #[]] wr fun e w'=>e=.returned (.tuple #[])∧∃ Bs',Bs'.Perm (crL kd m c c.length)∧Bs'.Pairwise (fun x y=>ltE y x=false)∧JRow w' t Bs'∧wr.grownBy w' (Value.slice t r D).ownBlock):=by
    rw [l.out];exact b9.out wr _ D t _ z.out.1 (by rw [crL_len kd m c _ (Nr _)];have:=HL.out;omega)
   clear T;go_upto_region 8 with (go_at_call 78;refine C9.out.mono ?_;rintro e w9 ⟨rfl,M,hP,hS,hJ,hG⟩)
   have G:∀ b,b<w.heap.size+1+1+1→some b≠(Value.slice t r D).ownBlock:=fun b hb k=>by
    have:=Qw z.out.1 b (by rw [← l.out];exact k.symm);omega
   have H9:Hid (SB4 w9 (w.heap.size+1) (I W) (I H) (.slice J zs.length K) (.slice t r D)∧SB4 w9 (w.heap.size+1+1) (I 0) (I 0) SN SN∧w9.ownsRow (w.heap.size+1+1+1) 3 1 (.slice J zs.length K) zs.length (zs.map (Value.int .i64))∧Bl w w9):=⟨HX.out.grown hG (G _ γ),z.out.2.2.2.2.1.grown hG (G _ γ),own_grown z.out.2.1 hG (by have:=own_apart z.out.2.1 z.out.1 ψ;rw [l.out];exact this),z.out.2.2.2.2.2.2.grown hG z.out.2.2.2.2.2.2.size (fun k h=>by have:=Qw z.out.1 k (by rw [← l.out];exact h);omega)⟩
   have HJ:Hid (M.Perm (crL kd m c c.length)∧M.Pairwise (fun x y=>ltE y x=false)∧JRow w9 t M∧(t=none∨∃ g,t=Az g∧w.heap.size+1+1+1≤g)):=by
    refine ⟨hP,hS,hJ, ?_⟩;rcases z.out.1.2 with ⟨h2,_⟩ | ⟨g,bo,bp,h2,h3,_⟩
    ·injection h2 with h4;exact Or.inl h4
    ·injection h2 with h4;exact Or.inr ⟨g,h4,h3⟩
   clear hP hS hJ hG k0 k1 k2 k3 G;obtain ⟨⟨k0,k1,k2,k3⟩,_⟩:=H9.out.1;obtain ⟨⟨d0,d1,d2,d3⟩,e0,e1,e2,e3⟩:=H9.out.2.1;have y0:=bk k0;have y1:=bk d0;dsimp only at y0 y1;go_wp2;refine bodyPost_ret (v:=.agg #[I W,I H,.slice J zs.length K,.slice t r D]) (by simp [results,Tryz.results31,go_sem,d0,d1,d2,d3]) rfl ?_;have hg:=set4_grown w9 (w.heap.size+1+1) (I W) (I H) (.slice J zs.length K) (.slice t r D);refine ⟨.slice J zs.length K,t,D,M,by rw [l.out], ?_,HJ.out.1,HJ.out.2.1, ?_, ?_, ?_⟩
   ·exact own_low (own_grown H9.out.2.2.1 hg (fun g h k=>by have:=Qw H9.out.2.2.1 g h;cases k;omega)) γ
   ·intro q hq;obtain ⟨g,af,a0,a1,a2,a3,a4⟩:=HJ.out.2.2.1 q hq
    have R:some g≠some (w.heap.size+1+1):=by
     rcases HJ.out.2.2.2 with h5 | ⟨g',h5,h6⟩
     ·rw [af] at h5
      cases h5
     ·rw [af] at h5
      cases h5;intro k
      cases k;omega
    exact ⟨g,af,hg.cell a0 R,hg.cell a1 R,hg.cell a2 R,hg.cell a3 R,hg.cell a4 R⟩
   ·rcases HJ.out.2.2.2 with h5 | ⟨g',h5,h6⟩
    ·exact Or.inl h5
    ·exact Or.inr ⟨g',h5,γ⟩
   ·exact H9.out.2.2.2.grown hg H9.out.2.2.2.size (fun k h=>by cases h;omega)
theorem NestV.add {v':Value} {F:List (List T3)} {a:List Value} {f:List T3} (h:NestV w base v F a) (s:w.ownsRow base 39 3 c f.length (flatV f)) (i:∀ n (d:n<a.length),∀ b,c.ownBlock=some b→a[n].ownBlock≠some b)
  (u:w'.ownsRow base 55 1 v' (F.length+1) (a ++ [c])) (hg:w.grownBy w' v.ownBlock):NestV w' base v' (F ++ [f]) (a ++ [c]):=by
 have o:c.ownBlock=none∨c.ownBlock≠v.ownBlock:=by
  cases e:c.ownBlock with
  | none=>exact Or.inl rfl
  | some b =>
   right
   intro e2;obtain ⟨c1,t⟩:=Zy s b e;obtain ⟨c2,r⟩:=Zy h.2.1 b e2.symm;rw [t] at r;simp at r
 refine ⟨by simp [h.1],by simpa using u,fun n h1 h2=>?_,fun n m h1 h2 p b g=>?_⟩
 ·by_cases d:n<a.length
  ·have k:n<F.length:=by rw [← h.1];exact d
   rw [List.getElem_append_left d,List.getElem_append_left k];exact (h.2.2.1 n d k).kept hg (h.apart d)
  ·have e1:n=a.length:=by simp at h1;omega
   have e2:n=F.length:=by rw [e1,h.1]
   have l:(a ++ [c])[n]=c:=by subst e1;simp
   have x:(F ++ [f])[n]=f:=by subst e2;simp
   rw [l,x];exact s.kept hg o
 ·by_cases d:n<a.length
  ·rw [List.getElem_append_left d] at g;by_cases j:m<a.length
   ·rw [List.getElem_append_left j];exact h.2.2.2 n m d j p b g
   ·have e1:m=a.length:=by simp at h2;omega
    have l:(a ++ [c])[m]=c:=by subst e1;simp
    rw [l];exact fun q=>i n d b q g
  ·have e1:n=a.length:=by simp at h1;omega
   have l:(a ++ [c])[n]=c:=by subst e1;simp
   rw [l] at g;have j:m<a.length:=by simp at h2;omega
   rw [List.getElem_append_left j];exact i m j b g
structure SwpW (w wx:World) (g o:Nat) (d:Array Nat) (sb s:Nat):Prop where
 r:SrtW w wx g o d
 c:At wx sb 0 (I (s:Int))
 f:Fn wx sb 0
 low:w.heap.size≤sb
 ne:sb≠g
theorem SwpW.lt {b:World} {d:Array Nat} (h:SwpW w b g o d a s):a<b.heap.size:=bk h.c
theorem SwpW.kept {e:World} {d:Array Nat} (h:SwpW w e g o d b s) (a:Bl e w'):SwpW w w' g o d b s:=⟨h.r.kept a,Qa a h.c,(a.frozen h.lt).trans h.f,h.low,h.ne⟩
theorem SwpW.put {n:World} {d:Array Nat} {l:Nat} (h:SwpW w n g o d l s) (t:Nat):SwpW w (n.setCell ⟨l,0,none⟩ (I (t:Int))) g o d l t:=by
 have b:=Ql n l 0 (I (t:Int));have i:some g≠some l:=fun e=>h.ne (by cases e;rfl);refine ⟨⟨fun j p=>⟨b.cell (h.r.row j p).1 i,(Fo (a:=⟨g,o+j,none⟩) (b.block g h.r.lt i)).trans (h.r.row j p).2⟩, ?_,Nl h.r.lt b.size⟩,Jq h.c,by simp [go_sem,h.f],h.low,h.ne⟩;have a:=h.r.gr;exact ⟨b.os.trans a.os,b.tape.trans a.tape,b.output.trans a.output,Nt a.size b.size,fun k q m=>(b.block k (Nl q a.size) (fun e=>by cases e;have:=h.low;omega)).trans (a.block k q m)⟩
theorem Ut (w:World) (g o n B a b N z s:Nat) (F:Value) (i:Nat→Nat→Int) (J:CmpF w g N F i) (d:Array Nat) (Q:d.size=n) (C:∀ k,k<d.size→d[k]! < N) (T:a<n) (U:b<n) (_V:n≤300) (hs:s≤100) (w1:World) (m:SwpW w w1 g o d z s) :
  Cl 233 #[.slice (Ad g o) n B,I (a:Int),I (b:Int),.pointer (Az z),.func (.func 67) #[F] #[]] w1 fun e w'=>e=.returned (.tuple #[I ((Sort.order2 (ltF i) d a b s).1:Int),I ((Sort.order2 (ltF i) d a b s).2.1:Int)])∧SwpW w w' g o d z (Sort.order2 (ltF i) d a b s).2.2:=by
 obtain ⟨r1,_⟩:=m.r.row b γ;obtain ⟨r0,_⟩:=m.r.row a γ;have l1:=C b γ;have l0:=C a γ;have Z:=m.r.lt;have G:=Hd m;have p:Hid (Sort.order2 (ltF i) d a b s=if ltF i d[b]! d[a]! = true then (b,a,s+1) else (a,b,s)):=rfl;obtain ⟨x,K⟩:∃ x,x=d[b]!:=⟨_,rfl⟩;obtain ⟨y,L⟩:∃ y,y=d[a]!:=⟨_,rfl⟩;rw [← K] at r1 l1 p;rw [← L] at r0 l0 p;have A:Hid (∀ W:World,Bl w1 W→Rt 67 #[F,I (x:Int),I (y:Int)] W (I (i x y))):=fun W P=>J W (m.r.kept P).gr x y l1 l0;obtain ⟨c,l⟩:∃ c,c=i x y:=⟨_,rfl⟩
 have t:Hid (ltF i x y=decide (c<0)):=by
  have:ltF i x y=decide (c<0):=by rw [l];rfl
  exact this
 rw [← l] at A;have X:(a:Int)<(n:Int):=γ;have Y:(b:Int)<(n:Int):=γ;have k1:(0:Int)≤(a:Int):=γ;have k2:(0:Int)≤(b:Int):=γ;obtain ⟨R,H⟩:∃ R,R=Sort.order2 (ltF i) d a b s:=⟨_,rfl⟩;rw [← H] at p ⊢;clear K L l l1 l0 J C Q m H;by_cases q:c<0
 ·have u:Hid (R=(b,a,s+1)):=by
   have:R=(b,a,s+1):=by rw [p.out,t.out,if_pos (by simpa using q)]
   exact this
  go_enter Tryz.func233,Tryz.ntmps233;go_wp2;obtain ⟨D,E⟩:=kcn w1;refine wk ?_;repeat (go_big_quiet_step ((go_at_call 67;exact Qf (A.out _ (Kin.h _)))))
  refine kq1 (fun M hq=>?_);clear D E r1 r0;have j:=G.out.kept hq;have c0:=j.c;have f0:=j.f;have z0:=j.lt;have O:Hid (SwpW w (M.setCell ⟨z,0,none⟩ (I ((s+1:Nat):Int))) g o d z (s+1)):=j.put (s+1);clear j hq;go_wp2;refine bodyPost_ret (v:=.tuple #[I (b:Int),I (a:Int)]) (by simp [results,Tryz.results233,go_sem]) rfl ⟨?_, ?_⟩
  ·rw [u.out]
  ·rw [u.out];simpa using O.out
 ·have u:Hid (R=(a,b,s)):=by
   have:R=(a,b,s):=by rw [p.out,t.out,if_neg (by simpa using q)]
   exact this
  go_enter Tryz.func233,Tryz.ntmps233;go_wp2;obtain ⟨D,E⟩:=kcn w1;refine wk ?_;repeat (go_big_quiet_step ((go_at_call 67;exact Qf (A.out _ (Kin.h _)))))
  refine kq1 (fun M hq=>?_);clear D E r1 r0;go_wp2;refine bodyPost_ret (v:=.tuple #[I (a:Int),I (b:Int)]) (by simp [results,Tryz.results233,go_sem]) rfl ⟨?_, ?_⟩
  ·rw [u.out]
  ·rw [u.out];exact G.out.kept hq
theorem Vb {lt:Nat→Nat→Bool} {d:Array Nat} (c:a<n) (e:b<n):(Sort.order2 lt d a b s).1<n∧(Sort.order2 lt d a b s).2.1<n∧(Sort.order2 lt d a b s).2.2≤s+1:=by
 unfold Sort.order2;split
 ·exact ⟨e,c,Nr _⟩
 ·exact ⟨c,e,Nat.le_succ _⟩
theorem Ve {lt:Nat→Nat→Bool} {d:Array Nat} {c:Nat} (e:a<n) (f:b<n) (g:c<n):(Sort.median lt d a b c s).1<n∧(Sort.median lt d a b c s).2≤s+3:=by
 have h1:=Vb (lt:=lt) (d:=d) (s:=s) e f;have h2:=Vb (lt:=lt) (d:=d) (s:=(Sort.order2 lt d a b s).2.2) h1.2.1 g;have h3:=Vb (lt:=lt) (d:=d) (s:=(Sort.order2 lt d (Sort.order2 lt d a b s).2.1 c (Sort.order2 lt d a b s).2.2).2.2) h1.1 h2.1;exact ⟨h3.2.1,by have:=h3.2.2;have:=h2.2.2;have:=h1.2.2;unfold Sort.median;dsimp only;omega⟩
theorem Uu (w:World) (g o n i a b c N j s:Nat) (m:Value) (f:Nat→Nat→Int) (v:CmpF w g N m f) (d:Array Nat) (x:d.size=n) (u:∀ k,k<d.size→d[k]! < N) (C:a<n) (D:b<n) (p:c<n) (E:n≤300) (hs:s≤90) (w1:World) (F:SwpW w w1 g o d j s) :
  Cl 218 #[.slice (Ad g o) n i,I (a:Int),I (b:Int),I (c:Int),.pointer (Az j),.func (.func 67) #[m] #[]] w1 fun e w'=>e=.returned (I ((Sort.median (ltF f) d a b c s).1:Int))∧SwpW w w' g o d j (Sort.median (ltF f) d a b c s).2:=by
 have h1:=Vb (lt:=ltF f) (d:=d) (s:=s) C D;have y:Hid (Cl 233 #[.slice (Ad g o) n i,I (a:Int),I (b:Int),.pointer (Az j),.func (.func 67) #[m] #[]] w1 fun e w'=>e=.returned (.tuple #[I ((Sort.order2 (ltF f) d a b s).1:Int),I ((Sort.order2 (ltF f) d a b s).2.1:Int)])∧SwpW w w' g o d j (Sort.order2 (ltF f) d a b s).2.2):=Ut w g o n i a b N j s m f v d x u C D E γ w1 F;have l:Hid (Sort.median (ltF f) d a b c s=((Sort.order2 (ltF f) d (Sort.order2 (ltF f) d a b s).1 (Sort.order2 (ltF f) d (Sort.order2 (ltF f) d a b s).2.1 c (Sort.order2 (ltF f) d a b s).2.2).1 (Sort.order2 (ltF f) d (Sort.order2 (ltF f) d a b s).2.1 c (Sort.order2 (ltF f) d a b s).2.2).2.2).2.1,(Sort.order2 (ltF f) d (Sort.order2 (ltF f) d a b s).1 (Sort.order2 (ltF f) d (Sort.order2 (ltF f) d a b s).2.1 c (Sort.order2 (ltF f) d a b s).2.2).1 (Sort.order2 (ltF f) d (Sort.order2 (ltF f) d a b s).2.1 c (Sort.order2 (ltF f) d a b s).2.2).2.2).2.2)):=rfl;obtain ⟨⟨x1,y1,q⟩,e1⟩:∃ r,r=Sort.order2 (ltF f) d a b s:=⟨_,rfl⟩;rw [← e1] at h1 y l;dsimp only at h1 y l;have h2:=Vb (lt:=ltF f) (d:=d) (s:=q) h1.2.1 p;have z:Hid (∀ W,SwpW w W g o d j q→Cl 233 #[.slice (Ad g o) n i,I (y1:Int),I (c:Int),.pointer (Az j),.func (.func 67) #[m] #[]] W fun e w'=>e=.returned (.tuple #[I ((Sort.order2 (ltF f) d y1 c q).1:Int),I ((Sort.order2 (ltF f) d y1 c q).2.1:Int)])∧SwpW w w' g o d j (Sort.order2 (ltF f) d y1 c q).2.2):=fun W B=>Ut w g o n i y1 c N j q m f v d x u h1.2.1 p E γ W B;obtain ⟨⟨x2,y2,t⟩,e2⟩:∃ r,r=Sort.order2 (ltF f) d y1 c q:=⟨_,rfl⟩;rw [← e2] at h2 z l;dsimp only at h2 z l;have A:Hid (∀ W,SwpW w W g o d j t→Cl 233 #[.slice (Ad g o) n i,I (x1:Int),I (x2:Int),.pointer (Az j),.func (.func 67) #[m] #[]] W fun e w'=>e=.returned (.tuple #[I ((Sort.order2 (ltF f) d x1 x2 t).1:Int),I ((Sort.order2 (ltF f) d x1 x2 t).2.1:Int)])∧SwpW w w' g o d j (Sort.order2 (ltF f) d x1 x2 t).2.2):=fun W B=>Ut w g o n i x1 x2 N j t m f v d x u h1.1 h2.1 E γ W B;obtain ⟨⟨x3,y3,H⟩,e3⟩:∃ r,r=Sort.order2 (ltF f) d x1 x2 t:=⟨_,rfl⟩;rw [← e3] at A l;dsimp only at A l;rw [l.out];dsimp only;clear l e1 e2 e3 v x u F h1 h2 C D p hs;go_enter Tryz.func218,Tryz.ntmps218;go_upto_region 2 with (go_at_call 233;refine y.out.mono ?_;rintro e J ⟨rfl,h⟩;have H1:=Hd h;clear h)
 go_upto_region 3 with (go_at_call 233;refine (z.out _ H1.out).mono ?_;rintro e K ⟨rfl,h⟩;have H2:=Hd h;clear h)
 go_wp2_with (go_at_call 233;refine (A.out _ H2.out).mono ?_;rintro e L ⟨rfl,h⟩;have G:=Hd h;clear h)
 go_ret;exact ⟨rfl,G.out⟩
theorem Xl (w:World) (g o n b a N f s:Nat) (i:Value) (c:Nat→Nat→Int) (p:CmpF w g N i c) (d:Array Nat) (q:d.size=n) (l:∀ k,k<d.size→d[k]! < N) (x:1≤a) (t:a+1<n) (u:n≤300) (hs:s≤90) (w1:World) (r:SwpW w w1 g o d f s) :
  Cl 217 #[.slice (Ad g o) n b,I (a:Int),.pointer (Az f),.func (.func 67) #[i] #[]] w1 fun e w'=>e=.returned (I ((Sort.medianAdjacent (ltF c) d a s).1:Int))∧SwpW w w' g o d f (Sort.medianAdjacent (ltF c) d a s).2:=by
 have C:=Uu w g o n b (a - 1) a (a+1) N f s i c p d q l γ γ t u hs w1 r;rw [show ((a - 1:Nat):Int)=(a:Int) - 1 by omega,show ((a+1:Nat):Int)=(a:Int)+1 by omega] at C;have j:Hid (Cl 218 #[.slice (Ad g o) n b,I ((a:Int) - 1),I (a:Int),I ((a:Int)+1),.pointer (Az f),.func (.func 67) #[i] #[]] w1 fun e w'=>e=.returned (I ((Sort.medianAdjacent (ltF c) d a s).1:Int))∧SwpW w w' g o d f (Sort.medianAdjacent (ltF c) d a s).2):=C;obtain ⟨R,m⟩:∃ R,R=Sort.medianAdjacent (ltF c) d a s:=⟨_,rfl⟩;rw [← m] at j ⊢;clear C p q l r m hs;go_enter Tryz.func217,Tryz.ntmps217;go_wp2_with (go_at_call 218;refine j.out.mono ?_;rintro e v ⟨rfl,h⟩;have H1:Hid (SwpW w v g o d f R.2):=h;clear h)
 go_ret;exact ⟨rfl,H1.out⟩
theorem reverse_any (w:World) (g o n q a b N:Nat) (D:Value) (d:Array Nat) (A:d.size=n) (v:∀ k,k<d.size→d[k]! < N) (F:a<b) (G:b≤n) (R:n≤300) (w1:World) (B:SrtW w w1 g o d) :
  Cl 171 #[.slice (Ad g o) n q,I (a:Int),I (b:Int),D] w1 fun e w'=>e=.returned (.tuple #[])∧SrtW w w' g o (Sort.reverseRange d a b):=by
 have u:Hid (SrtW w w1 g o d∧(∀ k,k<d.size→d[k]! < N)∧d.size=n):=⟨B,v,A⟩;obtain ⟨T,hT⟩:∃ T,T=Sort.reverseRange d a b:=⟨_,rfl⟩;have t:Hid (Sort.reverseLoop a (b - 1) d=T):=hT.symm;rw [← hT];clear B v A hT;obtain ⟨e,rfl⟩:∃ e,b=e+1:=⟨b - 1,γ⟩;rw [Nat.add_sub_cancel] at t;go_enter Tryz.func171,Tryz.ntmps171;go_wp2;go_loopg [8,9] (e+1 - a) (fun E M O P=>∃ (i j:Nat) (d1:Array Nat),i≤e+1∧j≤e∧i≤j+1∧E=e+1 - i∧M=I (i:Int)∧O=I (j:Int)∧SrtW w P g o d1∧d1.size=n∧Sort.reverseLoop i j d1=T)
 case atStart=>exact ⟨a,e,d,γ,γ,γ,rfl,rfl,σ,u.out.1,u.out.2.2,t.out⟩
 case round =>
  obtain ⟨i,j,d1,hi,Q,H,rfl,rfl,rfl,z,l,h⟩:=hrel;have c:Hid (SrtW w wr g o d1∧d1.size=n∧Sort.reverseLoop i j d1=T):=⟨z,l,h⟩;clear z l h;by_cases h1:i<j
  ·have L:(i:Int)<(j:Int):=γ;have K:=c.out.2.1;obtain ⟨r1,f1⟩:=c.out.1.row j γ;obtain ⟨r0,f0⟩:=c.out.1.row i γ;have W:=c.out.1.lt;obtain ⟨x,r⟩:∃ x,x=d1[j]!:=⟨_,rfl⟩;obtain ⟨y,s⟩:∃ y,y=d1[i]!:=⟨_,rfl⟩;have f:=c.out.1.swap (i:=i) (j:=j) γ γ γ;rw [← r,← s] at f;rw [← r] at r1;rw [← s] at r0;have m:Hid (SrtW w ((wr.setCell ⟨g,o+i,none⟩ (I (x:Int))).setCell ⟨g,o+j,none⟩ (I (y:Int))) g o (Sort.swp d1 i j)):=f
   have p:Hid (Sort.reverseLoop (i+1) (j - 1) (Sort.swp d1 i j)=T):=by
    have:Sort.reverseLoop (i+1) (j - 1) (Sort.swp d1 i j)=T:=by
     rw [← c.out.2.2];conv=>rhs;rw [Sort.reverseLoop,if_pos h1]
    exact this
   have U:(i:Int)<(n:Int):=γ;have V:(j:Int)<(n:Int):=γ;have k2:(0:Int)≤(i:Int):=γ;have k3:(0:Int)≤(j:Int):=γ;have J:i≠j:=γ;clear r s f;go_wp2;go_region
   all_goals
    go_wp2;go_roundg (e+1 - (i+1))
    case measure=>omega
    case rel=>exact ⟨i+1,j - 1,Sort.swp d1 i j,γ,γ,γ,rfl,σ,σ,m.out.kept (Qg (Qe _)),by rw [Sort.size_swp];exact c.out.2.1,p.out⟩
  ·have L:¬ (i:Int)<(j:Int):=γ
   have C:Hid (d1=T):=by
    have:d1=T:=by
     rw [← c.out.2.2,Sort.reverseLoop,if_neg h1]
    exact this
   go_wp2;go_end0
   exact ⟨rfl,C.out ▸ c.out.1⟩
def pk2 (n:Int):Int:=if n<0 then (-(n+1)) % 2 else n % 2
theorem pk2_bd (n:Int):pk2 n=0∨pk2 n=1:=by
 unfold pk2;split <;> omega
theorem picked2 (n:Int) (h1 : -9223372036854775808≤n) (h2:n≤9223372036854775807) (w:World):Rt 6 #[I n,I 2] w (I (pk2 n)):=by
 by_cases q:n<0
 ·have e1 : -((n+1).tmod 2)=pk2 n:=by
   rw [pk2,if_pos q,← Int.neg_tmod,Int.tmod_eq_emod_of_nonneg γ]
  have e2:(-(n+1)).tmod 2=pk2 n:=by rw [Int.neg_tmod];exact e1
  go_enter Tryz.func6,Tryz.ntmps6;go_wp2;go_ret;exact ⟨rfl,Qe _⟩
 ·have e1:n.tmod 2=pk2 n:=by rw [pk2,if_neg q,Int.tmod_eq_emod_of_nonneg γ]
  have e2:n % 2=pk2 n:=by rw [pk2,if_neg q]
  go_enter Tryz.func6,Tryz.ntmps6;go_wp2;go_ret;exact ⟨rfl,Qe _⟩
theorem SB4.set2 {a f:Value} (h:SB4 w b a c f d):SB4 (w.setCell ⟨b,2,none⟩ v) b a c v d:=by
 obtain ⟨⟨a0,a1,e,a3⟩,f0,f1,f2,f3⟩:=h;exact ⟨⟨by simp [go_sem,a0],by simp [go_sem,a1],by simp [go_sem,e],by simp [go_sem,a3]⟩,by simpa [go_sem] using f0,by simpa [go_sem] using f1,by simpa [go_sem] using f2,by simpa [go_sem] using f3⟩
def f15 (i:Nat):List Value:=(List.replicate i (15:Int)).map (Value.int .i64)
theorem f15_one (i:Nat):f15 (i+1)=f15 i ++ [I 15]:=by simp [f15,List.replicate_succ']
def FuI (w wx:World) (W:Nat) (i:Nat) (v:Value):Prop:=SB4 wx (w.heap.size+1) (I (W:Int)) (I 1) v SN∧SB4 wx w.heap.size (I 0) (I 0) SN SN∧wx.ownsRow (w.heap.size+2) 3 1 v i (f15 i)∧Bl w wx
theorem full_any (W:Nat) (A:W≤8) (w:World):Cl 5 #[I (W:Int),I 1] w fun e w'=>∃ a g,e=.returned (.agg #[I (W:Int),I 1,.slice a W g,SN])∧w'.ownsRow w.heap.size 3 1 (.slice a W g) W (f15 W)∧Bl w w':=by
 obtain ⟨i3,n⟩:=info_parts infI;have h:=Hd n;clear n;go_enter Tryz.func5,Tryz.ntmps5;go_wp2;go_loopg [6] W (fun s y z=>∃ i:Nat,i≤W∧s=W - i∧y=I (i:Int)∧∃ v,FuI w z W i v)
 case atStart=>exact ⟨0,γ,rfl,rfl,SN,by simp [SB4,go_sem],by simp [SB4,go_sem],⟨by simp [f15],Or.inl ⟨rfl,rfl⟩⟩,by with_reducible repeat' (first | exact Qe _ | refine Qb ?_)⟩
 case round =>
  obtain ⟨i,hi,rfl,rfl,v,m⟩:=hrel;have c:=Hd m;clear m;obtain ⟨⟨⟨a0,a1,q,a3⟩,g0,g1,g2,g3⟩,⟨⟨b0,b1,b2,b3⟩,k0,k1,k2,k3⟩,_,_⟩:=c.out;have z1:=bk a0;have z0:=bk b0;dsimp only at z0 z1;by_cases h1:i<W
  ·have u:(i:Int)<(W:Int):=γ;go_wp2_with (at_builtin;refine wpList_append_own _ rfl (.tmp 18) (.tmp 19) 22 rfl (w.heap.size+2) 3 i3 (I 0) 1 8 Tryz.underlying22 h.out.1 h.out.2.1 h.out.2.2.1 h.out.2.2.2 rfl ψ v i (f15 i) rfl (Qj c.out.2.2.1 β1) ⟨wr.heap.size,0,none⟩ 1 1 [I 15] rfl rfl (one_int _ _ _) (Xx _) Ξ γ (by have:=c.out.2.2.2.size;simp;omega) ?gA)
   case gA =>
    intro v' j d b _;obtain ⟨a9,c9,r,_⟩:=Xi d;subst r
    have l:Hid (FuI w (j.setCell ⟨w.heap.size+1,2,none⟩ (.slice a9 (i+1) c9)) W (i+1) (.slice a9 (i+1) c9)∧SB4 j (w.heap.size+1) (I (W:Int)) (I 1) v SN):=by
     have f:=Qw c.out.2.2.1;have n1:some (w.heap.size+1)≠v.ownBlock:=fun e=>by have:=f _ e.symm;omega
     have n0:some w.heap.size≠v.ownBlock:=fun e=>by have:=f _ e.symm;omega
     have p:=(c.out.1.kept β1).grown b n1;have x:=(c.out.2.1.kept β1).grown b n0;refine ⟨⟨p.set2,x.grown (Ql j (w.heap.size+1) 2 _) (fun e=>absurd (Option.some.inj e) γ),own_set ?_ γ, ?_⟩,p⟩
     ·rw [f15_one];exact d
     ·exact Qh ((Qb c.out.2.2.2).grown b (Qb c.out.2.2.2).size (fun k t=>by have:=f k t;omega)) θ
    obtain ⟨⟨c0,c1,c2,c3⟩,e0,e1,e2,e3⟩:=l.out.2;have z3:=bk c0;dsimp only at z3;clear d b a0 a1 q a3 g0 g1 g2 g3 b0 b1 b2 b3 k0 k1 k2 k3 z1 z0;go_wp2;go_roundg (W - (i+1))
    case measure=>omega
    case rel=>exact ⟨i+1,γ,rfl,σ,_,l.out.1⟩
  ·obtain rfl:i=W:=γ;have u:¬ (i:Int)<(i:Int):=γ;obtain ⟨a,g,ev,_⟩:=Xi c.out.2.2.1;subst ev;have o:w.heap.size≤w.heap.size+2:=γ;go_wp2;refine bodyPost_ret (v:=.agg #[I (i:Int),I 1,.slice a i g,SN]) (by simp [results,Tryz.results5,go_sem,b0,b1,b2,b3]) rfl ⟨a,g,rfl, ?_, ?_⟩
   ·refine own_low (b1:=w.heap.size+2) ?_ γ;with_reducible repeat (refine own_set ?_ γ)
    exact c.out.2.2.1
   ·with_reducible repeat (refine Qh ?_ ?_)
    all_goals first | exact c.out.2.2.2 | (dsimp only;omega)
theorem Place_yes (W H b off q n f:Nat) (u:Option Addr) (zs j:List Int) (w:World) (hr:Row w (Ad b off) zs) (t:1≤W∧W≤8) (x:1≤H∧H≤8) (K:zs.length=W*H) (N:maskB zs=true) (J:Row w u j) (O:j.length=n*5) (B:n≤3518437208883) (hs:Steps w) (y:Joined (ty zs W H)) (G:∀ i,i<n→CrOk (ty zs W H) j i) :
  Cl 45 #[.agg #[I (W:Int),I (H:Int),.slice (Ad b off) zs.length q,.slice u n f]] w fun e w'=>PlaceTo (kdn j n) (ty zs W H) w w' e:=by
 have D:=Hd (fun (c:World) a=>lay_yes W H b off q n f u zs j c (hr.kept a) t x K N (J.kept a) O B (hs.kept a) y G);have h:(ty zs W H).length≤300:=by have:=Yu zs W H t.2;omega
 have E:Hid (∀ (c:World) (k:Option Addr) (r l m:Nat),Bl w c→PA c k l (ty zs W H)→KL c m (kdn j n)→Cl 94 #[.agg #[.slice k (ty zs W H).length r,.map (some l),.map (some m)]] c fun e w'=>PlaceTo (kdn j n) (ty zs W H) c w' e):=fun c k r l m a hp A=>(placesOf_any c r l m k _ (kdn j n) (hs.kept a) hp A y h (Yl zs W H) (Kg t.2 x.2)).mono fun e w' ⟨h1,h2⟩=>⟨h1,h2.imp (fun ⟨M,c1,c2,c3⟩=>⟨M,_,c1,c2,c3⟩) id⟩;obtain ⟨L,z⟩:∃ L,L=ty zs W H:=⟨_,rfl⟩;rw [← z] at D E h;rw [← z];clear hr J K N t x O hs y G z;go_enter Tryz.func45,Tryz.ntmps45
 go_wp2_with (first
  | (go_at_call 17;refine (D.out _ Θ).mono ?_;rintro e R ⟨k,r,base,l,m,rfl,d⟩;have F:=Hd (Qc β1 d.2.2.2.2);have p:=H2 d.pa d.kl;clear d)
  | (go_at_call 94;refine (E.out _ k r l m (by with_reducible exact Qb F.out) (p.out.1.kept Θ) (p.out.2.kept Θ)).mono ?_;rintro e T ⟨s,h3⟩;have o:=Hd (Qc (Qb F.out) s);have P:=Hd h3;clear s h3;rcases P.out with ⟨M,g,Q,rfl,hr⟩ | ⟨C,rfl⟩))
 ·exact bodyPost_ret (v:=.tuple #[.slice (Az g) L.length L.length,I 0]) (by simp [results,Tryz.results45,go_sem]) rfl ⟨o.out,Or.inl ⟨M,g,Q,rfl,hr⟩⟩
 ·exact bodyPost_ret (v:=.tuple #[SN,I 8]) (by simp [results,Tryz.results45,go_sem]) rfl ⟨o.out,Or.inr ⟨C,rfl⟩⟩
end Go.Proofs.YtjkjpopghkeibaaGreatDoor
