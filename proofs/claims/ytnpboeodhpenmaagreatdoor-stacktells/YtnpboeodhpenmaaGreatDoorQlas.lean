/- A part of it. -/
import Derived.Test.YtnpboeodhpenmaaGreatDoorQlap
import Derived.Test.YtnpboeodhpenmaaGreatDoorQlal
set_option maxRecDepth 100000
set_option maxHeartbeats 40000000
namespace Go.Proofs.YtnpboeodhpenmaaGreatDoor
open Go.RowKit
variable {d:Array Nat} {a b g i k m n o s:Nat} {f:Nat→Int} {w:World} {L:List T3}
def Seen (L:List T3) (f:Nat→Int) (A:List T3):Prop := ∀ i (h:i<L.length),(0≤f i↔L[i]∈A)∧(f i=-1∨0≤f i)
def plF (pl:List T3) (i:Nat):Int×Int×Int:=pl.getD i (0,0,0)
theorem seen_start (L:List T3):Seen L (fun _=>-1) []:=fun i h=>⟨ξ,Or.inl rfl⟩
theorem Seen.more {A:List T3} (c:L.Nodup) (h:Seen L f A) (hi:i<L.length) (k:Nat):Seen L (fun j=>if j=i then (k:Int) else f j) (A ++ [L[i]]):=fun j b=>by
 by_cases e:j=i
 ·subst e;simp
 ·have a:L[j]≠L[i]:=fun q=>e (Ys c b hi q);simp only [if_neg e,List.mem_append,List.mem_singleton,a,or_false];exact h j b
structure HgW (WE wx:World) (g n:Nat) (f:Nat→Int) (B:Nat) (x y k:Int) (v:Value):Prop where
 z:ZRow wx g n f
 bel:Bl WE wx
 b0:At wx B 0 (I x)
 b1:At wx B 1 (I y)
 b2:At wx B 2 (I k)
 b3:At wx B 3 v
theorem HgW.kept {b c w':World} {B:Nat} {x y k:Int} {v:Value} (h:HgW b c g n f B x y k v) (a:Bl c w'):HgW b w' g n f B x y k v :=
 ⟨h.z.kept a,Qc h.bel a,Qa a h.b0,Qa a h.b1,Qa a h.b2,Qa a h.b3⟩
theorem HgW.put {b c:World} {B:Nat} {x y k:Int} {v:Value} (h:HgW b c g n f B x y k v) (hg:b.heap.size≤g) (a:B≠g) (hi:i<n) (u:Int):HgW b (c.setCell ⟨g,i,none⟩ (I u)) g n (fun j=>if j=i then u else f j) B x y k v :=
 ⟨h.z.set u hi,h.bel.setCell (p:=⟨g,i,none⟩) hg _,Xh h.b0 a,Xh h.b1 a,Xh h.b2 a,Xh h.b3 a⟩
def ltF (cf:Nat→Nat→Int) (x y:Nat):Bool:=decide (cf x y<0)
theorem insertion_any (w:World) (g o n K a b N:Nat) (P:Value) (f:Nat→Nat→Int) (hc:CmpF w g N P f) (d:Array Nat) (hd:d.size=n) (Y:∀ k,k<d.size→d[k]! < N) (a2:a≤b) (a7:b≤n) (hn:n≤300) (w1:World) (hw:SrtW w w1 g o d) :
  Cl 287 #[.slice (Ad g o) n K,I (a:Int),I (b:Int),.func (.func 216) #[P] #[]] w1 fun e w'=>e=.returned (.tuple #[])∧SrtW w w' g o (Sort.insertionSort (ltF f) d a b):=by
 have HC:=Hd hc;have J:=H3 hw Y hd;obtain ⟨T,hT⟩:∃ T,T=Sort.insertionSort (ltF f) d a b:=⟨_,rfl⟩;have HT:=Hd hT.symm;rw [← hT];clear hc hw Y hd hT;go_enter Tryz.func287,Tryz.ntmps287;go_wp2;go_loopg [8] (b+1 - (a+1)) (fun L s8 R=>∃ (i:Nat) (d1:Array Nat),i≤b+1∧a+1≤i∧L=b+1 - i∧s8=I (i:Int)∧SrtW w R g o d1∧(∀ k,k<d1.size→d1[k]! < N)∧d1.size=n∧Sort.insOuter (ltF f) a b i d1=T)
 case atStart=>exact ⟨a+1,d,γ,γ,rfl,σ,J.out.1,J.out.2.1,J.out.2.2,HT.out⟩
 case round =>
  obtain ⟨i,d1,hi,a6,rfl,rfl,Z,t,A,z⟩:=hrel;have l:=H4 Z t A z;clear Z t A z;by_cases h1:i<b
  ·have i1:(i:Int)<(b:Int):=γ;go_wp2;go_loopg [9] i (fun L s9 R=>∃ (j:Nat) (d2:Array Nat),j≤i∧j=L∧s9=I (j:Int)∧SrtW w R g o d2∧(∀ k,k<d2.size→d2[k]! < N)∧d2.size=n∧Sort.insInner (ltF f) a j d2=Sort.insInner (ltF f) a i d1)
   case atStart=>exact ⟨i,d1,γ,rfl,rfl,l.out.1,l.out.2.1,l.out.2.2.1,rfl⟩
   case round =>
    obtain ⟨j,d2,hj,rfl,rfl,v,u,B,X⟩:=hrel;have H2:=H4 v u B X
    have V:Hid (Sort.insOuter (ltF f) a b (i+1) (Sort.insInner (ltF f) a i d1)=T):=by
     have:Sort.insOuter (ltF f) a b (i+1) (Sort.insInner (ltF f) a i d1)=T:=by
      rw [← l.out.2.2.2];conv=>rhs;rw [Sort.insOuter,if_pos h1]
     exact this
    clear l v u B X;by_cases h2:a<j
    ·obtain ⟨p,rfl⟩:∃ p,j=p+1:=⟨j - 1,γ⟩;have a8:=H2.out.2.2.1;obtain ⟨r1,f1⟩:=H2.out.1.row (p+1) γ;obtain ⟨r0,f0⟩:=H2.out.1.row p γ;have l1:=H2.out.2.1 (p+1) γ;have l0:=H2.out.2.1 p γ;have U:=H2.out.1.lt
     have G:Hid (Sort.insInner (ltF f) a (p+1) d2=if ltF f d2[p+1]! d2[p]! = true then Sort.insInner (ltF f) a p (Sort.swp d2 (p+1) p) else d2):=by
      have:Sort.insInner (ltF f) a (p+1) d2=if ltF f d2[p+1]! d2[p]! = true then Sort.insInner (ltF f) a p (Sort.swp d2 (p+1) p) else d2:=by
       rw [Sort.insInner];have:decide (p+1 > a)=true:=by simpa using h2
       rw [this,Bool.true_and]
      exact this
     obtain ⟨x,M⟩:∃ x,x=d2[p+1]!:=⟨_,rfl⟩;obtain ⟨y,O⟩:∃ y,y=d2[p]!:=⟨_,rfl⟩;rw [← M] at r1 l1 G;rw [← O] at r0 l0 G;have s:Hid (x=d2[p+1]! ∧ y=d2[p]!):=⟨M,O⟩;have F:Hid (∀ W:World,Bl wr W→Rt 216 #[P,I (x:Int),I (y:Int)] W (I (f x y))):=fun W hW=>HC.out W (H2.out.1.kept hW).gr x y l1 l0;obtain ⟨c,m⟩:∃ c,c=f x y:=⟨_,rfl⟩
     have r:Hid (ltF f x y=decide (c<0)):=by
      have:ltF f x y=decide (c<0):=by rw [m];rfl
      exact this
     rw [← m] at F;have j1:(a:Int)<(p:Int)+1:=γ;have e1:(p:Int)+1 - 1=(p:Int):=γ;have aa:IntKind.i64.wrap ((p:Int)+1 - 1)=(p:Int):=υ;have ab:IntKind.i64.wrap (p:Int)=(p:Int):=υ;have i2:(p:Int)+1<(n:Int):=γ;have i3:(p:Int)<(n:Int):=γ;have k2:(0:Int)≤(p:Int)+1:=γ;have k3:(0:Int)≤(p:Int):=γ;clear M O m l1 l0;by_cases q:c<0
     ·go_wp2;obtain ⟨D,E⟩:=kcn wr;refine wk ?_;repeat (go_big_quiet_step ((go_at_call 216;exact Qf (F.out _ (Kin.h _)))))
      refine kq1 (fun Q hq=>?_);clear D E;replace r1:=Qa hq r1;replace r0:=Qa hq r0;replace f1:=(hq.frozen U).trans f1;replace f0:=(hq.frozen U).trans f0;have zq:g<Q.heap.size:=Nl U hq.size;have HQ:=Hd (H2.out.1.kept hq);clear hq F;go_wp2;go_region
      all_goals
       go_wp2;go_roundg p
       case measure=>omega
       case rel =>
        have C:=HQ.out.swap (i:=p+1) (j:=p) γ γ γ;rw [← s.out.1,← s.out.2] at C;refine ⟨p,Sort.swp d2 (p+1) p,γ,rfl,σ,C.kept (Qg (Qe _)),Jv H2.out.2.1 γ γ,by rw [Sort.size_swp];exact H2.out.2.2.1, ?_⟩;rw [← H2.out.2.2.2,G.out,r.out,if_pos (by simpa using q)]
     ·go_wp2;obtain ⟨D,E⟩:=kcn wr;refine wk ?_;repeat (go_big_quiet_step ((go_at_call 216;exact Qf (F.out _ (Kin.h _)))))
      refine kq1 (fun Q hq=>?_);clear D E r1 r0 f1 f0
      have H:Hid (Sort.insInner (ltF f) a i d1=d2):=by
       have:Sort.insInner (ltF f) a i d1=d2:=by
        rw [← H2.out.2.2.2,G.out,r.out,if_neg (by simpa using q)]
       exact this
      go_wp2;go_roundg (b+1 - (i+1))
      case measure=>omega
      case rel=>exact ⟨i+1,d2,γ,γ,rfl,σ,H2.out.1.kept hq,H2.out.2.1,H2.out.2.2.1,by rw [← H.out];exact V.out⟩
    ·have j1:¬ (a:Int)<(j:Int):=γ
     have H:Hid (Sort.insInner (ltF f) a i d1=d2):=by
      have:Sort.insInner (ltF f) a i d1=d2:=by
       rw [← H2.out.2.2.2]
       cases j with
       | zero=>rfl
       | succ p =>
        rw [Sort.insInner];have:decide (p+1 > a)=false:=by simpa using h2
        rw [this,Bool.false_and,if_neg ξ]
      exact this
     go_wp2;obtain ⟨D,E⟩:=kcn wr;refine wk ?_;repeat (go_big_quiet_step (fail))
     refine kq1 (fun Q hq=>?_);clear D E;go_wp2;go_roundg (b+1 - (i+1))
     case measure=>omega
     case rel=>exact ⟨i+1,d2,γ,γ,rfl,σ,H2.out.1.kept hq,H2.out.2.1,H2.out.2.2.1,by rw [← H.out];exact V.out⟩
  ·have i1:¬ (i:Int)<(b:Int):=γ
   have HE:Hid (d1=T):=by
    have:d1=T:=by
     rw [← l.out.2.2.2,Sort.insOuter,if_neg h1]
    exact this
   go_wp2;go_end0
   exact ⟨rfl,HE.out ▸ l.out.1⟩
structure SwpW (w wx:World) (g o:Nat) (d:Array Nat) (sb s:Nat):Prop where
 r:SrtW w wx g o d
 c:At wx sb 0 (I (s:Int))
 f:Fn wx sb 0
 low:w.heap.size≤sb
 ne:sb≠g
theorem SwpW.lt {b:World} (h:SwpW w b g o d a s):a<b.heap.size:=bk h.c
theorem SwpW.kept {e w':World} (h:SwpW w e g o d b s) (a:Bl e w'):SwpW w w' g o d b s:=⟨h.r.kept a,Qa a h.c,(a.frozen h.lt).trans h.f,h.low,h.ne⟩
theorem SwpW.put {n:World} {l:Nat} (h:SwpW w n g o d l s) (t:Nat):SwpW w (n.setCell ⟨l,0,none⟩ (I (t:Int))) g o d l t:=by
 have b:=Ql n l 0 (I (t:Int));have i:some g≠some l:=fun e=>h.ne (by cases e;rfl);refine ⟨⟨fun j p=>⟨b.cell (h.r.row j p).1 i,(Fo (a:=⟨g,o+j,none⟩) (b.block g h.r.lt i)).trans (h.r.row j p).2⟩, ?_,Nl h.r.lt b.size⟩,Jq h.c,by simp [go_sem,h.f],h.low,h.ne⟩;have a:=h.r.gr;exact ⟨b.os.trans a.os,b.tape.trans a.tape,b.output.trans a.output,Nt a.size b.size,fun k q m=>(b.block k (Nl q a.size) (fun e=>by cases e;have:=h.low;omega)).trans (a.block k q m)⟩
theorem Ut (w:World) (g o n B a b N z s:Nat) (F:Value) (i:Nat→Nat→Int) (J:CmpF w g N F i) (d:Array Nat) (Q:d.size=n) (C:∀ k,k<d.size→d[k]! < N) (T:a<n) (U:b<n) (_V:n≤300) (hs:s≤100) (w1:World) (m:SwpW w w1 g o d z s) :
  Cl 337 #[.slice (Ad g o) n B,I (a:Int),I (b:Int),.pointer (Az z),.func (.func 216) #[F] #[]] w1 fun e w'=>e=.returned (.tuple #[I ((Sort.order2 (ltF i) d a b s).1:Int),I ((Sort.order2 (ltF i) d a b s).2.1:Int)])∧SwpW w w' g o d z (Sort.order2 (ltF i) d a b s).2.2:=by
 obtain ⟨r1,_⟩:=m.r.row b γ;obtain ⟨r0,_⟩:=m.r.row a γ;have l1:=C b γ;have l0:=C a γ;have Z:=m.r.lt;have G:=Hd m;have p:Hid (Sort.order2 (ltF i) d a b s=if ltF i d[b]! d[a]! = true then (b,a,s+1) else (a,b,s)):=rfl;obtain ⟨x,K⟩:∃ x,x=d[b]!:=⟨_,rfl⟩;obtain ⟨y,L⟩:∃ y,y=d[a]!:=⟨_,rfl⟩;rw [← K] at r1 l1 p;rw [← L] at r0 l0 p;have A:Hid (∀ W:World,Bl w1 W→Rt 216 #[F,I (x:Int),I (y:Int)] W (I (i x y))):=fun W P=>J W (m.r.kept P).gr x y l1 l0;obtain ⟨c,l⟩:∃ c,c=i x y:=⟨_,rfl⟩
 have t:Hid (ltF i x y=decide (c<0)):=by
  have:ltF i x y=decide (c<0):=by rw [l];rfl
  exact this
 rw [← l] at A;have X:(a:Int)<(n:Int):=γ;have Y:(b:Int)<(n:Int):=γ;have k1:(0:Int)≤(a:Int):=γ;have k2:(0:Int)≤(b:Int):=γ;obtain ⟨R,H⟩:∃ R,R=Sort.order2 (ltF i) d a b s:=⟨_,rfl⟩;rw [← H] at p ⊢;clear K L l l1 l0 J C Q m H;by_cases q:c<0
 ·have u:Hid (R=(b,a,s+1)):=by
   have:R=(b,a,s+1):=by rw [p.out,t.out,if_pos (by simpa using q)]
   exact this
  go_enter Tryz.func337,Tryz.ntmps337;go_wp2;obtain ⟨D,E⟩:=kcn w1;refine wk ?_;repeat (go_big_quiet_step ((go_at_call 216;exact Qf (A.out _ (Kin.h _)))))
  refine kq1 (fun M hq=>?_);clear D E r1 r0;have j:=G.out.kept hq;have c0:=j.c;have f0:=j.f;have z0:=j.lt;have O:Hid (SwpW w (M.setCell ⟨z,0,none⟩ (I ((s+1:Nat):Int))) g o d z (s+1)):=j.put (s+1);clear j hq;go_wp2;refine bodyPost_ret (v:=.tuple #[I (b:Int),I (a:Int)]) (by simp [results,Tryz.results337,go_sem]) rfl ⟨?_, ?_⟩
  ·rw [u.out]
  ·rw [u.out];simpa using O.out
 ·have u:Hid (R=(a,b,s)):=by
   have:R=(a,b,s):=by rw [p.out,t.out,if_neg (by simpa using q)]
   exact this
  go_enter Tryz.func337,Tryz.ntmps337;go_wp2;obtain ⟨D,E⟩:=kcn w1;refine wk ?_;repeat (go_big_quiet_step ((go_at_call 216;exact Qf (A.out _ (Kin.h _)))))
  refine kq1 (fun M hq=>?_);clear D E r1 r0;go_wp2;refine bodyPost_ret (v:=.tuple #[I (a:Int),I (b:Int)]) (by simp [results,Tryz.results337,go_sem]) rfl ⟨?_, ?_⟩
  ·rw [u.out]
  ·rw [u.out];exact G.out.kept hq
theorem Vb {lt:Nat→Nat→Bool} (c:a<n) (e:b<n):(Sort.order2 lt d a b s).1<n∧(Sort.order2 lt d a b s).2.1<n∧(Sort.order2 lt d a b s).2.2≤s+1:=by
 unfold Sort.order2;split
 ·exact ⟨e,c,Nr _⟩
 ·exact ⟨c,e,Nat.le_succ _⟩
theorem Ve {lt:Nat→Nat→Bool} {c:Nat} (e:a<n) (f:b<n) (g:c<n):(Sort.median lt d a b c s).1<n∧(Sort.median lt d a b c s).2≤s+3:=by
 have h1:=Vb (lt:=lt) (d:=d) (s:=s) e f;have h2:=Vb (lt:=lt) (d:=d) (s:=(Sort.order2 lt d a b s).2.2) h1.2.1 g;have h3:=Vb (lt:=lt) (d:=d) (s:=(Sort.order2 lt d (Sort.order2 lt d a b s).2.1 c (Sort.order2 lt d a b s).2.2).2.2) h1.1 h2.1;exact ⟨h3.2.1,by have:=h3.2.2;have:=h2.2.2;have:=h1.2.2;unfold Sort.median;dsimp only;omega⟩
theorem Uu (w:World) (g o n i a b c N j s:Nat) (m:Value) (f:Nat→Nat→Int) (v:CmpF w g N m f) (d:Array Nat) (x:d.size=n) (u:∀ k,k<d.size→d[k]! < N) (C:a<n) (D:b<n) (p:c<n) (E:n≤300) (hs:s≤90) (w1:World) (F:SwpW w w1 g o d j s) :
  Cl 312 #[.slice (Ad g o) n i,I (a:Int),I (b:Int),I (c:Int),.pointer (Az j),.func (.func 216) #[m] #[]] w1 fun e w'=>e=.returned (I ((Sort.median (ltF f) d a b c s).1:Int))∧SwpW w w' g o d j (Sort.median (ltF f) d a b c s).2:=by
 have h1:=Vb (lt:=ltF f) (d:=d) (s:=s) C D;have y:Hid (Cl 337 #[.slice (Ad g o) n i,I (a:Int),I (b:Int),.pointer (Az j),.func (.func 216) #[m] #[]] w1 fun e w'=>e=.returned (.tuple #[I ((Sort.order2 (ltF f) d a b s).1:Int),I ((Sort.order2 (ltF f) d a b s).2.1:Int)])∧SwpW w w' g o d j (Sort.order2 (ltF f) d a b s).2.2):=Ut w g o n i a b N j s m f v d x u C D E γ w1 F;have l:Hid (Sort.median (ltF f) d a b c s=((Sort.order2 (ltF f) d (Sort.order2 (ltF f) d a b s).1 (Sort.order2 (ltF f) d (Sort.order2 (ltF f) d a b s).2.1 c (Sort.order2 (ltF f) d a b s).2.2).1 (Sort.order2 (ltF f) d (Sort.order2 (ltF f) d a b s).2.1 c (Sort.order2 (ltF f) d a b s).2.2).2.2).2.1,(Sort.order2 (ltF f) d (Sort.order2 (ltF f) d a b s).1 (Sort.order2 (ltF f) d (Sort.order2 (ltF f) d a b s).2.1 c (Sort.order2 (ltF f) d a b s).2.2).1 (Sort.order2 (ltF f) d (Sort.order2 (ltF f) d a b s).2.1 c (Sort.order2 (ltF f) d a b s).2.2).2.2).2.2)):=rfl;obtain ⟨⟨x1,y1,q⟩,e1⟩:∃ r,r=Sort.order2 (ltF f) d a b s:=⟨_,rfl⟩;rw [← e1] at h1 y l;dsimp only at h1 y l;have h2:=Vb (lt:=ltF f) (d:=d) (s:=q) h1.2.1 p;have z:Hid (∀ W,SwpW w W g o d j q→Cl 337 #[.slice (Ad g o) n i,I (y1:Int),I (c:Int),.pointer (Az j),.func (.func 216) #[m] #[]] W fun e w'=>e=.returned (.tuple #[I ((Sort.order2 (ltF f) d y1 c q).1:Int),I ((Sort.order2 (ltF f) d y1 c q).2.1:Int)])∧SwpW w w' g o d j (Sort.order2 (ltF f) d y1 c q).2.2):=fun W B=>Ut w g o n i y1 c N j q m f v d x u h1.2.1 p E γ W B;obtain ⟨⟨x2,y2,t⟩,e2⟩:∃ r,r=Sort.order2 (ltF f) d y1 c q:=⟨_,rfl⟩;rw [← e2] at h2 z l;dsimp only at h2 z l;have A:Hid (∀ W,SwpW w W g o d j t→Cl 337 #[.slice (Ad g o) n i,I (x1:Int),I (x2:Int),.pointer (Az j),.func (.func 216) #[m] #[]] W fun e w'=>e=.returned (.tuple #[I ((Sort.order2 (ltF f) d x1 x2 t).1:Int),I ((Sort.order2 (ltF f) d x1 x2 t).2.1:Int)])∧SwpW w w' g o d j (Sort.order2 (ltF f) d x1 x2 t).2.2):=fun W B=>Ut w g o n i x1 x2 N j t m f v d x u h1.1 h2.1 E γ W B;obtain ⟨⟨x3,y3,H⟩,e3⟩:∃ r,r=Sort.order2 (ltF f) d x1 x2 t:=⟨_,rfl⟩;rw [← e3] at A l;dsimp only at A l;rw [l.out];dsimp only;clear l e1 e2 e3 v x u F h1 h2 C D p hs;go_enter Tryz.func312,Tryz.ntmps312;go_upto_region 2 with (go_at_call 337;refine y.out.mono ?_;rintro e J ⟨rfl,h⟩;have H1:=Hd h;clear h)
 go_upto_region 3 with (go_at_call 337;refine (z.out _ H1.out).mono ?_;rintro e K ⟨rfl,h⟩;have H2:=Hd h;clear h)
 go_wp2_with (go_at_call 337;refine (A.out _ H2.out).mono ?_;rintro e L ⟨rfl,h⟩;have G:=Hd h;clear h)
 go_ret;exact ⟨rfl,G.out⟩
theorem Xl (w:World) (g o n b a N f s:Nat) (i:Value) (c:Nat→Nat→Int) (p:CmpF w g N i c) (d:Array Nat) (q:d.size=n) (l:∀ k,k<d.size→d[k]! < N) (x:1≤a) (t:a+1<n) (u:n≤300) (hs:s≤90) (w1:World) (r:SwpW w w1 g o d f s) :
  Cl 311 #[.slice (Ad g o) n b,I (a:Int),.pointer (Az f),.func (.func 216) #[i] #[]] w1 fun e w'=>e=.returned (I ((Sort.medianAdjacent (ltF c) d a s).1:Int))∧SwpW w w' g o d f (Sort.medianAdjacent (ltF c) d a s).2:=by
 have C:=Uu w g o n b (a - 1) a (a+1) N f s i c p d q l γ γ t u hs w1 r;rw [show ((a - 1:Nat):Int)=(a:Int) - 1 by omega,show ((a+1:Nat):Int)=(a:Int)+1 by omega] at C;have j:Hid (Cl 312 #[.slice (Ad g o) n b,I ((a:Int) - 1),I (a:Int),I ((a:Int)+1),.pointer (Az f),.func (.func 216) #[i] #[]] w1 fun e w'=>e=.returned (I ((Sort.medianAdjacent (ltF c) d a s).1:Int))∧SwpW w w' g o d f (Sort.medianAdjacent (ltF c) d a s).2):=C;obtain ⟨R,m⟩:∃ R,R=Sort.medianAdjacent (ltF c) d a s:=⟨_,rfl⟩;rw [← m] at j ⊢;clear C p q l r m hs;go_enter Tryz.func311,Tryz.ntmps311;go_wp2_with (go_at_call 312;refine j.out.mono ?_;rintro e v ⟨rfl,h⟩;have H1:Hid (SwpW w v g o d f R.2):=h;clear h)
 go_ret;exact ⟨rfl,H1.out⟩
theorem reverse_any (w:World) (g o n q a b N:Nat) (D:Value) (d:Array Nat) (A:d.size=n) (v:∀ k,k<d.size→d[k]! < N) (F:a<b) (G:b≤n) (R:n≤300) (w1:World) (B:SrtW w w1 g o d) :
  Cl 291 #[.slice (Ad g o) n q,I (a:Int),I (b:Int),D] w1 fun e w'=>e=.returned (.tuple #[])∧SrtW w w' g o (Sort.reverseRange d a b):=by
 have u:Hid (SrtW w w1 g o d∧(∀ k,k<d.size→d[k]! < N)∧d.size=n):=⟨B,v,A⟩;obtain ⟨T,hT⟩:∃ T,T=Sort.reverseRange d a b:=⟨_,rfl⟩;have t:Hid (Sort.reverseLoop a (b - 1) d=T):=hT.symm;rw [← hT];clear B v A hT;obtain ⟨e,rfl⟩:∃ e,b=e+1:=⟨b - 1,γ⟩;rw [Nat.add_sub_cancel] at t;go_enter Tryz.func291,Tryz.ntmps291;go_wp2;go_loopg [8,9] (e+1 - a) (fun E M O P=>∃ (i j:Nat) (d1:Array Nat),i≤e+1∧j≤e∧i≤j+1∧E=e+1 - i∧M=I (i:Int)∧O=I (j:Int)∧SrtW w P g o d1∧d1.size=n∧Sort.reverseLoop i j d1=T)
 case atStart=>exact ⟨a,e,d,γ,γ,γ,rfl,rfl,σ,u.out.1,u.out.2.2,t.out⟩
 case round =>
  obtain ⟨i,j,d1,hi,Q,H,rfl,rfl,rfl,z,l,h⟩:=hrel;have c:Hid (SrtW w wr g o d1∧d1.size=n∧Sort.reverseLoop i j d1=T):=⟨z,l,h⟩;clear z l h;by_cases h1:i<j
  ·have L:(i:Int)<(j:Int):=γ;have K:=c.out.2.1;obtain ⟨r1,f1⟩:=c.out.1.row j γ;obtain ⟨r0,f0⟩:=c.out.1.row i γ;have W:=c.out.1.lt;obtain ⟨x,r⟩:∃ x,x=d1[j]!:=⟨_,rfl⟩;obtain ⟨y,s⟩:∃ y,y=d1[i]!:=⟨_,rfl⟩;have f:=c.out.1.swap (i:=i) (j:=j) γ γ γ;rw [← r,← s] at f;rw [← r] at r1;rw [← s] at r0;have m:Hid (SrtW w ((wr.setCell ⟨g,o+i,none⟩ (I (x:Int))).setCell ⟨g,o+j,none⟩ (I (y:Int))) g o (Sort.swp d1 i j)):=f
   have p:Hid (Sort.reverseLoop (i+1) (j - 1) (Sort.swp d1 i j)=T):=by
    have:Sort.reverseLoop (i+1) (j - 1) (Sort.swp d1 i j)=T:=by
     rw [← c.out.2.2];conv=>rhs;rw [Sort.reverseLoop,if_pos h1]
    exact this
   have U:(i:Int)<(n:Int):=γ;have V:(j:Int)<(n:Int):=γ;have k2:(0:Int)≤(i:Int):=γ;have k3:(0:Int)≤(j:Int):=γ;have J:i≠j:=γ;clear r s f;go_wp2;go_region
   all_goals
    go_wp2;go_roundg (e+1 - (i+1))
    case measure=>omega
    case rel=>exact ⟨i+1,j - 1,Sort.swp d1 i j,γ,γ,γ,rfl,σ,σ,m.out.kept (Qg (Qe _)),by rw [Sort.size_swp];exact c.out.2.1,p.out⟩
  ·have L:¬ (i:Int)<(j:Int):=γ
   have C:Hid (d1=T):=by
    have:d1=T:=by
     rw [← c.out.2.2,Sort.reverseLoop,if_neg h1]
    exact this
   go_wp2;go_end0
   exact ⟨rfl,C.out ▸ c.out.1⟩
theorem sift_any (w:World) (g o n ai lo hi first N:Nat) (rv:Value) (a:Nat→Nat→Int) (hc:CmpF w g N rv a) (d:Array Nat) (hd:d.size=n) (hN:∀ k,k<d.size→d[k]! < N) (aj:lo≤300) (ao:first+hi≤n) (hn:n≤300) (w1:World) (hw:SrtW w w1 g o d) :
  Cl 310 #[.slice (Ad g o) n ai,I (lo:Int),I (hi:Int),I (first:Int),.func (.func 216) #[rv] #[]] w1 fun e w'=>e=.returned (.tuple #[])∧SrtW w w' g o (Sort.siftDown (ltF a) hi first lo d):=by
 have HC:=Hd hc;have HW:=H3 hw hN hd;obtain ⟨T,hT⟩:∃ T,T=Sort.siftDown (ltF a) hi first lo d:=⟨_,rfl⟩;have HT:=Hd hT.symm;rw [← hT];clear hc hw hN hd hT;go_enter Tryz.func310,Tryz.ntmps310;go_wp2;go_loopg [10] (hi - lo) (fun gk ak wx=>∃ (r:Nat) (d1:Array Nat),r≤300∧gk=hi - r∧ak=I (r:Int)∧SrtW w wx g o d1∧(∀ k,k<d1.size→d1[k]! < N)∧d1.size=n∧Sort.siftDown (ltF a) hi first r d1=T)
 case atStart=>exact ⟨lo,d,aj,rfl,rfl,HW.out.1,HW.out.2.1,HW.out.2.2,HT.out⟩
 case round =>
  clear HW HT;obtain ⟨r,d1,hr,rfl,rfl,hS,a7,a2,V⟩:=hrel;have A:=H4 hS a7 a2 V;obtain ⟨c,s⟩:∃ c:Nat,c=2*r+1:=⟨_,rfl⟩;by_cases h1:c<hi
  ·have j1:¬ (hi:Int)≤2*(r:Int)+1:=γ;have L:=a2;obtain ⟨fr,p⟩:∃ x,x=first+r:=⟨_,rfl⟩;obtain ⟨U,F⟩:∃ x,x=first+c:=⟨_,rfl⟩
   have a6:Hid (T=if (decide (c+1<hi) && ltF a d1[first+c]! d1[first+c+1]!)=true then (if ltF a d1[first+r]! d1[first+(c+1)]! = true then Sort.siftDown (ltF a) hi first (c+1) (Sort.swp d1 (first+r) (first+(c+1))) else d1) else (if ltF a d1[first+r]! d1[first+c]! = true then Sort.siftDown (ltF a) hi first c (Sort.swp d1 (first+r) (first+c)) else d1)):=by
    have:T=if (decide (c+1<hi) && ltF a d1[first+c]! d1[first+c+1]!)=true then (if ltF a d1[first+r]! d1[first+(c+1)]! = true then Sort.siftDown (ltF a) hi first (c+1) (Sort.swp d1 (first+r) (first+(c+1))) else d1) else (if ltF a d1[first+r]! d1[first+c]! = true then Sort.siftDown (ltF a) hi first c (Sort.swp d1 (first+r) (first+c)) else d1):=by
     rw [← V,Sort.siftDown,dif_neg γ,s];split
     ·rename_i q
      have q':2*r+1+1<hi:=by simp at q;omega
      rw [dif_pos γ]
      cases ltF a d1[first+r]! d1[first+(2*r+2)]! <;> simp
     ·cases ltF a d1[first+r]! d1[first+(2*r+1)]! <;> simp
    exact this
   have e1:(first:Int)+(2*(r:Int)+1)=(U:Int):=γ;have e2:(first:Int)+(r:Int)=(fr:Int):=γ;have ab:IntKind.i64.wrap ((first:Int)+(2*(r:Int)+1))=(U:Int):=υ;have ap:IntKind.i64.wrap ((first:Int)+(r:Int))=(fr:Int):=υ;have aq:IntKind.i64.wrap (2*(r:Int)+1+1)=2*(r:Int)+2:=υ;have am:IntKind.i64.wrap (2*(r:Int)+2)=2*(r:Int)+2:=υ;have i1:(U:Int)<(n:Int):=γ;have i2:(fr:Int)<(n:Int):=γ;have k1:(0:Int)≤(U:Int):=γ;have k2:(0:Int)≤(fr:Int):=γ;clear hS a7 V a2;by_cases h2:c+1<hi
   ·have j2:decide (2*(r:Int)+2<(hi:Int))=true:=decide_eq_true γ;obtain ⟨fd,aa⟩:∃ x,x=first+c+1:=⟨_,rfl⟩;have e3:(U:Int)+1=(fd:Int):=γ;have ah:IntKind.i64.wrap ((U:Int)+1)=(fd:Int):=υ;obtain ⟨r0,_⟩:=A.out.1.row U γ;obtain ⟨r1,_⟩:=A.out.1.row fd γ;have l0:=A.out.2.1 U γ;have l1:=A.out.2.1 fd γ;have i3:(fd:Int)<(n:Int):=γ;have k3:(0:Int)≤(fd:Int):=γ;have zg:=A.out.1.lt;obtain ⟨x,hx⟩:∃ x,x=d1[U]!:=⟨_,rfl⟩;obtain ⟨y,hy⟩:∃ y,y=d1[fd]!:=⟨_,rfl⟩
    have ae:Hid (ltF a d1[first+c]! d1[first+c+1]! = ltF a x y):=by
     have:ltF a d1[first+c]! d1[first+c+1]! = ltF a x y:=by rw [hx,hy,F,aa]
     exact this
    rw [← hx] at r0 l0;rw [← hy] at r1 l1;have CB:Hid (∀ W:World,Bl wr W→Rt 216 #[rv,I (x:Int),I (y:Int)] W (I (a x y))):=fun W hW=>HC.out W (A.out.1.kept hW).gr x y l0 l1;obtain ⟨c1,a8⟩:∃ c,c=a x y:=⟨_,rfl⟩
    have ad:Hid (ltF a x y=decide (c1<0)):=by
     have:ltF a x y=decide (c1<0):=by rw [a8];rfl
     exact this
    rw [← a8] at CB;have an:=Hd aa;have ac:=H4 p F s L;have ar:IntKind.i64.wrap (U:Int)=(U:Int):=υ;have au:IntKind.i64.wrap (fd:Int)=(fd:Int):=υ;clear hx hy a8 l0 l1 aa p F s L;have H0:=Hd A.out.1;by_cases q:c1<0
    ·have R:Hid (T=if ltF a d1[first+r]! d1[first+(c+1)]! = true then Sort.siftDown (ltF a) hi first (c+1) (Sort.swp d1 (first+r) (first+(c+1))) else d1):=by
      have:T=if ltF a d1[first+r]! d1[first+(c+1)]! = true then Sort.siftDown (ltF a) hi first (c+1) (Sort.swp d1 (first+r) (first+(c+1))) else d1:=by
       rw [a6.out,if_pos (by rw [ae.out,ad.out];simp [h2,q])]
      exact this
     go_wp2;obtain ⟨J,K⟩:=kcn wr;refine wk ?_;repeat (go_big_quiet_step ((go_at_call 216;exact Qf (CB.out _ (Kin.h _)))))
     refine kq1 (fun Z hq=>?_);clear J K;have H1:=Hd (H0.out.kept hq);clear hq H0 CB r0 r1 e3 ah i3 k3;obtain ⟨p,F,s,L⟩:=ac.out;have u:=H1.out.lt;obtain ⟨b,t⟩:∃ x,x=first+(c+1):=⟨_,rfl⟩;obtain ⟨M,f4⟩:=H1.out.row fr γ;obtain ⟨O,f5⟩:=H1.out.row b γ;have X:=A.out.2.1 fr γ;have Y:=A.out.2.1 b γ;have e4:(first:Int)+(2*(r:Int)+2)=(b:Int):=γ;have w4:IntKind.i64.wrap ((first:Int)+(2*(r:Int)+2))=(b:Int):=υ;have i5:(b:Int)<(n:Int):=γ;have k5:(0:Int)≤(b:Int):=γ;have G:fr≠b:=γ;obtain ⟨z,H⟩:∃ z,z=d1[fr]!:=⟨_,rfl⟩;obtain ⟨v,hv⟩:∃ v,v=d1[b]!:=⟨_,rfl⟩;have f:=H1.out.swap (i:=fr) (j:=b) γ γ G;rw [← H,← hv] at f;rw [← H] at M X;rw [← hv] at O Y
     have D:Hid (T=if ltF a z v=true then Sort.siftDown (ltF a) hi first (c+1) (Sort.swp d1 fr b) else d1):=by
      have:T=if ltF a z v=true then Sort.siftDown (ltF a) hi first (c+1) (Sort.swp d1 fr b) else d1:=by
       rw [H,hv,t,p];exact R.out
      exact this
     have m:Hid (∀ W:World,Bl Z W→Rt 216 #[rv,I (z:Int),I (v:Int)] W (I (a z v))):=fun W hW=>HC.out W (H1.out.kept hW).gr z v X Y;obtain ⟨c2,l⟩:∃ c,c=a z v:=⟨_,rfl⟩
     have C:Hid (ltF a z v=decide (c2<0)):=by
      have:ltF a z v=decide (c2<0):=by rw [l];rfl
      exact this
     rw [← l] at m;have E:=H2 H hv;have B:Hid (b=first+(c+1)∧fr=first+r∧c=2*r+1∧b<d1.size∧fr<d1.size∧(c+1)<hi):=⟨t,p,s,γ,γ,γ⟩;clear H hv l X Y f e1 ab t p s F L;by_cases q2:c2<0
     ·go_wp2;obtain ⟨J,K⟩:=kcn Z;refine wk ?_;repeat (go_big_quiet_step ((go_at_call 216;exact Qf (m.out _ (Kin.h _)))))
      refine kq1 (fun wp hq=>?_);clear J K;have P:=Hd (H1.out.kept hq);have f:=P.out.swap (i:=fr) (j:=b) B.out.2.2.2.2.1 B.out.2.2.2.1 G;replace M:=Qa hq M;replace O:=Qa hq O;replace f4:=(hq.frozen u).trans f4;replace f5:=(hq.frozen u).trans f5;have zq:g<wp.heap.size:=Nl u hq.size;rw [← E.out.1,← E.out.2] at f;have Q:=Hd f;clear hq m f;go_wp2;go_region
      all_goals
       go_wp2;have hF:=B.out;go_roundg (hi - (c+1))
       case measure=>omega
       case rel=>exact ⟨(c+1),Sort.swp d1 fr b,γ,rfl,by first | go_num | (congr 1;omega),Q.out.kept (Qg (Qe _)),Jv A.out.2.1 B.out.2.2.2.2.1 B.out.2.2.2.1,by rw [Sort.size_swp];exact A.out.2.2.1,by rw [D.out,C.out,if_pos (by simpa using q2)]⟩
     ·have af:decide (c2<0)=false:=decide_eq_false q2;have ag:¬ c2<0:=q2;go_wp2;obtain ⟨J,K⟩:=kcn Z;refine wk ?_;repeat (go_big_quiet_step ((go_at_call 216;exact Qf (m.out _ (Kin.h _)))))
      refine kq1 (fun wp hq=>?_);clear J K
      have HE:Hid (d1=T):=by
       have:d1=T:=by
        rw [D.out,C.out,if_neg (by simpa using q2)]
       exact this
      have P:=Hd (H1.out.kept hq);clear M O f4 f5 hq;go_wp2;exact bodyPost_ret (v:=.tuple #[]) (by simp [results,Tryz.results310,go_sem]) rfl ⟨rfl,HE.out ▸ P.out⟩
    ·have R:Hid (T=if ltF a d1[first+r]! d1[first+c]! = true then Sort.siftDown (ltF a) hi first c (Sort.swp d1 (first+r) (first+c)) else d1):=by
      have:T=if ltF a d1[first+r]! d1[first+c]! = true then Sort.siftDown (ltF a) hi first c (Sort.swp d1 (first+r) (first+c)) else d1:=by
       rw [a6.out,if_neg (by rw [ae.out,ad.out];simp [q])]
      exact this
     go_wp2;obtain ⟨J,K⟩:=kcn wr;refine wk ?_;repeat (go_big_quiet_step ((go_at_call 216;exact Qf (CB.out _ (Kin.h _)))))
     refine kq1 (fun Z hq=>?_);clear J K;have H1:=Hd (H0.out.kept hq);clear hq H0 CB r0 r1 e3 ah i3 k3;obtain ⟨p,F,s,L⟩:=ac.out;have u:=H1.out.lt;obtain ⟨b,t⟩:∃ x,x=first+c:=⟨_,rfl⟩;obtain ⟨M,f4⟩:=H1.out.row fr γ;obtain ⟨O,f5⟩:=H1.out.row b γ;have X:=A.out.2.1 fr γ;have Y:=A.out.2.1 b γ;have e4:(first:Int)+(2*(r:Int)+1)=(b:Int):=γ;have w4:IntKind.i64.wrap ((first:Int)+(2*(r:Int)+1))=(b:Int):=υ;have i5:(b:Int)<(n:Int):=γ;have k5:(0:Int)≤(b:Int):=γ;have G:fr≠b:=γ;obtain ⟨z,H⟩:∃ z,z=d1[fr]!:=⟨_,rfl⟩;obtain ⟨v,hv⟩:∃ v,v=d1[b]!:=⟨_,rfl⟩;have f:=H1.out.swap (i:=fr) (j:=b) γ γ G;rw [← H,← hv] at f;rw [← H] at M X;rw [← hv] at O Y
     have D:Hid (T=if ltF a z v=true then Sort.siftDown (ltF a) hi first c (Sort.swp d1 fr b) else d1):=by
      have:T=if ltF a z v=true then Sort.siftDown (ltF a) hi first c (Sort.swp d1 fr b) else d1:=by
       rw [H,hv,t,p];exact R.out
      exact this
     have m:Hid (∀ W:World,Bl Z W→Rt 216 #[rv,I (z:Int),I (v:Int)] W (I (a z v))):=fun W hW=>HC.out W (H1.out.kept hW).gr z v X Y;obtain ⟨c2,l⟩:∃ c,c=a z v:=⟨_,rfl⟩
     have C:Hid (ltF a z v=decide (c2<0)):=by
      have:ltF a z v=decide (c2<0):=by rw [l];rfl
      exact this
     rw [← l] at m;have E:=H2 H hv;have B:Hid (b=first+c∧fr=first+r∧c=2*r+1∧b<d1.size∧fr<d1.size∧c<hi):=⟨t,p,s,γ,γ,γ⟩;clear H hv l X Y f e1 ab t p s F L;by_cases q2:c2<0
     ·go_wp2;obtain ⟨J,K⟩:=kcn Z;refine wk ?_;repeat (go_big_quiet_step ((go_at_call 216;exact Qf (m.out _ (Kin.h _)))))
      refine kq1 (fun wp hq=>?_);clear J K;have P:=Hd (H1.out.kept hq);have f:=P.out.swap (i:=fr) (j:=b) B.out.2.2.2.2.1 B.out.2.2.2.1 G;replace M:=Qa hq M;replace O:=Qa hq O;replace f4:=(hq.frozen u).trans f4;replace f5:=(hq.frozen u).trans f5;have zq:g<wp.heap.size:=Nl u hq.size;rw [← E.out.1,← E.out.2] at f;have Q:=Hd f;clear hq m f;go_wp2;go_region
      all_goals
       go_wp2;have hF:=B.out;go_roundg (hi - c)
       case measure=>omega
       case rel=>exact ⟨c,Sort.swp d1 fr b,γ,rfl,by first | go_num | (congr 1;omega),Q.out.kept (Qg (Qe _)),Jv A.out.2.1 B.out.2.2.2.2.1 B.out.2.2.2.1,by rw [Sort.size_swp];exact A.out.2.2.1,by rw [D.out,C.out,if_pos (by simpa using q2)]⟩
     ·have af:decide (c2<0)=false:=decide_eq_false q2;have ag:¬ c2<0:=q2;go_wp2;obtain ⟨J,K⟩:=kcn Z;refine wk ?_;repeat (go_big_quiet_step ((go_at_call 216;exact Qf (m.out _ (Kin.h _)))))
      refine kq1 (fun wp hq=>?_);clear J K
      have HE:Hid (d1=T):=by
       have:d1=T:=by
        rw [D.out,C.out,if_neg (by simpa using q2)]
       exact this
      have P:=Hd (H1.out.kept hq);clear M O f4 f5 hq;go_wp2;exact bodyPost_ret (v:=.tuple #[]) (by simp [results,Tryz.results310,go_sem]) rfl ⟨rfl,HE.out ▸ P.out⟩
   ·have j2:decide (2*(r:Int)+2<(hi:Int))=false:=decide_eq_false γ
    have R:Hid (T=if ltF a d1[first+r]! d1[first+c]! = true then Sort.siftDown (ltF a) hi first c (Sort.swp d1 (first+r) (first+c)) else d1):=by
     have:T=if ltF a d1[first+r]! d1[first+c]! = true then Sort.siftDown (ltF a) hi first c (Sort.swp d1 (first+r) (first+c)) else d1:=by
      rw [a6.out,if_neg (by simp [h2])]
     exact this
    have H0:=Hd A.out.1;go_wp2;obtain ⟨J,K⟩:=kcn wr;refine wk ?_;repeat (go_big_quiet_step (fail))
    refine kq1 (fun Z hq=>?_);clear J K;have H1:=Hd (H0.out.kept hq);clear hq H0;have u:=H1.out.lt;obtain ⟨b,t⟩:∃ x,x=first+c:=⟨_,rfl⟩;obtain ⟨M,f4⟩:=H1.out.row fr γ;obtain ⟨O,f5⟩:=H1.out.row b γ;have X:=A.out.2.1 fr γ;have Y:=A.out.2.1 b γ;have e4:(first:Int)+(2*(r:Int)+1)=(b:Int):=γ;have w4:IntKind.i64.wrap ((first:Int)+(2*(r:Int)+1))=(b:Int):=υ;have i5:(b:Int)<(n:Int):=γ;have k5:(0:Int)≤(b:Int):=γ;have G:fr≠b:=γ;obtain ⟨z,H⟩:∃ z,z=d1[fr]!:=⟨_,rfl⟩;obtain ⟨v,hv⟩:∃ v,v=d1[b]!:=⟨_,rfl⟩;have f:=H1.out.swap (i:=fr) (j:=b) γ γ G;rw [← H,← hv] at f;rw [← H] at M X;rw [← hv] at O Y
    have D:Hid (T=if ltF a z v=true then Sort.siftDown (ltF a) hi first c (Sort.swp d1 fr b) else d1):=by
     have:T=if ltF a z v=true then Sort.siftDown (ltF a) hi first c (Sort.swp d1 fr b) else d1:=by
      rw [H,hv,t,p];exact R.out
     exact this
    have m:Hid (∀ W:World,Bl Z W→Rt 216 #[rv,I (z:Int),I (v:Int)] W (I (a z v))):=fun W hW=>HC.out W (H1.out.kept hW).gr z v X Y;obtain ⟨c2,l⟩:∃ c,c=a z v:=⟨_,rfl⟩
    have C:Hid (ltF a z v=decide (c2<0)):=by
     have:ltF a z v=decide (c2<0):=by rw [l];rfl
     exact this
    rw [← l] at m;have E:=H2 H hv;have B:Hid (b=first+c∧fr=first+r∧c=2*r+1∧b<d1.size∧fr<d1.size∧c<hi):=⟨t,p,s,γ,γ,γ⟩;clear H hv l X Y f e1 ab t p s F L;by_cases q2:c2<0
    ·go_wp2;obtain ⟨J,K⟩:=kcn Z;refine wk ?_;repeat (go_big_quiet_step ((go_at_call 216;exact Qf (m.out _ (Kin.h _)))))
     refine kq1 (fun wp hq=>?_);clear J K;have P:=Hd (H1.out.kept hq);have f:=P.out.swap (i:=fr) (j:=b) B.out.2.2.2.2.1 B.out.2.2.2.1 G;replace M:=Qa hq M;replace O:=Qa hq O;replace f4:=(hq.frozen u).trans f4;replace f5:=(hq.frozen u).trans f5;have zq:g<wp.heap.size:=Nl u hq.size;rw [← E.out.1,← E.out.2] at f;have Q:=Hd f;clear hq m f;go_wp2;go_region
     all_goals
      go_wp2;have hF:=B.out;go_roundg (hi - c)
      case measure=>omega
      case rel=>exact ⟨c,Sort.swp d1 fr b,γ,rfl,by first | go_num | (congr 1;omega),Q.out.kept (Qg (Qe _)),Jv A.out.2.1 B.out.2.2.2.2.1 B.out.2.2.2.1,by rw [Sort.size_swp];exact A.out.2.2.1,by rw [D.out,C.out,if_pos (by simpa using q2)]⟩
    ·have af:decide (c2<0)=false:=decide_eq_false q2;have ag:¬ c2<0:=q2;go_wp2;obtain ⟨J,K⟩:=kcn Z;refine wk ?_;repeat (go_big_quiet_step ((go_at_call 216;exact Qf (m.out _ (Kin.h _)))))
     refine kq1 (fun wp hq=>?_);clear J K
     have HE:Hid (d1=T):=by
      have:d1=T:=by
       rw [D.out,C.out,if_neg (by simpa using q2)]
      exact this
     have P:=Hd (H1.out.kept hq);clear M O f4 f5 hq;go_wp2;exact bodyPost_ret (v:=.tuple #[]) (by simp [results,Tryz.results310,go_sem]) rfl ⟨rfl,HE.out ▸ P.out⟩
  ·have j1:(hi:Int)≤2*(r:Int)+1:=γ
   have HE:Hid (d1=T):=by
    have:d1=T:=by
     rw [← V,Sort.siftDown,dif_pos γ]
    exact this
   clear hS a7 V a2;go_wp2;go_end0
   exact ⟨rfl,HE.out ▸ A.out.1⟩
theorem Us {lt:Nat→Nat→Bool} {N hi first:Nat}:∀ (m a:Nat) (d:Array Nat),hi - a≤m→first+hi≤d.size→(∀ k,k<d.size→d[k]! < N)→(Sort.siftDown lt hi first a d).size=d.size∧∀ k,k<(Sort.siftDown lt hi first a d).size→(Sort.siftDown lt hi first a d)[k]! < N
 | 0,a,d,hm,_,hN=>by
  rw [Sort.siftDown,dif_pos γ];exact ⟨rfl,hN⟩
 | m+1,a,d,hm,hs,hN=>by
  rw [Sort.siftDown];by_cases h:2*a+1 ≥ hi
  ·rw [dif_pos h];exact ⟨rfl,hN⟩
  ·rw [dif_neg h]
   have step:∀ c,a<c→c<hi→(Sort.siftDown lt hi first c (Sort.swp d (first+a) (first+c))).size=d.size∧∀ k,k<(Sort.siftDown lt hi first c (Sort.swp d (first+a) (first+c))).size→(Sort.siftDown lt hi first c (Sort.swp d (first+a) (first+c)))[k]! < N:=fun c h1 h2=>by
    have b:=Us (lt:=lt) (N:=N) (hi:=hi) (first:=first) m c (Sort.swp d (first+a) (first+c)) γ (by rw [Sort.size_swp];exact hs) (Jv hN γ γ);rw [Sort.size_swp] at b;exact b
   split
   ·split
    ·exact ⟨rfl,hN⟩
    ·split
     ·exact step (2*a+2) γ χ
     ·exact ⟨rfl,hN⟩
   ·split
    ·exact ⟨rfl,hN⟩
    ·exact step (2*a+1) γ γ
theorem SrtW.swp_any {a:World} (h:SrtW w a g o d) {j:Nat} (hi:i<d.size) (f:j<d.size):SrtW w ((a.setCell ⟨g,o+i,none⟩ (I ((d[j]! : Nat):Int))).setCell ⟨g,o+j,none⟩ (I ((d[i]! : Nat):Int))) g o (Sort.swp d i j):=by
 by_cases hij:i=j
 ·subst hij;have b:=Ql a g (o+i) (I ((d[i]! : Nat):Int));have c:=Ql (a.setCell ⟨g,o+i,none⟩ (I ((d[i]! : Nat):Int))) g (o+i) (I ((d[i]! : Nat):Int));refine ⟨fun k e=>?_,Ji h.gr (Ji b c),Nl h.lt (Nt b.size c.size)⟩;rw [Sort.size_swp] at e;obtain ⟨r1,r2⟩:=h.row k e;obtain ⟨l,_⟩:=h.row i hi;constructor
  ·rw [Sort.swp_get d hi hi k];by_cases e1:k=i
   ·rw [if_pos e1,e1];exact Jq (Jq l)
   ·rw [if_neg e1,if_neg e1];exact Qn (Qn r1 γ) γ
  ·simp [go_sem,r2]
 ·exact h.swap hi f hij
theorem heap_any (w:World) (g o n l a b N:Nat) (B:Value) (c:Nat→Nat→Int) (Z:CmpF w g N B c) (d:Array Nat) (hd:d.size=n) (Y:∀ k,k<d.size→d[k]! < N) (a2:a<b) (a7:b≤n) (hn:n≤300) (w1:World) (hw:SrtW w w1 g o d) :
  Cl 288 #[.slice (Ad g o) n l,I (a:Int),I (b:Int),.func (.func 216) #[B] #[]] w1 fun e w'=>e=.returned (.tuple #[])∧SrtW w w' g o (Sort.heapSort (ltF c) d a b):=by
 obtain ⟨hi,L⟩:∃ hi:Nat,b=a+hi:=⟨b - a,γ⟩;subst L;have CS:Hid (∀ (W:World) (k t:Nat) (d1:Array Nat),d1.size=n→(∀ k,k<d1.size→d1[k]! < N)→k≤300→t≤hi→SrtW w W g o d1→Cl 310 #[.slice (Ad g o) n l,I (k:Int),I (t:Int),I (a:Int),.func (.func 216) #[B] #[]] W fun e w'=>e=.returned (.tuple #[])∧SrtW w w' g o (Sort.siftDown (ltF c) t a k d1)):=fun W k t d1 h1 h2 h3 h4 h5=>sift_any w g o n l k t a N B c Z d1 h1 h2 h3 γ hn W h5;obtain ⟨T,hT⟩:∃ T,T=Sort.heapSort (ltF c) d a (a+hi):=⟨_,rfl⟩
 have J:Hid (Sort.heapPop (ltF c) a hi (Sort.heapBuild (ltF c) hi a ((hi - 1) / 2+1) d)=T):=by
  have:Sort.heapPop (ltF c) a hi (Sort.heapBuild (ltF c) hi a ((hi - 1) / 2+1) d)=T:=by
   rw [hT];unfold Sort.heapSort;rw [Nat.add_sub_cancel_left]
  exact this
 have H:=H3 hw Y hd
 have U:((hi:Int) - 1).tdiv 2=(((hi - 1) / 2:Nat):Int):=by
  rw [Int.tdiv_eq_ediv_of_nonneg γ];omega
 obtain ⟨h2,A⟩:∃ x,x=(hi - 1) / 2:=⟨_,rfl⟩;rw [← A] at U J;have e1:((a+hi:Nat):Int) - (a:Int)=(hi:Int):=γ;have a6:h2≤300:=γ;rw [← hT];clear Z hw Y hd hT;have e2:(a:Int)+(hi:Int) - (a:Int)=(hi:Int):=γ;go_enter Tryz.func288,Tryz.ntmps288;go_wp2;go_loopg [11] (h2+1) (fun K Q V=>∃ (i:Nat) (d1:Array Nat),i≤h2+1∧i=K∧Q=I ((i:Int) - 1)∧SrtW w V g o d1∧(∀ k,k<d1.size→d1[k]! < N)∧d1.size=n∧Sort.heapPop (ltF c) a hi (Sort.heapBuild (ltF c) hi a i d1)=T)
 case atStart =>
  refine ⟨h2+1,d,Nr _,rfl, ?_,H.out.1,H.out.2.1,H.out.2.2,J.out⟩;congr 1
  omega
 case round =>
  clear H J;obtain ⟨i,d1,a8,rfl,rfl,E,q,s,r⟩:=hrel;have f:=H4 E q s r;clear E q s r;rcases i with _ | i
  ·have m:=Hd f.out.2.2.2;go_wp2;go_loopg [12] hi (fun K R V=>∃ (i:Nat) (d2:Array Nat),i≤hi∧i=K∧R=I ((i:Int) - 1)∧SrtW w V g o d2∧(∀ k,k<d2.size→d2[k]! < N)∧d2.size=n∧Sort.heapPop (ltF c) a i d2=T)
   case atStart=>exact ⟨hi,d1,Nr _,rfl,rfl,f.out.1,f.out.2.1,f.out.2.2.1,m.out⟩
   case round =>
    clear f m;obtain ⟨i,d2,aa,rfl,rfl,E,q,s,r⟩:=hrel;have f:=H4 E q s r;clear E q s r;rcases i with _ | i
    ·have HE:=Hd f.out.2.2.2;go_wp2;go_end0
     exact ⟨rfl,HE.out ▸ f.out.1⟩
    ·have z1:((i+1:Nat):Int) - 1=(i:Int):=γ;have z2:(0:Int)≤(i:Int):=γ;rw [z1];have O:=f.out.2.2.1;obtain ⟨j,M⟩:∃ j,j=a+i:=⟨_,rfl⟩;obtain ⟨r1,f1⟩:=f.out.1.row j γ;obtain ⟨r0,f0⟩:=f.out.1.row a γ;have zg:=f.out.1.lt;obtain ⟨x,F⟩:∃ x,x=d2[j]!:=⟨_,rfl⟩;obtain ⟨y,G⟩:∃ y,y=d2[a]!:=⟨_,rfl⟩;have u:=f.out.1.swp_any (i:=a) (j:=j) γ γ;rw [← F,← G] at u;rw [← F] at r1;rw [← G] at r0;have D:=Hd u
     have m:Hid (Sort.heapPop (ltF c) a i (Sort.siftDown (ltF c) i a 0 (Sort.swp d2 a j))=T):=by
      have:=f.out.2.2.2;rw [M];exact this
     have v:Hid (∀ k,k<(Sort.swp d2 a j).size→(Sort.swp d2 a j)[k]! < N):=Jv f.out.2.1 γ γ;have p:Hid ((Sort.swp d2 a j).size=n):=(Sort.size_swp ..).trans O;have z:Hid ((Sort.siftDown (ltF c) i a 0 (Sort.swp d2 a j)).size=(Sort.swp d2 a j).size∧∀ k,k<(Sort.siftDown (ltF c) i a 0 (Sort.swp d2 a j)).size→(Sort.siftDown (ltF c) i a 0 (Sort.swp d2 a j))[k]! < N):=Us (i - 0) 0 _ (Nr _) (by have:=p.out;omega) v.out;have e3:(a:Int)+(i:Int)=(j:Int):=γ;have w3:IntKind.i64.wrap ((a:Int)+(i:Int))=(j:Int):=υ;have i2:(a:Int)<(n:Int):=γ;have i3:(j:Int)<(n:Int):=γ;have k2:(0:Int)≤(a:Int):=γ;have k3:(0:Int)≤(j:Int):=γ;have z3:j<n:=γ;have z4:a<n:=γ;have X:i≤hi:=γ;by_cases hne:a=j
     ·have P:x=y:=by rw [F,G,hne]
      clear F G u M z1 A U e1 e2;subst P hne;clear r1 f1;go_wp2;go_region
      all_goals
       have C:Hid (Cl 310 #[.slice (Ad g o) n l,I 0,I (i:Int),I (a:Int),.func (.func 216) #[B] #[]] _ fun e w'=>e=.returned (.tuple #[])∧SrtW w w' g o (Sort.siftDown (ltF c) i a 0 (Sort.swp d2 a a))):=CS.out _ 0 i _ p.out v.out (Nat.zero_le _) X (D.out.kept (Qg (Qe _)));go_wp2_with (go_at_call 310;refine C.out.mono ?_;rintro e w2 ⟨rfl,h⟩;have H1:=Hd h;clear h)
       go_roundg i
       case measure=>omega
       case rel=>exact ⟨i,Sort.siftDown (ltF c) i a 0 (Sort.swp d2 a a),γ,rfl,σ,H1.out,z.out.2,z.out.1.trans p.out,m.out⟩
     ·clear F G u M z1 A U e1 e2;go_wp2;go_region
      all_goals
       have C:Hid (Cl 310 #[.slice (Ad g o) n l,I 0,I (i:Int),I (a:Int),.func (.func 216) #[B] #[]] _ fun e w'=>e=.returned (.tuple #[])∧SrtW w w' g o (Sort.siftDown (ltF c) i a 0 (Sort.swp d2 a j))):=CS.out _ 0 i _ p.out v.out (Nat.zero_le _) X (D.out.kept (Qg (Qe _)));go_wp2_with (go_at_call 310;refine C.out.mono ?_;rintro e w2 ⟨rfl,h⟩;have H1:=Hd h;clear h)
       go_roundg i
       case measure=>omega
       case rel=>exact ⟨i,Sort.siftDown (ltF c) i a 0 (Sort.swp d2 a j),γ,rfl,σ,H1.out,z.out.2,z.out.1.trans p.out,m.out⟩
  ·have z1:((i+1:Nat):Int) - 1=(i:Int):=γ;have z2:(0:Int)≤(i:Int):=γ;have C:Hid (Cl 310 #[.slice (Ad g o) n l,I (i:Int),I (hi:Int),I (a:Int),.func (.func 216) #[B] #[]] wr fun e w'=>e=.returned (.tuple #[])∧SrtW w w' g o (Sort.siftDown (ltF c) hi a i d1)):=CS.out wr i hi d1 f.out.2.2.1 f.out.2.1 γ (Nr _) f.out.1;have z:Hid ((Sort.siftDown (ltF c) hi a i d1).size=d1.size∧∀ k,k<(Sort.siftDown (ltF c) hi a i d1).size→(Sort.siftDown (ltF c) hi a i d1)[k]! < N):=Us (hi - i) i d1 (Nr _) (by have:=f.out.2.2.1;omega) f.out.2.1;rw [z1];go_wp2_with (go_at_call 310;refine C.out.mono ?_;rintro e w2 ⟨rfl,h⟩;have H1:=Hd h;clear h)
   go_roundg i
   case measure=>omega
   case rel=>exact ⟨i,Sort.siftDown (ltF c) hi a i d1,γ,rfl,σ,H1.out,z.out.2,z.out.1.trans f.out.2.2.1,f.out.2.2.2⟩
theorem SwpW.new {w1:World} (h:SrtW w w1 g o d):SwpW w (w1.alloc (.cells #[I 0] 3)) g o d w1.heap.size 0 :=
  ⟨h.kept β1,World.cell?_alloc_at _ _ _ _ rfl,World.frozen?_alloc_at _ _ _ _ rfl,h.gr.size,fun e=>by have:=h.lt;omega⟩
def hintN:Sort.Hint→Nat
  | .unknown=>0
  | .increasing=>1
  | .decreasing=>2
def hintS (s:Nat):Sort.Hint:=if s=0 then .increasing else if s=12 then .decreasing else .unknown
theorem choose_eq {lt:Nat→Nat→Bool} {l:Nat}:Sort.choosePivot lt d a (a+l) =
    ((if l ≥ 8 then (if l ≥ 50 then Sort.median lt d (Sort.medianAdjacent lt d (a+l / 4*1) 0).1 (Sort.medianAdjacent lt d (a+l / 4*2) (Sort.medianAdjacent lt d (a+l / 4*1) 0).2).1 (Sort.medianAdjacent lt d (a+l / 4*3) (Sort.medianAdjacent lt d (a+l / 4*2) (Sort.medianAdjacent lt d (a+l / 4*1) 0).2).2).1 (Sort.medianAdjacent lt d (a+l / 4*3) (Sort.medianAdjacent lt d (a+l / 4*2) (Sort.medianAdjacent lt d (a+l / 4*1) 0).2).2).2 else Sort.median lt d (a+l / 4*1) (a+l / 4*2) (a+l / 4*3) 0) else (a+l / 4*2,0)).1,
     hintS (if l ≥ 8 then (if l ≥ 50 then Sort.median lt d (Sort.medianAdjacent lt d (a+l / 4*1) 0).1 (Sort.medianAdjacent lt d (a+l / 4*2) (Sort.medianAdjacent lt d (a+l / 4*1) 0).2).1 (Sort.medianAdjacent lt d (a+l / 4*3) (Sort.medianAdjacent lt d (a+l / 4*2) (Sort.medianAdjacent lt d (a+l / 4*1) 0).2).2).1 (Sort.medianAdjacent lt d (a+l / 4*3) (Sort.medianAdjacent lt d (a+l / 4*2) (Sort.medianAdjacent lt d (a+l / 4*1) 0).2).2).2 else Sort.median lt d (a+l / 4*1) (a+l / 4*2) (a+l / 4*3) 0) else (a+l / 4*2,0)).2):=by
  unfold Sort.choosePivot hintS;dsimp only;rw [Nat.add_sub_cancel_left]
theorem choose_any (w:World) (g o n j a b N:Nat) (p:Value) (f:Nat→Nat→Int) (A:CmpF w g N p f) (d:Array Nat) (B:d.size=n) (z:∀ k,k<d.size→d[k]! < N) (a7:a<b) (a8:b≤n) (M:n≤300) (w1:World) (T:SrtW w w1 g o d) :
    Cl 290 #[.slice (Ad g o) n j,I (a:Int),I (b:Int),.func (.func 216) #[p] #[]] w1 fun e w'=>e=.returned (.tuple #[I ((Sort.choosePivot (ltF f) d a b).1:Int),I (hintN (Sort.choosePivot (ltF f) d a b).2:Int)])∧SrtW w w' g o d:=by
  obtain ⟨l,U⟩:∃ l:Nat,b=a+l:=⟨b - a,γ⟩;have e2:(b:Int) - (a:Int)=(l:Int):=γ;have K:=Hd (SwpW.new T);have i:=choose_eq (lt:=ltF f) (d:=d) (a:=a) (l:=l);rw [← U] at i;obtain ⟨R,hR⟩:∃ R,R=Sort.choosePivot (ltF f) d a b:=⟨_,rfl⟩;rw [← hR] at i ⊢;clear hR;have zg:=T.lt;by_cases h8:l ≥ 8
  · have j8:(8:Int)≤(l:Int):=γ
    rw [if_pos h8] at i;by_cases h50:l ≥ 50
    · have a6:(50:Int)≤(l:Int):=γ
      rw [if_pos h50] at i;obtain ⟨x1,t⟩:∃ x:Nat,x=a+l / 4*1:=⟨_,rfl⟩;obtain ⟨x2,m⟩:∃ x:Nat,x=a+l / 4*2:=⟨_,rfl⟩;obtain ⟨x3,u⟩:∃ x:Nat,x=a+l / 4*3:=⟨_,rfl⟩;have y1:(a:Int)+(l:Int) / 4=(x1:Int):=γ;have y2:(a:Int)+(l:Int) / 4*2=(x2:Int):=γ;have y3:(a:Int)+(l:Int) / 4*3=(x3:Int):=γ;rw [← t,← m,← u] at i;have V:Hid (∀ W,SwpW w W g o d w1.heap.size 0→Cl 311 #[.slice (Ad g o) n j,I (x1:Int),.pointer (Az w1.heap.size),.func (.func 216) #[p] #[]] W fun e w'=>e=.returned (I ((Sort.medianAdjacent (ltF f) d x1 0).1:Int))∧SwpW w w' g o d w1.heap.size (Sort.medianAdjacent (ltF f) d x1 0).2):=fun W v=>Xl w g o n j x1 N w1.heap.size 0 p f A d B z γ γ M γ W v;have b1:(Sort.medianAdjacent (ltF f) d x1 0).1<n∧(Sort.medianAdjacent (ltF f) d x1 0).2≤0+3:=Ve γ γ γ;obtain ⟨⟨G,C⟩,O⟩:∃ r,r=Sort.medianAdjacent (ltF f) d x1 0:=⟨_,rfl⟩;rw [← O] at V b1 i;dsimp only at V b1 i;have X:Hid (∀ W,SwpW w W g o d w1.heap.size C→Cl 311 #[.slice (Ad g o) n j,I (x2:Int),.pointer (Az w1.heap.size),.func (.func 216) #[p] #[]] W fun e w'=>e=.returned (I ((Sort.medianAdjacent (ltF f) d x2 C).1:Int))∧SwpW w w' g o d w1.heap.size (Sort.medianAdjacent (ltF f) d x2 C).2):=fun W v=>Xl w g o n j x2 N w1.heap.size C p f A d B z γ γ M γ W v;have b2:(Sort.medianAdjacent (ltF f) d x2 C).1<n∧(Sort.medianAdjacent (ltF f) d x2 C).2≤C+3:=Ve γ γ γ;obtain ⟨⟨H,D⟩,P⟩:∃ r,r=Sort.medianAdjacent (ltF f) d x2 C:=⟨_,rfl⟩;rw [← P] at X b2 i;dsimp only at X b2 i;have Y:Hid (∀ W,SwpW w W g o d w1.heap.size D→Cl 311 #[.slice (Ad g o) n j,I (x3:Int),.pointer (Az w1.heap.size),.func (.func 216) #[p] #[]] W fun e w'=>e=.returned (I ((Sort.medianAdjacent (ltF f) d x3 D).1:Int))∧SwpW w w' g o d w1.heap.size (Sort.medianAdjacent (ltF f) d x3 D).2):=fun W v=>Xl w g o n j x3 N w1.heap.size D p f A d B z γ γ M γ W v;have b3:(Sort.medianAdjacent (ltF f) d x3 D).1<n∧(Sort.medianAdjacent (ltF f) d x3 D).2≤D+3:=Ve γ γ γ;obtain ⟨⟨J,E⟩,Q⟩:∃ r,r=Sort.medianAdjacent (ltF f) d x3 D:=⟨_,rfl⟩;rw [← Q] at Y b3 i;dsimp only at Y b3 i;have F:Hid (∀ W,SwpW w W g o d w1.heap.size E→Cl 312 #[.slice (Ad g o) n j,I (G:Int),I (H:Int),I (J:Int),.pointer (Az w1.heap.size),.func (.func 216) #[p] #[]] W fun e w'=>e=.returned (I ((Sort.median (ltF f) d G H J E).1:Int))∧SwpW w w' g o d w1.heap.size (Sort.median (ltF f) d G H J E).2):=fun W v=>Uu w g o n j G H J N w1.heap.size E p f A d B z γ γ γ M γ W v;have b4:(Sort.median (ltF f) d G H J E).1<n∧(Sort.median (ltF f) d G H J E).2≤E+3:=Ve γ γ γ;obtain ⟨⟨p4,y⟩,s⟩:∃ r,r=Sort.median (ltF f) d G H J E:=⟨_,rfl⟩;rw [← s] at F b4 i;dsimp only at F b4 i;have L:=Hd i;have a2:y≤300:=γ;clear i U t m u A B z T b1 b2 b3 b4 O P Q s;go_enter Tryz.func290,Tryz.ntmps290;first
      | go_wp2_with (first | (go_at_call 311;refine (V.out _ K.out).mono ?_;rintro e w2 ⟨rfl,h⟩;have H1:=Hd h;clear h K) | (go_at_call 311;refine (X.out _ H1.out).mono ?_;rintro e w3 ⟨rfl,h⟩;have H2:=Hd h;clear h H1) | (go_at_call 311;refine (Y.out _ H2.out).mono ?_;rintro e w4 ⟨rfl,h⟩;have H3:=Hd h;clear h H2) | (go_at_call 312;refine (F.out _ H3.out).mono ?_;rintro e w5 ⟨rfl,h⟩;have Z:=Hd h;have cc:=h.c;clear h H3))
      all_goals
        go_ret2
        refine ⟨?_,Z.out.r⟩;rw [L.out];simp only [beq_iff_eq,beq_eq_false_iff_ne,ne_eq] at *;first
        | (have q:hintS y=.increasing:=by unfold hintS;rw [if_pos γ]
           rw [q];rfl)
        | (have q:hintS y=.decreasing:=by unfold hintS;rw [if_neg γ,if_pos γ]
           rw [q];rfl)
        | (have q:hintS y=.unknown:=by unfold hintS;rw [if_neg γ,if_neg γ]
           rw [q];rfl)
    · have a6:¬ (50:Int)≤(l:Int):=γ
      rw [if_neg h50] at i;obtain ⟨x1,t⟩:∃ x:Nat,x=a+l / 4*1:=⟨_,rfl⟩;obtain ⟨x2,m⟩:∃ x:Nat,x=a+l / 4*2:=⟨_,rfl⟩;obtain ⟨x3,u⟩:∃ x:Nat,x=a+l / 4*3:=⟨_,rfl⟩;have y1:(a:Int)+(l:Int) / 4=(x1:Int):=γ;have y2:(a:Int)+(l:Int) / 4*2=(x2:Int):=γ;have y3:(a:Int)+(l:Int) / 4*3=(x3:Int):=γ;rw [← t,← m,← u] at i;have F:Hid (∀ W,SwpW w W g o d w1.heap.size 0→Cl 312 #[.slice (Ad g o) n j,I (x1:Int),I (x2:Int),I (x3:Int),.pointer (Az w1.heap.size),.func (.func 216) #[p] #[]] W fun e w'=>e=.returned (I ((Sort.median (ltF f) d x1 x2 x3 0).1:Int))∧SwpW w w' g o d w1.heap.size (Sort.median (ltF f) d x1 x2 x3 0).2):=fun W v=>Uu w g o n j x1 x2 x3 N w1.heap.size 0 p f A d B z γ γ γ M γ W v;have b4:(Sort.median (ltF f) d x1 x2 x3 0).1<n∧(Sort.median (ltF f) d x1 x2 x3 0).2≤0+3:=Ve γ γ γ;obtain ⟨⟨p4,y⟩,s⟩:∃ r,r=Sort.median (ltF f) d x1 x2 x3 0:=⟨_,rfl⟩;rw [← s] at F b4 i;dsimp only at F b4 i;have L:=Hd i;have a2:y≤300:=γ;clear i U t m u A B z T b4 s;go_enter Tryz.func290,Tryz.ntmps290;go_wp2_with (go_at_call 312;refine (F.out _ K.out).mono ?_;rintro e w5 ⟨rfl,h⟩;have Z:=Hd h;have cc:=h.c;clear h K)
      all_goals
        go_ret2
        refine ⟨?_,Z.out.r⟩;rw [L.out];simp only [beq_iff_eq,beq_eq_false_iff_ne,ne_eq] at *;first
        | (have q:hintS y=.increasing:=by unfold hintS;rw [if_pos γ]
           rw [q];rfl)
        | (have q:hintS y=.decreasing:=by unfold hintS;rw [if_neg γ,if_pos γ]
           rw [q];rfl)
        | (have q:hintS y=.unknown:=by unfold hintS;rw [if_neg γ,if_neg γ]
           rw [q];rfl)
  · have j8:¬ (8:Int)≤(l:Int):=γ
    rw [if_neg h8] at i;obtain ⟨x2,m⟩:∃ x:Nat,x=a+l / 4*2:=⟨_,rfl⟩;have y2:(a:Int)+(l:Int) / 4*2=(x2:Int):=γ;rw [← m] at i;have L:=Hd i;have hk:SrtW w (w1.alloc (.cells #[I 0] 3)) g o d:=K.out.r;clear i U m A B z T;go_enter Tryz.func290,Tryz.ntmps290;go_wp2;go_ret2
    refine ⟨?_,hk⟩;rw [L.out];rfl
theorem partEq_any (w:World) (g o n ad a b pv N:Nat) (rv:Value) (m:Nat→Nat→Int) (hc:CmpF w g N rv m) (d:Array Nat) (hd:d.size=n) (hN:∀ k,k<d.size→d[k]! < N) (am:a<pv) (au:pv<b) (an:b≤n) (hn:n≤300) (w1:World) (hw:SrtW w w1 g o d) :
  Cl 293 #[.slice (Ad g o) n ad,I (a:Int),I (b:Int),I (pv:Int),.func (.func 216) #[rv] #[]] w1 fun e w'=>e=.returned (I ((Sort.partitionEqual (ltF m) d a b pv).1:Int))∧SrtW w w' g o (Sort.partitionEqual (ltF m) d a b pv).2:=by
 have HC:Hid (CmpF w g N rv m):=hc;have ar:a≠pv:=γ;obtain ⟨r1,f1⟩:=hw.row pv γ;obtain ⟨r0,f0⟩:=hw.row a γ;have zg:=hw.lt;obtain ⟨x,hx⟩:∃ x,x=d[pv]!:=⟨_,rfl⟩;obtain ⟨y,hy⟩:∃ y,y=d[a]!:=⟨_,rfl⟩;have s:=hw.swp_any (i:=a) (j:=pv) γ γ;rw [← hx,← hy] at s;rw [← hx] at r1;rw [← hy] at r0;have J:Hid (SrtW w ((w1.setCell ⟨g,o+a,none⟩ (I (x:Int))).setCell ⟨g,o+pv,none⟩ (I (y:Int))) g o (Sort.swp d a pv)):=s;have a2:Hid ((∀ k,k<(Sort.swp d a pv).size→(Sort.swp d a pv)[k]! < N)∧(Sort.swp d a pv).size=n):=⟨Jv hN γ γ,(Sort.size_swp ..).trans hd⟩;obtain ⟨T,hT⟩:∃ T,T=Sort.partitionEqual (ltF m) d a b pv:=⟨_,rfl⟩;have HT:Hid (Sort.partEqLoop (ltF m) a (a+1) (b - 1) (Sort.swp d a pv)=T):=hT.symm;rw [← hT];obtain ⟨b',ae⟩:∃ b',b=b'+1:=⟨b - 1,γ⟩;have i2:(a:Int)<(n:Int):=γ;have i3:(pv:Int)<(n:Int):=γ;have k2:(0:Int)≤(a:Int):=γ;have k3:(0:Int)≤(pv:Int):=γ;subst ae;rw [Nat.add_sub_cancel] at HT;clear hc hw hN hd hT hx hy s;go_enter Tryz.func293,Tryz.ntmps293;go_wp2;go_region
 all_goals
  go_wp2;go_loopg [11,12] (b'+1 - (a+1)) (fun gk a7 U wx=>∃ (i j:Nat) (d1:Array Nat),a+1≤i∧i≤j+1∧j≤b'∧gk=j+1 - i∧a7=I (i:Int)∧U=I (j:Int)∧SrtW w wx g o d1∧(∀ k,k<d1.size→d1[k]! < N)∧d1.size=n∧Sort.partEqLoop (ltF m) a i j d1=T)
  case atStart=>exact ⟨a+1,b',Sort.swp d a pv,Nr _,γ,Nr _,rfl,σ,rfl,J.out.kept (Qg (Qe _)),a2.out.1,a2.out.2,HT.out⟩
  case round =>
   clear J a2 HT r1 f1 r0 f0;obtain ⟨i,j,d1,ak,af,aq,rfl,rfl,rfl,hS,aa,ac,ab⟩:=hrel;have HS:Hid (SrtW w wr g o d1):=hS;have D:Hid ((∀ k,k<d1.size→d1[k]! < N)∧d1.size=n∧Sort.partEqLoop (ltF m) a i j d1=T):=⟨aa,ac,ab⟩;clear hS aa ac ab;go_wp2;go_loopg [11] (j+1 - i) (fun gk a7 wx=>∃ f:Nat,i≤f∧f≤j+1∧gk=j+1 - f∧a7=I (f:Int)∧SrtW w wx g o d1∧Sort.scanUp (fun x => !ltF m d1[a]! x) d1 j f=Sort.scanUp (fun x => !ltF m d1[a]! x) d1 j i)
   case atStart=>exact ⟨i,Nr _,af,rfl,rfl,HS.out,rfl⟩
   case round =>
    clear HS;obtain ⟨f,ao,ap,rfl,rfl,z,a8⟩:=hrel;have H2:Hid (SrtW w wr g o d1):=z;have HU:Hid (Sort.scanUp (fun x => !ltF m d1[a]! x) d1 j f=Sort.scanUp (fun x => !ltF m d1[a]! x) d1 j i):=a8;clear z a8;by_cases h1:f≤j
    ·have t1:(f:Int)≤(j:Int):=γ;have X:=D.out.2.1;obtain ⟨R,Z⟩:=H2.out.row f γ;obtain ⟨Q,Y⟩:=H2.out.row a γ;have lk:=D.out.1 f γ;have P:=D.out.1 a γ;have zh:=H2.out.lt;obtain ⟨u,H⟩:∃ u,u=d1[a]!:=⟨_,rfl⟩;obtain ⟨v,hv⟩:∃ v,v=d1[f]!:=⟨_,rfl⟩;rw [← hv] at R lk;rw [← H] at Q P;have M:Hid (u=d1[a]! ∧ v=d1[f]!):=⟨H,hv⟩;have G:Hid (∀ W:World,Bl wr W→Rt 216 #[rv,I (u:Int),I (v:Int)] W (I (m u v))):=fun W hW=>HC.out W (H2.out.kept hW).gr u v P lk;obtain ⟨c,r⟩:∃ c,c=m u v:=⟨_,rfl⟩
     have p:Hid (ltF m d1[a]! d1[f]! = decide (c<0)):=by
      have:ltF m d1[a]! d1[f]! = decide (c<0):=by rw [r,H,hv];rfl
      exact this
     rw [← r] at G;have iK:(f:Int)<(n:Int):=γ;have kK:(0:Int)≤(f:Int):=γ;clear H hv r lk P;by_cases q:c<0
     ·have K:decide (c<0)=true:=decide_eq_true q;go_wp2;obtain ⟨A,B⟩:=kcn wr;refine wk ?_;repeat (go_big_quiet_step ((go_at_call 216;exact Qf (G.out _ (Kin.h _)))))
      refine kq1 (fun C hq=>?_);clear A B
      have HI:Hid (f=Sort.scanUp (fun x => !ltF m d1[a]! x) d1 j i):=by
       have:f=Sort.scanUp (fun x => !ltF m d1[a]! x) d1 j i:=by
        rw [← HU.out];exact (Go.Proofs.scanUp_end _ d1 j f (Or.inr (by rw [p.out,K];rfl))).symm
       exact this
      have t:Hid (SrtW w C g o d1):=H2.out.kept hq;clear R Q Z Y hq G M p HU H2 q K zh;go_wp2;go_loopg [12] j (fun gk U wx=>∃ l:Nat,l≤j∧f≤l+1∧l=gk∧U=I (l:Int)∧SrtW w wx g o d1∧Sort.scanDown (fun x=>ltF m d1[a]! x) d1 f l=Sort.scanDown (fun x=>ltF m d1[a]! x) d1 f j)
      case atStart=>exact ⟨j,Nr _,γ,rfl,rfl,t.out,rfl⟩
      case round =>
       clear t;obtain ⟨l,ag,ah,rfl,rfl,z,O⟩:=hrel;have H2:Hid (SrtW w wr g o d1):=z;have V:Hid (Sort.scanDown (fun x=>ltF m d1[a]! x) d1 f l=Sort.scanDown (fun x=>ltF m d1[a]! x) d1 f j):=O;clear z O;by_cases h2:f≤l
       ·have t2:(f:Int)≤(l:Int):=γ;have X:=D.out.2.1;obtain ⟨R,Z⟩:=H2.out.row l γ;obtain ⟨Q,Y⟩:=H2.out.row a γ;have lk:=D.out.1 l γ;have P:=D.out.1 a γ;have zh:=H2.out.lt;obtain ⟨u,H⟩:∃ u,u=d1[a]!:=⟨_,rfl⟩;obtain ⟨v,hv⟩:∃ v,v=d1[l]!:=⟨_,rfl⟩;rw [← hv] at R lk;rw [← H] at Q P;have M:Hid (u=d1[a]! ∧ v=d1[l]!):=⟨H,hv⟩;have G:Hid (∀ W:World,Bl wr W→Rt 216 #[rv,I (u:Int),I (v:Int)] W (I (m u v))):=fun W hW=>HC.out W (H2.out.kept hW).gr u v P lk;obtain ⟨c,r⟩:∃ c,c=m u v:=⟨_,rfl⟩
        have p:Hid (ltF m d1[a]! d1[l]! = decide (c<0)):=by
         have:ltF m d1[a]! d1[l]! = decide (c<0):=by rw [r,H,hv];rfl
         exact this
        rw [← r] at G;have iK:(l:Int)<(n:Int):=γ;have kK:(0:Int)≤(l:Int):=γ;clear H hv r lk P;by_cases q:c<0
        ·have K:decide (c<0)=true:=decide_eq_true q;go_wp2;obtain ⟨A,B⟩:=kcn wr;refine wk ?_;repeat (go_big_quiet_step ((go_at_call 216;exact Qf (G.out _ (Kin.h _)))))
         refine kq1 (fun C hq=>?_);clear A B;clear R Q Z Y;go_wp2;go_roundg (l - 1)
         case measure=>omega
         case rel=>exact ⟨l - 1,γ,γ,rfl,σ,H2.out.kept hq,by rw [← V.out];exact (Go.Proofs.scanDown_go _ d1 f l h2 γ (by rw [p.out];exact K)).symm⟩
        ·have K:decide (c<0)=false:=decide_eq_false q;go_wp2;obtain ⟨A,B⟩:=kcn wr;refine wk ?_;repeat (go_big_quiet_step ((go_at_call 216;exact Qf (G.out _ (Kin.h _)))))
         refine kq1 (fun C hq=>?_);clear A B
         have HX:Hid (l=Sort.scanDown (fun x=>ltF m d1[a]! x) d1 f j):=by
          have:l=Sort.scanDown (fun x=>ltF m d1[a]! x) d1 f j:=by
           rw [← V.out];exact (Go.Proofs.scanDown_end _ d1 f l (Or.inr (by rw [p.out];exact K))).symm
          exact this
         have ai:f<l:=Go.Proofs.scans_lt (ltF m) a i j d1 γ HI.out HX.out h2
         have a6:Hid (Sort.partEqLoop (ltF m) a (f+1) (l - 1) (Sort.swp d1 f l)=T):=by
          have:Sort.partEqLoop (ltF m) a (f+1) (l - 1) (Sort.swp d1 f l)=T:=by
           rw [← D.out.2.2];exact (Go.Proofs.partEq_go (ltF m) a i j d1 HI.out HX.out γ).symm
          exact this
         have t:Hid (SrtW w C g o d1):=H2.out.kept hq;clear R Q Z Y hq G M p V H2;obtain ⟨r4,f4⟩:=t.out.row l γ;obtain ⟨r5,f5⟩:=t.out.row f γ;have zq:=t.out.lt;have s:=t.out.swap (i:=f) (j:=l) γ γ γ;obtain ⟨x2,E⟩:∃ x,x=d1[l]!:=⟨_,rfl⟩;obtain ⟨y2,F⟩:∃ y,y=d1[f]!:=⟨_,rfl⟩;rw [← E,← F] at s;rw [← E] at r4;rw [← F] at r5;have J:Hid (SrtW w ((C.setCell ⟨g,o+f,none⟩ (I (x2:Int))).setCell ⟨g,o+l,none⟩ (I (y2:Int))) g o (Sort.swp d1 f l)):=s;have L:Hid ((∀ k,k<(Sort.swp d1 f l).size→(Sort.swp d1 f l)[k]! < N)∧(Sort.swp d1 f l).size=n):=⟨Jv D.out.1 γ γ,(Sort.size_swp ..).trans X⟩;have aj:f≠l:=γ;have t3:(f:Int)<(n:Int):=γ;have t4:(0:Int)≤(f:Int):=γ;have t5:¬ (l:Int)<(f:Int):=γ;clear E F s;go_wp2;go_region
         all_goals
          go_wp2;go_roundg (l - 1+1 - (f+1))
          case measure=>omega
          case rel=>exact ⟨f+1,l - 1,Sort.swp d1 f l,γ,γ,γ,rfl,σ,σ,J.out.kept (Qg (Qe _)),L.out.1,L.out.2,a6.out⟩
       ·have t2:¬ (f:Int)≤(l:Int):=γ;have t5:(l:Int)<(f:Int):=γ;go_wp2;obtain ⟨A,B⟩:=kcn wr;refine wk ?_;repeat (go_big_quiet_step (fail))
        refine kq1 (fun C hq=>?_);clear A B
        have HX:Hid (l=Sort.scanDown (fun x=>ltF m d1[a]! x) d1 f j):=by
         have:l=Sort.scanDown (fun x=>ltF m d1[a]! x) d1 f j:=by
          rw [← V.out];exact (Go.Proofs.scanDown_end _ d1 f l (Or.inl h2)).symm
         exact this
        have HE:Hid (T=(f,d1)):=by
         have:T=(f,d1):=by
          rw [← D.out.2.2];exact Go.Proofs.partEq_break (ltF m) a i j d1 HI.out HX.out γ
         exact this
        have t:Hid (SrtW w C g o d1):=H2.out.kept hq;clear hq;go_wp2;go_ret;rw [HE.out];exact ⟨rfl,t.out⟩
     ·have K:decide (c<0)=false:=decide_eq_false q;go_wp2;obtain ⟨A,B⟩:=kcn wr;refine wk ?_;repeat (go_big_quiet_step ((go_at_call 216;exact Qf (G.out _ (Kin.h _)))))
      refine kq1 (fun C hq=>?_);clear A B;clear R Q Z Y;go_wp2;go_roundg (j+1 - (f+1))
      case measure=>omega
      case rel=>exact ⟨f+1,γ,γ,rfl,σ,H2.out.kept hq,by rw [← HU.out];exact (Go.Proofs.scanUp_go _ d1 j f h1 (by rw [p.out,K];rfl)).symm⟩
    ·have t1:¬ (f:Int)≤(j:Int):=γ;go_wp2;obtain ⟨A,B⟩:=kcn wr;refine wk ?_;repeat (go_big_quiet_step (fail))
     refine kq1 (fun C hq=>?_);clear A B
     have HI:Hid (f=Sort.scanUp (fun x => !ltF m d1[a]! x) d1 j i):=by
      have:f=Sort.scanUp (fun x => !ltF m d1[a]! x) d1 j i:=by
       rw [← HU.out];exact (Go.Proofs.scanUp_end _ d1 j f (Or.inl h1)).symm
      exact this
     have t:Hid (SrtW w C g o d1):=H2.out.kept hq;clear hq HU H2;go_wp2;go_loopg [12] j (fun gk U wx=>∃ l:Nat,l≤j∧f≤l+1∧l=gk∧U=I (l:Int)∧SrtW w wx g o d1∧Sort.scanDown (fun x=>ltF m d1[a]! x) d1 f l=Sort.scanDown (fun x=>ltF m d1[a]! x) d1 f j)
     case atStart=>exact ⟨j,Nr _,γ,rfl,rfl,t.out,rfl⟩
     case round =>
      clear t;obtain ⟨l,ag,ah,rfl,rfl,z,O⟩:=hrel;have H2:Hid (SrtW w wr g o d1):=z;have V:Hid (Sort.scanDown (fun x=>ltF m d1[a]! x) d1 f l=Sort.scanDown (fun x=>ltF m d1[a]! x) d1 f j):=O;clear z O;by_cases h2:f≤l
      ·have t2:(f:Int)≤(l:Int):=γ;have X:=D.out.2.1;obtain ⟨R,Z⟩:=H2.out.row l γ;obtain ⟨Q,Y⟩:=H2.out.row a γ;have lk:=D.out.1 l γ;have P:=D.out.1 a γ;have zh:=H2.out.lt;obtain ⟨u,H⟩:∃ u,u=d1[a]!:=⟨_,rfl⟩;obtain ⟨v,hv⟩:∃ v,v=d1[l]!:=⟨_,rfl⟩;rw [← hv] at R lk;rw [← H] at Q P;have M:Hid (u=d1[a]! ∧ v=d1[l]!):=⟨H,hv⟩;have G:Hid (∀ W:World,Bl wr W→Rt 216 #[rv,I (u:Int),I (v:Int)] W (I (m u v))):=fun W hW=>HC.out W (H2.out.kept hW).gr u v P lk;obtain ⟨c,r⟩:∃ c,c=m u v:=⟨_,rfl⟩
       have p:Hid (ltF m d1[a]! d1[l]! = decide (c<0)):=by
        have:ltF m d1[a]! d1[l]! = decide (c<0):=by rw [r,H,hv];rfl
        exact this
       rw [← r] at G;have iK:(l:Int)<(n:Int):=γ;have kK:(0:Int)≤(l:Int):=γ;clear H hv r lk P;by_cases q:c<0
       ·have K:decide (c<0)=true:=decide_eq_true q;go_wp2;obtain ⟨A,B⟩:=kcn wr;refine wk ?_;repeat (go_big_quiet_step ((go_at_call 216;exact Qf (G.out _ (Kin.h _)))))
        refine kq1 (fun C hq=>?_);clear A B;clear R Q Z Y;go_wp2;go_roundg (l - 1)
        case measure=>omega
        case rel=>exact ⟨l - 1,γ,γ,rfl,σ,H2.out.kept hq,by rw [← V.out];exact (Go.Proofs.scanDown_go _ d1 f l h2 γ (by rw [p.out];exact K)).symm⟩
       ·have K:decide (c<0)=false:=decide_eq_false q;go_wp2;obtain ⟨A,B⟩:=kcn wr;refine wk ?_;repeat (go_big_quiet_step ((go_at_call 216;exact Qf (G.out _ (Kin.h _)))))
        refine kq1 (fun C hq=>?_);clear A B
        have HX:Hid (l=Sort.scanDown (fun x=>ltF m d1[a]! x) d1 f j):=by
         have:l=Sort.scanDown (fun x=>ltF m d1[a]! x) d1 f j:=by
          rw [← V.out];exact (Go.Proofs.scanDown_end _ d1 f l (Or.inr (by rw [p.out];exact K))).symm
         exact this
        have ai:f<l:=Go.Proofs.scans_lt (ltF m) a i j d1 γ HI.out HX.out h2
        have a6:Hid (Sort.partEqLoop (ltF m) a (f+1) (l - 1) (Sort.swp d1 f l)=T):=by
         have:Sort.partEqLoop (ltF m) a (f+1) (l - 1) (Sort.swp d1 f l)=T:=by
          rw [← D.out.2.2];exact (Go.Proofs.partEq_go (ltF m) a i j d1 HI.out HX.out γ).symm
         exact this
        have t:Hid (SrtW w C g o d1):=H2.out.kept hq;clear R Q Z Y hq G M p V H2;obtain ⟨r4,f4⟩:=t.out.row l γ;obtain ⟨r5,f5⟩:=t.out.row f γ;have zq:=t.out.lt;have s:=t.out.swap (i:=f) (j:=l) γ γ γ;obtain ⟨x2,E⟩:∃ x,x=d1[l]!:=⟨_,rfl⟩;obtain ⟨y2,F⟩:∃ y,y=d1[f]!:=⟨_,rfl⟩;rw [← E,← F] at s;rw [← E] at r4;rw [← F] at r5;have J:Hid (SrtW w ((C.setCell ⟨g,o+f,none⟩ (I (x2:Int))).setCell ⟨g,o+l,none⟩ (I (y2:Int))) g o (Sort.swp d1 f l)):=s;have L:Hid ((∀ k,k<(Sort.swp d1 f l).size→(Sort.swp d1 f l)[k]! < N)∧(Sort.swp d1 f l).size=n):=⟨Jv D.out.1 γ γ,(Sort.size_swp ..).trans X⟩;have aj:f≠l:=γ;have t3:(f:Int)<(n:Int):=γ;have t4:(0:Int)≤(f:Int):=γ;have t5:¬ (l:Int)<(f:Int):=γ;clear E F s;go_wp2;go_region
        all_goals
         go_wp2;go_roundg (l - 1+1 - (f+1))
         case measure=>omega
         case rel=>exact ⟨f+1,l - 1,Sort.swp d1 f l,γ,γ,γ,rfl,σ,σ,J.out.kept (Qg (Qe _)),L.out.1,L.out.2,a6.out⟩
      ·have t2:¬ (f:Int)≤(l:Int):=γ;have t5:(l:Int)<(f:Int):=γ;go_wp2;obtain ⟨A,B⟩:=kcn wr;refine wk ?_;repeat (go_big_quiet_step (fail))
       refine kq1 (fun C hq=>?_);clear A B
       have HX:Hid (l=Sort.scanDown (fun x=>ltF m d1[a]! x) d1 f j):=by
        have:l=Sort.scanDown (fun x=>ltF m d1[a]! x) d1 f j:=by
         rw [← V.out];exact (Go.Proofs.scanDown_end _ d1 f l (Or.inl h2)).symm
        exact this
       have HE:Hid (T=(f,d1)):=by
        have:T=(f,d1):=by
         rw [← D.out.2.2];exact Go.Proofs.partEq_break (ltF m) a i j d1 HI.out HX.out γ
        exact this
       have t:Hid (SrtW w C g o d1):=H2.out.kept hq;clear hq;go_wp2;go_ret;rw [HE.out];exact ⟨rfl,t.out⟩
def Lv (S:List (T3×List T3)) (L:List T3) (f:Nat→Int) (m k:Nat):Prop := ∀ i (_:i<L.length) m' k' (hm:m'<S.length) (hk:k'<S[m'].2.length),S[m'].2[k']=L[i]→(m'<m∨m'=m∧k'<k)→f i=(k':Int)
theorem lv_zero (S:List (T3×List T3)) (L:List T3) (f:Nat→Int):Lv S L f 0 0:=fun i _ b a _ _ _ h=>by omega
theorem mem_sofar {S:List (T3×List T3)} (h1:m<S.length) (d:a<S.length) (c:b<S[a].2.length) (h:a<m∨a=m∧b<k):S[a].2[b]∈allS (S.take m) ++ S[m].2.take k:=by
 rcases h with h | ⟨rfl,h⟩
 ·refine List.mem_append_left _ ?_;unfold allS;rw [List.mem_flatMap];refine ⟨S[a], ?_,Lm c⟩;rw [List.mem_take_iff_getElem];exact ⟨a,γ,rfl⟩
 ·refine List.mem_append_right _ ?_;rw [List.mem_take_iff_getElem];exact ⟨b,γ,rfl⟩
theorem Lv.step {S:List (T3×List T3)} (h:Lv S L f m k) (n:L.Nodup) (h1:m<S.length) (h2:k<S[m].2.length) (hi:i<L.length) (e:L[i]=S[m].2[k]) (c:S[m].2[k] ∉ allS (S.take m) ++ S[m].2.take k):Lv S L (fun j=>if j=i then (k:Int) else f j) m (k+1):=by
 intro j d b a l g q o;by_cases hji:j=i
 ·subst hji;show (if j=j then (k:Int) else f j)=(a:Int)
  rw [if_pos rfl];by_cases hold:b<m∨b=m∧a<k
  ·exfalso
   have:=mem_sofar h1 l g hold;rw [q,e] at this;exact c this
  ·have:a=k:=γ;omega
 ·show (if j=i then (k:Int) else f j)=(a:Int)
  rw [if_neg hji];by_cases hold:b<m∨b=m∧a<k
  ·exact h j d b a l g q hold
  ·exfalso
   have h3:b=m:=γ;subst h3;have h4:a=k:=γ;subst h4;exact hji (Ys n d hi (q.symm.trans e.symm))
theorem Lv.next {S:List (T3×List T3)} (h:Lv S L f m k) (h1:m<S.length) (j:k=S[m].2.length):Lv S L f (m+1) 0:=fun i hi b g d a q c=>by
 refine h i hi b g d a q ?_;by_cases e:b=m
 ·subst e;exact Or.inr ⟨rfl,γ⟩
 ·exact Or.inl γ
def SeenV (L:List T3) (f:Nat→Int) (A:List T3) (S:List (T3×List T3)) (m k:Nat):Prop:=Seen L f A∧Lv S L f m k
def HgTv (L pl:List T3) (S:List (T3×List T3)) (w w':World) (e:Ending):Prop := ∃ a n c,∃ b:Bool,e=.returned (.tuple #[.slice a n c,.bool b])∧(b=true↔StOk L (plF pl) S)∧Bl w w'∧(b=true→∃ g f,a=Az g∧n=L.length∧ZRow w' g L.length f∧Lv S L f S.length 0∧w.heap.size≤g)
theorem heights_lv (w:World) (n cc pc sc ra rk gm cm:Nat) (ad pa sp:Option Addr) (L pl:List T3) (S:List (T3×List T3)) (hT:TRow w ad L) (hP:TRow w pa pl) (hS:SRow w sp S) (hn:n=L.length) (bh:pl.length=n) (av:L.Pairwise ltT) (bo:0<n) (hL:n≤300) (bz:S.length≤17592186044416) (ba:∀ s∈S,s.2.length≤17592186044416) :
  Cl 97 #[.agg #[.slice ad n cc,.map (some ra),.map (some rk),.slice (Az gm) n cm,.slice pa n pc],.slice sp S.length sc] w fun e w'=>HgTv L pl S w w' e:=by
 have A:=H7 hT hP hS hn bh (up_nodup av) ba
 have CN:Hid (∀ (W:World) (x y k:Int),Bl w W→Cl 71 #[.agg #[.slice ad n cc,.map (some ra),.map (some rk)],.agg #[I x,I y,I k]] W fun e w'=>NumTo L (x,y,k) W w' e):=fun W x y k hW=>by
  rw [hn];exact number_any W ad cc _ _ L x y k (hT.kept hW) av γ
 have hq:=neq23;clear hT hP hS hn bh av ba;go_enter Tryz.func97,Tryz.ntmps97;go_wp2_with (go_at_call 167;refine (repeat_any (-1) (w.heap.size+1) n _ γ δ).mono ?_;rintro e w1 ⟨rfl,an,hb⟩;have a2:=H2 (rp_zrow an) hb;clear an hb)
 obtain ⟨Q,aa⟩:∃ W,W=((w.alloc (.cells #[.slice ad n cc,.map (some ra),.map (some rk),.slice (Az gm) n cm,.slice pa n pc] 100)).alloc (.cells #[I (-1)] 3)):=⟨_,rfl⟩
 have HQ:Hid (At Q w.heap.size 0 (.slice ad n cc)∧At Q w.heap.size 1 (.map (some ra))∧At Q w.heap.size 2 (.map (some rk))∧At Q w.heap.size 4 (.slice pa n pc)):=by
  rw [aa];exact ⟨δ,δ,δ,δ⟩
 have hz:Q.heap.size=w.heap.size+2:=by rw [aa];simp
 have ax:Hid (Bl w Q):=by rw [aa];exact Qb β1
 rw [← aa] at a2;obtain ⟨g,hg⟩:∃ g,g=w.heap.size+1+1:=⟨_,rfl⟩;rw [show Q.heap.size=g by omega] at a2;have HG:Hid (g=w.heap.size+1+1∧Q.heap.size=g):=⟨hg,γ⟩;rw [← hg];clear aa hg hz;go_wp2;go_loopg [21] S.length (fun gk bq wx=>∃ (m:Nat) (f:Nat→Int),m≤S.length∧gk=S.length - m∧bq=I (m:Int)∧Pre L (plF pl) S m∧SeenV L f (allS (S.take m)) S m 0∧ZRow wx g n f∧Bl Q wx)
 case atStart=>exact ⟨0,_,γ,rfl,rfl,pre_zero _ _ _,⟨seen_start L,lv_zero _ _ _⟩,a2.out.1,a2.out.2⟩
 case round =>
  clear a2;obtain ⟨m,f,hm,rfl,rfl,ai,a7,hZ,hB⟩:=hrel;have Z:=H4 ai a7 hZ hB;have a:=Hd (Qc ax.out hB);clear ai a7 hZ hB;by_cases h1:m<S.length
  ·have i1:(m:Int)<(S.length:Int):=γ;have i0:(0:Int)≤(m:Int):=γ;obtain ⟨gs,sa,ag,rfl,c0,c1,c2,c3,bc⟩:=A.out.2.2.1 m h1;have bj:=Hd bc;replace c0:=Qa a.out c0;replace c1:=Qa a.out c1;replace c2:=Qa a.out c2;replace c3:=Qa a.out c3;have zs:=Bt c0;obtain ⟨X,Y,K,aq⟩:∃ X Y K,S[m].1=(X,Y,K):=⟨_,_,_,rfl⟩;obtain ⟨l,hl⟩:∃ l,l=S[m].2.length:=⟨_,rfl⟩;rw [aq] at c0 c1 c2;rw [← hl] at c3;dsimp only at c0 c1 c2;have F:=H2 aq hl
   have ca:l≤17592186044416:=by
    rw [hl];exact A.out.2.2.2.2.2.2 _ (Lm h1)
   clear bc aq hl;go_upto_region 5 with fail
   refine Qi (fun W0 hW0=>?_);obtain ⟨B,G⟩:∃ B,B=wr.heap.size:=⟨_,rfl⟩
   have N:Hid (Bl wr W0∧B=wr.heap.size):=by
    refine ⟨?_,G⟩;rw [hW0];with_reducible repeat (first | exact Qe _ | refine Qb ?_ | refine Qh ?_ ?_)
    all_goals (dsimp only;omega)
   have x0:At W0 B 0 (I X):=by rw [hW0,G];simp [go_sem]
   have x1:At W0 B 1 (I Y):=by rw [hW0,G];simp [go_sem]
   have x2:At W0 B 2 (I K):=by rw [hW0,G];simp [go_sem]
   have x3:At W0 B 3 (.slice sa l ag):=by rw [hW0,G];simp [go_sem]
   rw [← G];clear hW0 G c0 c1 c2 c3;have zB:=Bt x0
   obtain ⟨bb,r⟩:∃ bb:Bool,Hid (bb=false↔(l≠0∧∀ q (h:q+1=m),ltT (S[q]'γ).1 S[m].1)):=by
    by_cases q:l≠0∧∀ q (h:q+1=m),ltT (S[q]'γ).1 S[m].1
    ·exact ⟨false,⟨fun _=>q,fun _=>rfl⟩⟩
    ·exact ⟨true,⟨(fun h=>by cases h),fun h=>absurd h q⟩⟩
   go_cut [45] (fun br wx=>br=.bool bb∧Bl W0 wx)
   case first =>
    by_cases hl0:l=0
    ·have p:Hid (bb=true):=by
      cases q:bb
      ·exact absurd hl0 (r.out.1 q).1
      ·exact rfl
     subst hl0;obtain ⟨kc,kn⟩:=kcn W0;refine wk ?_;repeat (go_big_quiet_step (fail))
     refine kq1 (fun wq hq=>?_);clear kc kn;go_wp2;go_meet
     case rel=>exact ⟨by rw [p.out],hq⟩
    ·have ql:((l:Int) == 0)=false:=by simpa using hl0
     by_cases hm0:m=0
     ·have p:Hid (bb=false):=r.out.2 ⟨hl0,fun q h=>by omega⟩;subst hm0;obtain ⟨kc,kn⟩:=kcn W0;refine wk ?_;repeat (go_big_quiet_step (fail))
      refine kq1 (fun wq hq=>?_);clear kc kn;go_wp2;go_meet
      case rel=>exact ⟨by rw [p.out],hq⟩
     ·obtain ⟨V,rfl⟩:∃ V,m=V+1:=⟨m - 1,γ⟩;have bn:V<S.length:=γ;obtain ⟨bw,cd,bv,e1,d0,d1,d2,_,_⟩:=(A.out.2.2.1.kept (Qc a.out N.out.1)) V bn
      cases e1;obtain ⟨X',Y',K',ab⟩:∃ X Y K,S[V].1=(X,Y,K):=⟨_,_,_,rfl⟩;rw [ab] at d0 d1 d2;dsimp only at d0 d1 d2;have ce:=Bt d0;obtain ⟨c,hc⟩:∃ c,c=cmpT X' Y' K' X Y K:=⟨_,rfl⟩;have HC:Hid (∀ W:World,Rt 151 #[.agg #[I X',I Y',I K'],.agg #[I X,I Y,I K]] W (I c)):=fun W=>hc ▸ Yo X' Y' K' X Y K W
      have HL:Hid (bb=decide (0≤c)):=by
       have bf:c<0↔ltT S[V].1 S[V+1].1:=by rw [hc,ab,F.out.1];exact cmpT_lt0 _ _ _ _ _ _
       have:bb=decide (0≤c):=by
        cases q:bb
        ·have:=(r.out.1 q).2 V rfl;have:=bf.2 this;symm
         rw [decide_eq_false_iff_not];omega
        ·symm
         rw [decide_eq_true_eq];refine Int.not_lt.1 fun h=>?_
         have:=r.out.2 ⟨hl0,fun q' h'=>by
          obtain rfl:q'=V:=γ;exact bf.1 h⟩
         rw [q] at this
         cases this
       exact this
      have im:(0:Int)<((V+1:Nat):Int):=γ;have em:((V+1:Nat):Int) - 1=(V:Int):=γ;have cb:(V:Int)<(S.length:Int):=γ;clear hc ab hl0;obtain ⟨kc,kn⟩:=kcn W0;refine wk ?_;repeat (go_big_quiet_step ((go_at_call 151;exact Qf (HC.out _))))
      refine kq1 (fun wq hq=>?_);clear kc kn;go_wp2;go_meet
      case rel=>exact ⟨by rw [HL.out],hq⟩
   case rest =>
    obtain ⟨rfl,C⟩:=hcut;have ao:Hid (HgW Q wc g n f B X Y K (.slice sa l ag)):=⟨(Z.out.2.2.1.kept N.out.1).kept C,Qc Z.out.2.2.2 (Qc N.out.1 C),Qa C x0,Qa C x1,Qa C x2,Qa C x3⟩;have ay:=Hd (Qc a.out (Qc N.out.1 C));have b3:=ao.out.b3;have zb:=Bt b3
    have az:Hid (B≠g∧Q.heap.size≤g):=by
     have h:=Z.out.2.2.2.size;have h2:=HG.out;have h3:=N.out.2;have:=bk (Z.out.2.2.1 0 bo).1;exact ⟨by dsimp only at this;omega,γ⟩
    clear x0 x1 x2 x3 zB C
    cases bb
    ·have b5:Hid (Pri L (plF pl) S m 0 h1):=Z.out.1.start h1 (fun e=>(r.out.1 rfl).1 (by rw [F.out.2,e];rfl)) (r.out.1 rfl).2
     have b7:Hid (SeenV L f (allS (S.take m) ++ S[m].2.take 0) S m 0):=by
      have:=Z.out.2.1;rw [List.take_zero,List.append_nil];exact this
     clear Z a N r;go_wp2;clear b3 zb;go_loopg [49] l (fun gk bs wx=>∃ (k:Nat) (f':Nat→Int),k≤l∧gk=l - k∧bs=I (k:Int)∧Pri L (plF pl) S m k h1∧SeenV L f' (allS (S.take m) ++ S[m].2.take k) S m k∧HgW Q wx g n f' B X Y K (.slice sa l ag))
     case atStart=>exact ⟨0,f,γ,rfl,rfl,b5.out,b7.out,ao.out⟩
     case round =>
      clear b5 b7 ao ay;obtain ⟨k,f',hk,rfl,rfl,aj,M,hW⟩:=hrel;have HJ:=H3 aj M hW;have a:=Hd (Qc ax.out hW.bel);have p0:=Qa hW.bel HQ.out.1;have p1:=Qa hW.bel HQ.out.2.1;have p2:=Qa hW.bel HQ.out.2.2.1;have b3:=hW.b3;have zp:=Bt p0;have zb:=Bt b3;clear aj M hW;by_cases h2:k<l
      ·have k1:(k:Int)<(l:Int):=γ;have k0:(0:Int)≤(k:Int):=γ;have R:k<S[m].2.length:=by rw [← F.out.2];exact h2
       obtain ⟨ga,rfl,t0,t1,t2⟩:=(bj.out.kept a.out) k R;obtain ⟨x,y,z,ae⟩:∃ x y z,S[m].2[k]=(x,y,z):=⟨_,_,_,rfl⟩;rw [ae] at t0 t1 t2;dsimp only at t0 t1 t2;have HX:=Hd ae;have zt:=Bt t0;clear ae;go_upto_region 10 with fail
       refine Qi (fun W2 a8=>?_);obtain ⟨B2,a6⟩:∃ B,B=wr.heap.size:=⟨_,rfl⟩
       have O:Hid (Bl wr W2):=by
        have:Bl wr W2:=by
         rw [a8];with_reducible repeat (first | exact Qe _ | refine Qb ?_ | refine Qh ?_ ?_)
         all_goals (dsimp only;omega)
        exact this
       have y0:At W2 B2 0 (I x):=by rw [a8,a6];simp [go_sem]
       have y1:At W2 B2 1 (I y):=by rw [a8,a6];simp [go_sem]
       have y2:At W2 B2 2 (I z):=by rw [a8,a6];simp [go_sem]
       rw [← a6];clear a8 a6;replace p0:=Qa O.out p0;replace p1:=Qa O.out p1;replace p2:=Qa O.out p2;have zy:=Bt y0;replace zp:w.heap.size<W2.heap.size:=bk p0;clear t0 t1 t2 zt b3 zb;go_upto_region 11 with (go_at_call 71;refine (CN.out _ x y z (Qc a.out O.out)).mono ?_;rintro e w3 ⟨i,bt,rfl,hi,H,be,au⟩;have HN:=H2 H be;have P:Hid (HgW Q w3 g n f' B X Y K (.slice (Az ga) l ag)):=(HJ.out.2.2.kept O.out).kept au;have aw:=Hd (Qc a.out (Qc O.out au));clear H be au)
       clear y0 y1 y2 p0 p1 p2 zp zy;have x0:=P.out.b0;have x1:=P.out.b1;have x2:=P.out.b2;have p4:=Qa P.out.bel HQ.out.2.2.2;have zb:=Bt x0;have zp:=Bt p4
       obtain ⟨b2,o⟩:∃ b2:Bool,Hid (b2=false↔(bt=true∧f' i<0∧plF pl i=(X,Y,K))):=by
        by_cases q:bt=true∧f' i<0∧plF pl i=(X,Y,K)
        ·exact ⟨false,⟨fun _=>q,fun _=>rfl⟩⟩
        ·exact ⟨true,⟨(fun h=>by cases h),fun h=>absurd h q⟩⟩
       go_cut [79] (fun bu wx=>bu=.bool b2∧Bl w3 wx)
       case first =>
        cases bt
        ·have p:Hid (b2=true):=by
          cases q:b2
          ·exact absurd (o.out.1 q).1 ψ
          ·exact rfl
         obtain ⟨kc,kn⟩:=kcn w3;refine wk ?_;repeat (go_big_quiet_step (fail))
         refine kq1 (fun wq hq=>?_);clear kc kn;go_wp2;go_meet
         case rel=>exact ⟨by rw [p.out],hq⟩
        ·obtain ⟨d,_⟩:=HN.out.2 rfl;have ac:i<n:=by rw [A.out.2.2.2.1];exact d
         have ii:(i:Int)<(n:Int):=γ;have bp:(0:Int)≤(i:Int):=γ;obtain ⟨u,hu⟩:∃ u,u=f' i:=⟨_,rfl⟩;obtain ⟨z0,_⟩:=P.out.z i ac;rw [← hu] at z0;have HU:=Hd hu;clear hu;have zg:=Bt z0;have am:i<pl.length:=by rw [A.out.2.2.2.2.1];exact ac
         obtain ⟨gp,rfl,q0,q1,q2⟩:=(A.out.2.1.kept aw.out) i am;have zq:=Bt q0;obtain ⟨px,py,pk,U⟩:∃ x y k,pl[i]=(x,y,k):=⟨_,_,_,rfl⟩;rw [U] at q0 q1 q2;dsimp only at q0 q1 q2
         have b6:Hid (plF pl i=(px,py,pk)):=by
          have:plF pl i=(px,py,pk):=by unfold plF;rw [Qz pl i am,U]
          exact this
         clear U;by_cases hu0:0≤u
         ·have p:Hid (b2=true):=by
           cases q:b2
           ·have:=(o.out.1 q).2.1;rw [← HU.out] at this;omega
           ·exact rfl
          obtain ⟨kc,kn⟩:=kcn w3;refine wk ?_;repeat (go_big_quiet_step (fail))
          refine kq1 (fun wq hq=>?_);clear kc kn;go_wp2;go_meet
          case rel=>exact ⟨by rw [p.out],hq⟩
         ·have p:Hid (b2 = !sameT px py pk X Y K):=by
           have:b2 = !sameT px py pk X Y K:=by
            cases q:b2
            ·have:=(o.out.1 q).2.2;rw [b6.out] at this;simp only [Prod.mk.injEq] at this;obtain ⟨rfl,rfl,rfl⟩:=this;simp [sameT]
            ·cases q2:sameT px py pk X Y K
             ·rfl
             ·exfalso
              have:b2=false:=o.out.2 ⟨rfl,by rw [← HU.out];omega,by
               rw [b6.out];simp only [sameT,decide_eq_true_eq] at q2;simp only [Prod.mk.injEq];exact q2⟩
              rw [q] at this
              cases this
           exact this
          obtain ⟨kc,kn⟩:=kcn w3;refine wk ?_;repeat (go_big_quiet_step (fail))
          refine kq1 (fun wq hq=>?_);clear kc kn;go_wp2;go_meet
          case rel=>exact ⟨by rw [p.out],hq⟩
       case rest =>
        obtain ⟨rfl,ap⟩:=hcut;have b9:=Hd (P.out.kept ap);have bi:=Hd (Qc aw.out ap);clear x0 x1 x2 p4 zb zp ap
        cases b2
        ·obtain ⟨H,bm,U⟩:=o.out.1 rfl;subst H;obtain ⟨d,D⟩:=HN.out.2 rfl;have ac:i<n:=by rw [A.out.2.2.2.1];exact d
         have ii:(i:Int)<(n:Int):=γ;have bp:(0:Int)≤(i:Int):=γ;obtain ⟨z0,zf⟩:=b9.out.z i ac;have zg:=Bt z0
         have b8:Hid (Pri L (plF pl) S m (k+1) h1∧SeenV L (fun j=>if j=i then (k:Int) else f' j) (allS (S.take m) ++ S[m].2.take (k+1)) S m (k+1)):=by
          have T:S[m].2[k] ∉ allS (S.take m) ++ S[m].2.take k:=fun E=>by
           rw [HX.out,← D] at E;have:=(HJ.out.2.1.1 i d).1.2 E;omega
          refine ⟨HJ.out.1.step R ⟨i,d,by rw [HX.out];exact D,by rw [F.out.1];exact U⟩ T, ?_,HJ.out.2.1.2.step A.out.2.2.2.2.2.1 h1 R d (by rw [HX.out];exact D) T⟩;have:=HJ.out.2.1.1.more A.out.2.2.2.2.2.1 d k;rw [D,← HX.out] at this;rw [List.take_succ_eq_append_getElem R,← List.append_assoc];exact this
         clear bm U D;go_wp2;go_roundg (l - (k+1))
         case measure=>omega
         case rel=>exact ⟨k+1,_,γ,rfl,σ,b8.out.1,b8.out.2,b9.out.put az.out.2 az.out.1 ac _⟩
        ·go_wp2;refine bodyPost_ret (v:=.tuple #[SN,.bool false]) (by simp [results,Tryz.results97,go_sem]) rfl ⟨none,0,0,false,rfl, ?_,bi.out,fun h=>by cases h⟩;simp only [Bool.false_eq_true,false_iff];intro J
         have T:¬ (bt=true∧f' i<0∧plF pl i=(X,Y,K)):=fun h=>by
          have:=o.out.2 h
          cases this
         obtain ⟨j,hj,e1,e2⟩:=J.pl _ (Lm h1) _ (Lm R);rw [HX.out] at e1;rw [F.out.1] at e2;have H:bt=true:=HN.out.1.2 (e1 ▸ Lm hj);obtain ⟨d,D⟩:=HN.out.2 H;have:=Ys A.out.2.2.2.2.2.1 d hj (D.trans e1.symm);subst this;refine T ⟨H,Int.not_le.1 fun h0=>?_,e2⟩;have E:=(HJ.out.2.1.1 i d).1.1 h0;rw [D,← HX.out] at E;exact not_nd A.out.2.2.2.2.2.1 h1 R E J
      ·have k1:¬ (k:Int)<(l:Int):=γ;have af:k=S[m].2.length:=by rw [← F.out.2];omega
       have ah:Hid (Pre L (plF pl) S (m+1)∧SeenV L f' (allS (S.take (m+1))) S (m+1) 0):=by
        refine ⟨HJ.out.1.fin af, ?_,HJ.out.2.1.2.next h1 af⟩;have:=HJ.out.2.1.1;rw [af,List.take_length] at this;rw [Uh h1];exact this
       clear af;go_wp2;go_roundg (S.length - (m+1))
       case measure=>omega
       case rel=>exact ⟨m+1,f',γ,rfl,σ,ah.out.1,ah.out.2,HJ.out.2.2.z,HJ.out.2.2.bel⟩
    ·go_wp2;refine bodyPost_ret (v:=.tuple #[SN,.bool false]) (by simp [results,Tryz.results97,go_sem]) rfl ⟨none,0,0,false,rfl, ?_,ay.out,fun h=>by cases h⟩;simp only [Bool.false_eq_true,false_iff];intro J
     have T:¬ (l≠0∧∀ q (h:q+1=m),ltT (S[q]'γ).1 S[m].1):=fun h=>by
      have:=r.out.2 h
      cases this
     refine T ⟨fun e=>not_ne h1 (by rw [← F.out.2];exact e) J,fun q h=>?_⟩;subst h;exact J.up q h1
  ·have i1:¬ (m:Int)<(S.length:Int):=γ;obtain rfl:m=S.length:=γ;have CC:=Hd (fun (W:World) hW=>contains_any W g n n f (-1) (Z.out.2.2.1.kept hW) hL);go_wp2_with (go_at_call 186;refine (CC.out _ (Qe _)).mono ?_;rintro e w2 ⟨b,rfl,hb,ar⟩;have HC:=H3 hb (Qc a.out ar) (Z.out.2.2.1.kept ar);clear hb ar)
   refine bodyPost_ret (v:=.tuple #[.slice (Az g) n n,.bool (!b)]) (by simp [results,Tryz.results97,go_sem]) rfl ⟨_,_,_,!b,rfl, ?_,HC.out.2.1,fun _=>⟨g,f,rfl,A.out.2.2.2.1,by rw [← A.out.2.2.2.1];exact HC.out.2.2,Z.out.2.1.2,by rw [HG.out.1];omega⟩⟩
   have ak:(∀ t∈L,t∈allS S)↔b=false:=by
    have hs:=Z.out.2.1.1;rw [List.take_length] at hs;constructor
    ·intro hc
     cases q:b
     ·rfl
     ·obtain ⟨j,hj,e⟩:=HC.out.1.1 q;have bg:j<L.length:=by rw [← A.out.2.2.2.1];exact hj
      have:=(hs j bg).1.2 (hc _ (Lm bg));omega
    ·intro hb t ht;obtain ⟨j,hj,e⟩:=List.getElem_of_mem ht;rw [← e];rcases (hs j hj).2 with h | h
     ·have:=HC.out.1.2 ⟨j,by rw [A.out.2.2.2.1];exact hj,h⟩;rw [hb] at this
      cases this
     ·exact (hs j hj).1.1 h
   constructor
   ·intro hb;exact Z.out.1.all A.out.2.2.2.2.2.1 rfl (ak.2 (by simpa using hb))
   ·intro J;have:=ak.1 (J.cov A.out.2.2.2.2.2.1);rw [this];rfl
end Go.Proofs.YtnpboeodhpenmaaGreatDoor
