/- A part of it. -/
import Derived.Test.YtbjmnlefkbhbdaaGreatDoorQlal
set_option maxRecDepth 100000
set_option maxHeartbeats 40000000
namespace Go.Proofs.YtbjmnlefkbhbdaaGreatDoor
open Go.RowKit
variable {d:Array Nat}
theorem sift_any (w:World) (g o n ai lo hi first N:Nat) (rv:Value) (a:Nat→Nat→Int) (hc:CmpF w g N rv a) (d:Array Nat) (hd:d.size=n) (hN:∀ k,k<d.size→d[k]! < N) (aj:lo≤300) (ao:first+hi≤n) (hn:n≤300) (w1:World) (hw:SrtW w w1 g o d) :
  Cl 208 #[.slice (Ad g o) n ai,I (lo:Int),I (hi:Int),I (first:Int),.func (.func 100) #[rv] #[]] w1 fun e w'=>e=.returned (.tuple #[])∧SrtW w w' g o (Sort.siftDown (ltF a) hi first lo d):=by
 have HC:=Hd hc;have HW:=H3 hw hN hd;obtain ⟨T,hT⟩:∃ T,T=Sort.siftDown (ltF a) hi first lo d:=⟨_,rfl⟩;have HT:=Hd hT.symm;rw [← hT];clear hc hw hN hd hT;go_enter Tryz.func208,Tryz.ntmps208;go_wp2;go_loopg [10] (hi - lo) (fun gk ak wx=>∃ (r:Nat) (d1:Array Nat),r≤300∧gk=hi - r∧ak=I (r:Int)∧SrtW w wx g o d1∧(∀ k,k<d1.size→d1[k]! < N)∧d1.size=n∧Sort.siftDown (ltF a) hi first r d1=T)
 case atStart=>exact ⟨lo,d,aj,rfl,rfl,HW.out.1,HW.out.2.1,HW.out.2.2,HT.out⟩
 case round =>
  clear HW HT;obtain ⟨r,d1,hr,rfl,rfl,hS,a7,a2,Y⟩:=hrel;have A:=H4 hS a7 a2 Y;obtain ⟨c,s⟩:∃ c:Nat,c=2*r+1:=⟨_,rfl⟩;by_cases h1:c<hi
  ·have j1:¬ (hi:Int)≤2*(r:Int)+1:=γ;have M:=a2;obtain ⟨fr,p⟩:∃ x,x=first+r:=⟨_,rfl⟩;obtain ⟨X,F⟩:∃ x,x=first+c:=⟨_,rfl⟩
   have a6:Hid (T=if (decide (c+1<hi) && ltF a d1[first+c]! d1[first+c+1]!)=true then (if ltF a d1[first+r]! d1[first+(c+1)]! = true then Sort.siftDown (ltF a) hi first (c+1) (Sort.swp d1 (first+r) (first+(c+1))) else d1) else (if ltF a d1[first+r]! d1[first+c]! = true then Sort.siftDown (ltF a) hi first c (Sort.swp d1 (first+r) (first+c)) else d1)):=by
    have:T=if (decide (c+1<hi) && ltF a d1[first+c]! d1[first+c+1]!)=true then (if ltF a d1[first+r]! d1[first+(c+1)]! = true then Sort.siftDown (ltF a) hi first (c+1) (Sort.swp d1 (first+r) (first+(c+1))) else d1) else (if ltF a d1[first+r]! d1[first+c]! = true then Sort.siftDown (ltF a) hi first c (Sort.swp d1 (first+r) (first+c)) else d1):=by
     rw [← Y,Sort.siftDown,dif_neg γ,s];split
     ·rename_i q
      have q':2*r+1+1<hi:=by simp at q;omega
      rw [dif_pos γ]
      cases ltF a d1[first+r]! d1[first+(2*r+2)]! <;> simp
     ·cases ltF a d1[first+r]! d1[first+(2*r+1)]! <;> simp
    exact this
   have e1:(first:Int)+(2*(r:Int)+1)=(X:Int):=γ;have e2:(first:Int)+(r:Int)=(fr:Int):=γ;have ab:IntKind.i64.wrap ((first:Int)+(2*(r:Int)+1))=(X:Int):=υ;have ap:IntKind.i64.wrap ((first:Int)+(r:Int))=(fr:Int):=υ;have aq:IntKind.i64.wrap (2*(r:Int)+1+1)=2*(r:Int)+2:=υ;have am:IntKind.i64.wrap (2*(r:Int)+2)=2*(r:Int)+2:=υ;have i1:(X:Int)<(n:Int):=γ;have i2:(fr:Int)<(n:Int):=γ;have k1:(0:Int)≤(X:Int):=γ;have k2:(0:Int)≤(fr:Int):=γ;clear hS a7 Y a2;by_cases h2:c+1<hi
   ·have j2:decide (2*(r:Int)+2<(hi:Int))=true:=decide_eq_true γ;obtain ⟨fd,aa⟩:∃ x,x=first+c+1:=⟨_,rfl⟩;have e3:(X:Int)+1=(fd:Int):=γ;have ah:IntKind.i64.wrap ((X:Int)+1)=(fd:Int):=υ;obtain ⟨r0,_⟩:=A.out.1.row X γ;obtain ⟨r1,_⟩:=A.out.1.row fd γ;have l0:=A.out.2.1 X γ;have l1:=A.out.2.1 fd γ;have i3:(fd:Int)<(n:Int):=γ;have k3:(0:Int)≤(fd:Int):=γ;have zg:=A.out.1.lt;obtain ⟨x,hx⟩:∃ x,x=d1[X]!:=⟨_,rfl⟩;obtain ⟨y,hy⟩:∃ y,y=d1[fd]!:=⟨_,rfl⟩
    have ae:Hid (ltF a d1[first+c]! d1[first+c+1]! = ltF a x y):=by
     have:ltF a d1[first+c]! d1[first+c+1]! = ltF a x y:=by rw [hx,hy,F,aa]
     exact this
    rw [← hx] at r0 l0;rw [← hy] at r1 l1;have CB:Hid (∀ W:World,Bl wr W→Rt 100 #[rv,I (x:Int),I (y:Int)] W (I (a x y))):=fun W hW=>HC.out W (A.out.1.kept hW).gr x y l0 l1;obtain ⟨c1,a8⟩:∃ c,c=a x y:=⟨_,rfl⟩
    have ad:Hid (ltF a x y=decide (c1<0)):=by
     have:ltF a x y=decide (c1<0):=by rw [a8];rfl
     exact this
    rw [← a8] at CB;have an:=Hd aa;have ac:=H4 p F s M;have ar:IntKind.i64.wrap (X:Int)=(X:Int):=υ;have au:IntKind.i64.wrap (fd:Int)=(fd:Int):=υ;clear hx hy a8 l0 l1 aa p F s M;have H0:=Hd A.out.1;by_cases q:c1<0
    ·have U:Hid (T=if ltF a d1[first+r]! d1[first+(c+1)]! = true then Sort.siftDown (ltF a) hi first (c+1) (Sort.swp d1 (first+r) (first+(c+1))) else d1):=by
      have:T=if ltF a d1[first+r]! d1[first+(c+1)]! = true then Sort.siftDown (ltF a) hi first (c+1) (Sort.swp d1 (first+r) (first+(c+1))) else d1:=by
       rw [a6.out,if_pos (by rw [ae.out,ad.out];simp [h2,q])]
      exact this
     go_wp2;obtain ⟨K,L⟩:=kcn wr;refine wk ?_;repeat (go_big_quiet_step ((go_at_call 100;exact Qm (CB.out _ (Kin.h _)))))
     refine kq1 (fun wq hq=>?_);clear K L;have H1:=Hd (H0.out.kept hq);clear hq H0 CB r0 r1 e3 ah i3 k3;obtain ⟨p,F,s,M⟩:=ac.out;have u:=H1.out.lt;obtain ⟨b,t⟩:∃ x,x=first+(c+1):=⟨_,rfl⟩;obtain ⟨O,f4⟩:=H1.out.row fr γ;obtain ⟨P,V⟩:=H1.out.row b γ;have Z:=A.out.2.1 fr γ;have l5:=A.out.2.1 b γ;have e4:(first:Int)+(2*(r:Int)+2)=(b:Int):=γ;have w4:IntKind.i64.wrap ((first:Int)+(2*(r:Int)+2))=(b:Int):=υ;have i5:(b:Int)<(n:Int):=γ;have k5:(0:Int)≤(b:Int):=γ;have G:fr≠b:=γ;obtain ⟨z,J⟩:∃ z,z=d1[fr]!:=⟨_,rfl⟩;obtain ⟨v,H⟩:∃ v,v=d1[b]!:=⟨_,rfl⟩;have f:=H1.out.swap (i:=fr) (j:=b) γ γ G;rw [← J,← H] at f;rw [← J] at O Z;rw [← H] at P l5
     have D:Hid (T=if ltF a z v=true then Sort.siftDown (ltF a) hi first (c+1) (Sort.swp d1 fr b) else d1):=by
      have:T=if ltF a z v=true then Sort.siftDown (ltF a) hi first (c+1) (Sort.swp d1 fr b) else d1:=by
       rw [J,H,t,p];exact U.out
      exact this
     have m:Hid (∀ W:World,Bl wq W→Rt 100 #[rv,I (z:Int),I (v:Int)] W (I (a z v))):=fun W hW=>HC.out W (H1.out.kept hW).gr z v Z l5;obtain ⟨c2,l⟩:∃ c,c=a z v:=⟨_,rfl⟩
     have C:Hid (ltF a z v=decide (c2<0)):=by
      have:ltF a z v=decide (c2<0):=by rw [l];rfl
      exact this
     rw [← l] at m;have E:=H2 J H;have B:Hid (b=first+(c+1)∧fr=first+r∧c=2*r+1∧b<d1.size∧fr<d1.size∧(c+1)<hi):=⟨t,p,s,γ,γ,γ⟩;clear J H l Z l5 f e1 ab t p s F M;by_cases q2:c2<0
     ·go_wp2;obtain ⟨K,L⟩:=kcn wq;refine wk ?_;repeat (go_big_quiet_step ((go_at_call 100;exact Qm (m.out _ (Kin.h _)))))
      refine kq1 (fun wp hq=>?_);clear K L;have Q:=Hd (H1.out.kept hq);have f:=Q.out.swap (i:=fr) (j:=b) B.out.2.2.2.2.1 B.out.2.2.2.1 G;replace O:=Qa hq O;replace P:=Qa hq P;replace f4:=(hq.frozen u).trans f4;replace V:=(hq.frozen u).trans V;have zq:g<wp.heap.size:=Nl u hq.size;rw [← E.out.1,← E.out.2] at f;have R:=Hd f;clear hq m f;go_wp2;go_region
      all_goals
       go_wp2;have hF:=B.out;go_roundg (hi - (c+1))
       case measure=>omega
       case rel=>exact ⟨(c+1),Sort.swp d1 fr b,γ,rfl,by first | go_num | (congr 1;omega),R.out.kept (Qe (Qd _)),Jr A.out.2.1 B.out.2.2.2.2.1 B.out.2.2.2.1,by rw [Sort.size_swp];exact A.out.2.2.1,by rw [D.out,C.out,if_pos (by simpa using q2)]⟩
     ·have af:decide (c2<0)=false:=decide_eq_false q2;have ag:¬ c2<0:=q2;go_wp2;obtain ⟨K,L⟩:=kcn wq;refine wk ?_;repeat (go_big_quiet_step ((go_at_call 100;exact Qm (m.out _ (Kin.h _)))))
      refine kq1 (fun wp hq=>?_);clear K L
      have HE:Hid (d1=T):=by
       have:d1=T:=by
        rw [D.out,C.out,if_neg (by simpa using q2)]
       exact this
      have Q:=Hd (H1.out.kept hq);clear O P f4 V hq;go_wp2;exact bodyPost_ret (v:=.tuple #[]) (by simp [results,Tryz.results208,go_sem]) rfl ⟨rfl,HE.out ▸ Q.out⟩
    ·have U:Hid (T=if ltF a d1[first+r]! d1[first+c]! = true then Sort.siftDown (ltF a) hi first c (Sort.swp d1 (first+r) (first+c)) else d1):=by
      have:T=if ltF a d1[first+r]! d1[first+c]! = true then Sort.siftDown (ltF a) hi first c (Sort.swp d1 (first+r) (first+c)) else d1:=by
       rw [a6.out,if_neg (by rw [ae.out,ad.out];simp [q])]
      exact this
     go_wp2;obtain ⟨K,L⟩:=kcn wr;refine wk ?_;repeat (go_big_quiet_step ((go_at_call 100;exact Qm (CB.out _ (Kin.h _)))))
     refine kq1 (fun wq hq=>?_);clear K L;have H1:=Hd (H0.out.kept hq);clear hq H0 CB r0 r1 e3 ah i3 k3;obtain ⟨p,F,s,M⟩:=ac.out;have u:=H1.out.lt;obtain ⟨b,t⟩:∃ x,x=first+c:=⟨_,rfl⟩;obtain ⟨O,f4⟩:=H1.out.row fr γ;obtain ⟨P,V⟩:=H1.out.row b γ;have Z:=A.out.2.1 fr γ;have l5:=A.out.2.1 b γ;have e4:(first:Int)+(2*(r:Int)+1)=(b:Int):=γ;have w4:IntKind.i64.wrap ((first:Int)+(2*(r:Int)+1))=(b:Int):=υ;have i5:(b:Int)<(n:Int):=γ;have k5:(0:Int)≤(b:Int):=γ;have G:fr≠b:=γ;obtain ⟨z,J⟩:∃ z,z=d1[fr]!:=⟨_,rfl⟩;obtain ⟨v,H⟩:∃ v,v=d1[b]!:=⟨_,rfl⟩;have f:=H1.out.swap (i:=fr) (j:=b) γ γ G;rw [← J,← H] at f;rw [← J] at O Z;rw [← H] at P l5
     have D:Hid (T=if ltF a z v=true then Sort.siftDown (ltF a) hi first c (Sort.swp d1 fr b) else d1):=by
      have:T=if ltF a z v=true then Sort.siftDown (ltF a) hi first c (Sort.swp d1 fr b) else d1:=by
       rw [J,H,t,p];exact U.out
      exact this
     have m:Hid (∀ W:World,Bl wq W→Rt 100 #[rv,I (z:Int),I (v:Int)] W (I (a z v))):=fun W hW=>HC.out W (H1.out.kept hW).gr z v Z l5;obtain ⟨c2,l⟩:∃ c,c=a z v:=⟨_,rfl⟩
     have C:Hid (ltF a z v=decide (c2<0)):=by
      have:ltF a z v=decide (c2<0):=by rw [l];rfl
      exact this
     rw [← l] at m;have E:=H2 J H;have B:Hid (b=first+c∧fr=first+r∧c=2*r+1∧b<d1.size∧fr<d1.size∧c<hi):=⟨t,p,s,γ,γ,γ⟩;clear J H l Z l5 f e1 ab t p s F M;by_cases q2:c2<0
     ·go_wp2;obtain ⟨K,L⟩:=kcn wq;refine wk ?_;repeat (go_big_quiet_step ((go_at_call 100;exact Qm (m.out _ (Kin.h _)))))
      refine kq1 (fun wp hq=>?_);clear K L;have Q:=Hd (H1.out.kept hq);have f:=Q.out.swap (i:=fr) (j:=b) B.out.2.2.2.2.1 B.out.2.2.2.1 G;replace O:=Qa hq O;replace P:=Qa hq P;replace f4:=(hq.frozen u).trans f4;replace V:=(hq.frozen u).trans V;have zq:g<wp.heap.size:=Nl u hq.size;rw [← E.out.1,← E.out.2] at f;have R:=Hd f;clear hq m f;go_wp2;go_region
      all_goals
       go_wp2;have hF:=B.out;go_roundg (hi - c)
       case measure=>omega
       case rel=>exact ⟨c,Sort.swp d1 fr b,γ,rfl,by first | go_num | (congr 1;omega),R.out.kept (Qe (Qd _)),Jr A.out.2.1 B.out.2.2.2.2.1 B.out.2.2.2.1,by rw [Sort.size_swp];exact A.out.2.2.1,by rw [D.out,C.out,if_pos (by simpa using q2)]⟩
     ·have af:decide (c2<0)=false:=decide_eq_false q2;have ag:¬ c2<0:=q2;go_wp2;obtain ⟨K,L⟩:=kcn wq;refine wk ?_;repeat (go_big_quiet_step ((go_at_call 100;exact Qm (m.out _ (Kin.h _)))))
      refine kq1 (fun wp hq=>?_);clear K L
      have HE:Hid (d1=T):=by
       have:d1=T:=by
        rw [D.out,C.out,if_neg (by simpa using q2)]
       exact this
      have Q:=Hd (H1.out.kept hq);clear O P f4 V hq;go_wp2;exact bodyPost_ret (v:=.tuple #[]) (by simp [results,Tryz.results208,go_sem]) rfl ⟨rfl,HE.out ▸ Q.out⟩
   ·have j2:decide (2*(r:Int)+2<(hi:Int))=false:=decide_eq_false γ
    have U:Hid (T=if ltF a d1[first+r]! d1[first+c]! = true then Sort.siftDown (ltF a) hi first c (Sort.swp d1 (first+r) (first+c)) else d1):=by
     have:T=if ltF a d1[first+r]! d1[first+c]! = true then Sort.siftDown (ltF a) hi first c (Sort.swp d1 (first+r) (first+c)) else d1:=by
      rw [a6.out,if_neg (by simp [h2])]
     exact this
    have H0:=Hd A.out.1;go_wp2;obtain ⟨K,L⟩:=kcn wr;refine wk ?_;repeat (go_big_quiet_step (fail))
    refine kq1 (fun wq hq=>?_);clear K L;have H1:=Hd (H0.out.kept hq);clear hq H0;have u:=H1.out.lt;obtain ⟨b,t⟩:∃ x,x=first+c:=⟨_,rfl⟩;obtain ⟨O,f4⟩:=H1.out.row fr γ;obtain ⟨P,V⟩:=H1.out.row b γ;have Z:=A.out.2.1 fr γ;have l5:=A.out.2.1 b γ;have e4:(first:Int)+(2*(r:Int)+1)=(b:Int):=γ;have w4:IntKind.i64.wrap ((first:Int)+(2*(r:Int)+1))=(b:Int):=υ;have i5:(b:Int)<(n:Int):=γ;have k5:(0:Int)≤(b:Int):=γ;have G:fr≠b:=γ;obtain ⟨z,J⟩:∃ z,z=d1[fr]!:=⟨_,rfl⟩;obtain ⟨v,H⟩:∃ v,v=d1[b]!:=⟨_,rfl⟩;have f:=H1.out.swap (i:=fr) (j:=b) γ γ G;rw [← J,← H] at f;rw [← J] at O Z;rw [← H] at P l5
    have D:Hid (T=if ltF a z v=true then Sort.siftDown (ltF a) hi first c (Sort.swp d1 fr b) else d1):=by
     have:T=if ltF a z v=true then Sort.siftDown (ltF a) hi first c (Sort.swp d1 fr b) else d1:=by
      rw [J,H,t,p];exact U.out
     exact this
    have m:Hid (∀ W:World,Bl wq W→Rt 100 #[rv,I (z:Int),I (v:Int)] W (I (a z v))):=fun W hW=>HC.out W (H1.out.kept hW).gr z v Z l5;obtain ⟨c2,l⟩:∃ c,c=a z v:=⟨_,rfl⟩
    have C:Hid (ltF a z v=decide (c2<0)):=by
     have:ltF a z v=decide (c2<0):=by rw [l];rfl
     exact this
    rw [← l] at m;have E:=H2 J H;have B:Hid (b=first+c∧fr=first+r∧c=2*r+1∧b<d1.size∧fr<d1.size∧c<hi):=⟨t,p,s,γ,γ,γ⟩;clear J H l Z l5 f e1 ab t p s F M;by_cases q2:c2<0
    ·go_wp2;obtain ⟨K,L⟩:=kcn wq;refine wk ?_;repeat (go_big_quiet_step ((go_at_call 100;exact Qm (m.out _ (Kin.h _)))))
     refine kq1 (fun wp hq=>?_);clear K L;have Q:=Hd (H1.out.kept hq);have f:=Q.out.swap (i:=fr) (j:=b) B.out.2.2.2.2.1 B.out.2.2.2.1 G;replace O:=Qa hq O;replace P:=Qa hq P;replace f4:=(hq.frozen u).trans f4;replace V:=(hq.frozen u).trans V;have zq:g<wp.heap.size:=Nl u hq.size;rw [← E.out.1,← E.out.2] at f;have R:=Hd f;clear hq m f;go_wp2;go_region
     all_goals
      go_wp2;have hF:=B.out;go_roundg (hi - c)
      case measure=>omega
      case rel=>exact ⟨c,Sort.swp d1 fr b,γ,rfl,by first | go_num | (congr 1;omega),R.out.kept (Qe (Qd _)),Jr A.out.2.1 B.out.2.2.2.2.1 B.out.2.2.2.1,by rw [Sort.size_swp];exact A.out.2.2.1,by rw [D.out,C.out,if_pos (by simpa using q2)]⟩
    ·have af:decide (c2<0)=false:=decide_eq_false q2;have ag:¬ c2<0:=q2;go_wp2;obtain ⟨K,L⟩:=kcn wq;refine wk ?_;repeat (go_big_quiet_step ((go_at_call 100;exact Qm (m.out _ (Kin.h _)))))
     refine kq1 (fun wp hq=>?_);clear K L
     have HE:Hid (d1=T):=by
      have:d1=T:=by
       rw [D.out,C.out,if_neg (by simpa using q2)]
      exact this
     have Q:=Hd (H1.out.kept hq);clear O P f4 V hq;go_wp2;exact bodyPost_ret (v:=.tuple #[]) (by simp [results,Tryz.results208,go_sem]) rfl ⟨rfl,HE.out ▸ Q.out⟩
  ·have j1:(hi:Int)≤2*(r:Int)+1:=γ
   have HE:Hid (d1=T):=by
    have:d1=T:=by
     rw [← Y,Sort.siftDown,dif_pos γ]
    exact this
   clear hS a7 Y a2;go_wp2;go_end0
   exact ⟨rfl,HE.out ▸ A.out.1⟩
theorem Vk {lt:Nat→Nat→Bool} {N hi first:Nat}:∀ (m a:Nat) (d:Array Nat),hi - a≤m→first+hi≤d.size→(∀ k,k<d.size→d[k]! < N)→(Sort.siftDown lt hi first a d).size=d.size∧∀ k,k<(Sort.siftDown lt hi first a d).size→(Sort.siftDown lt hi first a d)[k]! < N
 | 0,a,d,hm,_,hN=>by
  rw [Sort.siftDown,dif_pos γ];exact ⟨rfl,hN⟩
 | m+1,a,d,hm,hs,hN=>by
  rw [Sort.siftDown];by_cases h:2*a+1 ≥ hi
  ·rw [dif_pos h];exact ⟨rfl,hN⟩
  ·rw [dif_neg h]
   have step:∀ c,a<c→c<hi→(Sort.siftDown lt hi first c (Sort.swp d (first+a) (first+c))).size=d.size∧∀ k,k<(Sort.siftDown lt hi first c (Sort.swp d (first+a) (first+c))).size→(Sort.siftDown lt hi first c (Sort.swp d (first+a) (first+c)))[k]! < N:=fun c h1 h2=>by
    have b:=Vk (lt:=lt) (N:=N) (hi:=hi) (first:=first) m c (Sort.swp d (first+a) (first+c)) γ (by rw [Sort.size_swp];exact hs) (Jr hN γ γ);rw [Sort.size_swp] at b;exact b
   split
   ·split
    ·exact ⟨rfl,hN⟩
    ·split
     ·exact step (2*a+2) γ π
     ·exact ⟨rfl,hN⟩
   ·split
    ·exact ⟨rfl,hN⟩
    ·exact step (2*a+1) γ γ
theorem SrtW.swp_any {w a:World} {g o:Nat} (h:SrtW w a g o d) {i j:Nat} (hi:i<d.size) (c:j<d.size):SrtW w ((a.setCell ⟨g,o+i,none⟩ (I ((d[j]! : Nat):Int))).setCell ⟨g,o+j,none⟩ (I ((d[i]! : Nat):Int))) g o (Sort.swp d i j):=by
 by_cases hij:i=j
 ·subst hij;have g1:=Qg a g (o+i) (I ((d[i]! : Nat):Int));have g2:=Qg (a.setCell ⟨g,o+i,none⟩ (I ((d[i]! : Nat):Int))) g (o+i) (I ((d[i]! : Nat):Int));refine ⟨fun k b=>?_,Jg h.gr (Jg g1 g2),Nl h.lt (Nt g1.size g2.size)⟩;rw [Sort.size_swp] at b;obtain ⟨r1,r2⟩:=h.row k b;obtain ⟨e,_⟩:=h.row i hi;constructor
  ·rw [Sort.swp_get d hi hi k];by_cases e1:k=i
   ·rw [if_pos e1,e1];exact Js (Js e)
   ·rw [if_neg e1,if_neg e1];exact Qo (Qo r1 γ) γ
  ·simp [go_sem,r2]
 ·exact h.swap hi c hij
theorem heap_any (w:World) (g o n l a b N:Nat) (B:Value) (c:Nat→Nat→Int) (hc:CmpF w g N B c) (d:Array Nat) (hd:d.size=n) (Z:∀ k,k<d.size→d[k]! < N) (a2:a<b) (a7:b≤n) (hn:n≤300) (w1:World) (hw:SrtW w w1 g o d) :
  Cl 166 #[.slice (Ad g o) n l,I (a:Int),I (b:Int),.func (.func 100) #[B] #[]] w1 fun e w'=>e=.returned (.tuple #[])∧SrtW w w' g o (Sort.heapSort (ltF c) d a b):=by
 obtain ⟨hi,M⟩:∃ hi:Nat,b=a+hi:=⟨b - a,γ⟩;subst M;have CS:Hid (∀ (W:World) (k t:Nat) (d1:Array Nat),d1.size=n→(∀ k,k<d1.size→d1[k]! < N)→k≤300→t≤hi→SrtW w W g o d1→Cl 208 #[.slice (Ad g o) n l,I (k:Int),I (t:Int),I (a:Int),.func (.func 100) #[B] #[]] W fun e w'=>e=.returned (.tuple #[])∧SrtW w w' g o (Sort.siftDown (ltF c) t a k d1)):=fun W k t d1 h1 h2 h3 h4 h5=>sift_any w g o n l k t a N B c hc d1 h1 h2 h3 γ hn W h5;obtain ⟨T,L⟩:∃ T,T=Sort.heapSort (ltF c) d a (a+hi):=⟨_,rfl⟩
 have J:Hid (Sort.heapPop (ltF c) a hi (Sort.heapBuild (ltF c) hi a ((hi - 1) / 2+1) d)=T):=by
  have:Sort.heapPop (ltF c) a hi (Sort.heapBuild (ltF c) hi a ((hi - 1) / 2+1) d)=T:=by
   rw [L];unfold Sort.heapSort;rw [Nat.add_sub_cancel_left]
  exact this
 have H:=H3 hw Z hd
 have V:((hi:Int) - 1).tdiv 2=(((hi - 1) / 2:Nat):Int):=by
  rw [Int.tdiv_eq_ediv_of_nonneg γ];omega
 obtain ⟨h2,A⟩:∃ x,x=(hi - 1) / 2:=⟨_,rfl⟩;rw [← A] at V J;have e1:((a+hi:Nat):Int) - (a:Int)=(hi:Int):=γ;have a6:h2≤300:=γ;rw [← L];clear hc hw Z hd L;have e2:(a:Int)+(hi:Int) - (a:Int)=(hi:Int):=γ;go_enter Tryz.func166,Tryz.ntmps166;go_wp2;go_loopg [11] (h2+1) (fun K R X=>∃ (i:Nat) (d1:Array Nat),i≤h2+1∧i=K∧R=I ((i:Int) - 1)∧SrtW w X g o d1∧(∀ k,k<d1.size→d1[k]! < N)∧d1.size=n∧Sort.heapPop (ltF c) a hi (Sort.heapBuild (ltF c) hi a i d1)=T)
 case atStart =>
  refine ⟨h2+1,d,Nr _,rfl, ?_,H.out.1,H.out.2.1,H.out.2.2,J.out⟩;congr 1
  omega
 case round =>
  clear H J;obtain ⟨i,d1,a8,rfl,rfl,E,q,s,r⟩:=hrel;have f:=H4 E q s r;clear E q s r;rcases i with _ | i
  ·have m:=Hd f.out.2.2.2;go_wp2;go_loopg [12] hi (fun K U X=>∃ (i:Nat) (d2:Array Nat),i≤hi∧i=K∧U=I ((i:Int) - 1)∧SrtW w X g o d2∧(∀ k,k<d2.size→d2[k]! < N)∧d2.size=n∧Sort.heapPop (ltF c) a i d2=T)
   case atStart=>exact ⟨hi,d1,Nr _,rfl,rfl,f.out.1,f.out.2.1,f.out.2.2.1,m.out⟩
   case round =>
    clear f m;obtain ⟨i,d2,aa,rfl,rfl,E,q,s,r⟩:=hrel;have f:=H4 E q s r;clear E q s r;rcases i with _ | i
    ·have HE:=Hd f.out.2.2.2;go_wp2;go_end0
     exact ⟨rfl,HE.out ▸ f.out.1⟩
    ·have z1:((i+1:Nat):Int) - 1=(i:Int):=γ;have z2:(0:Int)≤(i:Int):=γ;rw [z1];have P:=f.out.2.2.1;obtain ⟨j,O⟩:∃ j,j=a+i:=⟨_,rfl⟩;obtain ⟨r1,f1⟩:=f.out.1.row j γ;obtain ⟨r0,f0⟩:=f.out.1.row a γ;have zg:=f.out.1.lt;obtain ⟨x,F⟩:∃ x,x=d2[j]!:=⟨_,rfl⟩;obtain ⟨y,G⟩:∃ y,y=d2[a]!:=⟨_,rfl⟩;have u:=f.out.1.swp_any (i:=a) (j:=j) γ γ;rw [← F,← G] at u;rw [← F] at r1;rw [← G] at r0;have D:=Hd u
     have m:Hid (Sort.heapPop (ltF c) a i (Sort.siftDown (ltF c) i a 0 (Sort.swp d2 a j))=T):=by
      have:=f.out.2.2.2;rw [O];exact this
     have v:Hid (∀ k,k<(Sort.swp d2 a j).size→(Sort.swp d2 a j)[k]! < N):=Jr f.out.2.1 γ γ;have p:Hid ((Sort.swp d2 a j).size=n):=(Sort.size_swp ..).trans P;have z:Hid ((Sort.siftDown (ltF c) i a 0 (Sort.swp d2 a j)).size=(Sort.swp d2 a j).size∧∀ k,k<(Sort.siftDown (ltF c) i a 0 (Sort.swp d2 a j)).size→(Sort.siftDown (ltF c) i a 0 (Sort.swp d2 a j))[k]! < N):=Vk (i - 0) 0 _ (Nr _) (by have:=p.out;omega) v.out;have e3:(a:Int)+(i:Int)=(j:Int):=γ;have w3:IntKind.i64.wrap ((a:Int)+(i:Int))=(j:Int):=υ;have i2:(a:Int)<(n:Int):=γ;have i3:(j:Int)<(n:Int):=γ;have k2:(0:Int)≤(a:Int):=γ;have k3:(0:Int)≤(j:Int):=γ;have z3:j<n:=γ;have z4:a<n:=γ;have Y:i≤hi:=γ;by_cases hne:a=j
     ·have Q:x=y:=by rw [F,G,hne]
      clear F G u O z1 A V e1 e2;subst Q hne;clear r1 f1;go_wp2;go_region
      all_goals
       have C:Hid (Cl 208 #[.slice (Ad g o) n l,I 0,I (i:Int),I (a:Int),.func (.func 100) #[B] #[]] _ fun e w'=>e=.returned (.tuple #[])∧SrtW w w' g o (Sort.siftDown (ltF c) i a 0 (Sort.swp d2 a a))):=CS.out _ 0 i _ p.out v.out (Nat.zero_le _) Y (D.out.kept (Qe (Qd _)));go_wp2_with (go_at_call 208;refine C.out.mono ?_;rintro e w2 ⟨rfl,h⟩;have H1:=Hd h;clear h)
       go_roundg i
       case measure=>omega
       case rel=>exact ⟨i,Sort.siftDown (ltF c) i a 0 (Sort.swp d2 a a),γ,rfl,σ,H1.out,z.out.2,z.out.1.trans p.out,m.out⟩
     ·clear F G u O z1 A V e1 e2;go_wp2;go_region
      all_goals
       have C:Hid (Cl 208 #[.slice (Ad g o) n l,I 0,I (i:Int),I (a:Int),.func (.func 100) #[B] #[]] _ fun e w'=>e=.returned (.tuple #[])∧SrtW w w' g o (Sort.siftDown (ltF c) i a 0 (Sort.swp d2 a j))):=CS.out _ 0 i _ p.out v.out (Nat.zero_le _) Y (D.out.kept (Qe (Qd _)));go_wp2_with (go_at_call 208;refine C.out.mono ?_;rintro e w2 ⟨rfl,h⟩;have H1:=Hd h;clear h)
       go_roundg i
       case measure=>omega
       case rel=>exact ⟨i,Sort.siftDown (ltF c) i a 0 (Sort.swp d2 a j),γ,rfl,σ,H1.out,z.out.2,z.out.1.trans p.out,m.out⟩
  ·have z1:((i+1:Nat):Int) - 1=(i:Int):=γ;have z2:(0:Int)≤(i:Int):=γ;have C:Hid (Cl 208 #[.slice (Ad g o) n l,I (i:Int),I (hi:Int),I (a:Int),.func (.func 100) #[B] #[]] wr fun e w'=>e=.returned (.tuple #[])∧SrtW w w' g o (Sort.siftDown (ltF c) hi a i d1)):=CS.out wr i hi d1 f.out.2.2.1 f.out.2.1 γ (Nr _) f.out.1;have z:Hid ((Sort.siftDown (ltF c) hi a i d1).size=d1.size∧∀ k,k<(Sort.siftDown (ltF c) hi a i d1).size→(Sort.siftDown (ltF c) hi a i d1)[k]! < N):=Vk (hi - i) i d1 (Nr _) (by have:=f.out.2.2.1;omega) f.out.2.1;rw [z1];go_wp2_with (go_at_call 208;refine C.out.mono ?_;rintro e w2 ⟨rfl,h⟩;have H1:=Hd h;clear h)
   go_roundg i
   case measure=>omega
   case rel=>exact ⟨i,Sort.siftDown (ltF c) hi a i d1,γ,rfl,σ,H1.out,z.out.2,z.out.1.trans f.out.2.2.1,f.out.2.2.2⟩
theorem SwpW.new {w w1:World} {g o:Nat} (h:SrtW w w1 g o d):SwpW w (w1.alloc (.cells #[I 0] 3)) g o d w1.heap.size 0 :=
  ⟨h.kept β1,World.cell?_alloc_at _ _ _ _ rfl,World.frozen?_alloc_at _ _ _ _ rfl,h.gr.size,fun e=>by have:=h.lt;omega⟩
def hintN:Sort.Hint→Nat
  | .unknown=>0
  | .increasing=>1
  | .decreasing=>2
def hintS (s:Nat):Sort.Hint:=if s=0 then .increasing else if s=12 then .decreasing else .unknown
theorem choose_eq {lt:Nat→Nat→Bool} {a l:Nat}:Sort.choosePivot lt d a (a+l) =
    ((if l ≥ 8 then (if l ≥ 50 then Sort.median lt d (Sort.medianAdjacent lt d (a+l / 4*1) 0).1 (Sort.medianAdjacent lt d (a+l / 4*2) (Sort.medianAdjacent lt d (a+l / 4*1) 0).2).1 (Sort.medianAdjacent lt d (a+l / 4*3) (Sort.medianAdjacent lt d (a+l / 4*2) (Sort.medianAdjacent lt d (a+l / 4*1) 0).2).2).1 (Sort.medianAdjacent lt d (a+l / 4*3) (Sort.medianAdjacent lt d (a+l / 4*2) (Sort.medianAdjacent lt d (a+l / 4*1) 0).2).2).2 else Sort.median lt d (a+l / 4*1) (a+l / 4*2) (a+l / 4*3) 0) else (a+l / 4*2,0)).1,
     hintS (if l ≥ 8 then (if l ≥ 50 then Sort.median lt d (Sort.medianAdjacent lt d (a+l / 4*1) 0).1 (Sort.medianAdjacent lt d (a+l / 4*2) (Sort.medianAdjacent lt d (a+l / 4*1) 0).2).1 (Sort.medianAdjacent lt d (a+l / 4*3) (Sort.medianAdjacent lt d (a+l / 4*2) (Sort.medianAdjacent lt d (a+l / 4*1) 0).2).2).1 (Sort.medianAdjacent lt d (a+l / 4*3) (Sort.medianAdjacent lt d (a+l / 4*2) (Sort.medianAdjacent lt d (a+l / 4*1) 0).2).2).2 else Sort.median lt d (a+l / 4*1) (a+l / 4*2) (a+l / 4*3) 0) else (a+l / 4*2,0)).2):=by
  unfold Sort.choosePivot hintS;dsimp only;rw [Nat.add_sub_cancel_left]
theorem choose_any (w:World) (g o n j a b N:Nat) (p:Value) (f:Nat→Nat→Int) (A:CmpF w g N p f) (d:Array Nat) (B:d.size=n) (z:∀ k,k<d.size→d[k]! < N) (a6:a<b) (a7:b≤n) (M:n≤300) (w1:World) (T:SrtW w w1 g o d) :
    Cl 168 #[.slice (Ad g o) n j,I (a:Int),I (b:Int),.func (.func 100) #[p] #[]] w1 fun e w'=>e=.returned (.tuple #[I ((Sort.choosePivot (ltF f) d a b).1:Int),I (hintN (Sort.choosePivot (ltF f) d a b).2:Int)])∧SrtW w w' g o d:=by
  obtain ⟨l,hl⟩:∃ l:Nat,b=a+l:=⟨b - a,γ⟩;have e2:(b:Int) - (a:Int)=(l:Int):=γ;have K:=Hd (SwpW.new T);have i:=choose_eq (lt:=ltF f) (d:=d) (a:=a) (l:=l);rw [← hl] at i;obtain ⟨R,hR⟩:∃ R,R=Sort.choosePivot (ltF f) d a b:=⟨_,rfl⟩;rw [← hR] at i ⊢;clear hR;have zg:=T.lt;by_cases h8:l ≥ 8
  · have j8:(8:Int)≤(l:Int):=γ
    rw [if_pos h8] at i;by_cases h50:l ≥ 50
    · have a2:(50:Int)≤(l:Int):=γ
      rw [if_pos h50] at i;obtain ⟨x1,t⟩:∃ x:Nat,x=a+l / 4*1:=⟨_,rfl⟩;obtain ⟨x2,m⟩:∃ x:Nat,x=a+l / 4*2:=⟨_,rfl⟩;obtain ⟨x3,u⟩:∃ x:Nat,x=a+l / 4*3:=⟨_,rfl⟩;have y1:(a:Int)+(l:Int) / 4=(x1:Int):=γ;have y2:(a:Int)+(l:Int) / 4*2=(x2:Int):=γ;have y3:(a:Int)+(l:Int) / 4*3=(x3:Int):=γ;rw [← t,← m,← u] at i;have U:Hid (∀ W,SwpW w W g o d w1.heap.size 0→Cl 211 #[.slice (Ad g o) n j,I (x1:Int),.pointer (Az w1.heap.size),.func (.func 100) #[p] #[]] W fun e w'=>e=.returned (I ((Sort.medianAdjacent (ltF f) d x1 0).1:Int))∧SwpW w w' g o d w1.heap.size (Sort.medianAdjacent (ltF f) d x1 0).2):=fun W v=>Xd w g o n j x1 N w1.heap.size 0 p f A d B z γ γ M γ W v;have b1:(Sort.medianAdjacent (ltF f) d x1 0).1<n∧(Sort.medianAdjacent (ltF f) d x1 0).2≤0+3:=Yz γ γ γ;obtain ⟨⟨G,C⟩,O⟩:∃ r,r=Sort.medianAdjacent (ltF f) d x1 0:=⟨_,rfl⟩;rw [← O] at U b1 i;dsimp only at U b1 i;have V:Hid (∀ W,SwpW w W g o d w1.heap.size C→Cl 211 #[.slice (Ad g o) n j,I (x2:Int),.pointer (Az w1.heap.size),.func (.func 100) #[p] #[]] W fun e w'=>e=.returned (I ((Sort.medianAdjacent (ltF f) d x2 C).1:Int))∧SwpW w w' g o d w1.heap.size (Sort.medianAdjacent (ltF f) d x2 C).2):=fun W v=>Xd w g o n j x2 N w1.heap.size C p f A d B z γ γ M γ W v;have b2:(Sort.medianAdjacent (ltF f) d x2 C).1<n∧(Sort.medianAdjacent (ltF f) d x2 C).2≤C+3:=Yz γ γ γ;obtain ⟨⟨H,D⟩,P⟩:∃ r,r=Sort.medianAdjacent (ltF f) d x2 C:=⟨_,rfl⟩;rw [← P] at V b2 i;dsimp only at V b2 i;have X:Hid (∀ W,SwpW w W g o d w1.heap.size D→Cl 211 #[.slice (Ad g o) n j,I (x3:Int),.pointer (Az w1.heap.size),.func (.func 100) #[p] #[]] W fun e w'=>e=.returned (I ((Sort.medianAdjacent (ltF f) d x3 D).1:Int))∧SwpW w w' g o d w1.heap.size (Sort.medianAdjacent (ltF f) d x3 D).2):=fun W v=>Xd w g o n j x3 N w1.heap.size D p f A d B z γ γ M γ W v;have b3:(Sort.medianAdjacent (ltF f) d x3 D).1<n∧(Sort.medianAdjacent (ltF f) d x3 D).2≤D+3:=Yz γ γ γ;obtain ⟨⟨J,E⟩,Q⟩:∃ r,r=Sort.medianAdjacent (ltF f) d x3 D:=⟨_,rfl⟩;rw [← Q] at X b3 i;dsimp only at X b3 i;have F:Hid (∀ W,SwpW w W g o d w1.heap.size E→Cl 212 #[.slice (Ad g o) n j,I (G:Int),I (H:Int),I (J:Int),.pointer (Az w1.heap.size),.func (.func 100) #[p] #[]] W fun e w'=>e=.returned (I ((Sort.median (ltF f) d G H J E).1:Int))∧SwpW w w' g o d w1.heap.size (Sort.median (ltF f) d G H J E).2):=fun W v=>Vn w g o n j G H J N w1.heap.size E p f A d B z γ γ γ M γ W v;have b4:(Sort.median (ltF f) d G H J E).1<n∧(Sort.median (ltF f) d G H J E).2≤E+3:=Yz γ γ γ;obtain ⟨⟨p4,y⟩,s⟩:∃ r,r=Sort.median (ltF f) d G H J E:=⟨_,rfl⟩;rw [← s] at F b4 i;dsimp only at F b4 i;have L:=Hd i;have Z:y≤300:=γ;clear i hl t m u A B z T b1 b2 b3 b4 O P Q s;go_enter Tryz.func168,Tryz.ntmps168;first
      | go_wp2_with (first | (go_at_call 211;refine (U.out _ K.out).mono ?_;rintro e w2 ⟨rfl,h⟩;have H1:=Hd h;clear h K) | (go_at_call 211;refine (V.out _ H1.out).mono ?_;rintro e w3 ⟨rfl,h⟩;have H2:=Hd h;clear h H1) | (go_at_call 211;refine (X.out _ H2.out).mono ?_;rintro e w4 ⟨rfl,h⟩;have H3:=Hd h;clear h H2) | (go_at_call 212;refine (F.out _ H3.out).mono ?_;rintro e w5 ⟨rfl,h⟩;have Y:=Hd h;have cc:=h.c;clear h H3))
      all_goals
        go_ret2
        refine ⟨?_,Y.out.r⟩;rw [L.out];simp only [beq_iff_eq,beq_eq_false_iff_ne,ne_eq] at *;first
        | (have q:hintS y=.increasing:=by unfold hintS;rw [if_pos γ]
           rw [q];rfl)
        | (have q:hintS y=.decreasing:=by unfold hintS;rw [if_neg γ,if_pos γ]
           rw [q];rfl)
        | (have q:hintS y=.unknown:=by unfold hintS;rw [if_neg γ,if_neg γ]
           rw [q];rfl)
    · have a2:¬ (50:Int)≤(l:Int):=γ
      rw [if_neg h50] at i;obtain ⟨x1,t⟩:∃ x:Nat,x=a+l / 4*1:=⟨_,rfl⟩;obtain ⟨x2,m⟩:∃ x:Nat,x=a+l / 4*2:=⟨_,rfl⟩;obtain ⟨x3,u⟩:∃ x:Nat,x=a+l / 4*3:=⟨_,rfl⟩;have y1:(a:Int)+(l:Int) / 4=(x1:Int):=γ;have y2:(a:Int)+(l:Int) / 4*2=(x2:Int):=γ;have y3:(a:Int)+(l:Int) / 4*3=(x3:Int):=γ;rw [← t,← m,← u] at i;have F:Hid (∀ W,SwpW w W g o d w1.heap.size 0→Cl 212 #[.slice (Ad g o) n j,I (x1:Int),I (x2:Int),I (x3:Int),.pointer (Az w1.heap.size),.func (.func 100) #[p] #[]] W fun e w'=>e=.returned (I ((Sort.median (ltF f) d x1 x2 x3 0).1:Int))∧SwpW w w' g o d w1.heap.size (Sort.median (ltF f) d x1 x2 x3 0).2):=fun W v=>Vn w g o n j x1 x2 x3 N w1.heap.size 0 p f A d B z γ γ γ M γ W v;have b4:(Sort.median (ltF f) d x1 x2 x3 0).1<n∧(Sort.median (ltF f) d x1 x2 x3 0).2≤0+3:=Yz γ γ γ;obtain ⟨⟨p4,y⟩,s⟩:∃ r,r=Sort.median (ltF f) d x1 x2 x3 0:=⟨_,rfl⟩;rw [← s] at F b4 i;dsimp only at F b4 i;have L:=Hd i;have Z:y≤300:=γ;clear i hl t m u A B z T b4 s;go_enter Tryz.func168,Tryz.ntmps168;go_wp2_with (go_at_call 212;refine (F.out _ K.out).mono ?_;rintro e w5 ⟨rfl,h⟩;have Y:=Hd h;have cc:=h.c;clear h K)
      all_goals
        go_ret2
        refine ⟨?_,Y.out.r⟩;rw [L.out];simp only [beq_iff_eq,beq_eq_false_iff_ne,ne_eq] at *;first
        | (have q:hintS y=.increasing:=by unfold hintS;rw [if_pos γ]
           rw [q];rfl)
        | (have q:hintS y=.decreasing:=by unfold hintS;rw [if_neg γ,if_pos γ]
           rw [q];rfl)
        | (have q:hintS y=.unknown:=by unfold hintS;rw [if_neg γ,if_neg γ]
           rw [q];rfl)
  · have j8:¬ (8:Int)≤(l:Int):=γ
    rw [if_neg h8] at i;obtain ⟨x2,m⟩:∃ x:Nat,x=a+l / 4*2:=⟨_,rfl⟩;have y2:(a:Int)+(l:Int) / 4*2=(x2:Int):=γ;rw [← m] at i;have L:=Hd i;have hk:SrtW w (w1.alloc (.cells #[I 0] 3)) g o d:=K.out.r;clear i hl m A B z T;go_enter Tryz.func168,Tryz.ntmps168;go_wp2;go_ret2
    refine ⟨?_,hk⟩;rw [L.out];rfl
theorem partEq_any (w:World) (g o n ad a b z N:Nat) (rv:Value) (m:Nat→Nat→Int) (hc:CmpF w g N rv m) (d:Array Nat) (hd:d.size=n) (hN:∀ k,k<d.size→d[k]! < N) (am:a<z) (au:z<b) (an:b≤n) (hn:n≤300) (w1:World) (hw:SrtW w w1 g o d) :
  Cl 171 #[.slice (Ad g o) n ad,I (a:Int),I (b:Int),I (z:Int),.func (.func 100) #[rv] #[]] w1 fun e w'=>e=.returned (I ((Sort.partitionEqual (ltF m) d a b z).1:Int))∧SrtW w w' g o (Sort.partitionEqual (ltF m) d a b z).2:=by
 have HC:Hid (CmpF w g N rv m):=hc;have ar:a≠z:=γ;obtain ⟨r1,f1⟩:=hw.row z γ;obtain ⟨r0,f0⟩:=hw.row a γ;have zg:=hw.lt;obtain ⟨x,hx⟩:∃ x,x=d[z]!:=⟨_,rfl⟩;obtain ⟨y,hy⟩:∃ y,y=d[a]!:=⟨_,rfl⟩;have s:=hw.swp_any (i:=a) (j:=z) γ γ;rw [← hx,← hy] at s;rw [← hx] at r1;rw [← hy] at r0;have L:Hid (SrtW w ((w1.setCell ⟨g,o+a,none⟩ (I (x:Int))).setCell ⟨g,o+z,none⟩ (I (y:Int))) g o (Sort.swp d a z)):=s;have a2:Hid ((∀ k,k<(Sort.swp d a z).size→(Sort.swp d a z)[k]! < N)∧(Sort.swp d a z).size=n):=⟨Jr hN γ γ,(Sort.size_swp ..).trans hd⟩;obtain ⟨T,hT⟩:∃ T,T=Sort.partitionEqual (ltF m) d a b z:=⟨_,rfl⟩;have HT:Hid (Sort.partEqLoop (ltF m) a (a+1) (b - 1) (Sort.swp d a z)=T):=hT.symm;rw [← hT];obtain ⟨b',ae⟩:∃ b',b=b'+1:=⟨b - 1,γ⟩;have i2:(a:Int)<(n:Int):=γ;have i3:(z:Int)<(n:Int):=γ;have k2:(0:Int)≤(a:Int):=γ;have k3:(0:Int)≤(z:Int):=γ;subst ae;rw [Nat.add_sub_cancel] at HT;clear hc hw hN hd hT hx hy s;go_enter Tryz.func171,Tryz.ntmps171;go_wp2;go_region
 all_goals
  go_wp2;go_loopg [11,12] (b'+1 - (a+1)) (fun gk a7 X wx=>∃ (i j:Nat) (d1:Array Nat),a+1≤i∧i≤j+1∧j≤b'∧gk=j+1 - i∧a7=I (i:Int)∧X=I (j:Int)∧SrtW w wx g o d1∧(∀ k,k<d1.size→d1[k]! < N)∧d1.size=n∧Sort.partEqLoop (ltF m) a i j d1=T)
  case atStart=>exact ⟨a+1,b',Sort.swp d a z,Nr _,γ,Nr _,rfl,σ,rfl,L.out.kept (Qe (Qd _)),a2.out.1,a2.out.2,HT.out⟩
  case round =>
   clear L a2 HT r1 f1 r0 f0;obtain ⟨i,j,d1,ak,af,aq,rfl,rfl,rfl,hS,aa,ac,ab⟩:=hrel;have HS:Hid (SrtW w wr g o d1):=hS;have E:Hid ((∀ k,k<d1.size→d1[k]! < N)∧d1.size=n∧Sort.partEqLoop (ltF m) a i j d1=T):=⟨aa,ac,ab⟩;clear hS aa ac ab;go_wp2;go_loopg [11] (j+1 - i) (fun gk a7 wx=>∃ f:Nat,i≤f∧f≤j+1∧gk=j+1 - f∧a7=I (f:Int)∧SrtW w wx g o d1∧Sort.scanUp (fun x => !ltF m d1[a]! x) d1 j f=Sort.scanUp (fun x => !ltF m d1[a]! x) d1 j i)
   case atStart=>exact ⟨i,Nr _,af,rfl,rfl,HS.out,rfl⟩
   case round =>
    clear HS;obtain ⟨f,ao,ap,rfl,rfl,A,a8⟩:=hrel;have H2:Hid (SrtW w wr g o d1):=A;have HU:Hid (Sort.scanUp (fun x => !ltF m d1[a]! x) d1 j f=Sort.scanUp (fun x => !ltF m d1[a]! x) d1 j i):=a8;clear A a8;by_cases h1:f≤j
    ·have t1:(f:Int)≤(j:Int):=γ;have Z:=E.out.2.1;obtain ⟨V,fk⟩:=H2.out.row f γ;obtain ⟨U,fa⟩:=H2.out.row a γ;have lk:=E.out.1 f γ;have R:=E.out.1 a γ;have zh:=H2.out.lt;obtain ⟨u,J⟩:∃ u,u=d1[a]!:=⟨_,rfl⟩;obtain ⟨v,K⟩:∃ v,v=d1[f]!:=⟨_,rfl⟩;rw [← K] at V lk;rw [← J] at U R;have P:Hid (u=d1[a]! ∧ v=d1[f]!):=⟨J,K⟩;have H:Hid (∀ W:World,Bl wr W→Rt 100 #[rv,I (u:Int),I (v:Int)] W (I (m u v))):=fun W hW=>HC.out W (H2.out.kept hW).gr u v R lk;obtain ⟨c,r⟩:∃ c,c=m u v:=⟨_,rfl⟩
     have p:Hid (ltF m d1[a]! d1[f]! = decide (c<0)):=by
      have:ltF m d1[a]! d1[f]! = decide (c<0):=by rw [r,J,K];rfl
      exact this
     rw [← r] at H;have iK:(f:Int)<(n:Int):=γ;have kK:(0:Int)≤(f:Int):=γ;clear J K r lk R;by_cases q:c<0
     ·have M:decide (c<0)=true:=decide_eq_true q;go_wp2;obtain ⟨B,C⟩:=kcn wr;refine wk ?_;repeat (go_big_quiet_step ((go_at_call 100;exact Qm (H.out _ (Kin.h _)))))
      refine kq1 (fun D hq=>?_);clear B C
      have HI:Hid (f=Sort.scanUp (fun x => !ltF m d1[a]! x) d1 j i):=by
       have:f=Sort.scanUp (fun x => !ltF m d1[a]! x) d1 j i:=by
        rw [← HU.out];exact (Go.Proofs.scanUp_end _ d1 j f (Or.inr (by rw [p.out,M];rfl))).symm
       exact this
      have t:Hid (SrtW w D g o d1):=H2.out.kept hq;clear V U fk fa hq H P p HU H2 q M zh;go_wp2;go_loopg [12] j (fun gk X wx=>∃ l:Nat,l≤j∧f≤l+1∧l=gk∧X=I (l:Int)∧SrtW w wx g o d1∧Sort.scanDown (fun x=>ltF m d1[a]! x) d1 f l=Sort.scanDown (fun x=>ltF m d1[a]! x) d1 f j)
      case atStart=>exact ⟨j,Nr _,γ,rfl,rfl,t.out,rfl⟩
      case round =>
       clear t;obtain ⟨l,ag,ah,rfl,rfl,A,Q⟩:=hrel;have H2:Hid (SrtW w wr g o d1):=A;have Y:Hid (Sort.scanDown (fun x=>ltF m d1[a]! x) d1 f l=Sort.scanDown (fun x=>ltF m d1[a]! x) d1 f j):=Q;clear A Q;by_cases h2:f≤l
       ·have t2:(f:Int)≤(l:Int):=γ;have Z:=E.out.2.1;obtain ⟨V,fk⟩:=H2.out.row l γ;obtain ⟨U,fa⟩:=H2.out.row a γ;have lk:=E.out.1 l γ;have R:=E.out.1 a γ;have zh:=H2.out.lt;obtain ⟨u,J⟩:∃ u,u=d1[a]!:=⟨_,rfl⟩;obtain ⟨v,K⟩:∃ v,v=d1[l]!:=⟨_,rfl⟩;rw [← K] at V lk;rw [← J] at U R;have P:Hid (u=d1[a]! ∧ v=d1[l]!):=⟨J,K⟩;have H:Hid (∀ W:World,Bl wr W→Rt 100 #[rv,I (u:Int),I (v:Int)] W (I (m u v))):=fun W hW=>HC.out W (H2.out.kept hW).gr u v R lk;obtain ⟨c,r⟩:∃ c,c=m u v:=⟨_,rfl⟩
        have p:Hid (ltF m d1[a]! d1[l]! = decide (c<0)):=by
         have:ltF m d1[a]! d1[l]! = decide (c<0):=by rw [r,J,K];rfl
         exact this
        rw [← r] at H;have iK:(l:Int)<(n:Int):=γ;have kK:(0:Int)≤(l:Int):=γ;clear J K r lk R;by_cases q:c<0
        ·have M:decide (c<0)=true:=decide_eq_true q;go_wp2;obtain ⟨B,C⟩:=kcn wr;refine wk ?_;repeat (go_big_quiet_step ((go_at_call 100;exact Qm (H.out _ (Kin.h _)))))
         refine kq1 (fun D hq=>?_);clear B C;clear V U fk fa;go_wp2;go_roundg (l - 1)
         case measure=>omega
         case rel=>exact ⟨l - 1,γ,γ,rfl,σ,H2.out.kept hq,by rw [← Y.out];exact (Go.Proofs.scanDown_go _ d1 f l h2 γ (by rw [p.out];exact M)).symm⟩
        ·have M:decide (c<0)=false:=decide_eq_false q;go_wp2;obtain ⟨B,C⟩:=kcn wr;refine wk ?_;repeat (go_big_quiet_step ((go_at_call 100;exact Qm (H.out _ (Kin.h _)))))
         refine kq1 (fun D hq=>?_);clear B C
         have HX:Hid (l=Sort.scanDown (fun x=>ltF m d1[a]! x) d1 f j):=by
          have:l=Sort.scanDown (fun x=>ltF m d1[a]! x) d1 f j:=by
           rw [← Y.out];exact (Go.Proofs.scanDown_end _ d1 f l (Or.inr (by rw [p.out];exact M))).symm
          exact this
         have ai:f<l:=Go.Proofs.scans_lt (ltF m) a i j d1 γ HI.out HX.out h2
         have a6:Hid (Sort.partEqLoop (ltF m) a (f+1) (l - 1) (Sort.swp d1 f l)=T):=by
          have:Sort.partEqLoop (ltF m) a (f+1) (l - 1) (Sort.swp d1 f l)=T:=by
           rw [← E.out.2.2];exact (Go.Proofs.partEq_go (ltF m) a i j d1 HI.out HX.out γ).symm
          exact this
         have t:Hid (SrtW w D g o d1):=H2.out.kept hq;clear V U fk fa hq H P p Y H2;obtain ⟨r4,f4⟩:=t.out.row l γ;obtain ⟨r5,f5⟩:=t.out.row f γ;have zq:=t.out.lt;have s:=t.out.swap (i:=f) (j:=l) γ γ γ;obtain ⟨x2,F⟩:∃ x,x=d1[l]!:=⟨_,rfl⟩;obtain ⟨y2,G⟩:∃ y,y=d1[f]!:=⟨_,rfl⟩;rw [← F,← G] at s;rw [← F] at r4;rw [← G] at r5;have L:Hid (SrtW w ((D.setCell ⟨g,o+f,none⟩ (I (x2:Int))).setCell ⟨g,o+l,none⟩ (I (y2:Int))) g o (Sort.swp d1 f l)):=s;have O:Hid ((∀ k,k<(Sort.swp d1 f l).size→(Sort.swp d1 f l)[k]! < N)∧(Sort.swp d1 f l).size=n):=⟨Jr E.out.1 γ γ,(Sort.size_swp ..).trans Z⟩;have aj:f≠l:=γ;have t3:(f:Int)<(n:Int):=γ;have t4:(0:Int)≤(f:Int):=γ;have t5:¬ (l:Int)<(f:Int):=γ;clear F G s;go_wp2;go_region
         all_goals
          go_wp2;go_roundg (l - 1+1 - (f+1))
          case measure=>omega
          case rel=>exact ⟨f+1,l - 1,Sort.swp d1 f l,γ,γ,γ,rfl,σ,σ,L.out.kept (Qe (Qd _)),O.out.1,O.out.2,a6.out⟩
       ·have t2:¬ (f:Int)≤(l:Int):=γ;have t5:(l:Int)<(f:Int):=γ;go_wp2;obtain ⟨B,C⟩:=kcn wr;refine wk ?_;repeat (go_big_quiet_step (fail))
        refine kq1 (fun D hq=>?_);clear B C
        have HX:Hid (l=Sort.scanDown (fun x=>ltF m d1[a]! x) d1 f j):=by
         have:l=Sort.scanDown (fun x=>ltF m d1[a]! x) d1 f j:=by
          rw [← Y.out];exact (Go.Proofs.scanDown_end _ d1 f l (Or.inl h2)).symm
         exact this
        have HE:Hid (T=(f,d1)):=by
         have:T=(f,d1):=by
          rw [← E.out.2.2];exact Go.Proofs.partEq_break (ltF m) a i j d1 HI.out HX.out γ
         exact this
        have t:Hid (SrtW w D g o d1):=H2.out.kept hq;clear hq;go_wp2;go_ret;rw [HE.out];exact ⟨rfl,t.out⟩
     ·have M:decide (c<0)=false:=decide_eq_false q;go_wp2;obtain ⟨B,C⟩:=kcn wr;refine wk ?_;repeat (go_big_quiet_step ((go_at_call 100;exact Qm (H.out _ (Kin.h _)))))
      refine kq1 (fun D hq=>?_);clear B C;clear V U fk fa;go_wp2;go_roundg (j+1 - (f+1))
      case measure=>omega
      case rel=>exact ⟨f+1,γ,γ,rfl,σ,H2.out.kept hq,by rw [← HU.out];exact (Go.Proofs.scanUp_go _ d1 j f h1 (by rw [p.out,M];rfl)).symm⟩
    ·have t1:¬ (f:Int)≤(j:Int):=γ;go_wp2;obtain ⟨B,C⟩:=kcn wr;refine wk ?_;repeat (go_big_quiet_step (fail))
     refine kq1 (fun D hq=>?_);clear B C
     have HI:Hid (f=Sort.scanUp (fun x => !ltF m d1[a]! x) d1 j i):=by
      have:f=Sort.scanUp (fun x => !ltF m d1[a]! x) d1 j i:=by
       rw [← HU.out];exact (Go.Proofs.scanUp_end _ d1 j f (Or.inl h1)).symm
      exact this
     have t:Hid (SrtW w D g o d1):=H2.out.kept hq;clear hq HU H2;go_wp2;go_loopg [12] j (fun gk X wx=>∃ l:Nat,l≤j∧f≤l+1∧l=gk∧X=I (l:Int)∧SrtW w wx g o d1∧Sort.scanDown (fun x=>ltF m d1[a]! x) d1 f l=Sort.scanDown (fun x=>ltF m d1[a]! x) d1 f j)
     case atStart=>exact ⟨j,Nr _,γ,rfl,rfl,t.out,rfl⟩
     case round =>
      clear t;obtain ⟨l,ag,ah,rfl,rfl,A,Q⟩:=hrel;have H2:Hid (SrtW w wr g o d1):=A;have Y:Hid (Sort.scanDown (fun x=>ltF m d1[a]! x) d1 f l=Sort.scanDown (fun x=>ltF m d1[a]! x) d1 f j):=Q;clear A Q;by_cases h2:f≤l
      ·have t2:(f:Int)≤(l:Int):=γ;have Z:=E.out.2.1;obtain ⟨V,fk⟩:=H2.out.row l γ;obtain ⟨U,fa⟩:=H2.out.row a γ;have lk:=E.out.1 l γ;have R:=E.out.1 a γ;have zh:=H2.out.lt;obtain ⟨u,J⟩:∃ u,u=d1[a]!:=⟨_,rfl⟩;obtain ⟨v,K⟩:∃ v,v=d1[l]!:=⟨_,rfl⟩;rw [← K] at V lk;rw [← J] at U R;have P:Hid (u=d1[a]! ∧ v=d1[l]!):=⟨J,K⟩;have H:Hid (∀ W:World,Bl wr W→Rt 100 #[rv,I (u:Int),I (v:Int)] W (I (m u v))):=fun W hW=>HC.out W (H2.out.kept hW).gr u v R lk;obtain ⟨c,r⟩:∃ c,c=m u v:=⟨_,rfl⟩
       have p:Hid (ltF m d1[a]! d1[l]! = decide (c<0)):=by
        have:ltF m d1[a]! d1[l]! = decide (c<0):=by rw [r,J,K];rfl
        exact this
       rw [← r] at H;have iK:(l:Int)<(n:Int):=γ;have kK:(0:Int)≤(l:Int):=γ;clear J K r lk R;by_cases q:c<0
       ·have M:decide (c<0)=true:=decide_eq_true q;go_wp2;obtain ⟨B,C⟩:=kcn wr;refine wk ?_;repeat (go_big_quiet_step ((go_at_call 100;exact Qm (H.out _ (Kin.h _)))))
        refine kq1 (fun D hq=>?_);clear B C;clear V U fk fa;go_wp2;go_roundg (l - 1)
        case measure=>omega
        case rel=>exact ⟨l - 1,γ,γ,rfl,σ,H2.out.kept hq,by rw [← Y.out];exact (Go.Proofs.scanDown_go _ d1 f l h2 γ (by rw [p.out];exact M)).symm⟩
       ·have M:decide (c<0)=false:=decide_eq_false q;go_wp2;obtain ⟨B,C⟩:=kcn wr;refine wk ?_;repeat (go_big_quiet_step ((go_at_call 100;exact Qm (H.out _ (Kin.h _)))))
        refine kq1 (fun D hq=>?_);clear B C
        have HX:Hid (l=Sort.scanDown (fun x=>ltF m d1[a]! x) d1 f j):=by
         have:l=Sort.scanDown (fun x=>ltF m d1[a]! x) d1 f j:=by
          rw [← Y.out];exact (Go.Proofs.scanDown_end _ d1 f l (Or.inr (by rw [p.out];exact M))).symm
         exact this
        have ai:f<l:=Go.Proofs.scans_lt (ltF m) a i j d1 γ HI.out HX.out h2
        have a6:Hid (Sort.partEqLoop (ltF m) a (f+1) (l - 1) (Sort.swp d1 f l)=T):=by
         have:Sort.partEqLoop (ltF m) a (f+1) (l - 1) (Sort.swp d1 f l)=T:=by
          rw [← E.out.2.2];exact (Go.Proofs.partEq_go (ltF m) a i j d1 HI.out HX.out γ).symm
         exact this
        have t:Hid (SrtW w D g o d1):=H2.out.kept hq;clear V U fk fa hq H P p Y H2;obtain ⟨r4,f4⟩:=t.out.row l γ;obtain ⟨r5,f5⟩:=t.out.row f γ;have zq:=t.out.lt;have s:=t.out.swap (i:=f) (j:=l) γ γ γ;obtain ⟨x2,F⟩:∃ x,x=d1[l]!:=⟨_,rfl⟩;obtain ⟨y2,G⟩:∃ y,y=d1[f]!:=⟨_,rfl⟩;rw [← F,← G] at s;rw [← F] at r4;rw [← G] at r5;have L:Hid (SrtW w ((D.setCell ⟨g,o+f,none⟩ (I (x2:Int))).setCell ⟨g,o+l,none⟩ (I (y2:Int))) g o (Sort.swp d1 f l)):=s;have O:Hid ((∀ k,k<(Sort.swp d1 f l).size→(Sort.swp d1 f l)[k]! < N)∧(Sort.swp d1 f l).size=n):=⟨Jr E.out.1 γ γ,(Sort.size_swp ..).trans Z⟩;have aj:f≠l:=γ;have t3:(f:Int)<(n:Int):=γ;have t4:(0:Int)≤(f:Int):=γ;have t5:¬ (l:Int)<(f:Int):=γ;clear F G s;go_wp2;go_region
        all_goals
         go_wp2;go_roundg (l - 1+1 - (f+1))
         case measure=>omega
         case rel=>exact ⟨f+1,l - 1,Sort.swp d1 f l,γ,γ,γ,rfl,σ,σ,L.out.kept (Qe (Qd _)),O.out.1,O.out.2,a6.out⟩
      ·have t2:¬ (f:Int)≤(l:Int):=γ;have t5:(l:Int)<(f:Int):=γ;go_wp2;obtain ⟨B,C⟩:=kcn wr;refine wk ?_;repeat (go_big_quiet_step (fail))
       refine kq1 (fun D hq=>?_);clear B C
       have HX:Hid (l=Sort.scanDown (fun x=>ltF m d1[a]! x) d1 f j):=by
        have:l=Sort.scanDown (fun x=>ltF m d1[a]! x) d1 f j:=by
         rw [← Y.out];exact (Go.Proofs.scanDown_end _ d1 f l (Or.inl h2)).symm
        exact this
       have HE:Hid (T=(f,d1)):=by
        have:T=(f,d1):=by
         rw [← E.out.2.2];exact Go.Proofs.partEq_break (ltF m) a i j d1 HI.out HX.out γ
        exact this
       have t:Hid (SrtW w D g o d1):=H2.out.kept hq;clear hq;go_wp2;go_ret;rw [HE.out];exact ⟨rfl,t.out⟩
end Go.Proofs.YtbjmnlefkbhbdaaGreatDoor
