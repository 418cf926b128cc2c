/- A part of it. -/
import Derived.Test.YtjkjpopghkeibaaGreatDoorQlat
set_option maxRecDepth 100000
set_option maxHeartbeats 40000000
namespace Go.Proofs.YtjkjpopghkeibaaGreatDoor
open Go.RowKit
theorem sift_any (w:World) (g o n ai lo hi first N:Nat) (rv:Value) (a:Nat→Nat→Int) (hc:CmpF w g N rv a) (d:Array Nat) (hd:d.size=n) (hN:∀ k,k<d.size→d[k]! < N) (aj:lo≤300) (ao:first+hi≤n) (hn:n≤300) (w1:World) (hw:SrtW w w1 g o d) :
  Cl 216 #[.slice (Ad g o) n ai,I (lo:Int),I (hi:Int),I (first:Int),.func (.func 67) #[rv] #[]] w1 fun e w'=>e=.returned (.tuple #[])∧SrtW w w' g o (Sort.siftDown (ltF a) hi first lo d):=by
 have HC:=Hd hc;have HW:=H3 hw hN hd;obtain ⟨T,hT⟩:∃ T,T=Sort.siftDown (ltF a) hi first lo d:=⟨_,rfl⟩;have HT:=Hd hT.symm;rw [← hT];clear hc hw hN hd hT;go_enter Tryz.func216,Tryz.ntmps216;go_wp2;go_loopg [10] (hi - lo) (fun gk ak wx=>∃ (r:Nat) (d1:Array Nat),r≤300∧gk=hi - r∧ak=I (r:Int)∧SrtW w wx g o d1∧(∀ k,k<d1.size→d1[k]! < N)∧d1.size=n∧Sort.siftDown (ltF a) hi first r d1=T)
 case atStart=>exact ⟨lo,d,aj,rfl,rfl,HW.out.1,HW.out.2.1,HW.out.2.2,HT.out⟩
 case round =>
  clear HW HT;obtain ⟨r,d1,hr,rfl,rfl,hS,a7,a2,V⟩:=hrel;have A:=H4 hS a7 a2 V;obtain ⟨c,s⟩:∃ c:Nat,c=2*r+1:=⟨_,rfl⟩;by_cases h1:c<hi
  ·have j1:¬ (hi:Int)≤2*(r:Int)+1:=γ;have L:=a2;obtain ⟨fr,p⟩:∃ x,x=first+r:=⟨_,rfl⟩;obtain ⟨U,F⟩:∃ x,x=first+c:=⟨_,rfl⟩
   have a6:Hid (T=if (decide (c+1<hi) && ltF a d1[first+c]! d1[first+c+1]!)=true then (if ltF a d1[first+r]! d1[first+(c+1)]! = true then Sort.siftDown (ltF a) hi first (c+1) (Sort.swp d1 (first+r) (first+(c+1))) else d1) else (if ltF a d1[first+r]! d1[first+c]! = true then Sort.siftDown (ltF a) hi first c (Sort.swp d1 (first+r) (first+c)) else d1)):=by
    have:T=if (decide (c+1<hi) && ltF a d1[first+c]! d1[first+c+1]!)=true then (if ltF a d1[first+r]! d1[first+(c+1)]! = true then Sort.siftDown (ltF a) hi first (c+1) (Sort.swp d1 (first+r) (first+(c+1))) else d1) else (if ltF a d1[first+r]! d1[first+c]! = true then Sort.siftDown (ltF a) hi first c (Sort.swp d1 (first+r) (first+c)) else d1):=by
     rw [← V,Sort.siftDown,dif_neg γ,s];split
     ·rename_i q
      have q':2*r+1+1<hi:=by simp at q;omega
      rw [dif_pos γ]
      cases ltF a d1[first+r]! d1[first+(2*r+2)]! <;> simp
     ·cases ltF a d1[first+r]! d1[first+(2*r+1)]! <;> simp
    exact this
   have e1:(first:Int)+(2*(r:Int)+1)=(U:Int):=γ;have e2:(first:Int)+(r:Int)=(fr:Int):=γ;have ab:IntKind.i64.wrap ((first:Int)+(2*(r:Int)+1))=(U:Int):=υ;have ap:IntKind.i64.wrap ((first:Int)+(r:Int))=(fr:Int):=υ;have aq:IntKind.i64.wrap (2*(r:Int)+1+1)=2*(r:Int)+2:=υ;have am:IntKind.i64.wrap (2*(r:Int)+2)=2*(r:Int)+2:=υ;have i1:(U:Int)<(n:Int):=γ;have i2:(fr:Int)<(n:Int):=γ;have k1:(0:Int)≤(U:Int):=γ;have k2:(0:Int)≤(fr:Int):=γ;clear hS a7 V a2;by_cases h2:c+1<hi
   ·have j2:decide (2*(r:Int)+2<(hi:Int))=true:=decide_eq_true γ;obtain ⟨fd,aa⟩:∃ x,x=first+c+1:=⟨_,rfl⟩;have e3:(U:Int)+1=(fd:Int):=γ;have ah:IntKind.i64.wrap ((U:Int)+1)=(fd:Int):=υ;obtain ⟨r0,_⟩:=A.out.1.row U γ;obtain ⟨r1,_⟩:=A.out.1.row fd γ;have l0:=A.out.2.1 U γ;have l1:=A.out.2.1 fd γ;have i3:(fd:Int)<(n:Int):=γ;have k3:(0:Int)≤(fd:Int):=γ;have zg:=A.out.1.lt;obtain ⟨x,hx⟩:∃ x,x=d1[U]!:=⟨_,rfl⟩;obtain ⟨y,hy⟩:∃ y,y=d1[fd]!:=⟨_,rfl⟩
    have ae:Hid (ltF a d1[first+c]! d1[first+c+1]! = ltF a x y):=by
     have:ltF a d1[first+c]! d1[first+c+1]! = ltF a x y:=by rw [hx,hy,F,aa]
     exact this
    rw [← hx] at r0 l0;rw [← hy] at r1 l1;have CB:Hid (∀ W:World,Bl wr W→Rt 67 #[rv,I (x:Int),I (y:Int)] W (I (a x y))):=fun W hW=>HC.out W (A.out.1.kept hW).gr x y l0 l1;obtain ⟨c1,a8⟩:∃ c,c=a x y:=⟨_,rfl⟩
    have ad:Hid (ltF a x y=decide (c1<0)):=by
     have:ltF a x y=decide (c1<0):=by rw [a8];rfl
     exact this
    rw [← a8] at CB;have an:=Hd aa;have ac:=H4 p F s L;have ar:IntKind.i64.wrap (U:Int)=(U:Int):=υ;have au:IntKind.i64.wrap (fd:Int)=(fd:Int):=υ;clear hx hy a8 l0 l1 aa p F s L;have H0:=Hd A.out.1;by_cases q:c1<0
    ·have R:Hid (T=if ltF a d1[first+r]! d1[first+(c+1)]! = true then Sort.siftDown (ltF a) hi first (c+1) (Sort.swp d1 (first+r) (first+(c+1))) else d1):=by
      have:T=if ltF a d1[first+r]! d1[first+(c+1)]! = true then Sort.siftDown (ltF a) hi first (c+1) (Sort.swp d1 (first+r) (first+(c+1))) else d1:=by
       rw [a6.out,if_pos (by rw [ae.out,ad.out];simp [h2,q])]
      exact this
     go_wp2;obtain ⟨J,K⟩:=kcn wr;refine wk ?_;repeat (go_big_quiet_step ((go_at_call 67;exact Qf (CB.out _ (Kin.h _)))))
     refine kq1 (fun Z hq=>?_);clear J K;have H1:=Hd (H0.out.kept hq);clear hq H0 CB r0 r1 e3 ah i3 k3;obtain ⟨p,F,s,L⟩:=ac.out;have u:=H1.out.lt;obtain ⟨b,t⟩:∃ x,x=first+(c+1):=⟨_,rfl⟩;obtain ⟨M,f4⟩:=H1.out.row fr γ;obtain ⟨O,f5⟩:=H1.out.row b γ;have X:=A.out.2.1 fr γ;have Y:=A.out.2.1 b γ;have e4:(first:Int)+(2*(r:Int)+2)=(b:Int):=γ;have w4:IntKind.i64.wrap ((first:Int)+(2*(r:Int)+2))=(b:Int):=υ;have i5:(b:Int)<(n:Int):=γ;have k5:(0:Int)≤(b:Int):=γ;have G:fr≠b:=γ;obtain ⟨z,H⟩:∃ z,z=d1[fr]!:=⟨_,rfl⟩;obtain ⟨v,hv⟩:∃ v,v=d1[b]!:=⟨_,rfl⟩;have f:=H1.out.swap (i:=fr) (j:=b) γ γ G;rw [← H,← hv] at f;rw [← H] at M X;rw [← hv] at O Y
     have D:Hid (T=if ltF a z v=true then Sort.siftDown (ltF a) hi first (c+1) (Sort.swp d1 fr b) else d1):=by
      have:T=if ltF a z v=true then Sort.siftDown (ltF a) hi first (c+1) (Sort.swp d1 fr b) else d1:=by
       rw [H,hv,t,p];exact R.out
      exact this
     have m:Hid (∀ W:World,Bl Z W→Rt 67 #[rv,I (z:Int),I (v:Int)] W (I (a z v))):=fun W hW=>HC.out W (H1.out.kept hW).gr z v X Y;obtain ⟨c2,l⟩:∃ c,c=a z v:=⟨_,rfl⟩
     have C:Hid (ltF a z v=decide (c2<0)):=by
      have:ltF a z v=decide (c2<0):=by rw [l];rfl
      exact this
     rw [← l] at m;have E:=H2 H hv;have B:Hid (b=first+(c+1)∧fr=first+r∧c=2*r+1∧b<d1.size∧fr<d1.size∧(c+1)<hi):=⟨t,p,s,γ,γ,γ⟩;clear H hv l X Y f e1 ab t p s F L;by_cases q2:c2<0
     ·go_wp2;obtain ⟨J,K⟩:=kcn Z;refine wk ?_;repeat (go_big_quiet_step ((go_at_call 67;exact Qf (m.out _ (Kin.h _)))))
      refine kq1 (fun wp hq=>?_);clear J K;have P:=Hd (H1.out.kept hq);have f:=P.out.swap (i:=fr) (j:=b) B.out.2.2.2.2.1 B.out.2.2.2.1 G;replace M:=Qa hq M;replace O:=Qa hq O;replace f4:=(hq.frozen u).trans f4;replace f5:=(hq.frozen u).trans f5;have zq:g<wp.heap.size:=Nl u hq.size;rw [← E.out.1,← E.out.2] at f;have Q:=Hd f;clear hq m f;go_wp2;go_region
      all_goals
       go_wp2;have hF:=B.out;go_roundg (hi - (c+1))
       case measure=>omega
       case rel=>exact ⟨(c+1),Sort.swp d1 fr b,γ,rfl,by first | go_num | (congr 1;omega),Q.out.kept (Qg (Qe _)),Jv A.out.2.1 B.out.2.2.2.2.1 B.out.2.2.2.1,by rw [Sort.size_swp];exact A.out.2.2.1,by rw [D.out,C.out,if_pos (by simpa using q2)]⟩
     ·have af:decide (c2<0)=false:=decide_eq_false q2;have ag:¬ c2<0:=q2;go_wp2;obtain ⟨J,K⟩:=kcn Z;refine wk ?_;repeat (go_big_quiet_step ((go_at_call 67;exact Qf (m.out _ (Kin.h _)))))
      refine kq1 (fun wp hq=>?_);clear J K
      have HE:Hid (d1=T):=by
       have:d1=T:=by
        rw [D.out,C.out,if_neg (by simpa using q2)]
       exact this
      have P:=Hd (H1.out.kept hq);clear M O f4 f5 hq;go_wp2;exact bodyPost_ret (v:=.tuple #[]) (by simp [results,Tryz.results216,go_sem]) rfl ⟨rfl,HE.out ▸ P.out⟩
    ·have R:Hid (T=if ltF a d1[first+r]! d1[first+c]! = true then Sort.siftDown (ltF a) hi first c (Sort.swp d1 (first+r) (first+c)) else d1):=by
      have:T=if ltF a d1[first+r]! d1[first+c]! = true then Sort.siftDown (ltF a) hi first c (Sort.swp d1 (first+r) (first+c)) else d1:=by
       rw [a6.out,if_neg (by rw [ae.out,ad.out];simp [q])]
      exact this
     go_wp2;obtain ⟨J,K⟩:=kcn wr;refine wk ?_;repeat (go_big_quiet_step ((go_at_call 67;exact Qf (CB.out _ (Kin.h _)))))
     refine kq1 (fun Z hq=>?_);clear J K;have H1:=Hd (H0.out.kept hq);clear hq H0 CB r0 r1 e3 ah i3 k3;obtain ⟨p,F,s,L⟩:=ac.out;have u:=H1.out.lt;obtain ⟨b,t⟩:∃ x,x=first+c:=⟨_,rfl⟩;obtain ⟨M,f4⟩:=H1.out.row fr γ;obtain ⟨O,f5⟩:=H1.out.row b γ;have X:=A.out.2.1 fr γ;have Y:=A.out.2.1 b γ;have e4:(first:Int)+(2*(r:Int)+1)=(b:Int):=γ;have w4:IntKind.i64.wrap ((first:Int)+(2*(r:Int)+1))=(b:Int):=υ;have i5:(b:Int)<(n:Int):=γ;have k5:(0:Int)≤(b:Int):=γ;have G:fr≠b:=γ;obtain ⟨z,H⟩:∃ z,z=d1[fr]!:=⟨_,rfl⟩;obtain ⟨v,hv⟩:∃ v,v=d1[b]!:=⟨_,rfl⟩;have f:=H1.out.swap (i:=fr) (j:=b) γ γ G;rw [← H,← hv] at f;rw [← H] at M X;rw [← hv] at O Y
     have D:Hid (T=if ltF a z v=true then Sort.siftDown (ltF a) hi first c (Sort.swp d1 fr b) else d1):=by
      have:T=if ltF a z v=true then Sort.siftDown (ltF a) hi first c (Sort.swp d1 fr b) else d1:=by
       rw [H,hv,t,p];exact R.out
      exact this
     have m:Hid (∀ W:World,Bl Z W→Rt 67 #[rv,I (z:Int),I (v:Int)] W (I (a z v))):=fun W hW=>HC.out W (H1.out.kept hW).gr z v X Y;obtain ⟨c2,l⟩:∃ c,c=a z v:=⟨_,rfl⟩
     have C:Hid (ltF a z v=decide (c2<0)):=by
      have:ltF a z v=decide (c2<0):=by rw [l];rfl
      exact this
     rw [← l] at m;have E:=H2 H hv;have B:Hid (b=first+c∧fr=first+r∧c=2*r+1∧b<d1.size∧fr<d1.size∧c<hi):=⟨t,p,s,γ,γ,γ⟩;clear H hv l X Y f e1 ab t p s F L;by_cases q2:c2<0
     ·go_wp2;obtain ⟨J,K⟩:=kcn Z;refine wk ?_;repeat (go_big_quiet_step ((go_at_call 67;exact Qf (m.out _ (Kin.h _)))))
      refine kq1 (fun wp hq=>?_);clear J K;have P:=Hd (H1.out.kept hq);have f:=P.out.swap (i:=fr) (j:=b) B.out.2.2.2.2.1 B.out.2.2.2.1 G;replace M:=Qa hq M;replace O:=Qa hq O;replace f4:=(hq.frozen u).trans f4;replace f5:=(hq.frozen u).trans f5;have zq:g<wp.heap.size:=Nl u hq.size;rw [← E.out.1,← E.out.2] at f;have Q:=Hd f;clear hq m f;go_wp2;go_region
      all_goals
       go_wp2;have hF:=B.out;go_roundg (hi - c)
       case measure=>omega
       case rel=>exact ⟨c,Sort.swp d1 fr b,γ,rfl,by first | go_num | (congr 1;omega),Q.out.kept (Qg (Qe _)),Jv A.out.2.1 B.out.2.2.2.2.1 B.out.2.2.2.1,by rw [Sort.size_swp];exact A.out.2.2.1,by rw [D.out,C.out,if_pos (by simpa using q2)]⟩
     ·have af:decide (c2<0)=false:=decide_eq_false q2;have ag:¬ c2<0:=q2;go_wp2;obtain ⟨J,K⟩:=kcn Z;refine wk ?_;repeat (go_big_quiet_step ((go_at_call 67;exact Qf (m.out _ (Kin.h _)))))
      refine kq1 (fun wp hq=>?_);clear J K
      have HE:Hid (d1=T):=by
       have:d1=T:=by
        rw [D.out,C.out,if_neg (by simpa using q2)]
       exact this
      have P:=Hd (H1.out.kept hq);clear M O f4 f5 hq;go_wp2;exact bodyPost_ret (v:=.tuple #[]) (by simp [results,Tryz.results216,go_sem]) rfl ⟨rfl,HE.out ▸ P.out⟩
   ·have j2:decide (2*(r:Int)+2<(hi:Int))=false:=decide_eq_false γ
    have R:Hid (T=if ltF a d1[first+r]! d1[first+c]! = true then Sort.siftDown (ltF a) hi first c (Sort.swp d1 (first+r) (first+c)) else d1):=by
     have:T=if ltF a d1[first+r]! d1[first+c]! = true then Sort.siftDown (ltF a) hi first c (Sort.swp d1 (first+r) (first+c)) else d1:=by
      rw [a6.out,if_neg (by simp [h2])]
     exact this
    have H0:=Hd A.out.1;go_wp2;obtain ⟨J,K⟩:=kcn wr;refine wk ?_;repeat (go_big_quiet_step (fail))
    refine kq1 (fun Z hq=>?_);clear J K;have H1:=Hd (H0.out.kept hq);clear hq H0;have u:=H1.out.lt;obtain ⟨b,t⟩:∃ x,x=first+c:=⟨_,rfl⟩;obtain ⟨M,f4⟩:=H1.out.row fr γ;obtain ⟨O,f5⟩:=H1.out.row b γ;have X:=A.out.2.1 fr γ;have Y:=A.out.2.1 b γ;have e4:(first:Int)+(2*(r:Int)+1)=(b:Int):=γ;have w4:IntKind.i64.wrap ((first:Int)+(2*(r:Int)+1))=(b:Int):=υ;have i5:(b:Int)<(n:Int):=γ;have k5:(0:Int)≤(b:Int):=γ;have G:fr≠b:=γ;obtain ⟨z,H⟩:∃ z,z=d1[fr]!:=⟨_,rfl⟩;obtain ⟨v,hv⟩:∃ v,v=d1[b]!:=⟨_,rfl⟩;have f:=H1.out.swap (i:=fr) (j:=b) γ γ G;rw [← H,← hv] at f;rw [← H] at M X;rw [← hv] at O Y
    have D:Hid (T=if ltF a z v=true then Sort.siftDown (ltF a) hi first c (Sort.swp d1 fr b) else d1):=by
     have:T=if ltF a z v=true then Sort.siftDown (ltF a) hi first c (Sort.swp d1 fr b) else d1:=by
      rw [H,hv,t,p];exact R.out
     exact this
    have m:Hid (∀ W:World,Bl Z W→Rt 67 #[rv,I (z:Int),I (v:Int)] W (I (a z v))):=fun W hW=>HC.out W (H1.out.kept hW).gr z v X Y;obtain ⟨c2,l⟩:∃ c,c=a z v:=⟨_,rfl⟩
    have C:Hid (ltF a z v=decide (c2<0)):=by
     have:ltF a z v=decide (c2<0):=by rw [l];rfl
     exact this
    rw [← l] at m;have E:=H2 H hv;have B:Hid (b=first+c∧fr=first+r∧c=2*r+1∧b<d1.size∧fr<d1.size∧c<hi):=⟨t,p,s,γ,γ,γ⟩;clear H hv l X Y f e1 ab t p s F L;by_cases q2:c2<0
    ·go_wp2;obtain ⟨J,K⟩:=kcn Z;refine wk ?_;repeat (go_big_quiet_step ((go_at_call 67;exact Qf (m.out _ (Kin.h _)))))
     refine kq1 (fun wp hq=>?_);clear J K;have P:=Hd (H1.out.kept hq);have f:=P.out.swap (i:=fr) (j:=b) B.out.2.2.2.2.1 B.out.2.2.2.1 G;replace M:=Qa hq M;replace O:=Qa hq O;replace f4:=(hq.frozen u).trans f4;replace f5:=(hq.frozen u).trans f5;have zq:g<wp.heap.size:=Nl u hq.size;rw [← E.out.1,← E.out.2] at f;have Q:=Hd f;clear hq m f;go_wp2;go_region
     all_goals
      go_wp2;have hF:=B.out;go_roundg (hi - c)
      case measure=>omega
      case rel=>exact ⟨c,Sort.swp d1 fr b,γ,rfl,by first | go_num | (congr 1;omega),Q.out.kept (Qg (Qe _)),Jv A.out.2.1 B.out.2.2.2.2.1 B.out.2.2.2.1,by rw [Sort.size_swp];exact A.out.2.2.1,by rw [D.out,C.out,if_pos (by simpa using q2)]⟩
    ·have af:decide (c2<0)=false:=decide_eq_false q2;have ag:¬ c2<0:=q2;go_wp2;obtain ⟨J,K⟩:=kcn Z;refine wk ?_;repeat (go_big_quiet_step ((go_at_call 67;exact Qf (m.out _ (Kin.h _)))))
     refine kq1 (fun wp hq=>?_);clear J K
     have HE:Hid (d1=T):=by
      have:d1=T:=by
       rw [D.out,C.out,if_neg (by simpa using q2)]
      exact this
     have P:=Hd (H1.out.kept hq);clear M O f4 f5 hq;go_wp2;exact bodyPost_ret (v:=.tuple #[]) (by simp [results,Tryz.results216,go_sem]) rfl ⟨rfl,HE.out ▸ P.out⟩
  ·have j1:(hi:Int)≤2*(r:Int)+1:=γ
   have HE:Hid (d1=T):=by
    have:d1=T:=by
     rw [← V,Sort.siftDown,dif_pos γ]
    exact this
   clear hS a7 V a2;go_wp2;go_end0
   exact ⟨rfl,HE.out ▸ A.out.1⟩
end Go.Proofs.YtjkjpopghkeibaaGreatDoor
