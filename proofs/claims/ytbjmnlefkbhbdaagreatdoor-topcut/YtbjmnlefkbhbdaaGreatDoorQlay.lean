/- A part of it. -/
import Derived.Test.YtbjmnlefkbhbdaaGreatDoorQlax
set_option maxRecDepth 100000
set_option maxHeartbeats 40000000
namespace Go.Proofs.YtbjmnlefkbhbdaaGreatDoor
open Go.RowKit
variable {d:Array Nat} {a b i p q r:Nat}
def partF (a:Nat) (r:Nat×Array Nat):Nat×Bool×Array Nat:=(r.1,false,Sort.swp r.2 r.1 a)
theorem part_any (w:World) (g o n ag a b O N:Nat) (rv:Value) (s:Nat→Nat→Int) (hc:CmpF w g N rv s) (d:Array Nat) (hd:d.size=n) (hN:∀ k,k<d.size→d[k]! < N) (ao:a<O) (au:O<b) (ap:b≤n) (hn:n≤300) (w1:World) (hw:SrtW w w1 g o d) :
  Cl 172 #[.slice (Ad g o) n ag,I (a:Int),I (b:Int),I (O:Int),.func (.func 100) #[rv] #[]] w1 fun e w'=>e=.returned (.tuple #[I ((Sort.partition (ltF s) d a b O).1:Int),.bool (Sort.partition (ltF s) d a b O).2.1])∧SrtW w w' g o (Sort.partition (ltF s) d a b O).2.2:=by
 have HC:=Hd hc;have ar:a≠O:=γ;obtain ⟨r1,f1⟩:=hw.row O γ;obtain ⟨r0,f0⟩:=hw.row a γ;have zg:=hw.lt;obtain ⟨x,hx⟩:∃ x,x=d[O]!:=⟨_,rfl⟩;obtain ⟨y,hy⟩:∃ y,y=d[a]!:=⟨_,rfl⟩;have t:=hw.swp_any (i:=a) (j:=O) γ γ;rw [← hx,← hy] at t;rw [← hx] at r1;rw [← hy] at r0;obtain ⟨D,ah⟩:∃ D,b=D+1:=⟨b - 1,γ⟩;subst ah;obtain ⟨T,hT⟩:∃ T,T=Sort.partition (ltF s) d a (D+1) O:=⟨_,rfl⟩;obtain ⟨d1,P⟩:∃ d1,d1=Sort.swp d a O:=⟨_,rfl⟩;rw [← P] at t;have ab:=Hd t;have HM:Hid ((∀ k,k<d1.size→d1[k]! < N)∧d1.size=n∧d1=Sort.swp d a O∧T=Sort.partition (ltF s) d a (D+1) O):=⟨P ▸ Jr hN γ γ,P ▸ (Sort.size_swp ..).trans hd,P,hT⟩;rw [← hT];have i2:(a:Int)<(n:Int):=γ;have av:(O:Int)<(n:Int):=γ;have k2:(0:Int)≤(a:Int):=γ;have k3:(0:Int)≤(O:Int):=γ;have a8:a+1≤D+1:=γ;clear hc hw hN hd hT hx hy t P;go_enter Tryz.func172,Tryz.ntmps172;go_upto_region 1 with fail
 go_cut [10] (fun am L=>am=I 0∧SrtW w L g o d1)
 case first =>
  go_region
  all_goals
   go_wp2;go_meet
   case rel=>exact ⟨rfl,ab.out.kept (Qe (Qd _))⟩
 case rest =>
  clear ab r1 f1 r0 f0 zg;obtain ⟨rfl,ad⟩:=hcut;have U:=Hd ad;clear ad;go_upto_block 0 with fail
  go_cut [12] (fun si L=>∃ p:Nat,si=I (p:Int)∧(a+1)≤p∧p≤D+1∧SrtW w L g o d1∧p=Sort.scanUp (fun x=>ltF s x d1[a]!) d1 D (a+1))
  case first =>
   go_wp2;go_loopg [12] (D+1 - (a+1)) (fun gk si L=>∃ p:Nat,(a+1)≤p∧p≤D+1∧gk=D+1 - p∧si=I (p:Int)∧SrtW w L g o d1∧Sort.scanUp (fun x=>ltF s x d1[a]!) d1 D p=Sort.scanUp (fun x=>ltF s x d1[a]!) d1 D (a+1))
   case atStart=>exact ⟨(a+1),Nr _,a8,rfl,γ8,U.out,rfl⟩
   case round =>
    clear U;obtain ⟨p,V,X,rfl,rfl,r,G⟩:=hrel;have H2:=Hd r;have HU:=Hd G;clear r G;by_cases h1:p≤D
    ·have t1:(p:Int)≤(D:Int):=γ;have Q:=HM.out.2.1;obtain ⟨rk,fk⟩:=H2.out.row p γ;obtain ⟨ra,fa⟩:=H2.out.row a γ;have lk:=HM.out.1 p γ;have la:=HM.out.1 a γ;have zh:=H2.out.lt;obtain ⟨u,hu⟩:∃ u,u=d1[a]!:=⟨_,rfl⟩;obtain ⟨v,hv⟩:∃ v,v=d1[p]!:=⟨_,rfl⟩;rw [← hv] at rk lk;rw [← hu] at ra la;have R:Hid (∀ W:World,Bl wr W→Rt 100 #[rv,I (v:Int),I (u:Int)] W (I (s v u))):=fun W hW=>HC.out W (H2.out.kept hW).gr v u lk la;obtain ⟨c,C⟩:∃ c,c=s v u:=⟨_,rfl⟩
     have E:Hid (ltF s d1[p]! d1[a]! = decide (c<0)):=by
      have:ltF s d1[p]! d1[a]! = decide (c<0):=by rw [C,hu,hv];rfl
      exact this
     rw [← C] at R;have iK:(p:Int)<(n:Int):=γ;have kK:(0:Int)≤(p:Int):=γ;clear hu hv C lk la;by_cases q:c<0
     ·have qb:decide (c<0)=true:=decide_eq_true q;go_wp2;obtain ⟨J,K⟩:=kcn wr;refine wk ?_;repeat (go_big_quiet_step ((go_at_call 100;exact Qm (R.out _ (Kin.h _)))))
      refine kq1 (fun wq hq=>?_);clear J K;clear rk ra fk fa;go_wp2;go_roundg (D+1 - (p+1))
      case measure=>omega
      case rel=>exact ⟨p+1,γ,γ,rfl,σ,H2.out.kept hq,by rw [← HU.out];exact (Go.Proofs.scanUp_go _ d1 D p h1 (by rw [E.out];exact qb)).symm⟩
     ·have qb:decide (c<0)=false:=decide_eq_false q;go_wp2;obtain ⟨J,K⟩:=kcn wr;refine wk ?_;repeat (go_big_quiet_step ((go_at_call 100;exact Qm (R.out _ (Kin.h _)))))
      refine kq1 (fun wq hq=>?_);clear J K;clear rk ra fk fa;go_wp2;go_meet
      case rel=>exact ⟨p,rfl,V,X,H2.out.kept hq,by rw [← HU.out];exact (Go.Proofs.scanUp_end _ d1 D p (Or.inr (by rw [E.out];exact qb))).symm⟩
    ·have t1:¬ (p:Int)≤(D:Int):=γ;go_wp2;obtain ⟨J,K⟩:=kcn wr;refine wk ?_;repeat (go_big_quiet_step (fail))
     refine kq1 (fun wq hq=>?_);clear J K;go_wp2;go_meet
     case rel=>exact ⟨p,rfl,V,X,H2.out.kept hq,by rw [← HU.out];exact (Go.Proofs.scanUp_end _ d1 D p (Or.inl h1)).symm⟩
  case rest =>
   clear U;obtain ⟨p,rfl,V,X,r,G⟩:=hcut;have U:=Hd r;have HI:=Hd G;clear r G;go_upto_block 2 with fail
   go_cut [13] (fun sj L=>∃ l:Nat,sj=I (l:Int)∧l≤D∧p≤l+1∧SrtW w L g o d1∧l=Sort.scanDown (fun x => !ltF s x d1[a]!) d1 p D)
   case first =>
    go_wp2;go_loopg [13] D (fun gk sj L=>∃ l:Nat,l≤D∧p≤l+1∧l=gk∧sj=I (l:Int)∧SrtW w L g o d1∧Sort.scanDown (fun x => !ltF s x d1[a]!) d1 p l=Sort.scanDown (fun x => !ltF s x d1[a]!) d1 p D)
    case atStart=>exact ⟨D,Nr _,γ,rfl,γ8,U.out,rfl⟩
    case round =>
     clear U;obtain ⟨l,Y,Z,rfl,rfl,r,H⟩:=hrel;have H2:=Hd r;have HJ:=Hd H;clear r H;by_cases h2:p≤l
     ·have t2:(p:Int)≤(l:Int):=γ;have Q:=HM.out.2.1;obtain ⟨rk,fk⟩:=H2.out.row l γ;obtain ⟨ra,fa⟩:=H2.out.row a γ;have lk:=HM.out.1 l γ;have la:=HM.out.1 a γ;have zh:=H2.out.lt;obtain ⟨u,hu⟩:∃ u,u=d1[a]!:=⟨_,rfl⟩;obtain ⟨v,hv⟩:∃ v,v=d1[l]!:=⟨_,rfl⟩;rw [← hv] at rk lk;rw [← hu] at ra la;have R:Hid (∀ W:World,Bl wr W→Rt 100 #[rv,I (v:Int),I (u:Int)] W (I (s v u))):=fun W hW=>HC.out W (H2.out.kept hW).gr v u lk la;obtain ⟨c,C⟩:∃ c,c=s v u:=⟨_,rfl⟩
      have E:Hid (ltF s d1[l]! d1[a]! = decide (c<0)):=by
       have:ltF s d1[l]! d1[a]! = decide (c<0):=by rw [C,hu,hv];rfl
       exact this
      rw [← C] at R;have iK:(l:Int)<(n:Int):=γ;have kK:(0:Int)≤(l:Int):=γ;clear hu hv C lk la;by_cases q:c<0
      ·have qb:decide (c<0)=true:=decide_eq_true q;go_wp2;obtain ⟨J,K⟩:=kcn wr;refine wk ?_;repeat (go_big_quiet_step ((go_at_call 100;exact Qm (R.out _ (Kin.h _)))))
       refine kq1 (fun wq hq=>?_);clear J K;clear rk ra fk fa;go_wp2;go_meet
       case rel=>exact ⟨l,rfl,Y,Z,H2.out.kept hq,by rw [← HJ.out];exact (Go.Proofs.scanDown_end _ d1 p l (Or.inr (by rw [E.out,qb];rfl))).symm⟩
      ·have qb:decide (c<0)=false:=decide_eq_false q;go_wp2;obtain ⟨J,K⟩:=kcn wr;refine wk ?_;repeat (go_big_quiet_step ((go_at_call 100;exact Qm (R.out _ (Kin.h _)))))
       refine kq1 (fun wq hq=>?_);clear J K;clear rk ra fk fa;go_wp2;go_roundg (l - 1)
       case measure=>omega
       case rel=>exact ⟨l - 1,γ,γ,rfl,σ,H2.out.kept hq,by rw [← HJ.out];exact (Go.Proofs.scanDown_go _ d1 p l h2 γ (by rw [E.out,qb];rfl)).symm⟩
     ·have t2:¬ (p:Int)≤(l:Int):=γ;go_wp2;obtain ⟨J,K⟩:=kcn wr;refine wk ?_;repeat (go_big_quiet_step (fail))
      refine kq1 (fun wq hq=>?_);clear J K;go_wp2;go_meet
      case rel=>exact ⟨l,rfl,Y,Z,H2.out.kept hq,by rw [← HJ.out];exact (Go.Proofs.scanDown_end _ d1 p l (Or.inl h2)).symm⟩
   case rest =>
    clear U;obtain ⟨l,rfl,Y,Z,r,H⟩:=hcut;have M:=Hd r;have HX:=Hd H;have Q:=HM.out.2.1;clear r H;by_cases h9:p≤l
    ·skip
     have a7:Hid (partF a (Sort.partLoop (ltF s) a (p+1) (l - 1) (Sort.swp d1 p l))=T):=by
      have:partF a (Sort.partLoop (ltF s) a (p+1) (l - 1) (Sort.swp d1 p l))=T:=(HM.out.2.2.2.trans (Go.Proofs.part_first_go (ltF s) d a (D+1) O rfl rfl HM.out.2.2.1 HI.out HX.out γ)).symm;exact this
     have ai:p<l:=Go.Proofs.part_scans_lt (ltF s) a (a+1) D d1 γ HI.out HX.out γ;obtain ⟨r4,f4⟩:=M.out.row l γ;obtain ⟨r5,f5⟩:=M.out.row p γ;have zq:=M.out.lt;have t:=M.out.swap (i:=p) (j:=l) γ γ γ;obtain ⟨x2,z⟩:∃ x,x=d1[l]!:=⟨_,rfl⟩;obtain ⟨y2,A⟩:∃ y,y=d1[p]!:=⟨_,rfl⟩;rw [← z,← A] at t;rw [← z] at r4;rw [← A] at r5;have B:=Hd t;have a2:Hid ((∀ k,k<(Sort.swp d1 p l).size→(Sort.swp d1 p l)[k]! < N)∧(Sort.swp d1 p l).size=n):=⟨Jr HM.out.1 γ γ,(Sort.size_swp ..).trans Q⟩;have aj:p≠l:=γ;have ak:l≠p:=γ;have t3:(p:Int)<(n:Int):=γ;have t4:(0:Int)≤(p:Int):=γ;have t6:(l:Int)<(n:Int):=γ;have t7:(0:Int)≤(l:Int):=γ;have t5:¬ (l:Int)<(p:Int):=γ;clear z A t;go_upto_region 10 with fail
     go_cut [12,13] (fun si sj L=>si=I (p:Int)∧sj=I (l:Int)∧SrtW w L g o (Sort.swp d1 p l))
     case first =>
      go_region
      all_goals
       go_wp2;go_meet
       case rel=>exact ⟨rfl,rfl,B.out.kept (Qe (Qd _))⟩
     case rest =>
      clear B r4 f4 r5 f5 M zq;obtain ⟨rfl,rfl,a6⟩:=hcut;have B:=Hd a6;clear a6;go_wp2;go_loopg [12,13] (l - 1+1 - (p+1)) (fun gk si sj L=>∃ (i3 j3:Nat) (d3:Array Nat),a+1≤i3∧i3≤j3+1∧j3≤D∧gk=j3+1 - i3∧si=I (i3:Int)∧sj=I (j3:Int)∧SrtW w L g o d3∧(∀ k,k<d3.size→d3[k]! < N)∧d3.size=n∧partF a (Sort.partLoop (ltF s) a i3 j3 d3)=T)
      case atStart=>exact ⟨p+1,l - 1,Sort.swp d1 p l,γ,γ,γ,rfl,σ,σ,B.out,a2.out.1,a2.out.2,a7.out⟩
      case round =>
       clear B a2 a7 HX HI HM Q;obtain ⟨i3,j3,d3,an,a8,aq,rfl,rfl,rfl,hS,ac,P,ae⟩:=hrel;have U:=Hd hS;have F:=H3 ac P ae;clear hS ac P ae;go_upto_block 6 with fail
       go_cut [12] (fun si L=>∃ m:Nat,si=I (m:Int)∧i3≤m∧m≤j3+1∧SrtW w L g o d3∧m=Sort.scanUp (fun x=>ltF s x d3[a]!) d3 j3 i3)
       case first =>
        go_wp2;go_loopg [12] (j3+1 - i3) (fun gk si L=>∃ m:Nat,i3≤m∧m≤j3+1∧gk=j3+1 - m∧si=I (m:Int)∧SrtW w L g o d3∧Sort.scanUp (fun x=>ltF s x d3[a]!) d3 j3 m=Sort.scanUp (fun x=>ltF s x d3[a]!) d3 j3 i3)
        case atStart=>exact ⟨i3,Nr _,a8,rfl,γ8,U.out,rfl⟩
        case round =>
         clear U;obtain ⟨m,V,X,rfl,rfl,r,G⟩:=hrel;have H2:=Hd r;have HU:=Hd G;clear r G;by_cases h1:m≤j3
         ·have t1:(m:Int)≤(j3:Int):=γ;have Q:=F.out.2.1;obtain ⟨rk,fk⟩:=H2.out.row m γ;obtain ⟨ra,fa⟩:=H2.out.row a γ;have lk:=F.out.1 m γ;have la:=F.out.1 a γ;have zh:=H2.out.lt;obtain ⟨u,hu⟩:∃ u,u=d3[a]!:=⟨_,rfl⟩;obtain ⟨v,hv⟩:∃ v,v=d3[m]!:=⟨_,rfl⟩;rw [← hv] at rk lk;rw [← hu] at ra la;have R:Hid (∀ W:World,Bl wr W→Rt 100 #[rv,I (v:Int),I (u:Int)] W (I (s v u))):=fun W hW=>HC.out W (H2.out.kept hW).gr v u lk la;obtain ⟨c,C⟩:∃ c,c=s v u:=⟨_,rfl⟩
          have E:Hid (ltF s d3[m]! d3[a]! = decide (c<0)):=by
           have:ltF s d3[m]! d3[a]! = decide (c<0):=by rw [C,hu,hv];rfl
           exact this
          rw [← C] at R;have iK:(m:Int)<(n:Int):=γ;have kK:(0:Int)≤(m:Int):=γ;clear hu hv C lk la;by_cases q:c<0
          ·have qb:decide (c<0)=true:=decide_eq_true q;go_wp2;obtain ⟨J,K⟩:=kcn wr;refine wk ?_;repeat (go_big_quiet_step ((go_at_call 100;exact Qm (R.out _ (Kin.h _)))))
           refine kq1 (fun wq hq=>?_);clear J K;clear rk ra fk fa;go_wp2;go_roundg (j3+1 - (m+1))
           case measure=>omega
           case rel=>exact ⟨m+1,γ,γ,rfl,σ,H2.out.kept hq,by rw [← HU.out];exact (Go.Proofs.scanUp_go _ d3 j3 m h1 (by rw [E.out];exact qb)).symm⟩
          ·have qb:decide (c<0)=false:=decide_eq_false q;go_wp2;obtain ⟨J,K⟩:=kcn wr;refine wk ?_;repeat (go_big_quiet_step ((go_at_call 100;exact Qm (R.out _ (Kin.h _)))))
           refine kq1 (fun wq hq=>?_);clear J K;clear rk ra fk fa;go_wp2;go_meet
           case rel=>exact ⟨m,rfl,V,X,H2.out.kept hq,by rw [← HU.out];exact (Go.Proofs.scanUp_end _ d3 j3 m (Or.inr (by rw [E.out];exact qb))).symm⟩
         ·have t1:¬ (m:Int)≤(j3:Int):=γ;go_wp2;obtain ⟨J,K⟩:=kcn wr;refine wk ?_;repeat (go_big_quiet_step (fail))
          refine kq1 (fun wq hq=>?_);clear J K;go_wp2;go_meet
          case rel=>exact ⟨m,rfl,V,X,H2.out.kept hq,by rw [← HU.out];exact (Go.Proofs.scanUp_end _ d3 j3 m (Or.inl h1)).symm⟩
       case rest =>
        clear U;obtain ⟨m,rfl,V,X,r,G⟩:=hcut;have U:=Hd r;have HI:=Hd G;clear r G;go_upto_block 8 with fail
        go_cut [13] (fun sj L=>∃ f:Nat,sj=I (f:Int)∧f≤j3∧m≤f+1∧SrtW w L g o d3∧f=Sort.scanDown (fun x => !ltF s x d3[a]!) d3 m j3)
        case first =>
         go_wp2;go_loopg [13] j3 (fun gk sj L=>∃ f:Nat,f≤j3∧m≤f+1∧f=gk∧sj=I (f:Int)∧SrtW w L g o d3∧Sort.scanDown (fun x => !ltF s x d3[a]!) d3 m f=Sort.scanDown (fun x => !ltF s x d3[a]!) d3 m j3)
         case atStart=>exact ⟨j3,Nr _,γ,rfl,γ8,U.out,rfl⟩
         case round =>
          clear U;obtain ⟨f,Y,Z,rfl,rfl,r,H⟩:=hrel;have H2:=Hd r;have HJ:=Hd H;clear r H;by_cases h2:m≤f
          ·have t2:(m:Int)≤(f:Int):=γ;have Q:=F.out.2.1;obtain ⟨rk,fk⟩:=H2.out.row f γ;obtain ⟨ra,fa⟩:=H2.out.row a γ;have lk:=F.out.1 f γ;have la:=F.out.1 a γ;have zh:=H2.out.lt;obtain ⟨u,hu⟩:∃ u,u=d3[a]!:=⟨_,rfl⟩;obtain ⟨v,hv⟩:∃ v,v=d3[f]!:=⟨_,rfl⟩;rw [← hv] at rk lk;rw [← hu] at ra la;have R:Hid (∀ W:World,Bl wr W→Rt 100 #[rv,I (v:Int),I (u:Int)] W (I (s v u))):=fun W hW=>HC.out W (H2.out.kept hW).gr v u lk la;obtain ⟨c,C⟩:∃ c,c=s v u:=⟨_,rfl⟩
           have E:Hid (ltF s d3[f]! d3[a]! = decide (c<0)):=by
            have:ltF s d3[f]! d3[a]! = decide (c<0):=by rw [C,hu,hv];rfl
            exact this
           rw [← C] at R;have iK:(f:Int)<(n:Int):=γ;have kK:(0:Int)≤(f:Int):=γ;clear hu hv C lk la;by_cases q:c<0
           ·have qb:decide (c<0)=true:=decide_eq_true q;go_wp2;obtain ⟨J,K⟩:=kcn wr;refine wk ?_;repeat (go_big_quiet_step ((go_at_call 100;exact Qm (R.out _ (Kin.h _)))))
            refine kq1 (fun wq hq=>?_);clear J K;clear rk ra fk fa;go_wp2;go_meet
            case rel=>exact ⟨f,rfl,Y,Z,H2.out.kept hq,by rw [← HJ.out];exact (Go.Proofs.scanDown_end _ d3 m f (Or.inr (by rw [E.out,qb];rfl))).symm⟩
           ·have qb:decide (c<0)=false:=decide_eq_false q;go_wp2;obtain ⟨J,K⟩:=kcn wr;refine wk ?_;repeat (go_big_quiet_step ((go_at_call 100;exact Qm (R.out _ (Kin.h _)))))
            refine kq1 (fun wq hq=>?_);clear J K;clear rk ra fk fa;go_wp2;go_roundg (f - 1)
            case measure=>omega
            case rel=>exact ⟨f - 1,γ,γ,rfl,σ,H2.out.kept hq,by rw [← HJ.out];exact (Go.Proofs.scanDown_go _ d3 m f h2 γ (by rw [E.out,qb];rfl)).symm⟩
          ·have t2:¬ (m:Int)≤(f:Int):=γ;go_wp2;obtain ⟨J,K⟩:=kcn wr;refine wk ?_;repeat (go_big_quiet_step (fail))
           refine kq1 (fun wq hq=>?_);clear J K;go_wp2;go_meet
           case rel=>exact ⟨f,rfl,Y,Z,H2.out.kept hq,by rw [← HJ.out];exact (Go.Proofs.scanDown_end _ d3 m f (Or.inl h2)).symm⟩
        case rest =>
         clear U;obtain ⟨f,rfl,Y,Z,r,H⟩:=hcut;have M:=Hd r;have HX:=Hd H;have Q:=F.out.2.1;clear r H;by_cases h9:m≤f
         ·skip
          have a7:Hid (partF a (Sort.partLoop (ltF s) a (m+1) (f - 1) (Sort.swp d3 m f))=T):=by
           have:partF a (Sort.partLoop (ltF s) a (m+1) (f - 1) (Sort.swp d3 m f))=T:=by
            rw [← F.out.2.2,Go.Proofs.part_go (ltF s) a i3 j3 d3 HI.out HX.out γ]
           exact this
          have ai:m<f:=Go.Proofs.part_scans_lt (ltF s) a i3 j3 d3 γ HI.out HX.out γ;obtain ⟨r4,f4⟩:=M.out.row f γ;obtain ⟨r5,f5⟩:=M.out.row m γ;have zq:=M.out.lt;have t:=M.out.swap (i:=m) (j:=f) γ γ γ;obtain ⟨x2,z⟩:∃ x,x=d3[f]!:=⟨_,rfl⟩;obtain ⟨y2,A⟩:∃ y,y=d3[m]!:=⟨_,rfl⟩;rw [← z,← A] at t;rw [← z] at r4;rw [← A] at r5;have B:=Hd t;have a2:Hid ((∀ k,k<(Sort.swp d3 m f).size→(Sort.swp d3 m f)[k]! < N)∧(Sort.swp d3 m f).size=n):=⟨Jr F.out.1 γ γ,(Sort.size_swp ..).trans Q⟩;have aj:m≠f:=γ;have ak:f≠m:=γ;have t3:(m:Int)<(n:Int):=γ;have t4:(0:Int)≤(m:Int):=γ;have t6:(f:Int)<(n:Int):=γ;have t7:(0:Int)≤(f:Int):=γ;have t5:¬ (f:Int)<(m:Int):=γ;clear z A t;go_upto_region 18 with fail
          go_cut [12,13] (fun si sj L=>si=I (m:Int)∧sj=I (f:Int)∧SrtW w L g o (Sort.swp d3 m f))
          case first =>
           go_region
           all_goals
            go_wp2;go_meet
            case rel=>exact ⟨rfl,rfl,B.out.kept (Qe (Qd _))⟩
          case rest =>
           clear B r4 f4 r5 f5 M zq;obtain ⟨rfl,rfl,a6⟩:=hcut;have B:=Hd a6;clear a6;go_wp2;go_roundg (f - 1+1 - (m+1))
           case measure=>omega
           case rel=>exact ⟨m+1,f - 1,Sort.swp d3 m f,γ,γ,γ,rfl,σ,σ,B.out,a2.out.1,a2.out.2,a7.out⟩
         ·skip
          have HE:Hid (T=(f,false,Sort.swp d3 f a)):=by
           have:T=(f,false,Sort.swp d3 f a):=by
            rw [← F.out.2.2,Go.Proofs.part_break (ltF s) a i3 j3 d3 HI.out HX.out γ];rfl
           exact this
          have t5:(f:Int)<(m:Int):=γ;clear HX HI F;obtain ⟨r4,f4⟩:=M.out.row f γ;obtain ⟨r5,f5⟩:=M.out.row a γ;have zq:=M.out.lt;have t:=M.out.swp_any (i:=f) (j:=a) γ γ;obtain ⟨x2,z⟩:∃ x,x=d3[a]!:=⟨_,rfl⟩;obtain ⟨y2,A⟩:∃ y,y=d3[f]!:=⟨_,rfl⟩;rw [← z,← A] at t;rw [← z] at r5;rw [← A] at r4;have B:=Hd t;have iJ:(f:Int)<(n:Int):=γ;have kJ:(0:Int)≤(f:Int):=γ;by_cases nea:f=a
          ·have aa:x2=y2:=by rw [z,A,nea]
           subst aa;rw [nea] at B HE r4 f4;have ea:(f:Int)=(a:Int):=γ;clear r5 f5;rw [ea];clear z A t;go_wp2
           all_goals
            go_region
            all_goals
             go_wp2;go_ret2
             rw [HE.out];exact ⟨rfl,B.out.kept (Qe (Qd _))⟩
          ·have af:¬ a=f:=fun e=>nea e.symm;clear z A t;go_wp2
           all_goals
            go_region
            all_goals
             go_wp2;go_ret2
             rw [HE.out];exact ⟨rfl,B.out.kept (Qe (Qd _))⟩
    ·skip
     have HE:Hid (T=(l,true,Sort.swp d1 l a)):=by
      have:T=(l,true,Sort.swp d1 l a):=HM.out.2.2.2.trans (Go.Proofs.part_first_break (ltF s) d a (D+1) O rfl rfl HM.out.2.2.1 HI.out HX.out γ);exact this
     have t5:(l:Int)<(p:Int):=γ;clear HX HI HM;obtain ⟨r4,f4⟩:=M.out.row l γ;obtain ⟨r5,f5⟩:=M.out.row a γ;have zq:=M.out.lt;have t:=M.out.swp_any (i:=l) (j:=a) γ γ;obtain ⟨x2,z⟩:∃ x,x=d1[a]!:=⟨_,rfl⟩;obtain ⟨y2,A⟩:∃ y,y=d1[l]!:=⟨_,rfl⟩;rw [← z,← A] at t;rw [← z] at r5;rw [← A] at r4;have B:=Hd t;have iJ:(l:Int)<(n:Int):=γ;have kJ:(0:Int)≤(l:Int):=γ;by_cases nea:l=a
     ·have aa:x2=y2:=by rw [z,A,nea]
      subst aa;rw [nea] at B HE r4 f4;have ea:(l:Int)=(a:Int):=γ;clear r5 f5;rw [ea];clear z A t;go_wp2
      all_goals
       go_region
       all_goals
        go_wp2;go_ret2
        rw [HE.out];exact ⟨rfl,B.out.kept (Qe (Qd _))⟩
     ·have af:¬ a=l:=fun e=>nea e.symm;clear z A t;go_wp2
      all_goals
       go_region
       all_goals
        go_wp2;go_ret2
        rw [HE.out];exact ⟨rfl,B.out.kept (Qe (Qd _))⟩
def dnD (lt:Nat→Nat→Bool) (a i:Nat) (d:Array Nat):Array Nat:=if i - a ≥ 2 then Sort.shiftDown lt (i - 1) d else d
def upD (lt:Nat→Nat→Bool) (b i:Nat) (d:Array Nat):Array Nat:=if b - i ≥ 2 then Sort.shiftUp lt b (i+1) d else d
theorem sS_go {lt:Nat→Nat→Bool} (h:p+1<b) (hl:lt d[p+1]! d[p]! = false):Sort.scanSorted lt d b (p+1)=Sort.scanSorted lt d b (p+1+1):=by
 rw [Sort.scanSorted,Nat.add_sub_cancel,hl];simp [h]
theorem sS_end {lt:Nat→Nat→Bool} (h:¬ p+1<b∨lt d[p+1]! d[p]! = true):Sort.scanSorted lt d b (p+1)=p+1:=by
 rw [Sort.scanSorted,Nat.add_sub_cancel];rcases h with h | h
 ·simp [h]
 ·simp [h]
theorem sD_go {lt:Nat→Nat→Bool} (hl:lt d[p+1]! d[p]! = true):Sort.shiftDown lt (p+1) d=Sort.shiftDown lt p (Sort.swp d (p+1) p):=by
 rw [Sort.shiftDown,hl];rfl
theorem sD_end {lt:Nat→Nat→Bool} (hl:lt d[p+1]! d[p]! = false):Sort.shiftDown lt (p+1) d=d:=by
 rw [Sort.shiftDown,hl];rfl
theorem sU_go {lt:Nat→Nat→Bool} (h:p+1<b) (hl:lt d[p+1]! d[p]! = true):Sort.shiftUp lt b (p+1) d=Sort.shiftUp lt b (p+1+1) (Sort.swp d (p+1) p):=by
 rw [Sort.shiftUp,if_pos h,Nat.add_sub_cancel,hl];rfl
theorem sU_end {lt:Nat→Nat→Bool} (h:¬ p+1<b∨lt d[p+1]! d[p]! = false):Sort.shiftUp lt b (p+1) d=d:=by
 rw [Sort.shiftUp,Nat.add_sub_cancel];by_cases q:p+1<b
 ·rw [if_pos q];rcases h with h | h
  ·exact absurd q h
  ·rw [h];rfl
 ·rw [if_neg q]
theorem pI_done {lt:Nat→Nat→Bool} (h:q=Sort.scanSorted lt d b i) (hb:q=b):Sort.partialIns lt a b (r+1) i d=(d,true):=by
 rw [Sort.partialIns];simp only [← h,hb,if_true]
theorem pI_short {lt:Nat→Nat→Bool} (h:q=Sort.scanSorted lt d b i) (hb:q≠b) (h5:b - a<50):Sort.partialIns lt a b (r+1) i d=(d,false):=by
 rw [Sort.partialIns];simp only [← h,hb,if_false,h5,if_true]
theorem pI_go {lt:Nat→Nat→Bool} (h:q=Sort.scanSorted lt d b i) (hb:q≠b) (h5:¬ b - a<50):Sort.partialIns lt a b (r+1) i d=Sort.partialIns lt a b r q (upD lt b q (dnD lt a q (Sort.swp d q (q - 1)))):=by
 rw [Sort.partialIns];simp only [← h,hb,if_false,h5];rfl
theorem pins_any (w:World) (g o n ap a b N:Nat) (rv:Value) (f:Nat→Nat→Int) (hc:CmpF w g N rv f) (d:Array Nat) (hd:d.size=n) (hN:∀ k,k<d.size→d[k]! < N) (aw:a<b) (ay:b≤n) (hn:n≤300) (w1:World) (hw:SrtW w w1 g o d) :
  Cl 170 #[.slice (Ad g o) n ap,I (a:Int),I (b:Int),.func (.func 100) #[rv] #[]] w1 fun e w'=>e=.returned (.bool (Sort.partialInsertionSort (ltF f) d a b).2)∧SrtW w w' g o (Sort.partialInsertionSort (ltF f) d a b).1:=by
 have HC:Hid (CmpF w g N rv f):=hc;have HW:Hid (SrtW w w1 g o d∧(∀ k,k<d.size→d[k]! < N)∧d.size=n):=⟨hw,hN,hd⟩;obtain ⟨T,hT⟩:∃ T,T=Sort.partialInsertionSort (ltF f) d a b:=⟨_,rfl⟩;have HT:Hid (Sort.partialIns (ltF f) a b 5 (a+1) d=T):=hT.symm;rw [← hT];clear hc hw hN hd hT;go_enter Tryz.func170,Tryz.ntmps170;go_wp2;go_loopg [9,10] 5 (fun gk s9 ar M=>∃ (p st:Nat) (d1:Array Nat),a≤p∧p+1≤b∧gk=5 - st∧st≤5∧s9=I ((p:Int)+1)∧ar=I (st:Int)∧SrtW w M g o d1∧(∀ k,k<d1.size→d1[k]! < N)∧d1.size=n∧Sort.partialIns (ltF f) a b (5 - st) (p+1) d1=T)
 case atStart=>exact ⟨a,0,d,Nr _,γ,rfl,γ,σ,rfl,HW.out.1,HW.out.2.1,HW.out.2.2,HT.out⟩
 case round =>
  clear HW HT;obtain ⟨p,st,d1,ax,aq,rfl,b8,rfl,rfl,hS,a7,a8,X⟩:=hrel;have HS:Hid (SrtW w wr g o d1∧(∀ k,k<d1.size→d1[k]! < N)∧d1.size=n):=⟨hS,a7,a8⟩;by_cases h5:st<5
  ·have t5:(st:Int)<5:=γ;obtain ⟨r,hr⟩:∃ r,r+1=5 - st:=⟨4 - st,γ⟩;have HP:Hid (Sort.partialIns (ltF f) a b (r+1) (p+1) d1=T):=hr ▸ X;clear hS a7 a8 X;go_upto_block 2 with fail
   go_cut [9] (fun s9 M=>∃ q:Nat,s9=I ((q:Int)+1)∧p≤q∧q+1≤b∧SrtW w M g o d1∧q+1=Sort.scanSorted (ltF f) d1 b (p+1))
   case first =>
    go_wp2;go_loopg [9] (b - (p+1)) (fun gk s9 M=>∃ q:Nat,p≤q∧q+1≤b∧gk=b - (q+1)∧s9=I ((q:Int)+1)∧SrtW w M g o d1∧Sort.scanSorted (ltF f) d1 b (q+1)=Sort.scanSorted (ltF f) d1 b (p+1))
    case atStart=>exact ⟨p,Nr _,aq,rfl,rfl,HS.out.1,rfl⟩
    case round =>
     obtain ⟨q,ab,H,rfl,rfl,l,Q⟩:=hrel;have H2:Hid (SrtW w wr g o d1∧(∀ k,k<d1.size→d1[k]! < N)∧d1.size=n):=⟨l,HS.out.2⟩;have HU:Hid (Sort.scanSorted (ltF f) d1 b (q+1)=Sort.scanSorted (ltF f) d1 b (p+1)):=Q;clear l Q HS;by_cases h1:q+1<b
     ·have t1:(q:Int)+1<(b:Int):=γ;have td:decide ((q:Int)+1<(b:Int))=true:=decide_eq_true t1;have J:=H2.out.2.2;obtain ⟨r1,f1⟩:=H2.out.1.row (q+1) γ;obtain ⟨r0,f0⟩:=H2.out.1.row q γ;have l1:=H2.out.2.1 (q+1) γ;have l0:=H2.out.2.1 q γ;have Z:=H2.out.1.lt;obtain ⟨x,B⟩:∃ x,x=d1[q+1]!:=⟨_,rfl⟩;obtain ⟨y,C⟩:∃ y,y=d1[q]!:=⟨_,rfl⟩;rw [← B] at r1 l1;rw [← C] at r0 l0;have A:Hid (x=d1[q+1]! ∧ y=d1[q]!):=⟨B,C⟩;have G:Hid (∀ W:World,Bl wr W→Rt 100 #[rv,I (x:Int),I (y:Int)] W (I (f x y))):=fun W hW=>HC.out W (H2.out.1.kept hW).gr x y l1 l0;obtain ⟨c,m⟩:∃ c,c=f x y:=⟨_,rfl⟩
      have D:Hid (ltF f d1[q+1]! d1[q]! = decide (c<0)):=by
       have:ltF f d1[q+1]! d1[q]! = decide (c<0):=by rw [m,B,C];rfl
       exact this
      rw [← m] at G;have e1:(q:Int)+1 - 1=(q:Int):=γ;have ac:IntKind.i64.wrap ((q:Int)+1 - 1)=(q:Int):=υ;have ad:IntKind.i64.wrap (q:Int)=(q:Int):=υ;have i2:(q:Int)+1<(n:Int):=γ;have i3:(q:Int)<(n:Int):=γ;have k2:(0:Int)≤(q:Int)+1:=γ;have k3:(0:Int)≤(q:Int):=γ;clear B C m l1 l0;by_cases qc:c<0
      ·have V:decide (c<0)=true:=decide_eq_true qc;go_wp2;obtain ⟨K,L⟩:=kcn wr;refine wk ?_;repeat (go_big_quiet_step ((go_at_call 100;exact Qm (G.out _ (Kin.h _)))))
       refine kq1 (fun O hq=>?_);clear K L;clear r1 r0 f1 f0;go_wp2;go_meet
       case rel=>exact ⟨q,rfl,ab,H,H2.out.1.kept hq,by rw [← HU.out];exact (sS_end (Or.inr (by rw [D.out];exact V))).symm⟩
      ·have V:decide (c<0)=false:=decide_eq_false qc;go_wp2;obtain ⟨K,L⟩:=kcn wr;refine wk ?_;repeat (go_big_quiet_step ((go_at_call 100;exact Qm (G.out _ (Kin.h _)))))
       refine kq1 (fun O hq=>?_);clear K L;clear r1 r0 f1 f0;go_wp2;go_roundg (b - (q+1+1))
       case measure=>omega
       case rel=>exact ⟨q+1,γ,γ,rfl,σ,H2.out.1.kept hq,by rw [← HU.out];exact (sS_go h1 (by rw [D.out];exact V)).symm⟩
     ·have t1:¬ (q:Int)+1<(b:Int):=γ;have td:decide ((q:Int)+1<(b:Int))=false:=decide_eq_false t1;go_wp2;obtain ⟨K,L⟩:=kcn wr;refine wk ?_;repeat (go_big_quiet_step (fail))
      refine kq1 (fun O hq=>?_);clear K L;go_wp2;go_meet
      case rel=>exact ⟨q,rfl,ab,H,H2.out.1.kept hq,by rw [← HU.out];exact (sS_end (Or.inl h1)).symm⟩
   case rest =>
    obtain ⟨q,rfl,ab,H,l,Q⟩:=hcut;have H2:Hid (SrtW w wc g o d1∧(∀ k,k<d1.size→d1[k]! < N)∧d1.size=n):=⟨l,HS.out.2⟩;have HX:Hid (q+1=Sort.scanSorted (ltF f) d1 b (p+1)):=Q;clear l Q HS;by_cases hnb:q+1=b
    ·have tb:(q:Int)+1=(b:Int):=γ;have av:((q:Int)+1 == (b:Int))=true:=by simpa using tb
     have HE:Hid (T=(d1,true)):=by
      have:T=(d1,true):=by rw [← HP.out];exact pI_done HX.out hnb
      exact this
     clear HX HP;go_wp2;go_ret;rw [HE.out];exact ⟨rfl,H2.out.1⟩
    ·have tb:¬ (q:Int)+1=(b:Int):=γ;have av:((q:Int)+1 == (b:Int))=false:=by simpa using tb
     by_cases h50:b - a<50
     ·have t6:(b:Int) - (a:Int)<50:=γ;have t7:IntKind.i64.wrap ((b:Int) - (a:Int))<50:=υ
      have HE:Hid (T=(d1,false)):=by
       have:T=(d1,false):=by rw [← HP.out];exact pI_short HX.out hnb h50
       exact this
      clear HX HP;go_wp2;go_ret;rw [HE.out];exact ⟨rfl,H2.out.1⟩
     ·have t6:¬ (b:Int) - (a:Int)<50:=γ;have t7:¬ IntKind.i64.wrap ((b:Int) - (a:Int))<50:=υ;have J:=H2.out.2.2;obtain ⟨r1,f1⟩:=H2.out.1.row (q+1) γ;obtain ⟨r0,f0⟩:=H2.out.1.row q γ;obtain ⟨x,B⟩:∃ x,x=d1[q+1]!:=⟨_,rfl⟩;obtain ⟨y,C⟩:∃ y,y=d1[q]!:=⟨_,rfl⟩;rw [← B] at r1;rw [← C] at r0;have A:Hid (x=d1[q+1]! ∧ y=d1[q]!):=⟨B,C⟩;have zq:=H2.out.1.lt;have ac:IntKind.i64.wrap ((q:Int)+1 - 1)=(q:Int):=υ;have ad:IntKind.i64.wrap (q:Int)=(q:Int):=υ;have i2:(q:Int)+1<(n:Int):=γ;have i3:(q:Int)<(n:Int):=γ;have k2:(0:Int)≤(q:Int)+1:=γ;have k3:(0:Int)≤(q:Int):=γ;have HQ:Hid (SrtW w wc g o d1):=H2.out.1;clear B C;have s:=HQ.out.swap (i:=q+1) (j:=q) γ γ γ;rw [← A.out.1,← A.out.2] at s;have u:Hid (SrtW w ((wc.setCell ⟨g,o+(q+1),none⟩ (I (y:Int))).setCell ⟨g,o+q,none⟩ (I (x:Int))) g o (Sort.swp d1 (q+1) q)):=s;have t:Hid ((∀ z,z<(Sort.swp d1 (q+1) q).size→(Sort.swp d1 (q+1) q)[z]! < N)∧(Sort.swp d1 (q+1) q).size=n):=⟨Jr H2.out.2.1 γ γ,(Sort.size_swp ..).trans J⟩;clear s;have am:¬ q+1=q:=γ;have an:¬ q=q+1:=γ;go_upto_region 11 with fail
      go_cut [9] (fun s0 M=>s0=I ((q:Int)+1)∧SrtW w M g o (Sort.swp d1 (q+1) q))
      case first =>
       go_region
       all_goals
        go_wp2;go_meet
        case rel=>exact ⟨rfl,u.out.kept (Qe (Qd _))⟩
      case rest =>
       clear u HQ r1 r0 f1 f0 zq;obtain ⟨rfl,aj⟩:=hcut;have u:Hid (SrtW w wc g o (Sort.swp d1 (q+1) q)):=aj;clear aj;obtain ⟨E,aa⟩:∃ E,E=Sort.swp d1 (q+1) q:=⟨_,rfl⟩;rw [← aa] at u t;have a2:Hid (E=Sort.swp d1 (q+1) q):=aa;have Y:Hid (SrtW w wc g o E∧(∀ j,j<E.size→E[j]! < N)∧E.size=n):=⟨u.out,t.out.1,t.out.2⟩;clear aa u t A H2;go_upto_if 65 with fail
       go_cut [9,11] (fun s9 ao M=>s9=I ((q:Int)+1)∧∃ d3,SrtW w M g o d3∧(∀ k,k<d3.size→d3[k]! < N)∧d3.size=n∧d3=dnD (ltF f) a (q+1) E)
       case first =>
        by_cases h2:2≤q+1 - a
        ·have t2:(2:Int)≤(q:Int)+1 - (a:Int):=γ;have t3:(2:Int)≤IntKind.i64.wrap ((q:Int)+1 - (a:Int)):=υ;have e5:IntKind.i64.wrap ((q:Int)+1 - 1)=(q:Int):=υ;go_wp2;go_loopg [11] q (fun gk ao M=>∃ (k:Nat) (d2:Array Nat),k≤q∧k=gk∧ao=I (k:Int)∧SrtW w M g o d2∧(∀ j,j<d2.size→d2[j]! < N)∧d2.size=n∧Sort.shiftDown (ltF f) k d2=Sort.shiftDown (ltF f) q E)
         case atStart=>exact ⟨q,E,Nr _,rfl,γ8,Y.out.1,Y.out.2.1,Y.out.2.2,rfl⟩
         case round =>
          clear Y;obtain ⟨k,d2,b7,rfl,rfl,l,R,U,hI⟩:=hrel;have H2:Hid (SrtW w wr g o d2∧(∀ j,j<d2.size→d2[j]! < N)∧d2.size=n):=⟨l,R,U⟩;have HI:Hid (Sort.shiftDown (ltF f) k d2=Sort.shiftDown (ltF f) q E):=hI;clear l R U hI
          have ae:Hid (dnD (ltF f) a (q+1) E=Sort.shiftDown (ltF f) q E):=by
           have:dnD (ltF f) a (q+1) E=Sort.shiftDown (ltF f) q E:=by unfold dnD;rw [if_pos h2,Nat.add_sub_cancel]
           exact this
          rcases Nat.eq_zero_or_pos k with rfl | az
          ·go_wp2;go_meet
           case rel=>exact ⟨rfl,d2,H2.out.1,H2.out.2.1,H2.out.2.2,by rw [ae.out,← HI.out];rfl⟩
          ·obtain ⟨v,rfl⟩:∃ v,k=v+1:=⟨k - 1,γ⟩;have t4:(1:Int)≤(v:Int)+1:=γ;have t5:(0:Int)≤(v:Int):=γ;have J:=H2.out.2.2;obtain ⟨r1,f1⟩:=H2.out.1.row (v+1) γ;obtain ⟨r0,f0⟩:=H2.out.1.row v γ;have l1:=H2.out.2.1 (v+1) γ;have l0:=H2.out.2.1 v γ;have Z:=H2.out.1.lt;obtain ⟨x,B⟩:∃ x,x=d2[v+1]!:=⟨_,rfl⟩;obtain ⟨y,C⟩:∃ y,y=d2[v]!:=⟨_,rfl⟩;rw [← B] at r1 l1;rw [← C] at r0 l0;have A:Hid (x=d2[v+1]! ∧ y=d2[v]!):=⟨B,C⟩;have G:Hid (∀ W:World,Bl wr W→Rt 100 #[rv,I (x:Int),I (y:Int)] W (I (f x y))):=fun W hW=>HC.out W (H2.out.1.kept hW).gr x y l1 l0;obtain ⟨c,m⟩:∃ c,c=f x y:=⟨_,rfl⟩
           have D:Hid (ltF f d2[v+1]! d2[v]! = decide (c<0)):=by
            have:ltF f d2[v+1]! d2[v]! = decide (c<0):=by rw [m,B,C];rfl
            exact this
           rw [← m] at G;have e1:(v:Int)+1 - 1=(v:Int):=γ;have ac:IntKind.i64.wrap ((v:Int)+1 - 1)=(v:Int):=υ;have ad:IntKind.i64.wrap (v:Int)=(v:Int):=υ;have i2:(v:Int)+1<(n:Int):=γ;have i3:(v:Int)<(n:Int):=γ;have k2:(0:Int)≤(v:Int)+1:=γ;have k3:(0:Int)≤(v:Int):=γ;clear B C m l1 l0;by_cases qc:c<0
           ·have V:decide (c<0)=true:=decide_eq_true qc;go_wp2;obtain ⟨K,L⟩:=kcn wr;refine wk ?_;repeat (go_big_quiet_step ((go_at_call 100;exact Qm (G.out _ (Kin.h _)))))
            refine kq1 (fun O hq=>?_);clear K L;have HQ:Hid (SrtW w O g o d2):=H2.out.1.kept hq;replace r1:=Qa hq r1;replace r0:=Qa hq r0;replace f1:=(hq.frozen Z).trans f1;replace f0:=(hq.frozen Z).trans f0;have zq:g<O.heap.size:=Nl Z hq.size;clear hq G;have s:=HQ.out.swap (i:=v+1) (j:=v) γ γ γ;rw [← A.out.1,← A.out.2] at s;have u:Hid (SrtW w ((O.setCell ⟨g,o+(v+1),none⟩ (I (y:Int))).setCell ⟨g,o+v,none⟩ (I (x:Int))) g o (Sort.swp d2 (v+1) v)):=s;have t:Hid ((∀ z,z<(Sort.swp d2 (v+1) v).size→(Sort.swp d2 (v+1) v)[z]! < N)∧(Sort.swp d2 (v+1) v).size=n):=⟨Jr H2.out.2.1 γ γ,(Sort.size_swp ..).trans J⟩;clear s;have am:¬ v+1=v:=γ;have an:¬ v=v+1:=γ;go_wp2;go_region
            all_goals
             go_wp2;go_roundg v
             case measure=>omega
             case rel=>exact ⟨v,Sort.swp d2 (v+1) v,γ,rfl,σ,u.out.kept (Qe (Qd _)),t.out.1,t.out.2,by rw [← HI.out];exact (sD_go (by rw [D.out];exact V)).symm⟩
           ·have V:decide (c<0)=false:=decide_eq_false qc;go_wp2;obtain ⟨K,L⟩:=kcn wr;refine wk ?_;repeat (go_big_quiet_step ((go_at_call 100;exact Qm (G.out _ (Kin.h _)))))
            refine kq1 (fun O hq=>?_);clear K L;clear r1 r0 f1 f0;go_wp2;go_meet
            case rel=>exact ⟨rfl,d2,H2.out.1.kept hq,H2.out.2.1,H2.out.2.2,by rw [ae.out,← HI.out];exact (sD_end (by rw [D.out];exact V)).symm⟩
        ·have t2:¬ (2:Int)≤(q:Int)+1 - (a:Int):=γ;have t3:¬ (2:Int)≤IntKind.i64.wrap ((q:Int)+1 - (a:Int)):=υ;go_wp2;go_meet
         case rel=>exact ⟨rfl,E,Y.out.1,Y.out.2.1,Y.out.2.2,by unfold dnD;rw [if_neg h2]⟩
       case rest =>
        clear Y;obtain ⟨rfl,d3,ai,ah,ak,ag⟩:=hcut;have H3:Hid (SrtW w wc g o d3∧(∀ j,j<d3.size→d3[j]! < N)∧d3.size=n):=⟨ai,ah,ak⟩;have a6:Hid (d3=dnD (ltF f) a (q+1) E):=ag;clear ai ah ak ag;by_cases h3:2≤b - (q+1)
        ·have t2:(2:Int)≤(b:Int) - ((q:Int)+1):=γ;have t3:(2:Int)≤IntKind.i64.wrap ((b:Int) - ((q:Int)+1)):=υ;go_wp2;go_loopg [12] (b - (q+1+1)) (fun gk au M=>∃ (k:Nat) (d2:Array Nat),q+1≤k∧k+1≤b∧gk=b - (k+1)∧au=I ((k:Int)+1)∧SrtW w M g o d2∧(∀ j,j<d2.size→d2[j]! < N)∧d2.size=n∧Sort.shiftUp (ltF f) b (k+1) d2=Sort.shiftUp (ltF f) b (q+1+1) d3)
         case atStart=>exact ⟨q+1,d3,Nr _,γ,rfl,σ,H3.out.1,H3.out.2.1,H3.out.2.2,rfl⟩
         case round =>
          clear H3;obtain ⟨k,d2,b5,b6,rfl,rfl,l,R,U,hI⟩:=hrel;have H2:Hid (SrtW w wr g o d2∧(∀ j,j<d2.size→d2[j]! < N)∧d2.size=n):=⟨l,R,U⟩;have HI:Hid (Sort.shiftUp (ltF f) b (k+1) d2=Sort.shiftUp (ltF f) b (q+1+1) d3):=hI;clear l R U hI
          have af:Hid (upD (ltF f) b (q+1) d3=Sort.shiftUp (ltF f) b (q+1+1) d3):=by
           have:upD (ltF f) b (q+1) d3=Sort.shiftUp (ltF f) b (q+1+1) d3:=by unfold upD;rw [if_pos h3]
           exact this
          by_cases h4:k+1<b
          ·have t4:(k:Int)+1<(b:Int):=γ;have J:=H2.out.2.2;obtain ⟨r1,f1⟩:=H2.out.1.row (k+1) γ;obtain ⟨r0,f0⟩:=H2.out.1.row k γ;have l1:=H2.out.2.1 (k+1) γ;have l0:=H2.out.2.1 k γ;have Z:=H2.out.1.lt;obtain ⟨x,B⟩:∃ x,x=d2[k+1]!:=⟨_,rfl⟩;obtain ⟨y,C⟩:∃ y,y=d2[k]!:=⟨_,rfl⟩;rw [← B] at r1 l1;rw [← C] at r0 l0;have A:Hid (x=d2[k+1]! ∧ y=d2[k]!):=⟨B,C⟩;have G:Hid (∀ W:World,Bl wr W→Rt 100 #[rv,I (x:Int),I (y:Int)] W (I (f x y))):=fun W hW=>HC.out W (H2.out.1.kept hW).gr x y l1 l0;obtain ⟨c,m⟩:∃ c,c=f x y:=⟨_,rfl⟩
           have D:Hid (ltF f d2[k+1]! d2[k]! = decide (c<0)):=by
            have:ltF f d2[k+1]! d2[k]! = decide (c<0):=by rw [m,B,C];rfl
            exact this
           rw [← m] at G;have e1:(k:Int)+1 - 1=(k:Int):=γ;have ac:IntKind.i64.wrap ((k:Int)+1 - 1)=(k:Int):=υ;have ad:IntKind.i64.wrap (k:Int)=(k:Int):=υ;have i2:(k:Int)+1<(n:Int):=γ;have i3:(k:Int)<(n:Int):=γ;have k2:(0:Int)≤(k:Int)+1:=γ;have k3:(0:Int)≤(k:Int):=γ;clear B C m l1 l0;by_cases qc:c<0
           ·have V:decide (c<0)=true:=decide_eq_true qc;go_wp2;obtain ⟨K,L⟩:=kcn wr;refine wk ?_;repeat (go_big_quiet_step ((go_at_call 100;exact Qm (G.out _ (Kin.h _)))))
            refine kq1 (fun O hq=>?_);clear K L;have HQ:Hid (SrtW w O g o d2):=H2.out.1.kept hq;replace r1:=Qa hq r1;replace r0:=Qa hq r0;replace f1:=(hq.frozen Z).trans f1;replace f0:=(hq.frozen Z).trans f0;have zq:g<O.heap.size:=Nl Z hq.size;clear hq G;have s:=HQ.out.swap (i:=k+1) (j:=k) γ γ γ;rw [← A.out.1,← A.out.2] at s;have u:Hid (SrtW w ((O.setCell ⟨g,o+(k+1),none⟩ (I (y:Int))).setCell ⟨g,o+k,none⟩ (I (x:Int))) g o (Sort.swp d2 (k+1) k)):=s;have t:Hid ((∀ z,z<(Sort.swp d2 (k+1) k).size→(Sort.swp d2 (k+1) k)[z]! < N)∧(Sort.swp d2 (k+1) k).size=n):=⟨Jr H2.out.2.1 γ γ,(Sort.size_swp ..).trans J⟩;clear s;have am:¬ k+1=k:=γ;have an:¬ k=k+1:=γ;go_wp2;go_region
            all_goals
             go_wp2;go_roundg (b - (k+1+1))
             case measure=>omega
             case rel=>exact ⟨k+1,Sort.swp d2 (k+1) k,γ,γ,rfl,σ,u.out.kept (Qe (Qd _)),t.out.1,t.out.2,by rw [← HI.out];exact (sU_go h4 (by rw [D.out];exact V)).symm⟩
           ·have V:decide (c<0)=false:=decide_eq_false qc;go_wp2;obtain ⟨K,L⟩:=kcn wr;refine wk ?_;repeat (go_big_quiet_step ((go_at_call 100;exact Qm (G.out _ (Kin.h _)))))
            refine kq1 (fun O hq=>?_);clear K L;clear r1 r0 f1 f0;have F:d2=upD (ltF f) b (q+1) d3:=by rw [af.out,← HI.out];exact (sU_end (Or.inr (by rw [D.out];exact V))).symm
            have P:Hid (Sort.partialIns (ltF f) a b (5 - (st+1)) (q+1) d2=T):=by
             have:Sort.partialIns (ltF f) a b (5 - (st+1)) (q+1) d2=T:=by
              rw [← HP.out,pI_go HX.out hnb h50,F,a6.out,a2.out,show 5 - (st+1)=r by omega];rfl
             exact this
            clear F;go_wp2;go_roundg (5 - (st+1))
            case measure=>omega
            case rel=>exact ⟨q,st+1,d2,γ,H,rfl,γ,rfl,σ,H2.out.1.kept hq,H2.out.2.1,H2.out.2.2,P.out⟩
          ·have t4:¬ (k:Int)+1<(b:Int):=γ;have F:d2=upD (ltF f) b (q+1) d3:=by rw [af.out,← HI.out];exact (sU_end (Or.inl h4)).symm
           have P:Hid (Sort.partialIns (ltF f) a b (5 - (st+1)) (q+1) d2=T):=by
            have:Sort.partialIns (ltF f) a b (5 - (st+1)) (q+1) d2=T:=by
             rw [← HP.out,pI_go HX.out hnb h50,F,a6.out,a2.out,show 5 - (st+1)=r by omega];rfl
            exact this
           clear F;go_wp2;go_roundg (5 - (st+1))
           case measure=>omega
           case rel=>exact ⟨q,st+1,d2,γ,H,rfl,γ,rfl,σ,H2.out.1,H2.out.2.1,H2.out.2.2,P.out⟩
        ·have t2:¬ (2:Int)≤(b:Int) - ((q:Int)+1):=γ;have t3:¬ (2:Int)≤IntKind.i64.wrap ((b:Int) - ((q:Int)+1)):=υ;have F:d3=upD (ltF f) b (q+1) d3:=by unfold upD;rw [if_neg h3]
         have P:Hid (Sort.partialIns (ltF f) a b (5 - (st+1)) (q+1) d3=T):=by
          have:Sort.partialIns (ltF f) a b (5 - (st+1)) (q+1) d3=T:=by
           rw [← HP.out,pI_go HX.out hnb h50,F,a6.out,a2.out,show 5 - (st+1)=r by omega];rfl
          exact this
         clear F;go_wp2;go_roundg (5 - (st+1))
         case measure=>omega
         case rel=>exact ⟨q,st+1,d3,γ,H,rfl,γ,rfl,σ,H3.out.1,H3.out.2.1,H3.out.2.2,P.out⟩
  ·have t5:¬ (st:Int)<5:=γ
   have HE:Hid (T=(d1,false)):=by
    have:T=(d1,false):=by rw [← X,show 5 - st=0 by omega];rfl
    exact this
   clear hS a7 a8 X;go_wp2;go_ret;rw [HE.out];exact ⟨rfl,HS.out.1⟩
end Go.Proofs.YtbjmnlefkbhbdaaGreatDoor
