/- slices.partitionEqualCmpFunc at numbers, by a method value. -/
import Derived.Test.YtgpjaecgkkgehaaGreatDoorQlbo
import Derived.Sort.WalkC
set_option maxRecDepth 100000
set_option maxHeartbeats 40000000
namespace Go.Proofs.YtgpjaecgkkgehaaGreatDoor
open Go.RowKit
theorem partEq_any (w:World) (g o n cap a b pv N:Nat) (rv:Value) (cf:Nat→Nat→Int) (hc:CmpF w g N rv cf) (d:Array Nat) (hd:d.size=n) (hN:∀k,k<d.size→d[k]! < N) (hap:a<pv) (hpb:pv<b) (hbn:b≤n) (hn:n≤300) (w1:World) (hw:SrtW w w1 g o d) :
  Calls Tryz.prog 182 #[.slice (some ⟨g,o,none⟩) n cap,.int .i64 (a:Int),.int .i64 (b:Int),.int .i64 (pv:Int),.func (.func 111) #[rv] #[]] w1 fun e w'=>e=.returned (.int .i64 ((Sort.partitionEqual (ltF cf) d a b pv).1:Int))∧SrtW w w' g o (Sort.partitionEqual (ltF cf) d a b pv).2:=by
 have HC:Hid (CmpF w g N rv cf):=hc
 have hne:a≠pv:=by omega
 obtain ⟨r1,f1⟩:=hw.row pv (by omega)
 obtain ⟨r0,f0⟩:=hw.row a (by omega)
 have zg:=hw.lt
 obtain ⟨x,hx⟩:∃x,x=d[pv]!:=⟨_,rfl⟩
 obtain ⟨y,hy⟩:∃y,y=d[a]!:=⟨_,rfl⟩
 have hsw:=hw.swp_any (i:=a) (j:=pv) (by omega) (by omega)
 rw [←hx,←hy] at hsw
 rw [←hx] at r1
 rw [←hy] at r0
 have HSW:Hid (SrtW w ((w1.setCell ⟨g,o+a,none⟩ (.int .i64 (x:Int))).setCell ⟨g,o+pv,none⟩ (.int .i64 (y:Int))) g o (Sort.swp d a pv)):=hsw
 have HN2:Hid ((∀k,k<(Sort.swp d a pv).size→(Sort.swp d a pv)[k]! < N)∧(Sort.swp d a pv).size=n):=⟨Jb hN (by omega) (by omega),(Sort.size_swp ..).trans hd⟩
 obtain ⟨T,hT⟩:∃T,T=Sort.partitionEqual (ltF cf) d a b pv:=⟨_,rfl⟩
 have HT:Hid (Sort.partEqLoop (ltF cf) a (a+1) (b - 1) (Sort.swp d a pv)=T):=hT.symm
 rw [←hT]
 obtain ⟨b',hb'⟩:∃b',b=b'+1:=⟨b - 1,by omega⟩
 have i2:(a:Int)<(n:Int):=by omega
 have i3:(pv:Int)<(n:Int):=by omega
 have k2:(0:Int)≤(a:Int):=by omega
 have k3:(0:Int)≤(pv:Int):=by omega
 subst hb'
 rw [Nat.add_sub_cancel] at HT
 clear hc hw hN hd hT hx hy hsw
 go_enter Tryz.func182,Tryz.ntmps182
 go_wp2
 go_region
 all_goals
  go_wp2
  go_loopg [11,12] (b'+1-(a+1)) (fun gk s11 s12 wx=>∃(i j:Nat) (d1:Array Nat),a+1≤i∧i≤j+1∧j≤b'∧gk=j+1-i∧s11=.int .i64 (i:Int)∧s12=.int .i64 (j:Int)∧SrtW w wx g o d1∧(∀k,k<d1.size→d1[k]! < N)∧d1.size=n∧Sort.partEqLoop (ltF cf) a i j d1=T)
  case atStart=>exact ⟨a+1,b',Sort.swp d a pv,Nat.le_refl _,by omega,Nat.le_refl _,rfl,by go_num,rfl,HSW.out.kept (Qf (Qc _)),HN2.out.1,HN2.out.2,HT.out⟩
  case round =>
   clear HSW HN2 HT r1 f1 r0 f0
   obtain ⟨i,j,d1,hai,hij,hjb,rfl,rfl,rfl,hS,hN1,hd1,hT1⟩:=hrel
   have HS:Hid (SrtW w wr g o d1):=hS
   have HM:Hid ((∀k,k<d1.size→d1[k]! < N)∧d1.size=n∧Sort.partEqLoop (ltF cf) a i j d1=T):=⟨hN1,hd1,hT1⟩
   clear hS hN1 hd1 hT1
   go_wp2
   go_loopg [11] (j+1-i) (fun gk s11 wx=>∃ii:Nat,i≤ii∧ii≤j+1∧gk=j+1-ii∧s11=.int .i64 (ii:Int)∧SrtW w wx g o d1∧Sort.scanUp (fun x => !ltF cf d1[a]! x) d1 j ii=Sort.scanUp (fun x => !ltF cf d1[a]! x) d1 j i)
   case atStart=>exact ⟨i,Nat.le_refl _,hij,rfl,rfl,HS.out,rfl⟩
   case round =>
    clear HS
    obtain ⟨ii,hi1,hi2,rfl,rfl,hS2,hI2⟩:=hrel
    have H2:Hid (SrtW w wr g o d1):=hS2
    have HU:Hid (Sort.scanUp (fun x => !ltF cf d1[a]! x) d1 j ii=Sort.scanUp (fun x => !ltF cf d1[a]! x) d1 j i):=hI2
    clear hS2 hI2
    by_cases h1:ii≤j
    ·have t1:(ii:Int)≤(j:Int):=by omega
     have hs1:=HM.out.2.1
     obtain ⟨rk,fk⟩:=H2.out.row ii (by omega)
     obtain ⟨ra,fa⟩:=H2.out.row a (by omega)
     have lk:=HM.out.1 ii (by omega)
     have la:=HM.out.1 a (by omega)
     have zh:=H2.out.lt
     obtain ⟨u,hu⟩:∃u,u=d1[a]!:=⟨_,rfl⟩
     obtain ⟨v,hv⟩:∃v,v=d1[ii]!:=⟨_,rfl⟩
     rw [←hv] at rk lk
     rw [←hu] at ra la
     have HUV:Hid (u=d1[a]! ∧ v=d1[ii]!):=⟨hu,hv⟩
     have CB:Hid (∀W:World,Bl wr W→Calls Tryz.prog 111 #[rv,.int .i64 (u:Int),.int .i64 (v:Int)] W fun e w'=>e=.returned (.int .i64 (cf u v))∧Bl W w'):=fun W hW=>HC.out W (H2.out.kept hW).gr u v la lk
     obtain ⟨c,hcv⟩:∃c,c=cf u v:=⟨_,rfl⟩
     have HLT:Hid (ltF cf d1[a]! d1[ii]! = decide (c<0)):=by
      have:ltF cf d1[a]! d1[ii]! = decide (c<0):=by rw [hcv,hu,hv];rfl
      exact this
     rw [←hcv] at CB
     have iK:(ii:Int)<(n:Int):=by omega
     have kK:(0:Int)≤(ii:Int):=by omega
     clear hu hv hcv lk la
     by_cases q:c<0
     ·have qb:decide (c<0)=true:=decide_eq_true q
      go_wp2
      have kc:=Kin.cells wr
      have kn:Nonempty (Kin wr):=⟨⟨wr,Qc _⟩⟩
      refine Qg (by kernel_rfl) (by kernel_rfl) ?_
      repeat (go_big_quiet_step ((go_at_call 111;exact Qo (CB.out _ (Kin.h _)))))
      refine wpQuiet_nil ?_
      intro wq hw'
      obtain ⟨nq,hw''⟩:=hw'
      have hq:Bl wr wq:=hw'' ▸ nq.h
      clear hw'' nq kc kn
      have HI:Hid (ii=Sort.scanUp (fun x => !ltF cf d1[a]! x) d1 j i):=by
       have:ii=Sort.scanUp (fun x => !ltF cf d1[a]! x) d1 j i:=by
        rw [←HU.out]
        exact (Go.Proofs.scanUp_end _ d1 j ii (Or.inr (by rw [HLT.out,qb];rfl))).symm
       exact this
      have HK:Hid (SrtW w wq g o d1):=H2.out.kept hq
      clear rk ra fk fa hq CB HUV HLT HU H2 q qb zh
      go_wp2
      go_loopg [12] j (fun gk s12 wx=>∃jj:Nat,jj≤j∧ii≤jj+1∧jj=gk∧s12=.int .i64 (jj:Int)∧SrtW w wx g o d1∧Sort.scanDown (fun x=>ltF cf d1[a]! x) d1 ii jj=Sort.scanDown (fun x=>ltF cf d1[a]! x) d1 ii j)
      case atStart=>exact ⟨j,Nat.le_refl _,by omega,rfl,rfl,HK.out,rfl⟩
      case round =>
       clear HK
       obtain ⟨jj,hj1,hj2,rfl,rfl,hS2,hJ2⟩:=hrel
       have H2:Hid (SrtW w wr g o d1):=hS2
       have HJ:Hid (Sort.scanDown (fun x=>ltF cf d1[a]! x) d1 ii jj=Sort.scanDown (fun x=>ltF cf d1[a]! x) d1 ii j):=hJ2
       clear hS2 hJ2
       by_cases h2:ii≤jj
       ·have t2:(ii:Int)≤(jj:Int):=by omega
        have hs1:=HM.out.2.1
        obtain ⟨rk,fk⟩:=H2.out.row jj (by omega)
        obtain ⟨ra,fa⟩:=H2.out.row a (by omega)
        have lk:=HM.out.1 jj (by omega)
        have la:=HM.out.1 a (by omega)
        have zh:=H2.out.lt
        obtain ⟨u,hu⟩:∃u,u=d1[a]!:=⟨_,rfl⟩
        obtain ⟨v,hv⟩:∃v,v=d1[jj]!:=⟨_,rfl⟩
        rw [←hv] at rk lk
        rw [←hu] at ra la
        have HUV:Hid (u=d1[a]! ∧ v=d1[jj]!):=⟨hu,hv⟩
        have CB:Hid (∀W:World,Bl wr W→Calls Tryz.prog 111 #[rv,.int .i64 (u:Int),.int .i64 (v:Int)] W fun e w'=>e=.returned (.int .i64 (cf u v))∧Bl W w'):=fun W hW=>HC.out W (H2.out.kept hW).gr u v la lk
        obtain ⟨c,hcv⟩:∃c,c=cf u v:=⟨_,rfl⟩
        have HLT:Hid (ltF cf d1[a]! d1[jj]! = decide (c<0)):=by
         have:ltF cf d1[a]! d1[jj]! = decide (c<0):=by rw [hcv,hu,hv];rfl
         exact this
        rw [←hcv] at CB
        have iK:(jj:Int)<(n:Int):=by omega
        have kK:(0:Int)≤(jj:Int):=by omega
        clear hu hv hcv lk la
        by_cases q:c<0
        ·have qb:decide (c<0)=true:=decide_eq_true q
         go_wp2
         have kc:=Kin.cells wr
         have kn:Nonempty (Kin wr):=⟨⟨wr,Qc _⟩⟩
         refine Qg (by kernel_rfl) (by kernel_rfl) ?_
         repeat (go_big_quiet_step ((go_at_call 111;exact Qo (CB.out _ (Kin.h _)))))
         refine wpQuiet_nil ?_
         intro wq hw'
         obtain ⟨nq,hw''⟩:=hw'
         have hq:Bl wr wq:=hw'' ▸ nq.h
         clear hw'' nq kc kn
         clear rk ra fk fa
         go_wp2
         go_roundg (jj - 1)
         case measure=>omega
         case rel=>exact ⟨jj - 1,by omega,by omega,rfl,by go_num,H2.out.kept hq,by rw [←HJ.out];exact (Go.Proofs.scanDown_go _ d1 ii jj h2 (by omega) (by rw [HLT.out];exact qb)).symm⟩
        ·have qb:decide (c<0)=false:=decide_eq_false q
         go_wp2
         have kc:=Kin.cells wr
         have kn:Nonempty (Kin wr):=⟨⟨wr,Qc _⟩⟩
         refine Qg (by kernel_rfl) (by kernel_rfl) ?_
         repeat (go_big_quiet_step ((go_at_call 111;exact Qo (CB.out _ (Kin.h _)))))
         refine wpQuiet_nil ?_
         intro wq hw'
         obtain ⟨nq,hw''⟩:=hw'
         have hq:Bl wr wq:=hw'' ▸ nq.h
         clear hw'' nq kc kn
         have HX:Hid (jj=Sort.scanDown (fun x=>ltF cf d1[a]! x) d1 ii j):=by
          have:jj=Sort.scanDown (fun x=>ltF cf d1[a]! x) d1 ii j:=by
           rw [←HJ.out]
           exact (Go.Proofs.scanDown_end _ d1 ii jj (Or.inr (by rw [HLT.out];exact qb))).symm
          exact this
         have hlt:ii<jj:=Go.Proofs.scans_lt (ltF cf) a i j d1 (by omega) HI.out HX.out h2
         have HT2:Hid (Sort.partEqLoop (ltF cf) a (ii+1) (jj - 1) (Sort.swp d1 ii jj)=T):=by
          have:Sort.partEqLoop (ltF cf) a (ii+1) (jj - 1) (Sort.swp d1 ii jj)=T:=by
           rw [←HM.out.2.2]
           exact (Go.Proofs.partEq_go (ltF cf) a i j d1 HI.out HX.out (by omega)).symm
          exact this
         have HK:Hid (SrtW w wq g o d1):=H2.out.kept hq
         clear rk ra fk fa hq CB HUV HLT HJ H2
         obtain ⟨r4,f4⟩:=HK.out.row jj (by omega)
         obtain ⟨r5,f5⟩:=HK.out.row ii (by omega)
         have zq:=HK.out.lt
         have hsw:=HK.out.swap (i:=ii) (j:=jj) (by omega) (by omega) (by omega)
         obtain ⟨x2,hx2⟩:∃x,x=d1[jj]!:=⟨_,rfl⟩
         obtain ⟨y2,hy2⟩:∃y,y=d1[ii]!:=⟨_,rfl⟩
         rw [←hx2,←hy2] at hsw
         rw [←hx2] at r4
         rw [←hy2] at r5
         have HSW:Hid (SrtW w ((wq.setCell ⟨g,o+ii,none⟩ (.int .i64 (x2:Int))).setCell ⟨g,o+jj,none⟩ (.int .i64 (y2:Int))) g o (Sort.swp d1 ii jj)):=hsw
         have HM2:Hid ((∀k,k<(Sort.swp d1 ii jj).size→(Sort.swp d1 ii jj)[k]! < N)∧(Sort.swp d1 ii jj).size=n):=⟨Jb HM.out.1 (by omega) (by omega),(Sort.size_swp ..).trans hs1⟩
         have ne2:ii≠jj:=by omega
         have t3:(ii:Int)<(n:Int):=by omega
         have t4:(0:Int)≤(ii:Int):=by omega
         have t5:¬(jj:Int)<(ii:Int):=by omega
         clear hx2 hy2 hsw
         go_wp2
         go_region
         all_goals
          go_wp2
          go_roundg (jj - 1+1-(ii+1))
          case measure=>omega
          case rel=>exact ⟨ii+1,jj - 1,Sort.swp d1 ii jj,by omega,by omega,by omega,rfl,by go_num,by go_num,HSW.out.kept (Qf (Qc _)),HM2.out.1,HM2.out.2,HT2.out⟩
       ·have t2:¬(ii:Int)≤(jj:Int):=by omega
        have t5:(jj:Int)<(ii:Int):=by omega
        go_wp2
        have kc:=Kin.cells wr
        have kn:Nonempty (Kin wr):=⟨⟨wr,Qc _⟩⟩
        refine Qg (by kernel_rfl) (by kernel_rfl) ?_
        repeat (go_big_quiet_step (fail))
        refine wpQuiet_nil ?_
        intro wq hw'
        obtain ⟨nq,hw''⟩:=hw'
        have hq:Bl wr wq:=hw'' ▸ nq.h
        clear hw'' nq kc kn
        have HX:Hid (jj=Sort.scanDown (fun x=>ltF cf d1[a]! x) d1 ii j):=by
         have:jj=Sort.scanDown (fun x=>ltF cf d1[a]! x) d1 ii j:=by
          rw [←HJ.out]
          exact (Go.Proofs.scanDown_end _ d1 ii jj (Or.inl h2)).symm
         exact this
        have HE:Hid (T=(ii,d1)):=by
         have:T=(ii,d1):=by
          rw [←HM.out.2.2]
          exact Go.Proofs.partEq_break (ltF cf) a i j d1 HI.out HX.out (by omega)
         exact this
        have HK:Hid (SrtW w wq g o d1):=H2.out.kept hq
        clear hq
        go_wp2
        go_ret
        rw [HE.out]
        exact ⟨rfl,HK.out⟩
     ·have qb:decide (c<0)=false:=decide_eq_false q
      go_wp2
      have kc:=Kin.cells wr
      have kn:Nonempty (Kin wr):=⟨⟨wr,Qc _⟩⟩
      refine Qg (by kernel_rfl) (by kernel_rfl) ?_
      repeat (go_big_quiet_step ((go_at_call 111;exact Qo (CB.out _ (Kin.h _)))))
      refine wpQuiet_nil ?_
      intro wq hw'
      obtain ⟨nq,hw''⟩:=hw'
      have hq:Bl wr wq:=hw'' ▸ nq.h
      clear hw'' nq kc kn
      clear rk ra fk fa
      go_wp2
      go_roundg (j+1-(ii+1))
      case measure=>omega
      case rel=>exact ⟨ii+1,by omega,by omega,rfl,by go_num,H2.out.kept hq,by rw [←HU.out];exact (Go.Proofs.scanUp_go _ d1 j ii h1 (by rw [HLT.out,qb];rfl)).symm⟩
    ·have t1:¬(ii:Int)≤(j:Int):=by omega
     go_wp2
     have kc:=Kin.cells wr
     have kn:Nonempty (Kin wr):=⟨⟨wr,Qc _⟩⟩
     refine Qg (by kernel_rfl) (by kernel_rfl) ?_
     repeat (go_big_quiet_step (fail))
     refine wpQuiet_nil ?_
     intro wq hw'
     obtain ⟨nq,hw''⟩:=hw'
     have hq:Bl wr wq:=hw'' ▸ nq.h
     clear hw'' nq kc kn
     have HI:Hid (ii=Sort.scanUp (fun x => !ltF cf d1[a]! x) d1 j i):=by
      have:ii=Sort.scanUp (fun x => !ltF cf d1[a]! x) d1 j i:=by
       rw [←HU.out]
       exact (Go.Proofs.scanUp_end _ d1 j ii (Or.inl h1)).symm
      exact this
     have HK:Hid (SrtW w wq g o d1):=H2.out.kept hq
     clear hq HU H2
     go_wp2
     go_loopg [12] j (fun gk s12 wx=>∃jj:Nat,jj≤j∧ii≤jj+1∧jj=gk∧s12=.int .i64 (jj:Int)∧SrtW w wx g o d1∧Sort.scanDown (fun x=>ltF cf d1[a]! x) d1 ii jj=Sort.scanDown (fun x=>ltF cf d1[a]! x) d1 ii j)
     case atStart=>exact ⟨j,Nat.le_refl _,by omega,rfl,rfl,HK.out,rfl⟩
     case round =>
      clear HK
      obtain ⟨jj,hj1,hj2,rfl,rfl,hS2,hJ2⟩:=hrel
      have H2:Hid (SrtW w wr g o d1):=hS2
      have HJ:Hid (Sort.scanDown (fun x=>ltF cf d1[a]! x) d1 ii jj=Sort.scanDown (fun x=>ltF cf d1[a]! x) d1 ii j):=hJ2
      clear hS2 hJ2
      by_cases h2:ii≤jj
      ·have t2:(ii:Int)≤(jj:Int):=by omega
       have hs1:=HM.out.2.1
       obtain ⟨rk,fk⟩:=H2.out.row jj (by omega)
       obtain ⟨ra,fa⟩:=H2.out.row a (by omega)
       have lk:=HM.out.1 jj (by omega)
       have la:=HM.out.1 a (by omega)
       have zh:=H2.out.lt
       obtain ⟨u,hu⟩:∃u,u=d1[a]!:=⟨_,rfl⟩
       obtain ⟨v,hv⟩:∃v,v=d1[jj]!:=⟨_,rfl⟩
       rw [←hv] at rk lk
       rw [←hu] at ra la
       have HUV:Hid (u=d1[a]! ∧ v=d1[jj]!):=⟨hu,hv⟩
       have CB:Hid (∀W:World,Bl wr W→Calls Tryz.prog 111 #[rv,.int .i64 (u:Int),.int .i64 (v:Int)] W fun e w'=>e=.returned (.int .i64 (cf u v))∧Bl W w'):=fun W hW=>HC.out W (H2.out.kept hW).gr u v la lk
       obtain ⟨c,hcv⟩:∃c,c=cf u v:=⟨_,rfl⟩
       have HLT:Hid (ltF cf d1[a]! d1[jj]! = decide (c<0)):=by
        have:ltF cf d1[a]! d1[jj]! = decide (c<0):=by rw [hcv,hu,hv];rfl
        exact this
       rw [←hcv] at CB
       have iK:(jj:Int)<(n:Int):=by omega
       have kK:(0:Int)≤(jj:Int):=by omega
       clear hu hv hcv lk la
       by_cases q:c<0
       ·have qb:decide (c<0)=true:=decide_eq_true q
        go_wp2
        have kc:=Kin.cells wr
        have kn:Nonempty (Kin wr):=⟨⟨wr,Qc _⟩⟩
        refine Qg (by kernel_rfl) (by kernel_rfl) ?_
        repeat (go_big_quiet_step ((go_at_call 111;exact Qo (CB.out _ (Kin.h _)))))
        refine wpQuiet_nil ?_
        intro wq hw'
        obtain ⟨nq,hw''⟩:=hw'
        have hq:Bl wr wq:=hw'' ▸ nq.h
        clear hw'' nq kc kn
        clear rk ra fk fa
        go_wp2
        go_roundg (jj - 1)
        case measure=>omega
        case rel=>exact ⟨jj - 1,by omega,by omega,rfl,by go_num,H2.out.kept hq,by rw [←HJ.out];exact (Go.Proofs.scanDown_go _ d1 ii jj h2 (by omega) (by rw [HLT.out];exact qb)).symm⟩
       ·have qb:decide (c<0)=false:=decide_eq_false q
        go_wp2
        have kc:=Kin.cells wr
        have kn:Nonempty (Kin wr):=⟨⟨wr,Qc _⟩⟩
        refine Qg (by kernel_rfl) (by kernel_rfl) ?_
        repeat (go_big_quiet_step ((go_at_call 111;exact Qo (CB.out _ (Kin.h _)))))
        refine wpQuiet_nil ?_
        intro wq hw'
        obtain ⟨nq,hw''⟩:=hw'
        have hq:Bl wr wq:=hw'' ▸ nq.h
        clear hw'' nq kc kn
        have HX:Hid (jj=Sort.scanDown (fun x=>ltF cf d1[a]! x) d1 ii j):=by
         have:jj=Sort.scanDown (fun x=>ltF cf d1[a]! x) d1 ii j:=by
          rw [←HJ.out]
          exact (Go.Proofs.scanDown_end _ d1 ii jj (Or.inr (by rw [HLT.out];exact qb))).symm
         exact this
        have hlt:ii<jj:=Go.Proofs.scans_lt (ltF cf) a i j d1 (by omega) HI.out HX.out h2
        have HT2:Hid (Sort.partEqLoop (ltF cf) a (ii+1) (jj - 1) (Sort.swp d1 ii jj)=T):=by
         have:Sort.partEqLoop (ltF cf) a (ii+1) (jj - 1) (Sort.swp d1 ii jj)=T:=by
          rw [←HM.out.2.2]
          exact (Go.Proofs.partEq_go (ltF cf) a i j d1 HI.out HX.out (by omega)).symm
         exact this
        have HK:Hid (SrtW w wq g o d1):=H2.out.kept hq
        clear rk ra fk fa hq CB HUV HLT HJ H2
        obtain ⟨r4,f4⟩:=HK.out.row jj (by omega)
        obtain ⟨r5,f5⟩:=HK.out.row ii (by omega)
        have zq:=HK.out.lt
        have hsw:=HK.out.swap (i:=ii) (j:=jj) (by omega) (by omega) (by omega)
        obtain ⟨x2,hx2⟩:∃x,x=d1[jj]!:=⟨_,rfl⟩
        obtain ⟨y2,hy2⟩:∃y,y=d1[ii]!:=⟨_,rfl⟩
        rw [←hx2,←hy2] at hsw
        rw [←hx2] at r4
        rw [←hy2] at r5
        have HSW:Hid (SrtW w ((wq.setCell ⟨g,o+ii,none⟩ (.int .i64 (x2:Int))).setCell ⟨g,o+jj,none⟩ (.int .i64 (y2:Int))) g o (Sort.swp d1 ii jj)):=hsw
        have HM2:Hid ((∀k,k<(Sort.swp d1 ii jj).size→(Sort.swp d1 ii jj)[k]! < N)∧(Sort.swp d1 ii jj).size=n):=⟨Jb HM.out.1 (by omega) (by omega),(Sort.size_swp ..).trans hs1⟩
        have ne2:ii≠jj:=by omega
        have t3:(ii:Int)<(n:Int):=by omega
        have t4:(0:Int)≤(ii:Int):=by omega
        have t5:¬(jj:Int)<(ii:Int):=by omega
        clear hx2 hy2 hsw
        go_wp2
        go_region
        all_goals
         go_wp2
         go_roundg (jj - 1+1-(ii+1))
         case measure=>omega
         case rel=>exact ⟨ii+1,jj - 1,Sort.swp d1 ii jj,by omega,by omega,by omega,rfl,by go_num,by go_num,HSW.out.kept (Qf (Qc _)),HM2.out.1,HM2.out.2,HT2.out⟩
      ·have t2:¬(ii:Int)≤(jj:Int):=by omega
       have t5:(jj:Int)<(ii:Int):=by omega
       go_wp2
       have kc:=Kin.cells wr
       have kn:Nonempty (Kin wr):=⟨⟨wr,Qc _⟩⟩
       refine Qg (by kernel_rfl) (by kernel_rfl) ?_
       repeat (go_big_quiet_step (fail))
       refine wpQuiet_nil ?_
       intro wq hw'
       obtain ⟨nq,hw''⟩:=hw'
       have hq:Bl wr wq:=hw'' ▸ nq.h
       clear hw'' nq kc kn
       have HX:Hid (jj=Sort.scanDown (fun x=>ltF cf d1[a]! x) d1 ii j):=by
        have:jj=Sort.scanDown (fun x=>ltF cf d1[a]! x) d1 ii j:=by
         rw [←HJ.out]
         exact (Go.Proofs.scanDown_end _ d1 ii jj (Or.inl h2)).symm
        exact this
       have HE:Hid (T=(ii,d1)):=by
        have:T=(ii,d1):=by
         rw [←HM.out.2.2]
         exact Go.Proofs.partEq_break (ltF cf) a i j d1 HI.out HX.out (by omega)
        exact this
       have HK:Hid (SrtW w wq g o d1):=H2.out.kept hq
       clear hq
       go_wp2
       go_ret
       rw [HE.out]
       exact ⟨rfl,HK.out⟩
end Go.Proofs.YtgpjaecgkkgehaaGreatDoor
