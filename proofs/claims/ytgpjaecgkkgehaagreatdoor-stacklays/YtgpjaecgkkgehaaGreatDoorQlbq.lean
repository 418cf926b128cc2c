/- slices.partitionCmpFunc at numbers, by a method value. -/
import Derived.Test.YtgpjaecgkkgehaaGreatDoorQlbp
import Derived.Sort.WalkC4
import Derived.Deep.CutBlock
set_option maxRecDepth 100000
set_option maxHeartbeats 40000000
namespace Go.Proofs.YtgpjaecgkkgehaaGreatDoor
open Go.RowKit
def partF (a:Nat) (r:Nat×Array Nat):Nat×Bool×Array Nat:=(r.1,false,Sort.swp r.2 r.1 a)
theorem part_any (w:World) (g o n cap a b pv N:Nat) (rv:Value) (cf:Nat→Nat→Int) (hc:CmpF w g N rv cf) (d:Array Nat) (hd:d.size=n) (hN:∀k,k<d.size→d[k]! < N) (hap:a<pv) (hpb:pv<b) (hbn:b≤n) (hn:n≤300) (w1:World) (hw:SrtW w w1 g o d) :
  Calls Tryz.prog 183 #[.slice (some ⟨g,o,none⟩) n cap,.int .i64 (a:Int),.int .i64 (b:Int),.int .i64 (pv:Int),.func (.func 111) #[rv] #[]] w1 fun e w'=>e=.returned (.tuple #[.int .i64 ((Sort.partition (ltF cf) d a b pv).1:Int),.bool (Sort.partition (ltF cf) d a b pv).2.1])∧SrtW w w' g o (Sort.partition (ltF cf) d a b pv).2.2:=by
 have HC:Hid (CmpF w g N rv cf):=hc
 have hne:a≠pv:=by omega
 obtain ⟨r1,f1⟩:=hw.row pv (by omega)
 obtain ⟨r0,f0⟩:=hw.row a (by omega)
 have zg:=hw.lt
 obtain ⟨x,hx⟩:∃x,x=d[pv]!:=⟨_,rfl⟩
 obtain ⟨y,hy⟩:∃y,y=d[a]!:=⟨_,rfl⟩
 have hsw:=hw.swp_any (i:=a) (j:=pv) (by omega) (by omega)
 rw [←hx,←hy] at hsw
 rw [←hx] at r1
 rw [←hy] at r0
 obtain ⟨b',hb'⟩:∃b',b=b'+1:=⟨b - 1,by omega⟩
 subst hb'
 obtain ⟨T,hT⟩:∃T,T=Sort.partition (ltF cf) d a (b'+1) pv:=⟨_,rfl⟩
 obtain ⟨d1,hd1⟩:∃d1,d1=Sort.swp d a pv:=⟨_,rfl⟩
 rw [←hd1] at hsw
 have HS0:Hid (SrtW w ((w1.setCell ⟨g,o+a,none⟩ (.int .i64 (x:Int))).setCell ⟨g,o+pv,none⟩ (.int .i64 (y:Int))) g o d1):=hsw
 have HM:Hid ((∀k,k<d1.size→d1[k]! < N)∧d1.size=n∧d1=Sort.swp d a pv∧T=Sort.partition (ltF cf) d a (b'+1) pv):=⟨hd1 ▸ Jb hN (by omega) (by omega),hd1 ▸ (Sort.size_swp ..).trans hd,hd1,hT⟩
 rw [←hT]
 have i2:(a:Int)<(n:Int):=by omega
 have i3':(pv:Int)<(n:Int):=by omega
 have k2:(0:Int)≤(a:Int):=by omega
 have k3:(0:Int)≤(pv:Int):=by omega
 have hij:a+1≤b'+1:=by omega
 clear hc hw hN hd hT hx hy hsw hd1
 go_enter Tryz.func183,Tryz.ntmps183
 go_upto_region 1 with fail
 go_cut [10] (fun s10 wx=>s10=.int .i64 0∧SrtW w wx g o d1)
 case first =>
  go_region
  all_goals
   go_wp2
   go_meet
   case rel=>exact ⟨rfl,HS0.out.kept (Qf (Qc _))⟩
 case rest =>
  clear HS0 r1 f1 r0 f0 zg
  obtain ⟨rfl,hS0⟩:=hcut
  have HS:Hid (SrtW w wc g o d1):=hS0
  clear hS0
  go_upto_block 0 with fail
  go_cut [12] (fun si wx=>∃ii:Nat,si=.int .i64 (ii:Int)∧(a+1)≤ii∧ii≤b'+1∧SrtW w wx g o d1∧ii=Sort.scanUp (fun x=>ltF cf x d1[a]!) d1 b' (a+1))
  case first =>
   go_wp2
   go_loopg [12] (b'+1-(a+1)) (fun gk si wx=>∃ii:Nat,(a+1)≤ii∧ii≤b'+1∧gk=b'+1-ii∧si=.int .i64 (ii:Int)∧SrtW w wx g o d1∧Sort.scanUp (fun x=>ltF cf x d1[a]!) d1 b' ii=Sort.scanUp (fun x=>ltF cf x d1[a]!) d1 b' (a+1))
   case atStart=>exact ⟨(a+1),Nat.le_refl _,hij,rfl,by first|rfl|go_num,HS.out,rfl⟩
   case round =>
    clear HS
    obtain ⟨ii,hi1,hi2,rfl,rfl,hS2,hI2⟩:=hrel
    have H2:Hid (SrtW w wr g o d1):=hS2
    have HU:Hid (Sort.scanUp (fun x=>ltF cf x d1[a]!) d1 b' ii=Sort.scanUp (fun x=>ltF cf x d1[a]!) d1 b' (a+1)):=hI2
    clear hS2 hI2
    by_cases h1:ii≤b'
    ·have t1:(ii:Int)≤(b':Int):=by omega
     have hs1:=HM.out.2.1
     obtain ⟨rk,fk⟩:=H2.out.row ii (by omega)
     obtain ⟨ra,fa⟩:=H2.out.row a (by omega)
     have lk:=HM.out.1 ii (by omega)
     have la:=HM.out.1 a (by omega)
     have zh:=H2.out.lt
     obtain ⟨u,hu⟩:∃u,u=d1[a]!:=⟨_,rfl⟩
     obtain ⟨v,hv⟩:∃v,v=d1[ii]!:=⟨_,rfl⟩
     rw [←hv] at rk lk
     rw [←hu] at ra la
     have CB:Hid (∀W:World,Bl wr W→Calls Tryz.prog 111 #[rv,.int .i64 (v:Int),.int .i64 (u:Int)] W fun e w'=>e=.returned (.int .i64 (cf v u))∧Bl W w'):=fun W hW=>HC.out W (H2.out.kept hW).gr v u lk la
     obtain ⟨c,hcv⟩:∃c,c=cf v u:=⟨_,rfl⟩
     have HLT:Hid (ltF cf d1[ii]! d1[a]! = decide (c<0)):=by
      have:ltF cf d1[ii]! d1[a]! = decide (c<0):=by rw [hcv,hu,hv];rfl
      exact this
     rw [←hcv] at CB
     have iK:(ii:Int)<(n:Int):=by omega
     have kK:(0:Int)≤(ii:Int):=by omega
     clear hu hv hcv lk la
     by_cases q:c<0
     ·have qb:decide (c<0)=true:=decide_eq_true q
      go_wp2
      have kc:=Kin.cells wr
      have kn:Nonempty (Kin wr):=⟨⟨wr,Qc _⟩⟩
      refine Qg (by kernel_rfl) (by kernel_rfl) ?_
      repeat (go_big_quiet_step ((go_at_call 111;exact Qo (CB.out _ (Kin.h _)))))
      refine wpQuiet_nil ?_
      intro wq hw'
      obtain ⟨nq,hw''⟩:=hw'
      have hq:Bl wr wq:=hw'' ▸ nq.h
      clear hw'' nq kc kn
      clear rk ra fk fa
      go_wp2
      go_roundg (b'+1-(ii+1))
      case measure=>omega
      case rel=>exact ⟨ii+1,by omega,by omega,rfl,by go_num,H2.out.kept hq,by rw [←HU.out];exact (Go.Proofs.scanUp_go _ d1 b' ii h1 (by rw [HLT.out];exact qb)).symm⟩
     ·have qb:decide (c<0)=false:=decide_eq_false q
      go_wp2
      have kc:=Kin.cells wr
      have kn:Nonempty (Kin wr):=⟨⟨wr,Qc _⟩⟩
      refine Qg (by kernel_rfl) (by kernel_rfl) ?_
      repeat (go_big_quiet_step ((go_at_call 111;exact Qo (CB.out _ (Kin.h _)))))
      refine wpQuiet_nil ?_
      intro wq hw'
      obtain ⟨nq,hw''⟩:=hw'
      have hq:Bl wr wq:=hw'' ▸ nq.h
      clear hw'' nq kc kn
      clear rk ra fk fa
      go_wp2
      go_meet
      case rel=>exact ⟨ii,rfl,hi1,hi2,H2.out.kept hq,by rw [←HU.out];exact (Go.Proofs.scanUp_end _ d1 b' ii (Or.inr (by rw [HLT.out];exact qb))).symm⟩
    ·have t1:¬(ii:Int)≤(b':Int):=by omega
     go_wp2
     have kc:=Kin.cells wr
     have kn:Nonempty (Kin wr):=⟨⟨wr,Qc _⟩⟩
     refine Qg (by kernel_rfl) (by kernel_rfl) ?_
     repeat (go_big_quiet_step (fail))
     refine wpQuiet_nil ?_
     intro wq hw'
     obtain ⟨nq,hw''⟩:=hw'
     have hq:Bl wr wq:=hw'' ▸ nq.h
     clear hw'' nq kc kn
     go_wp2
     go_meet
     case rel=>exact ⟨ii,rfl,hi1,hi2,H2.out.kept hq,by rw [←HU.out];exact (Go.Proofs.scanUp_end _ d1 b' ii (Or.inl h1)).symm⟩
  case rest =>
   clear HS
   obtain ⟨ii,rfl,hi1,hi2,hS2,hI2⟩:=hcut
   have HS:Hid (SrtW w wc g o d1):=hS2
   have HI:Hid (ii=Sort.scanUp (fun x=>ltF cf x d1[a]!) d1 b' (a+1)):=hI2
   clear hS2 hI2
   go_upto_block 2 with fail
   go_cut [13] (fun sj wx=>∃jj:Nat,sj=.int .i64 (jj:Int)∧jj≤b'∧ii≤jj+1∧SrtW w wx g o d1∧jj=Sort.scanDown (fun x => !ltF cf x d1[a]!) d1 ii b')
   case first =>
    go_wp2
    go_loopg [13] b' (fun gk sj wx=>∃jj:Nat,jj≤b'∧ii≤jj+1∧jj=gk∧sj=.int .i64 (jj:Int)∧SrtW w wx g o d1∧Sort.scanDown (fun x => !ltF cf x d1[a]!) d1 ii jj=Sort.scanDown (fun x => !ltF cf x d1[a]!) d1 ii b')
    case atStart=>exact ⟨b',Nat.le_refl _,by omega,rfl,by first|rfl|go_num,HS.out,rfl⟩
    case round =>
     clear HS
     obtain ⟨jj,hj1,hj2,rfl,rfl,hS2,hJ2⟩:=hrel
     have H2:Hid (SrtW w wr g o d1):=hS2
     have HJ:Hid (Sort.scanDown (fun x => !ltF cf x d1[a]!) d1 ii jj=Sort.scanDown (fun x => !ltF cf x d1[a]!) d1 ii b'):=hJ2
     clear hS2 hJ2
     by_cases h2:ii≤jj
     ·have t2:(ii:Int)≤(jj:Int):=by omega
      have hs1:=HM.out.2.1
      obtain ⟨rk,fk⟩:=H2.out.row jj (by omega)
      obtain ⟨ra,fa⟩:=H2.out.row a (by omega)
      have lk:=HM.out.1 jj (by omega)
      have la:=HM.out.1 a (by omega)
      have zh:=H2.out.lt
      obtain ⟨u,hu⟩:∃u,u=d1[a]!:=⟨_,rfl⟩
      obtain ⟨v,hv⟩:∃v,v=d1[jj]!:=⟨_,rfl⟩
      rw [←hv] at rk lk
      rw [←hu] at ra la
      have CB:Hid (∀W:World,Bl wr W→Calls Tryz.prog 111 #[rv,.int .i64 (v:Int),.int .i64 (u:Int)] W fun e w'=>e=.returned (.int .i64 (cf v u))∧Bl W w'):=fun W hW=>HC.out W (H2.out.kept hW).gr v u lk la
      obtain ⟨c,hcv⟩:∃c,c=cf v u:=⟨_,rfl⟩
      have HLT:Hid (ltF cf d1[jj]! d1[a]! = decide (c<0)):=by
       have:ltF cf d1[jj]! d1[a]! = decide (c<0):=by rw [hcv,hu,hv];rfl
       exact this
      rw [←hcv] at CB
      have iK:(jj:Int)<(n:Int):=by omega
      have kK:(0:Int)≤(jj:Int):=by omega
      clear hu hv hcv lk la
      by_cases q:c<0
      ·have qb:decide (c<0)=true:=decide_eq_true q
       go_wp2
       have kc:=Kin.cells wr
       have kn:Nonempty (Kin wr):=⟨⟨wr,Qc _⟩⟩
       refine Qg (by kernel_rfl) (by kernel_rfl) ?_
       repeat (go_big_quiet_step ((go_at_call 111;exact Qo (CB.out _ (Kin.h _)))))
       refine wpQuiet_nil ?_
       intro wq hw'
       obtain ⟨nq,hw''⟩:=hw'
       have hq:Bl wr wq:=hw'' ▸ nq.h
       clear hw'' nq kc kn
       clear rk ra fk fa
       go_wp2
       go_meet
       case rel=>exact ⟨jj,rfl,hj1,hj2,H2.out.kept hq,by rw [←HJ.out];exact (Go.Proofs.scanDown_end _ d1 ii jj (Or.inr (by rw [HLT.out,qb];rfl))).symm⟩
      ·have qb:decide (c<0)=false:=decide_eq_false q
       go_wp2
       have kc:=Kin.cells wr
       have kn:Nonempty (Kin wr):=⟨⟨wr,Qc _⟩⟩
       refine Qg (by kernel_rfl) (by kernel_rfl) ?_
       repeat (go_big_quiet_step ((go_at_call 111;exact Qo (CB.out _ (Kin.h _)))))
       refine wpQuiet_nil ?_
       intro wq hw'
       obtain ⟨nq,hw''⟩:=hw'
       have hq:Bl wr wq:=hw'' ▸ nq.h
       clear hw'' nq kc kn
       clear rk ra fk fa
       go_wp2
       go_roundg (jj - 1)
       case measure=>omega
       case rel=>exact ⟨jj - 1,by omega,by omega,rfl,by go_num,H2.out.kept hq,by rw [←HJ.out];exact (Go.Proofs.scanDown_go _ d1 ii jj h2 (by omega) (by rw [HLT.out,qb];rfl)).symm⟩
     ·have t2:¬(ii:Int)≤(jj:Int):=by omega
      go_wp2
      have kc:=Kin.cells wr
      have kn:Nonempty (Kin wr):=⟨⟨wr,Qc _⟩⟩
      refine Qg (by kernel_rfl) (by kernel_rfl) ?_
      repeat (go_big_quiet_step (fail))
      refine wpQuiet_nil ?_
      intro wq hw'
      obtain ⟨nq,hw''⟩:=hw'
      have hq:Bl wr wq:=hw'' ▸ nq.h
      clear hw'' nq kc kn
      go_wp2
      go_meet
      case rel=>exact ⟨jj,rfl,hj1,hj2,H2.out.kept hq,by rw [←HJ.out];exact (Go.Proofs.scanDown_end _ d1 ii jj (Or.inl h2)).symm⟩
   case rest =>
    clear HS
    obtain ⟨jj,rfl,hj1,hj2,hS2,hJ2⟩:=hcut
    have HK:Hid (SrtW w wc g o d1):=hS2
    have HX:Hid (jj=Sort.scanDown (fun x => !ltF cf x d1[a]!) d1 ii b'):=hJ2
    have hs1:=HM.out.2.1
    clear hS2 hJ2
    by_cases h9:ii≤jj
    ·skip
     have HT2:Hid (partF a (Sort.partLoop (ltF cf) a (ii+1) (jj - 1) (Sort.swp d1 ii jj))=T):=by
      have:partF a (Sort.partLoop (ltF cf) a (ii+1) (jj - 1) (Sort.swp d1 ii jj))=T:=(HM.out.2.2.2.trans (Go.Proofs.part_first_go (ltF cf) d a (b'+1) pv rfl rfl HM.out.2.2.1 HI.out HX.out (by omega))).symm
      exact this
     have hlt:ii<jj:=Go.Proofs.part_scans_lt (ltF cf) a (a+1) b' d1 (by omega) HI.out HX.out (by omega)
     obtain ⟨r4,f4⟩:=HK.out.row jj (by omega)
     obtain ⟨r5,f5⟩:=HK.out.row ii (by omega)
     have zq:=HK.out.lt
     have hsw:=HK.out.swap (i:=ii) (j:=jj) (by omega) (by omega) (by omega)
     obtain ⟨x2,hx2⟩:∃x,x=d1[jj]!:=⟨_,rfl⟩
     obtain ⟨y2,hy2⟩:∃y,y=d1[ii]!:=⟨_,rfl⟩
     rw [←hx2,←hy2] at hsw
     rw [←hx2] at r4
     rw [←hy2] at r5
     have HSW:Hid (SrtW w ((wc.setCell ⟨g,o+ii,none⟩ (.int .i64 (x2:Int))).setCell ⟨g,o+jj,none⟩ (.int .i64 (y2:Int))) g o (Sort.swp d1 ii jj)):=hsw
     have HM2:Hid ((∀k,k<(Sort.swp d1 ii jj).size→(Sort.swp d1 ii jj)[k]! < N)∧(Sort.swp d1 ii jj).size=n):=⟨Jb HM.out.1 (by omega) (by omega),(Sort.size_swp ..).trans hs1⟩
     have ne2:ii≠jj:=by omega
     have ne3:jj≠ii:=by omega
     have t3:(ii:Int)<(n:Int):=by omega
     have t4:(0:Int)≤(ii:Int):=by omega
     have t6:(jj:Int)<(n:Int):=by omega
     have t7:(0:Int)≤(jj:Int):=by omega
     have t5:¬(jj:Int)<(ii:Int):=by omega
     clear hx2 hy2 hsw
     go_upto_region 10 with fail
     go_cut [12,13] (fun si sj wx=>si=.int .i64 (ii:Int)∧sj=.int .i64 (jj:Int)∧SrtW w wx g o (Sort.swp d1 ii jj))
     case first =>
      go_region
      all_goals
       go_wp2
       go_meet
       case rel=>exact ⟨rfl,rfl,HSW.out.kept (Qf (Qc _))⟩
     case rest =>
      clear HSW r4 f4 r5 f5 HK zq
      obtain ⟨rfl,rfl,hSW⟩:=hcut
      have HSW:Hid (SrtW w wc g o (Sort.swp d1 ii jj)):=hSW
      clear hSW
      go_wp2
      go_loopg [12,13] (jj - 1+1-(ii+1)) (fun gk si sj wx=>∃(i3 j3:Nat) (d3:Array Nat),a+1≤i3∧i3≤j3+1∧j3≤b'∧gk=j3+1-i3∧si=.int .i64 (i3:Int)∧sj=.int .i64 (j3:Int)∧SrtW w wx g o d3∧(∀k,k<d3.size→d3[k]! < N)∧d3.size=n∧partF a (Sort.partLoop (ltF cf) a i3 j3 d3)=T)
      case atStart=>exact ⟨ii+1,jj - 1,Sort.swp d1 ii jj,by omega,by omega,by omega,rfl,by go_num,by go_num,HSW.out,HM2.out.1,HM2.out.2,HT2.out⟩
      case round =>
       clear HSW HM2 HT2 HX HI HM hs1
       obtain ⟨i3,j3,d3,hai,hij,hjb,rfl,rfl,rfl,hS,hN1,hd1,hT1⟩:=hrel
       have HS:Hid (SrtW w wr g o d3):=hS
       have HM3:Hid ((∀k,k<d3.size→d3[k]! < N)∧d3.size=n∧partF a (Sort.partLoop (ltF cf) a i3 j3 d3)=T):=⟨hN1,hd1,hT1⟩
       clear hS hN1 hd1 hT1
       go_upto_block 6 with fail
       go_cut [12] (fun si wx=>∃ie:Nat,si=.int .i64 (ie:Int)∧i3≤ie∧ie≤j3+1∧SrtW w wx g o d3∧ie=Sort.scanUp (fun x=>ltF cf x d3[a]!) d3 j3 i3)
       case first =>
        go_wp2
        go_loopg [12] (j3+1-i3) (fun gk si wx=>∃ie:Nat,i3≤ie∧ie≤j3+1∧gk=j3+1-ie∧si=.int .i64 (ie:Int)∧SrtW w wx g o d3∧Sort.scanUp (fun x=>ltF cf x d3[a]!) d3 j3 ie=Sort.scanUp (fun x=>ltF cf x d3[a]!) d3 j3 i3)
        case atStart=>exact ⟨i3,Nat.le_refl _,hij,rfl,by first|rfl|go_num,HS.out,rfl⟩
        case round =>
         clear HS
         obtain ⟨ie,hi1,hi2,rfl,rfl,hS2,hI2⟩:=hrel
         have H2:Hid (SrtW w wr g o d3):=hS2
         have HU:Hid (Sort.scanUp (fun x=>ltF cf x d3[a]!) d3 j3 ie=Sort.scanUp (fun x=>ltF cf x d3[a]!) d3 j3 i3):=hI2
         clear hS2 hI2
         by_cases h1:ie≤j3
         ·have t1:(ie:Int)≤(j3:Int):=by omega
          have hs1:=HM3.out.2.1
          obtain ⟨rk,fk⟩:=H2.out.row ie (by omega)
          obtain ⟨ra,fa⟩:=H2.out.row a (by omega)
          have lk:=HM3.out.1 ie (by omega)
          have la:=HM3.out.1 a (by omega)
          have zh:=H2.out.lt
          obtain ⟨u,hu⟩:∃u,u=d3[a]!:=⟨_,rfl⟩
          obtain ⟨v,hv⟩:∃v,v=d3[ie]!:=⟨_,rfl⟩
          rw [←hv] at rk lk
          rw [←hu] at ra la
          have CB:Hid (∀W:World,Bl wr W→Calls Tryz.prog 111 #[rv,.int .i64 (v:Int),.int .i64 (u:Int)] W fun e w'=>e=.returned (.int .i64 (cf v u))∧Bl W w'):=fun W hW=>HC.out W (H2.out.kept hW).gr v u lk la
          obtain ⟨c,hcv⟩:∃c,c=cf v u:=⟨_,rfl⟩
          have HLT:Hid (ltF cf d3[ie]! d3[a]! = decide (c<0)):=by
           have:ltF cf d3[ie]! d3[a]! = decide (c<0):=by rw [hcv,hu,hv];rfl
           exact this
          rw [←hcv] at CB
          have iK:(ie:Int)<(n:Int):=by omega
          have kK:(0:Int)≤(ie:Int):=by omega
          clear hu hv hcv lk la
          by_cases q:c<0
          ·have qb:decide (c<0)=true:=decide_eq_true q
           go_wp2
           have kc:=Kin.cells wr
           have kn:Nonempty (Kin wr):=⟨⟨wr,Qc _⟩⟩
           refine Qg (by kernel_rfl) (by kernel_rfl) ?_
           repeat (go_big_quiet_step ((go_at_call 111;exact Qo (CB.out _ (Kin.h _)))))
           refine wpQuiet_nil ?_
           intro wq hw'
           obtain ⟨nq,hw''⟩:=hw'
           have hq:Bl wr wq:=hw'' ▸ nq.h
           clear hw'' nq kc kn
           clear rk ra fk fa
           go_wp2
           go_roundg (j3+1-(ie+1))
           case measure=>omega
           case rel=>exact ⟨ie+1,by omega,by omega,rfl,by go_num,H2.out.kept hq,by rw [←HU.out];exact (Go.Proofs.scanUp_go _ d3 j3 ie h1 (by rw [HLT.out];exact qb)).symm⟩
          ·have qb:decide (c<0)=false:=decide_eq_false q
           go_wp2
           have kc:=Kin.cells wr
           have kn:Nonempty (Kin wr):=⟨⟨wr,Qc _⟩⟩
           refine Qg (by kernel_rfl) (by kernel_rfl) ?_
           repeat (go_big_quiet_step ((go_at_call 111;exact Qo (CB.out _ (Kin.h _)))))
           refine wpQuiet_nil ?_
           intro wq hw'
           obtain ⟨nq,hw''⟩:=hw'
           have hq:Bl wr wq:=hw'' ▸ nq.h
           clear hw'' nq kc kn
           clear rk ra fk fa
           go_wp2
           go_meet
           case rel=>exact ⟨ie,rfl,hi1,hi2,H2.out.kept hq,by rw [←HU.out];exact (Go.Proofs.scanUp_end _ d3 j3 ie (Or.inr (by rw [HLT.out];exact qb))).symm⟩
         ·have t1:¬(ie:Int)≤(j3:Int):=by omega
          go_wp2
          have kc:=Kin.cells wr
          have kn:Nonempty (Kin wr):=⟨⟨wr,Qc _⟩⟩
          refine Qg (by kernel_rfl) (by kernel_rfl) ?_
          repeat (go_big_quiet_step (fail))
          refine wpQuiet_nil ?_
          intro wq hw'
          obtain ⟨nq,hw''⟩:=hw'
          have hq:Bl wr wq:=hw'' ▸ nq.h
          clear hw'' nq kc kn
          go_wp2
          go_meet
          case rel=>exact ⟨ie,rfl,hi1,hi2,H2.out.kept hq,by rw [←HU.out];exact (Go.Proofs.scanUp_end _ d3 j3 ie (Or.inl h1)).symm⟩
       case rest =>
        clear HS
        obtain ⟨ie,rfl,hi1,hi2,hS2,hI2⟩:=hcut
        have HS:Hid (SrtW w wc g o d3):=hS2
        have HI:Hid (ie=Sort.scanUp (fun x=>ltF cf x d3[a]!) d3 j3 i3):=hI2
        clear hS2 hI2
        go_upto_block 8 with fail
        go_cut [13] (fun sj wx=>∃je:Nat,sj=.int .i64 (je:Int)∧je≤j3∧ie≤je+1∧SrtW w wx g o d3∧je=Sort.scanDown (fun x => !ltF cf x d3[a]!) d3 ie j3)
        case first =>
         go_wp2
         go_loopg [13] j3 (fun gk sj wx=>∃je:Nat,je≤j3∧ie≤je+1∧je=gk∧sj=.int .i64 (je:Int)∧SrtW w wx g o d3∧Sort.scanDown (fun x => !ltF cf x d3[a]!) d3 ie je=Sort.scanDown (fun x => !ltF cf x d3[a]!) d3 ie j3)
         case atStart=>exact ⟨j3,Nat.le_refl _,by omega,rfl,by first|rfl|go_num,HS.out,rfl⟩
         case round =>
          clear HS
          obtain ⟨je,hj1,hj2,rfl,rfl,hS2,hJ2⟩:=hrel
          have H2:Hid (SrtW w wr g o d3):=hS2
          have HJ:Hid (Sort.scanDown (fun x => !ltF cf x d3[a]!) d3 ie je=Sort.scanDown (fun x => !ltF cf x d3[a]!) d3 ie j3):=hJ2
          clear hS2 hJ2
          by_cases h2:ie≤je
          ·have t2:(ie:Int)≤(je:Int):=by omega
           have hs1:=HM3.out.2.1
           obtain ⟨rk,fk⟩:=H2.out.row je (by omega)
           obtain ⟨ra,fa⟩:=H2.out.row a (by omega)
           have lk:=HM3.out.1 je (by omega)
           have la:=HM3.out.1 a (by omega)
           have zh:=H2.out.lt
           obtain ⟨u,hu⟩:∃u,u=d3[a]!:=⟨_,rfl⟩
           obtain ⟨v,hv⟩:∃v,v=d3[je]!:=⟨_,rfl⟩
           rw [←hv] at rk lk
           rw [←hu] at ra la
           have CB:Hid (∀W:World,Bl wr W→Calls Tryz.prog 111 #[rv,.int .i64 (v:Int),.int .i64 (u:Int)] W fun e w'=>e=.returned (.int .i64 (cf v u))∧Bl W w'):=fun W hW=>HC.out W (H2.out.kept hW).gr v u lk la
           obtain ⟨c,hcv⟩:∃c,c=cf v u:=⟨_,rfl⟩
           have HLT:Hid (ltF cf d3[je]! d3[a]! = decide (c<0)):=by
            have:ltF cf d3[je]! d3[a]! = decide (c<0):=by rw [hcv,hu,hv];rfl
            exact this
           rw [←hcv] at CB
           have iK:(je:Int)<(n:Int):=by omega
           have kK:(0:Int)≤(je:Int):=by omega
           clear hu hv hcv lk la
           by_cases q:c<0
           ·have qb:decide (c<0)=true:=decide_eq_true q
            go_wp2
            have kc:=Kin.cells wr
            have kn:Nonempty (Kin wr):=⟨⟨wr,Qc _⟩⟩
            refine Qg (by kernel_rfl) (by kernel_rfl) ?_
            repeat (go_big_quiet_step ((go_at_call 111;exact Qo (CB.out _ (Kin.h _)))))
            refine wpQuiet_nil ?_
            intro wq hw'
            obtain ⟨nq,hw''⟩:=hw'
            have hq:Bl wr wq:=hw'' ▸ nq.h
            clear hw'' nq kc kn
            clear rk ra fk fa
            go_wp2
            go_meet
            case rel=>exact ⟨je,rfl,hj1,hj2,H2.out.kept hq,by rw [←HJ.out];exact (Go.Proofs.scanDown_end _ d3 ie je (Or.inr (by rw [HLT.out,qb];rfl))).symm⟩
           ·have qb:decide (c<0)=false:=decide_eq_false q
            go_wp2
            have kc:=Kin.cells wr
            have kn:Nonempty (Kin wr):=⟨⟨wr,Qc _⟩⟩
            refine Qg (by kernel_rfl) (by kernel_rfl) ?_
            repeat (go_big_quiet_step ((go_at_call 111;exact Qo (CB.out _ (Kin.h _)))))
            refine wpQuiet_nil ?_
            intro wq hw'
            obtain ⟨nq,hw''⟩:=hw'
            have hq:Bl wr wq:=hw'' ▸ nq.h
            clear hw'' nq kc kn
            clear rk ra fk fa
            go_wp2
            go_roundg (je - 1)
            case measure=>omega
            case rel=>exact ⟨je - 1,by omega,by omega,rfl,by go_num,H2.out.kept hq,by rw [←HJ.out];exact (Go.Proofs.scanDown_go _ d3 ie je h2 (by omega) (by rw [HLT.out,qb];rfl)).symm⟩
          ·have t2:¬(ie:Int)≤(je:Int):=by omega
           go_wp2
           have kc:=Kin.cells wr
           have kn:Nonempty (Kin wr):=⟨⟨wr,Qc _⟩⟩
           refine Qg (by kernel_rfl) (by kernel_rfl) ?_
           repeat (go_big_quiet_step (fail))
           refine wpQuiet_nil ?_
           intro wq hw'
           obtain ⟨nq,hw''⟩:=hw'
           have hq:Bl wr wq:=hw'' ▸ nq.h
           clear hw'' nq kc kn
           go_wp2
           go_meet
           case rel=>exact ⟨je,rfl,hj1,hj2,H2.out.kept hq,by rw [←HJ.out];exact (Go.Proofs.scanDown_end _ d3 ie je (Or.inl h2)).symm⟩
        case rest =>
         clear HS
         obtain ⟨je,rfl,hj1,hj2,hS2,hJ2⟩:=hcut
         have HK:Hid (SrtW w wc g o d3):=hS2
         have HX:Hid (je=Sort.scanDown (fun x => !ltF cf x d3[a]!) d3 ie j3):=hJ2
         have hs1:=HM3.out.2.1
         clear hS2 hJ2
         by_cases h9:ie≤je
         ·skip
          have HT2:Hid (partF a (Sort.partLoop (ltF cf) a (ie+1) (je - 1) (Sort.swp d3 ie je))=T):=by
           have:partF a (Sort.partLoop (ltF cf) a (ie+1) (je - 1) (Sort.swp d3 ie je))=T:=by
            rw [←HM3.out.2.2,Go.Proofs.part_go (ltF cf) a i3 j3 d3 HI.out HX.out (by omega)]
           exact this
          have hlt:ie<je:=Go.Proofs.part_scans_lt (ltF cf) a i3 j3 d3 (by omega) HI.out HX.out (by omega)
          obtain ⟨r4,f4⟩:=HK.out.row je (by omega)
          obtain ⟨r5,f5⟩:=HK.out.row ie (by omega)
          have zq:=HK.out.lt
          have hsw:=HK.out.swap (i:=ie) (j:=je) (by omega) (by omega) (by omega)
          obtain ⟨x2,hx2⟩:∃x,x=d3[je]!:=⟨_,rfl⟩
          obtain ⟨y2,hy2⟩:∃y,y=d3[ie]!:=⟨_,rfl⟩
          rw [←hx2,←hy2] at hsw
          rw [←hx2] at r4
          rw [←hy2] at r5
          have HSW:Hid (SrtW w ((wc.setCell ⟨g,o+ie,none⟩ (.int .i64 (x2:Int))).setCell ⟨g,o+je,none⟩ (.int .i64 (y2:Int))) g o (Sort.swp d3 ie je)):=hsw
          have HM2:Hid ((∀k,k<(Sort.swp d3 ie je).size→(Sort.swp d3 ie je)[k]! < N)∧(Sort.swp d3 ie je).size=n):=⟨Jb HM3.out.1 (by omega) (by omega),(Sort.size_swp ..).trans hs1⟩
          have ne2:ie≠je:=by omega
          have ne3:je≠ie:=by omega
          have t3:(ie:Int)<(n:Int):=by omega
          have t4:(0:Int)≤(ie:Int):=by omega
          have t6:(je:Int)<(n:Int):=by omega
          have t7:(0:Int)≤(je:Int):=by omega
          have t5:¬(je:Int)<(ie:Int):=by omega
          clear hx2 hy2 hsw
          go_upto_region 18 with fail
          go_cut [12,13] (fun si sj wx=>si=.int .i64 (ie:Int)∧sj=.int .i64 (je:Int)∧SrtW w wx g o (Sort.swp d3 ie je))
          case first =>
           go_region
           all_goals
            go_wp2
            go_meet
            case rel=>exact ⟨rfl,rfl,HSW.out.kept (Qf (Qc _))⟩
          case rest =>
           clear HSW r4 f4 r5 f5 HK zq
           obtain ⟨rfl,rfl,hSW⟩:=hcut
           have HSW:Hid (SrtW w wc g o (Sort.swp d3 ie je)):=hSW
           clear hSW
           go_wp2
           go_roundg (je - 1+1-(ie+1))
           case measure=>omega
           case rel=>exact ⟨ie+1,je - 1,Sort.swp d3 ie je,by omega,by omega,by omega,rfl,by go_num,by go_num,HSW.out,HM2.out.1,HM2.out.2,HT2.out⟩
         ·skip
          have HE:Hid (T=(je,false,Sort.swp d3 je a)):=by
           have:T=(je,false,Sort.swp d3 je a):=by
            rw [←HM3.out.2.2,Go.Proofs.part_break (ltF cf) a i3 j3 d3 HI.out HX.out (by omega)]
            rfl
           exact this
          have t5:(je:Int)<(ie:Int):=by omega
          clear HX HI HM3
          obtain ⟨r4,f4⟩:=HK.out.row je (by omega)
          obtain ⟨r5,f5⟩:=HK.out.row a (by omega)
          have zq:=HK.out.lt
          have hsw:=HK.out.swp_any (i:=je) (j:=a) (by omega) (by omega)
          obtain ⟨x2,hx2⟩:∃x,x=d3[a]!:=⟨_,rfl⟩
          obtain ⟨y2,hy2⟩:∃y,y=d3[je]!:=⟨_,rfl⟩
          rw [←hx2,←hy2] at hsw
          rw [←hx2] at r5
          rw [←hy2] at r4
          have HSW:Hid (SrtW w ((wc.setCell ⟨g,o+je,none⟩ (.int .i64 (x2:Int))).setCell ⟨g,o+a,none⟩ (.int .i64 (y2:Int))) g o (Sort.swp d3 je a)):=hsw
          have iJ:(je:Int)<(n:Int):=by omega
          have kJ:(0:Int)≤(je:Int):=by omega
          by_cases nea:je=a
          ·have hxy:x2=y2:=by rw [hx2,hy2,nea]
           subst hxy
           rw [nea] at HSW HE r4 f4
           have ea:(je:Int)=(a:Int):=by omega
           clear r5 f5
           rw [ea]
           clear hx2 hy2 hsw
           go_wp2
           all_goals
            go_region
            all_goals
             go_wp2
             go_ret2
             rw [HE.out]
             exact ⟨rfl,HSW.out.kept (Qf (Qc _))⟩
          ·have nea2:¬a=je:=fun e=>nea e.symm
           clear hx2 hy2 hsw
           go_wp2
           all_goals
            go_region
            all_goals
             go_wp2
             go_ret2
             rw [HE.out]
             exact ⟨rfl,HSW.out.kept (Qf (Qc _))⟩
    ·skip
     have HE:Hid (T=(jj,true,Sort.swp d1 jj a)):=by
      have:T=(jj,true,Sort.swp d1 jj a):=HM.out.2.2.2.trans (Go.Proofs.part_first_break (ltF cf) d a (b'+1) pv rfl rfl HM.out.2.2.1 HI.out HX.out (by omega))
      exact this
     have t5:(jj:Int)<(ii:Int):=by omega
     clear HX HI HM
     obtain ⟨r4,f4⟩:=HK.out.row jj (by omega)
     obtain ⟨r5,f5⟩:=HK.out.row a (by omega)
     have zq:=HK.out.lt
     have hsw:=HK.out.swp_any (i:=jj) (j:=a) (by omega) (by omega)
     obtain ⟨x2,hx2⟩:∃x,x=d1[a]!:=⟨_,rfl⟩
     obtain ⟨y2,hy2⟩:∃y,y=d1[jj]!:=⟨_,rfl⟩
     rw [←hx2,←hy2] at hsw
     rw [←hx2] at r5
     rw [←hy2] at r4
     have HSW:Hid (SrtW w ((wc.setCell ⟨g,o+jj,none⟩ (.int .i64 (x2:Int))).setCell ⟨g,o+a,none⟩ (.int .i64 (y2:Int))) g o (Sort.swp d1 jj a)):=hsw
     have iJ:(jj:Int)<(n:Int):=by omega
     have kJ:(0:Int)≤(jj:Int):=by omega
     by_cases nea:jj=a
     ·have hxy:x2=y2:=by rw [hx2,hy2,nea]
      subst hxy
      rw [nea] at HSW HE r4 f4
      have ea:(jj:Int)=(a:Int):=by omega
      clear r5 f5
      rw [ea]
      clear hx2 hy2 hsw
      go_wp2
      all_goals
       go_region
       all_goals
        go_wp2
        go_ret2
        rw [HE.out]
        exact ⟨rfl,HSW.out.kept (Qf (Qc _))⟩
     ·have nea2:¬a=jj:=fun e=>nea e.symm
      clear hx2 hy2 hsw
      go_wp2
      all_goals
       go_region
       all_goals
        go_wp2
        go_ret2
        rw [HE.out]
        exact ⟨rfl,HSW.out.kept (Qf (Qc _))⟩
end Go.Proofs.YtgpjaecgkkgehaaGreatDoor
