/- slices.partialInsertionSortCmpFunc at numbers, by a method value. -/
import Derived.Test.YtgpjaecgkkgehaaGreatDoorQlbq
set_option maxRecDepth 100000
set_option maxHeartbeats 40000000
namespace Go.Proofs.YtgpjaecgkkgehaaGreatDoor
open Go.RowKit
def dnD (lt:Nat→Nat→Bool) (a i:Nat) (d:Array Nat):Array Nat:=if i-a ≥ 2 then Sort.shiftDown lt (i - 1) d else d
def upD (lt:Nat→Nat→Bool) (b i:Nat) (d:Array Nat):Array Nat:=if b-i ≥ 2 then Sort.shiftUp lt b (i+1) d else d
theorem sS_go {lt:Nat→Nat→Bool} {d:Array Nat} {b p:Nat} (h:p+1<b) (hl:lt d[p+1]! d[p]! = false):Sort.scanSorted lt d b (p+1)=Sort.scanSorted lt d b (p+1+1):=by
 rw [Sort.scanSorted,Nat.add_sub_cancel,hl]
 simp [h]
theorem sS_end {lt:Nat→Nat→Bool} {d:Array Nat} {b p:Nat} (h:¬p+1<b∨lt d[p+1]! d[p]! = true):Sort.scanSorted lt d b (p+1)=p+1:=by
 rw [Sort.scanSorted,Nat.add_sub_cancel]
 rcases h with h|h
 ·simp [h]
 ·simp [h]
theorem sD_go {lt:Nat→Nat→Bool} {d:Array Nat} {p:Nat} (hl:lt d[p+1]! d[p]! = true):Sort.shiftDown lt (p+1) d=Sort.shiftDown lt p (Sort.swp d (p+1) p):=by
 rw [Sort.shiftDown,hl]
 rfl
theorem sD_end {lt:Nat→Nat→Bool} {d:Array Nat} {p:Nat} (hl:lt d[p+1]! d[p]! = false):Sort.shiftDown lt (p+1) d=d:=by
 rw [Sort.shiftDown,hl]
 rfl
theorem sU_go {lt:Nat→Nat→Bool} {d:Array Nat} {b p:Nat} (h:p+1<b) (hl:lt d[p+1]! d[p]! = true):Sort.shiftUp lt b (p+1) d=Sort.shiftUp lt b (p+1+1) (Sort.swp d (p+1) p):=by
 rw [Sort.shiftUp,if_pos h,Nat.add_sub_cancel,hl]
 rfl
theorem sU_end {lt:Nat→Nat→Bool} {d:Array Nat} {b p:Nat} (h:¬p+1<b∨lt d[p+1]! d[p]! = false):Sort.shiftUp lt b (p+1) d=d:=by
 rw [Sort.shiftUp,Nat.add_sub_cancel]
 by_cases q:p+1<b
 ·rw [if_pos q]
  rcases h with h|h
  ·exact absurd q h
  ·rw [h]
   rfl
 ·rw [if_neg q]
theorem pI_done {lt:Nat→Nat→Bool} {d:Array Nat} {a b r i q:Nat} (h:q=Sort.scanSorted lt d b i) (hb:q=b):Sort.partialIns lt a b (r+1) i d=(d,true):=by
 rw [Sort.partialIns]
 simp only [←h,hb,if_true]
theorem pI_short {lt:Nat→Nat→Bool} {d:Array Nat} {a b r i q:Nat} (h:q=Sort.scanSorted lt d b i) (hb:q≠b) (h5:b-a<50):Sort.partialIns lt a b (r+1) i d=(d,false):=by
 rw [Sort.partialIns]
 simp only [←h,hb,if_false,h5,if_true]
theorem pI_go {lt:Nat→Nat→Bool} {d:Array Nat} {a b r i q:Nat} (h:q=Sort.scanSorted lt d b i) (hb:q≠b) (h5:¬b-a<50):Sort.partialIns lt a b (r+1) i d=Sort.partialIns lt a b r q (upD lt b q (dnD lt a q (Sort.swp d q (q - 1)))):=by
 rw [Sort.partialIns]
 simp only [←h,hb,if_false,h5]
 rfl
theorem pins_any (w:World) (g o n cap a b N:Nat) (rv:Value) (cf:Nat→Nat→Int) (hc:CmpF w g N rv cf) (d:Array Nat) (hd:d.size=n) (hN:∀k,k<d.size→d[k]! < N) (hab:a<b) (hbn:b≤n) (hn:n≤300) (w1:World) (hw:SrtW w w1 g o d) :
  Calls Tryz.prog 181 #[.slice (some ⟨g,o,none⟩) n cap,.int .i64 (a:Int),.int .i64 (b:Int),.func (.func 111) #[rv] #[]] w1 fun e w'=>e=.returned (.bool (Sort.partialInsertionSort (ltF cf) d a b).2)∧SrtW w w' g o (Sort.partialInsertionSort (ltF cf) d a b).1:=by
 have HC:Hid (CmpF w g N rv cf):=hc
 have HW:Hid (SrtW w w1 g o d∧(∀k,k<d.size→d[k]! < N)∧d.size=n):=⟨hw,hN,hd⟩
 obtain ⟨T,hT⟩:∃T,T=Sort.partialInsertionSort (ltF cf) d a b:=⟨_,rfl⟩
 have HT:Hid (Sort.partialIns (ltF cf) a b 5 (a+1) d=T):=hT.symm
 rw [←hT]
 clear hc hw hN hd hT
 go_enter Tryz.func181,Tryz.ntmps181
 go_wp2
 go_loopg [9,10] 5 (fun gk s9 s10 wx=>∃(p st:Nat) (d1:Array Nat),a≤p∧p+1≤b∧gk=5-st∧st≤5∧s9=.int .i64 ((p:Int)+1)∧s10=.int .i64 (st:Int)∧SrtW w wx g o d1∧(∀k,k<d1.size→d1[k]! < N)∧d1.size=n∧Sort.partialIns (ltF cf) a b (5-st) (p+1) d1=T)
 case atStart=>exact ⟨a,0,d,Nat.le_refl _,by omega,rfl,by omega,by go_num,rfl,HW.out.1,HW.out.2.1,HW.out.2.2,HT.out⟩
 case round =>
  clear HW HT
  obtain ⟨p,st,d1,hap,hpb,rfl,hst,rfl,rfl,hS,hN1,hd1,hT1⟩:=hrel
  have HS:Hid (SrtW w wr g o d1∧(∀k,k<d1.size→d1[k]! < N)∧d1.size=n):=⟨hS,hN1,hd1⟩
  by_cases h5:st<5
  ·have t5:(st:Int)<5:=by omega
   obtain ⟨r,hr⟩:∃r,r+1=5-st:=⟨4-st,by omega⟩
   have HP:Hid (Sort.partialIns (ltF cf) a b (r+1) (p+1) d1=T):=hr ▸ hT1
   clear hS hN1 hd1 hT1
   go_upto_block 2 with fail
   go_cut [9] (fun s9 wx=>∃q:Nat,s9=.int .i64 ((q:Int)+1)∧p≤q∧q+1≤b∧SrtW w wx g o d1∧q+1=Sort.scanSorted (ltF cf) d1 b (p+1))
   case first =>
    go_wp2
    go_loopg [9] (b-(p+1)) (fun gk s9 wx=>∃q:Nat,p≤q∧q+1≤b∧gk=b-(q+1)∧s9=.int .i64 ((q:Int)+1)∧SrtW w wx g o d1∧Sort.scanSorted (ltF cf) d1 b (q+1)=Sort.scanSorted (ltF cf) d1 b (p+1))
    case atStart=>exact ⟨p,Nat.le_refl _,hpb,rfl,rfl,HS.out.1,rfl⟩
    case round =>
     obtain ⟨q,hq1,hq2,rfl,rfl,hS2,hI2⟩:=hrel
     have H2:Hid (SrtW w wr g o d1∧(∀k,k<d1.size→d1[k]! < N)∧d1.size=n):=⟨hS2,HS.out.2⟩
     have HU:Hid (Sort.scanSorted (ltF cf) d1 b (q+1)=Sort.scanSorted (ltF cf) d1 b (p+1)):=hI2
     clear hS2 hI2 HS
     by_cases h1:q+1<b
     ·have t1:(q:Int)+1<(b:Int):=by omega
      have td:decide ((q:Int)+1<(b:Int))=true:=decide_eq_true t1
      have hs2:=H2.out.2.2
      obtain ⟨r1,f1⟩:=H2.out.1.row (q+1) (by omega)
      obtain ⟨r0,f0⟩:=H2.out.1.row q (by omega)
      have l1:=H2.out.2.1 (q+1) (by omega)
      have l0:=H2.out.2.1 q (by omega)
      have zg:=H2.out.1.lt
      obtain ⟨x,hx⟩:∃x,x=d1[q+1]!:=⟨_,rfl⟩
      obtain ⟨y,hy⟩:∃y,y=d1[q]!:=⟨_,rfl⟩
      rw [←hx] at r1 l1
      rw [←hy] at r0 l0
      have HXY:Hid (x=d1[q+1]! ∧ y=d1[q]!):=⟨hx,hy⟩
      have CB:Hid (∀W:World,Bl wr W→Calls Tryz.prog 111 #[rv,.int .i64 (x:Int),.int .i64 (y:Int)] W fun e w'=>e=.returned (.int .i64 (cf x y))∧Bl W w'):=fun W hW=>HC.out W (H2.out.1.kept hW).gr x y l1 l0
      obtain ⟨c,hcv⟩:∃c,c=cf x y:=⟨_,rfl⟩
      have HLT:Hid (ltF cf d1[q+1]! d1[q]! = decide (c<0)):=by
       have:ltF cf d1[q+1]! d1[q]! = decide (c<0):=by rw [hcv,hx,hy];rfl
       exact this
      rw [←hcv] at CB
      have e1:(q:Int)+1 - 1=(q:Int):=by omega
      have w1':IntKind.i64.wrap ((q:Int)+1 - 1)=(q:Int):=by rw [IntKind.wrap_i64];omega
      have w2':IntKind.i64.wrap (q:Int)=(q:Int):=by rw [IntKind.wrap_i64];omega
      have i2:(q:Int)+1<(n:Int):=by omega
      have i3:(q:Int)<(n:Int):=by omega
      have k2:(0:Int)≤(q:Int)+1:=by omega
      have k3:(0:Int)≤(q:Int):=by omega
      clear hx hy hcv l1 l0
      by_cases qc:c<0
      ·have qb:decide (c<0)=true:=decide_eq_true qc
       go_wp2
       have kc:=Kin.cells wr
       have kn:Nonempty (Kin wr):=⟨⟨wr,Qc _⟩⟩
       refine Qg (by kernel_rfl) (by kernel_rfl) ?_
       repeat (go_big_quiet_step ((go_at_call 111;exact Qo (CB.out _ (Kin.h _)))))
       refine wpQuiet_nil ?_
       intro wq hw'
       obtain ⟨nq,hw''⟩:=hw'
       have hq:Bl wr wq:=hw'' ▸ nq.h
       clear hw'' nq kc kn
       clear r1 r0 f1 f0
       go_wp2
       go_meet
       case rel=>exact ⟨q,rfl,hq1,hq2,H2.out.1.kept hq,by rw [←HU.out];exact (sS_end (Or.inr (by rw [HLT.out];exact qb))).symm⟩
      ·have qb:decide (c<0)=false:=decide_eq_false qc
       go_wp2
       have kc:=Kin.cells wr
       have kn:Nonempty (Kin wr):=⟨⟨wr,Qc _⟩⟩
       refine Qg (by kernel_rfl) (by kernel_rfl) ?_
       repeat (go_big_quiet_step ((go_at_call 111;exact Qo (CB.out _ (Kin.h _)))))
       refine wpQuiet_nil ?_
       intro wq hw'
       obtain ⟨nq,hw''⟩:=hw'
       have hq:Bl wr wq:=hw'' ▸ nq.h
       clear hw'' nq kc kn
       clear r1 r0 f1 f0
       go_wp2
       go_roundg (b-(q+1+1))
       case measure=>omega
       case rel=>exact ⟨q+1,by omega,by omega,rfl,by go_num,H2.out.1.kept hq,by rw [←HU.out];exact (sS_go h1 (by rw [HLT.out];exact qb)).symm⟩
     ·have t1:¬(q:Int)+1<(b:Int):=by omega
      have td:decide ((q:Int)+1<(b:Int))=false:=decide_eq_false t1
      go_wp2
      have kc:=Kin.cells wr
      have kn:Nonempty (Kin wr):=⟨⟨wr,Qc _⟩⟩
      refine Qg (by kernel_rfl) (by kernel_rfl) ?_
      repeat (go_big_quiet_step (fail))
      refine wpQuiet_nil ?_
      intro wq hw'
      obtain ⟨nq,hw''⟩:=hw'
      have hq:Bl wr wq:=hw'' ▸ nq.h
      clear hw'' nq kc kn
      go_wp2
      go_meet
      case rel=>exact ⟨q,rfl,hq1,hq2,H2.out.1.kept hq,by rw [←HU.out];exact (sS_end (Or.inl h1)).symm⟩
   case rest =>
    obtain ⟨q,rfl,hq1,hq2,hS2,hI2⟩:=hcut
    have H2:Hid (SrtW w wc g o d1∧(∀k,k<d1.size→d1[k]! < N)∧d1.size=n):=⟨hS2,HS.out.2⟩
    have HX:Hid (q+1=Sort.scanSorted (ltF cf) d1 b (p+1)):=hI2
    clear hS2 hI2 HS
    by_cases hnb:q+1=b
    ·have tb:(q:Int)+1=(b:Int):=by omega
     have tb2:((q:Int)+1 == (b:Int))=true:=by simpa using tb
     have HE:Hid (T=(d1,true)):=by
      have:T=(d1,true):=by rw [←HP.out];exact pI_done HX.out hnb
      exact this
     clear HX HP
     go_wp2
     go_ret
     rw [HE.out]
     exact ⟨rfl,H2.out.1⟩
    ·have tb:¬(q:Int)+1=(b:Int):=by omega
     have tb2:((q:Int)+1 == (b:Int))=false:=by simpa using tb
     by_cases h50:b-a<50
     ·have t6:(b:Int)-(a:Int)<50:=by omega
      have t7:IntKind.i64.wrap ((b:Int)-(a:Int))<50:=by rw [IntKind.wrap_i64];omega
      have HE:Hid (T=(d1,false)):=by
       have:T=(d1,false):=by rw [←HP.out];exact pI_short HX.out hnb h50
       exact this
      clear HX HP
      go_wp2
      go_ret
      rw [HE.out]
      exact ⟨rfl,H2.out.1⟩
     ·have t6:¬(b:Int)-(a:Int)<50:=by omega
      have t7:¬IntKind.i64.wrap ((b:Int)-(a:Int))<50:=by rw [IntKind.wrap_i64];omega
      have hs2:=H2.out.2.2
      obtain ⟨r1,f1⟩:=H2.out.1.row (q+1) (by omega)
      obtain ⟨r0,f0⟩:=H2.out.1.row q (by omega)
      obtain ⟨x,hx⟩:∃x,x=d1[q+1]!:=⟨_,rfl⟩
      obtain ⟨y,hy⟩:∃y,y=d1[q]!:=⟨_,rfl⟩
      rw [←hx] at r1
      rw [←hy] at r0
      have HXY:Hid (x=d1[q+1]! ∧ y=d1[q]!):=⟨hx,hy⟩
      have zq:=H2.out.1.lt
      have w1':IntKind.i64.wrap ((q:Int)+1 - 1)=(q:Int):=by rw [IntKind.wrap_i64];omega
      have w2':IntKind.i64.wrap (q:Int)=(q:Int):=by rw [IntKind.wrap_i64];omega
      have i2:(q:Int)+1<(n:Int):=by omega
      have i3:(q:Int)<(n:Int):=by omega
      have k2:(0:Int)≤(q:Int)+1:=by omega
      have k3:(0:Int)≤(q:Int):=by omega
      have HQ:Hid (SrtW w wc g o d1):=H2.out.1
      clear hx hy
      have hsw:=HQ.out.swap (i:=q+1) (j:=q) (by omega) (by omega) (by omega)
      rw [←HXY.out.1,←HXY.out.2] at hsw
      have HSW:Hid (SrtW w ((wc.setCell ⟨g,o+(q+1),none⟩ (.int .i64 (y:Int))).setCell ⟨g,o+q,none⟩ (.int .i64 (x:Int))) g o (Sort.swp d1 (q+1) q)):=hsw
      have HM2:Hid ((∀z,z<(Sort.swp d1 (q+1) q).size→(Sort.swp d1 (q+1) q)[z]! < N)∧(Sort.swp d1 (q+1) q).size=n):=⟨Jb H2.out.2.1 (by omega) (by omega),(Sort.size_swp ..).trans hs2⟩
      clear hsw
      have ne1:¬q+1=q:=by omega
      have ne2:¬q=q+1:=by omega
      go_upto_region 11 with fail
      go_cut [9] (fun s0 wx=>s0=.int .i64 ((q:Int)+1)∧SrtW w wx g o (Sort.swp d1 (q+1) q))
      case first =>
       go_region
       all_goals
        go_wp2
        go_meet
        case rel=>exact ⟨rfl,HSW.out.kept (Qf (Qc _))⟩
      case rest =>
       clear HSW HQ r1 r0 f1 f0 zq
       obtain ⟨rfl,hSW⟩:=hcut
       have HSW:Hid (SrtW w wc g o (Sort.swp d1 (q+1) q)):=hSW
       clear hSW
       obtain ⟨ds,hds⟩:∃ds,ds=Sort.swp d1 (q+1) q:=⟨_,rfl⟩
       rw [←hds] at HSW HM2
       have HDS:Hid (ds=Sort.swp d1 (q+1) q):=hds
       have HD:Hid (SrtW w wc g o ds∧(∀j,j<ds.size→ds[j]! < N)∧ds.size=n):=⟨HSW.out,HM2.out.1,HM2.out.2⟩
       clear hds HSW HM2 HXY H2
       go_upto_if 65 with fail
       go_cut [9,11] (fun s9 s11 wx=>s9=.int .i64 ((q:Int)+1)∧∃d3,SrtW w wx g o d3∧(∀k,k<d3.size→d3[k]! < N)∧d3.size=n∧d3=dnD (ltF cf) a (q+1) ds)
       case first =>
        by_cases h2:2≤q+1-a
        ·have t2:(2:Int)≤(q:Int)+1-(a:Int):=by omega
         have t3:(2:Int)≤IntKind.i64.wrap ((q:Int)+1-(a:Int)):=by rw [IntKind.wrap_i64];omega
         have e5:IntKind.i64.wrap ((q:Int)+1 - 1)=(q:Int):=by rw [IntKind.wrap_i64];omega
         go_wp2
         go_loopg [11] q (fun gk s11 wx=>∃(k:Nat) (d2:Array Nat),k≤q∧k=gk∧s11=.int .i64 (k:Int)∧SrtW w wx g o d2∧(∀j,j<d2.size→d2[j]! < N)∧d2.size=n∧Sort.shiftDown (ltF cf) k d2=Sort.shiftDown (ltF cf) q ds)
         case atStart=>exact ⟨q,ds,Nat.le_refl _,rfl,by first|rfl|go_num,HD.out.1,HD.out.2.1,HD.out.2.2,rfl⟩
         case round =>
          clear HD
          obtain ⟨k,d2,hkq,rfl,rfl,hS2,hN2,hd2,hI⟩:=hrel
          have H2:Hid (SrtW w wr g o d2∧(∀j,j<d2.size→d2[j]! < N)∧d2.size=n):=⟨hS2,hN2,hd2⟩
          have HI:Hid (Sort.shiftDown (ltF cf) k d2=Sort.shiftDown (ltF cf) q ds):=hI
          clear hS2 hN2 hd2 hI
          have HDN:Hid (dnD (ltF cf) a (q+1) ds=Sort.shiftDown (ltF cf) q ds):=by
           have:dnD (ltF cf) a (q+1) ds=Sort.shiftDown (ltF cf) q ds:=by unfold dnD;rw [if_pos h2,Nat.add_sub_cancel]
           exact this
          rcases Nat.eq_zero_or_pos k with rfl|hk0
          ·go_wp2
           go_meet
           case rel=>exact ⟨rfl,d2,H2.out.1,H2.out.2.1,H2.out.2.2,by rw [HDN.out,←HI.out];rfl⟩
          ·obtain ⟨v,rfl⟩:∃v,k=v+1:=⟨k - 1,by omega⟩
           have t4:(1:Int)≤(v:Int)+1:=by omega
           have t5:(0:Int)≤(v:Int):=by omega
           have hs2:=H2.out.2.2
           obtain ⟨r1,f1⟩:=H2.out.1.row (v+1) (by omega)
           obtain ⟨r0,f0⟩:=H2.out.1.row v (by omega)
           have l1:=H2.out.2.1 (v+1) (by omega)
           have l0:=H2.out.2.1 v (by omega)
           have zg:=H2.out.1.lt
           obtain ⟨x,hx⟩:∃x,x=d2[v+1]!:=⟨_,rfl⟩
           obtain ⟨y,hy⟩:∃y,y=d2[v]!:=⟨_,rfl⟩
           rw [←hx] at r1 l1
           rw [←hy] at r0 l0
           have HXY:Hid (x=d2[v+1]! ∧ y=d2[v]!):=⟨hx,hy⟩
           have CB:Hid (∀W:World,Bl wr W→Calls Tryz.prog 111 #[rv,.int .i64 (x:Int),.int .i64 (y:Int)] W fun e w'=>e=.returned (.int .i64 (cf x y))∧Bl W w'):=fun W hW=>HC.out W (H2.out.1.kept hW).gr x y l1 l0
           obtain ⟨c,hcv⟩:∃c,c=cf x y:=⟨_,rfl⟩
           have HLT:Hid (ltF cf d2[v+1]! d2[v]! = decide (c<0)):=by
            have:ltF cf d2[v+1]! d2[v]! = decide (c<0):=by rw [hcv,hx,hy];rfl
            exact this
           rw [←hcv] at CB
           have e1:(v:Int)+1 - 1=(v:Int):=by omega
           have w1':IntKind.i64.wrap ((v:Int)+1 - 1)=(v:Int):=by rw [IntKind.wrap_i64];omega
           have w2':IntKind.i64.wrap (v:Int)=(v:Int):=by rw [IntKind.wrap_i64];omega
           have i2:(v:Int)+1<(n:Int):=by omega
           have i3:(v:Int)<(n:Int):=by omega
           have k2:(0:Int)≤(v:Int)+1:=by omega
           have k3:(0:Int)≤(v:Int):=by omega
           clear hx hy hcv l1 l0
           by_cases qc:c<0
           ·have qb:decide (c<0)=true:=decide_eq_true qc
            go_wp2
            have kc:=Kin.cells wr
            have kn:Nonempty (Kin wr):=⟨⟨wr,Qc _⟩⟩
            refine Qg (by kernel_rfl) (by kernel_rfl) ?_
            repeat (go_big_quiet_step ((go_at_call 111;exact Qo (CB.out _ (Kin.h _)))))
            refine wpQuiet_nil ?_
            intro wq hw'
            obtain ⟨nq,hw''⟩:=hw'
            have hq:Bl wr wq:=hw'' ▸ nq.h
            clear hw'' nq kc kn
            have HQ:Hid (SrtW w wq g o d2):=H2.out.1.kept hq
            replace r1:=Qa hq r1
            replace r0:=Qa hq r0
            replace f1:=(hq.frozen zg).trans f1
            replace f0:=(hq.frozen zg).trans f0
            have zq:g<wq.heap.size:=Nat.lt_of_lt_of_le zg hq.size
            clear hq CB
            have hsw:=HQ.out.swap (i:=v+1) (j:=v) (by omega) (by omega) (by omega)
            rw [←HXY.out.1,←HXY.out.2] at hsw
            have HSW:Hid (SrtW w ((wq.setCell ⟨g,o+(v+1),none⟩ (.int .i64 (y:Int))).setCell ⟨g,o+v,none⟩ (.int .i64 (x:Int))) g o (Sort.swp d2 (v+1) v)):=hsw
            have HM2:Hid ((∀z,z<(Sort.swp d2 (v+1) v).size→(Sort.swp d2 (v+1) v)[z]! < N)∧(Sort.swp d2 (v+1) v).size=n):=⟨Jb H2.out.2.1 (by omega) (by omega),(Sort.size_swp ..).trans hs2⟩
            clear hsw
            have ne1:¬v+1=v:=by omega
            have ne2:¬v=v+1:=by omega
            go_wp2
            go_region
            all_goals
             go_wp2
             go_roundg v
             case measure=>omega
             case rel=>exact ⟨v,Sort.swp d2 (v+1) v,by omega,rfl,by go_num,HSW.out.kept (Qf (Qc _)),HM2.out.1,HM2.out.2,by rw [←HI.out];exact (sD_go (by rw [HLT.out];exact qb)).symm⟩
           ·have qb:decide (c<0)=false:=decide_eq_false qc
            go_wp2
            have kc:=Kin.cells wr
            have kn:Nonempty (Kin wr):=⟨⟨wr,Qc _⟩⟩
            refine Qg (by kernel_rfl) (by kernel_rfl) ?_
            repeat (go_big_quiet_step ((go_at_call 111;exact Qo (CB.out _ (Kin.h _)))))
            refine wpQuiet_nil ?_
            intro wq hw'
            obtain ⟨nq,hw''⟩:=hw'
            have hq:Bl wr wq:=hw'' ▸ nq.h
            clear hw'' nq kc kn
            clear r1 r0 f1 f0
            go_wp2
            go_meet
            case rel=>exact ⟨rfl,d2,H2.out.1.kept hq,H2.out.2.1,H2.out.2.2,by rw [HDN.out,←HI.out];exact (sD_end (by rw [HLT.out];exact qb)).symm⟩
        ·have t2:¬(2:Int)≤(q:Int)+1-(a:Int):=by omega
         have t3:¬(2:Int)≤IntKind.i64.wrap ((q:Int)+1-(a:Int)):=by rw [IntKind.wrap_i64];omega
         go_wp2
         go_meet
         case rel=>exact ⟨rfl,ds,HD.out.1,HD.out.2.1,HD.out.2.2,by unfold dnD;rw [if_neg h2]⟩
       case rest =>
        clear HD
        obtain ⟨rfl,d3,hS3,hN3,hd3,hE3⟩:=hcut
        have H3:Hid (SrtW w wc g o d3∧(∀j,j<d3.size→d3[j]! < N)∧d3.size=n):=⟨hS3,hN3,hd3⟩
        have HE3:Hid (d3=dnD (ltF cf) a (q+1) ds):=hE3
        clear hS3 hN3 hd3 hE3
        by_cases h3:2≤b-(q+1)
        ·have t2:(2:Int)≤(b:Int)-((q:Int)+1):=by omega
         have t3:(2:Int)≤IntKind.i64.wrap ((b:Int)-((q:Int)+1)):=by rw [IntKind.wrap_i64];omega
         go_wp2
         go_loopg [12] (b-(q+1+1)) (fun gk s12 wx=>∃(k:Nat) (d2:Array Nat),q+1≤k∧k+1≤b∧gk=b-(k+1)∧s12=.int .i64 ((k:Int)+1)∧SrtW w wx g o d2∧(∀j,j<d2.size→d2[j]! < N)∧d2.size=n∧Sort.shiftUp (ltF cf) b (k+1) d2=Sort.shiftUp (ltF cf) b (q+1+1) d3)
         case atStart=>exact ⟨q+1,d3,Nat.le_refl _,by omega,rfl,by go_num,H3.out.1,H3.out.2.1,H3.out.2.2,rfl⟩
         case round =>
          clear H3
          obtain ⟨k,d2,hk1,hk2,rfl,rfl,hS2,hN2,hd2,hI⟩:=hrel
          have H2:Hid (SrtW w wr g o d2∧(∀j,j<d2.size→d2[j]! < N)∧d2.size=n):=⟨hS2,hN2,hd2⟩
          have HI:Hid (Sort.shiftUp (ltF cf) b (k+1) d2=Sort.shiftUp (ltF cf) b (q+1+1) d3):=hI
          clear hS2 hN2 hd2 hI
          have HUP:Hid (upD (ltF cf) b (q+1) d3=Sort.shiftUp (ltF cf) b (q+1+1) d3):=by
           have:upD (ltF cf) b (q+1) d3=Sort.shiftUp (ltF cf) b (q+1+1) d3:=by unfold upD;rw [if_pos h3]
           exact this
          by_cases h4:k+1<b
          ·have t4:(k:Int)+1<(b:Int):=by omega
           have hs2:=H2.out.2.2
           obtain ⟨r1,f1⟩:=H2.out.1.row (k+1) (by omega)
           obtain ⟨r0,f0⟩:=H2.out.1.row k (by omega)
           have l1:=H2.out.2.1 (k+1) (by omega)
           have l0:=H2.out.2.1 k (by omega)
           have zg:=H2.out.1.lt
           obtain ⟨x,hx⟩:∃x,x=d2[k+1]!:=⟨_,rfl⟩
           obtain ⟨y,hy⟩:∃y,y=d2[k]!:=⟨_,rfl⟩
           rw [←hx] at r1 l1
           rw [←hy] at r0 l0
           have HXY:Hid (x=d2[k+1]! ∧ y=d2[k]!):=⟨hx,hy⟩
           have CB:Hid (∀W:World,Bl wr W→Calls Tryz.prog 111 #[rv,.int .i64 (x:Int),.int .i64 (y:Int)] W fun e w'=>e=.returned (.int .i64 (cf x y))∧Bl W w'):=fun W hW=>HC.out W (H2.out.1.kept hW).gr x y l1 l0
           obtain ⟨c,hcv⟩:∃c,c=cf x y:=⟨_,rfl⟩
           have HLT:Hid (ltF cf d2[k+1]! d2[k]! = decide (c<0)):=by
            have:ltF cf d2[k+1]! d2[k]! = decide (c<0):=by rw [hcv,hx,hy];rfl
            exact this
           rw [←hcv] at CB
           have e1:(k:Int)+1 - 1=(k:Int):=by omega
           have w1':IntKind.i64.wrap ((k:Int)+1 - 1)=(k:Int):=by rw [IntKind.wrap_i64];omega
           have w2':IntKind.i64.wrap (k:Int)=(k:Int):=by rw [IntKind.wrap_i64];omega
           have i2:(k:Int)+1<(n:Int):=by omega
           have i3:(k:Int)<(n:Int):=by omega
           have k2:(0:Int)≤(k:Int)+1:=by omega
           have k3:(0:Int)≤(k:Int):=by omega
           clear hx hy hcv l1 l0
           by_cases qc:c<0
           ·have qb:decide (c<0)=true:=decide_eq_true qc
            go_wp2
            have kc:=Kin.cells wr
            have kn:Nonempty (Kin wr):=⟨⟨wr,Qc _⟩⟩
            refine Qg (by kernel_rfl) (by kernel_rfl) ?_
            repeat (go_big_quiet_step ((go_at_call 111;exact Qo (CB.out _ (Kin.h _)))))
            refine wpQuiet_nil ?_
            intro wq hw'
            obtain ⟨nq,hw''⟩:=hw'
            have hq:Bl wr wq:=hw'' ▸ nq.h
            clear hw'' nq kc kn
            have HQ:Hid (SrtW w wq g o d2):=H2.out.1.kept hq
            replace r1:=Qa hq r1
            replace r0:=Qa hq r0
            replace f1:=(hq.frozen zg).trans f1
            replace f0:=(hq.frozen zg).trans f0
            have zq:g<wq.heap.size:=Nat.lt_of_lt_of_le zg hq.size
            clear hq CB
            have hsw:=HQ.out.swap (i:=k+1) (j:=k) (by omega) (by omega) (by omega)
            rw [←HXY.out.1,←HXY.out.2] at hsw
            have HSW:Hid (SrtW w ((wq.setCell ⟨g,o+(k+1),none⟩ (.int .i64 (y:Int))).setCell ⟨g,o+k,none⟩ (.int .i64 (x:Int))) g o (Sort.swp d2 (k+1) k)):=hsw
            have HM2:Hid ((∀z,z<(Sort.swp d2 (k+1) k).size→(Sort.swp d2 (k+1) k)[z]! < N)∧(Sort.swp d2 (k+1) k).size=n):=⟨Jb H2.out.2.1 (by omega) (by omega),(Sort.size_swp ..).trans hs2⟩
            clear hsw
            have ne1:¬k+1=k:=by omega
            have ne2:¬k=k+1:=by omega
            go_wp2
            go_region
            all_goals
             go_wp2
             go_roundg (b-(k+1+1))
             case measure=>omega
             case rel=>exact ⟨k+1,Sort.swp d2 (k+1) k,by omega,by omega,rfl,by go_num,HSW.out.kept (Qf (Qc _)),HM2.out.1,HM2.out.2,by rw [←HI.out];exact (sU_go h4 (by rw [HLT.out];exact qb)).symm⟩
           ·have qb:decide (c<0)=false:=decide_eq_false qc
            go_wp2
            have kc:=Kin.cells wr
            have kn:Nonempty (Kin wr):=⟨⟨wr,Qc _⟩⟩
            refine Qg (by kernel_rfl) (by kernel_rfl) ?_
            repeat (go_big_quiet_step ((go_at_call 111;exact Qo (CB.out _ (Kin.h _)))))
            refine wpQuiet_nil ?_
            intro wq hw'
            obtain ⟨nq,hw''⟩:=hw'
            have hq:Bl wr wq:=hw'' ▸ nq.h
            clear hw'' nq kc kn
            clear r1 r0 f1 f0
            have hE4:d2=upD (ltF cf) b (q+1) d3:=by rw [HUP.out,←HI.out];exact (sU_end (Or.inr (by rw [HLT.out];exact qb))).symm
            have HT4:Hid (Sort.partialIns (ltF cf) a b (5-(st+1)) (q+1) d2=T):=by
             have:Sort.partialIns (ltF cf) a b (5-(st+1)) (q+1) d2=T:=by
              rw [←HP.out,pI_go HX.out hnb h50,hE4,HE3.out,HDS.out,show 5-(st+1)=r by omega]
              rfl
             exact this
            clear hE4
            go_wp2
            go_roundg (5-(st+1))
            case measure=>omega
            case rel=>exact ⟨q,st+1,d2,by omega,hq2,rfl,by omega,rfl,by go_num,H2.out.1.kept hq,H2.out.2.1,H2.out.2.2,HT4.out⟩
          ·have t4:¬(k:Int)+1<(b:Int):=by omega
           have hE4:d2=upD (ltF cf) b (q+1) d3:=by rw [HUP.out,←HI.out];exact (sU_end (Or.inl h4)).symm
           have HT4:Hid (Sort.partialIns (ltF cf) a b (5-(st+1)) (q+1) d2=T):=by
            have:Sort.partialIns (ltF cf) a b (5-(st+1)) (q+1) d2=T:=by
             rw [←HP.out,pI_go HX.out hnb h50,hE4,HE3.out,HDS.out,show 5-(st+1)=r by omega]
             rfl
            exact this
           clear hE4
           go_wp2
           go_roundg (5-(st+1))
           case measure=>omega
           case rel=>exact ⟨q,st+1,d2,by omega,hq2,rfl,by omega,rfl,by go_num,H2.out.1,H2.out.2.1,H2.out.2.2,HT4.out⟩
        ·have t2:¬(2:Int)≤(b:Int)-((q:Int)+1):=by omega
         have t3:¬(2:Int)≤IntKind.i64.wrap ((b:Int)-((q:Int)+1)):=by rw [IntKind.wrap_i64];omega
         have hE4:d3=upD (ltF cf) b (q+1) d3:=by unfold upD;rw [if_neg h3]
         have HT4:Hid (Sort.partialIns (ltF cf) a b (5-(st+1)) (q+1) d3=T):=by
          have:Sort.partialIns (ltF cf) a b (5-(st+1)) (q+1) d3=T:=by
           rw [←HP.out,pI_go HX.out hnb h50,hE4,HE3.out,HDS.out,show 5-(st+1)=r by omega]
           rfl
          exact this
         clear hE4
         go_wp2
         go_roundg (5-(st+1))
         case measure=>omega
         case rel=>exact ⟨q,st+1,d3,by omega,hq2,rfl,by omega,rfl,by go_num,H3.out.1,H3.out.2.1,H3.out.2.2,HT4.out⟩
  ·have t5:¬(st:Int)<5:=by omega
   have HE:Hid (T=(d1,false)):=by
    have:T=(d1,false):=by rw [←hT1,show 5-st=0 by omega];rfl
    exact this
   clear hS hN1 hd1 hT1
   go_wp2
   go_ret
   rw [HE.out]
   exact ⟨rfl,HS.out.1⟩
end Go.Proofs.YtgpjaecgkkgehaaGreatDoor
