/- slices.breakPatternsCmpFunc at numbers. -/
import Derived.Test.YtgpjaecgkkgehaaGreatDoorQlbr
import Derived.Sort.Walk7
import Derived.Ground.SlsfProg
import Derived.Shelf.SlSortCmp.Xorshift
set_option maxRecDepth 100000
set_option maxHeartbeats 40000000
namespace Go.Proofs
open Go.Shelf
def Tryz.npot_ren:Go.Shelf.Ren:=⟨fun | 47=>193 | 15=>140 | 28=>171 | 29=>172 | n=>n,fun | 3=>3 | 39=>182 | 53=>210 | 55=>213 | 4=>4 | 5=>5 | 9=>9 | n=>n,fun | n=>n⟩
theorem Tryz.npot:Go.Proofs.SlLaysF0.n47 Tryz.prog Tryz.npot_ren:={
 mixed:=by kernel_rfl
 f15:=Tryz.func140.trans (congrArg some (by kernel_rfl))
 f28:=Tryz.func171.trans (congrArg some (by kernel_rfl))
 f29:=Tryz.func172.trans (congrArg some (by kernel_rfl))
 f47:=Tryz.func193.trans (congrArg some (by kernel_rfl))
 t3:=Tryz.underlying3
 a3:=Tryz.isAgg3
 z3:=Tryz.sizeOf3
 v3:=Tryz.zeroValue3
 t4:=Tryz.underlying4
 a4:=Tryz.isAgg4
 z4:=Tryz.sizeOf4
 v4:=Tryz.zeroValue4
 t5:=Tryz.underlying5
 a5:=Tryz.isAgg5
 z5:=Tryz.sizeOf5
 v5:=Tryz.zeroValue5
 t9:=Tryz.underlying9
 a9:=Tryz.isAgg9
 z9:=Tryz.sizeOf9
 v9:=Tryz.zeroValue9
 t39:=Tryz.underlying182
 a39:=Tryz.isAgg182
 z39:=Tryz.sizeOf182
 v39:=Tryz.zeroValue182
 t53:=Tryz.underlying210
 a53:=Tryz.isAgg210
 z53:=Tryz.sizeOf210
 v53:=Tryz.zeroValue210
 t55:=Tryz.underlying213
 a55:=Tryz.isAgg213
 z55:=Tryz.sizeOf213
 v55:=Tryz.zeroValue213 }
def Tryz.xorN_ren:Go.Shelf.Ren:=⟨fun | 48=>194 | n=>n,fun | 76=>258 | 55=>213 | 0=>0 | 66=>246 | 39=>182 | n=>n,fun | n=>n⟩
theorem Tryz.xorN:Go.Proofs.SlLaysF0.n48 Tryz.prog Tryz.xorN_ren:={
 mixed:=by kernel_rfl
 f48:=Tryz.func194.trans (congrArg some (by kernel_rfl))
 t0:=Tryz.underlying0
 a0:=Tryz.isAgg0
 z0:=Tryz.sizeOf0
 v0:=Tryz.zeroValue0
 t39:=Tryz.underlying182
 a39:=Tryz.isAgg182
 z39:=Tryz.sizeOf182
 v39:=Tryz.zeroValue182
 t55:=Tryz.underlying213
 a55:=Tryz.isAgg213
 z55:=Tryz.sizeOf213
 v55:=Tryz.zeroValue213
 t66:=Tryz.underlying246
 a66:=Tryz.isAgg246
 z66:=Tryz.sizeOf246
 v66:=Tryz.zeroValue246
 t76:=Tryz.underlying258
 a76:=Tryz.isAgg258
 z76:=Tryz.sizeOf258
 v76:=Tryz.zeroValue258 }
end Go.Proofs
namespace Go.Proofs.YtgpjaecgkkgehaaGreatDoor
open Go.RowKit
open Go.Sort hiding Below
structure RndW (w wx:World) (g o:Nat) (d:Array Nat) (sb s:Nat):Prop where
 r:SrtW w wx g o d
 c:wx.cell? ⟨sb,0,none⟩=some (.int .u64 (s:Int))
 f:wx.frozen? ⟨sb,0,none⟩=false
 low:w.heap.size≤sb
 ne:sb≠g
theorem RndW.lt {w wx:World} {g o:Nat} {d:Array Nat} {sb s:Nat} (h:RndW w wx g o d sb s):sb<wx.heap.size:=bk h.c
theorem RndW.kept {w wx w':World} {g o:Nat} {d:Array Nat} {sb s:Nat} (h:RndW w wx g o d sb s) (hb:Bl wx w'):RndW w w' g o d sb s:=⟨h.r.kept hb,Qa hb h.c,(hb.frozen h.lt).trans h.f,h.low,h.ne⟩
theorem RndW.put {w wx:World} {g o:Nat} {d:Array Nat} {sb s:Nat} (h:RndW w wx g o d sb s) (t:Nat):RndW w (wx.setCell ⟨sb,0,none⟩ (.int .u64 (t:Int))) g o d sb t:=by
 have g1:=Qm wx sb 0 (.int .u64 (t:Int))
 have hne:some g≠some sb:=fun e=>h.ne (by cases e;rfl)
 refine ⟨⟨fun j hj=>⟨g1.cell (h.r.row j hj).1 hne,(World.frozen?_of_block (a:=⟨g,o+j,none⟩) (g1.block g h.r.lt hne)).trans (h.r.row j hj).2⟩,?_,Nat.lt_of_lt_of_le h.r.lt g1.size⟩,Q8 h.c,by simp [go_sem,h.f],h.low,h.ne⟩
 have a:=h.r.gr
 exact ⟨g1.os.trans a.os,g1.tape.trans a.tape,g1.output.trans a.output,Nat.le_trans a.size g1.size,fun k hk hkg=>(g1.block k (Nat.lt_of_lt_of_le hk a.size) (fun e=>by cases e;have:=h.low;omega)).trans (a.block k hk hkg)⟩
theorem RndW.swp {w wx:World} {g o:Nat} {d:Array Nat} {sb s:Nat} (h:RndW w wx g o d sb s) {i j:Nat} (hi:i<d.size) (hj:j<d.size):RndW w ((wx.setCell ⟨g,o+i,none⟩ (.int .i64 ((d[j]! : Nat):Int))).setCell ⟨g,o+j,none⟩ (.int .i64 ((d[i]! : Nat):Int))) g o (Sort.swp d i j) sb s:=by
 have hne:some sb≠some g:=fun e=>h.ne (by cases e;rfl)
 have g1:=Qm wx g (o+i) (.int .i64 ((d[j]! : Nat):Int))
 have g2:=Qm (wx.setCell ⟨g,o+i,none⟩ (.int .i64 ((d[j]! : Nat):Int))) g (o+j) (.int .i64 ((d[i]! : Nat):Int))
 exact ⟨h.r.swp_any hi hj,g2.cell (g1.cell h.c hne) hne,by simp [go_sem,h.f],h.low,h.ne⟩
theorem break_any (w:World) (g o n cap a b N:Nat) (rv:Value) (d:Array Nat) (hd:d.size=n) (hN:∀k,k<d.size→d[k]! < N) (hab:a≤b) (hbn:b≤n) (hn:n≤300) (w1:World) (hw:SrtW w w1 g o d) :
  Calls Tryz.prog 178 #[.slice (some ⟨g,o,none⟩) n cap,.int .i64 (a:Int),.int .i64 (b:Int),.func (.func 111) #[rv] #[]] w1 fun e w'=>e=.returned (.tuple #[])∧SrtW w w' g o (Sort.breakPatterns d a b):=by
 obtain ⟨L,rfl⟩:∃L,b=a+L:=⟨b-a,by omega⟩
 have HW:Hid (SrtW w w1 g o d):=hw
 by_cases h8:8≤L
 ·rw [breakPatterns_eq d a L h8]
  obtain ⟨M,hM⟩:∃M:Nat,M=1 <<< bitsLen L:=⟨_,rfl⟩
  have hM1:1≤M:=by rw [hM,Nat.one_shiftLeft];exact Nat.two_pow_pos _
  have hM2:M≤2*L:=by rw [hM,Nat.one_shiftLeft];exact two_pow_bitsLen_le (by omega)
  have hNP:∀w,Calls Tryz.prog 193 #[.int .i64 (L:Int)] w fun e w'=>e=.returned (.int .u64 (M:Int))∧w'=w:=by rw [hM];exact fun w=>AnyF.nextPowerOfTwo Tryz.npot L (by omega) w
  rw [←hM]
  clear hM
  obtain ⟨i0,hi0⟩:∃i0:Nat,i0=a+L / 4*2 - 1:=⟨_,rfl⟩
  obtain ⟨rb,hrb⟩:∃rb:Nat,rb=w1.heap.size:=⟨_,rfl⟩
  obtain ⟨T,hT⟩:∃T,T=bpRest a L M i0 3 0 (UInt64.ofNat L,d):=⟨_,rfl⟩
  rw [←hi0,←hT]
  have HT0:Hid (bpRest a L M i0 3 0 (UInt64.ofNat L,d)=T):=hT.symm
  have HS0:Hid (RndW w (w1.alloc (.cells #[.int .u64 (L:Int)] 246)) g o d rb (UInt64.ofNat L).toNat∧(∀k,k<d.size→d[k]! < N)∧d.size=n):=by
   refine ⟨⟨hw.kept (Qb (Qc _)),?_,?_,?_,?_⟩,hN,hd⟩
   ·rw [hrb,show (UInt64.ofNat L).toNat=L by simp;omega]
    simp [go_sem]
   ·rw [hrb]
    simp [go_sem]
   ·rw [hrb]
    exact hw.gr.size
   ·have:=hw.lt
    omega
  have HI1:Hid ((i0:Int)+1=(a:Int)+(L:Int) / 4*2∧i0+4≤a+L∧a≤i0):=⟨by omega,by omega,by omega⟩
  have HRB:Hid (w1.heap.size=rb):=hrb.symm
  clear hT hw hN hd hrb HW hi0
  go_enter Tryz.func178,Tryz.ntmps178
  go_wp2_with (go_at_call 193;rw [show ((a:Int)+(L:Int)-(a:Int))=(L:Int) by omega];refine (hNP _).mono ?_;rintro e w' ⟨rfl,rfl⟩)
  rw [HRB.out]
  go_loopg [11] 3 (fun gk s11 wx=>∃(t:Nat) (r:UInt64) (dk:Array Nat),t≤3∧gk=3-t∧s11=.int .i64 ((i0+t:Nat):Int)∧RndW w wx g o dk rb r.toNat∧(∀k,k<dk.size→dk[k]! < N)∧dk.size=n∧bpRest a L M i0 (3-t) t (r,dk)=T)
  case atStart=>exact ⟨0,UInt64.ofNat L,d,by omega,rfl,by have:=HI1.out.1;congr 1;omega,HS0.out.1,HS0.out.2.1,HS0.out.2.2,HT0.out⟩
  case round =>
   clear HS0 HT0
   obtain ⟨t,r,dk,ht,rfl,rfl,hR,hN1,hd1,hT1⟩:=hrel
   obtain ⟨R,hRr⟩:∃R:Nat,R=r.toNat:=⟨_,rfl⟩
   have lR:R<18446744073709551616:=by rw [hRr];exact r.toNat_lt
   obtain ⟨R',hR'⟩:∃R':Nat,R'=xorNextN R:=⟨_,rfl⟩
   have lR':R'<18446744073709551616:=by rw [hR'];exact xorNextN_lt R lR
   obtain ⟨O,hO⟩:∃O:Nat,O=R' &&& (M - 1):=⟨_,rfl⟩
   have lO:O≤M - 1:=by rw [hO];exact Nat.and_le_right
   have eAnd:bits .and .u64 (R':Int) ((M:Int) - 1)=(O:Int):=by
    rw [show ((M:Int) - 1)=((M - 1:Nat):Int) by omega,bits_and_u64_nat _ _ lR' (by omega),hO]
   rw [←hRr] at hR
   have CN:Hid (Calls Tryz.prog 194 #[.pointer (some ⟨rb,0,none⟩)] wr fun e w'=>e=.returned (.int .u64 (R':Int))∧RndW w w' g o dk rb R'):=by
    have h:Calls Tryz.prog 194 #[.pointer (some ⟨rb,0,none⟩)] wr fun e w'=>e=.returned (.int .u64 (R':Int))∧RndW w w' g o dk rb R':=by
     refine (AnyF.xorshift_Next Tryz.xorN rb 0 R lR wr hR.c hR.f).mono ?_
     rintro e w' ⟨rfl,rfl⟩
     rw [←hR']
     exact ⟨rfl,(hR.put R').kept (Qk (Qc _))⟩
    exact h
   have HN:Hid (R'=(xorNext r).toNat∧O=(xorNext r).toNat &&& (M - 1)):=by
    have e:R'=(xorNext r).toNat:=by rw [hR',hRr,xorNext_toNat]
    exact ⟨e,by rw [hO,e]⟩
   have HM:Hid ((∀k,k<dk.size→dk[k]! < N)∧dk.size=n):=⟨hN1,hd1⟩
   have HT:Hid (bpRest a L M i0 (3-t) t (r,dk)=T):=hT1
   have HR:Hid (RndW w wr g o dk rb R):=hR
   have zrb:=hR.lt
   have hs1:=hd1
   clear hR hN1 hd1 hT1 hRr hR' hO
   obtain ⟨q1,q2,q3⟩:=HI1.out
   have HQ1:Hid ((i0:Int)+1=(a:Int)+(L:Int) / 4*2):=q1
   clear q1
   have k1:(i0:Int)+(t:Int)<(n:Int)∨t=3:=by omega
   by_cases h3:t<3
   ·have t1:(i0:Int)+(t:Int)≤(a:Int)+(L:Int) / 4*2+1:=by have:=HQ1.out;omega
    have t2:(i0:Int)+(t:Int)<(n:Int):=by omega
    clear k1
    by_cases hLO:L≤O
    ·have iP:O-L<L:=by omega
     by_cases hEq:i0+t=a+(O-L)
     ·skip
      go_wp2_with (go_at_call 194;refine CN.out.mono ?_;rintro e w2 ⟨rfl,hR2⟩;have HR2:Hid (RndW w w2 g o dk rb R'):=hR2;obtain ⟨r1,f1⟩:=hR2.r.row (i0+t) (by omega);obtain ⟨r0,f0⟩:=hR2.r.row (a+(O-L)) (by omega);have zg:=hR2.r.lt;clear hR2)
      go_region
      all_goals
       go_wp2
       go_roundg (3-(t+1))
       case measure=>omega
       case rel =>
        refine ⟨t+1,xorNext r,Sort.swp dk (i0+t) (a+(O-L)),by omega,rfl,by first|rfl|go_num|(congr 1<;>omega),?_,Jb HM.out.1 (by omega) (by omega),(Sort.size_swp ..).trans HM.out.2,?_⟩
        ·have hz:=(HR2.out.swp (i:=i0+t) (j:=a+(O-L)) (by omega) (by omega)).kept (Qf (Qc _))
         rw [←HN.out.1]
         first|exact hz|(rw [hEq] at hz;exact hz)|(simpa [hEq] using hz)
        ·rw [←HT.out]
         exact (bp_step a L M i0 t r dk ((O-L)) h3 (by rw [←HN.out.2];exact if_pos (by omega))).symm
     ·have hEq2:¬a+(O-L)=i0+t:=fun e=>hEq e.symm
      go_wp2_with (go_at_call 194;refine CN.out.mono ?_;rintro e w2 ⟨rfl,hR2⟩;have HR2:Hid (RndW w w2 g o dk rb R'):=hR2;obtain ⟨r1,f1⟩:=hR2.r.row (i0+t) (by omega);obtain ⟨r0,f0⟩:=hR2.r.row (a+(O-L)) (by omega);have zg:=hR2.r.lt;clear hR2)
      go_region
      all_goals
       go_wp2
       go_roundg (3-(t+1))
       case measure=>omega
       case rel =>
        refine ⟨t+1,xorNext r,Sort.swp dk (i0+t) (a+(O-L)),by omega,rfl,by first|rfl|go_num|(congr 1<;>omega),?_,Jb HM.out.1 (by omega) (by omega),(Sort.size_swp ..).trans HM.out.2,?_⟩
        ·have hz:=(HR2.out.swp (i:=i0+t) (j:=a+(O-L)) (by omega) (by omega)).kept (Qf (Qc _))
         rw [←HN.out.1]
         first|exact hz|(rw [hEq] at hz;exact hz)|(simpa [hEq] using hz)
        ·rw [←HT.out]
         exact (bp_step a L M i0 t r dk ((O-L)) h3 (by rw [←HN.out.2];exact if_pos (by omega))).symm
    ·have iP:O<L:=by omega
     by_cases hEq:i0+t=a+O
     ·skip
      go_wp2_with (go_at_call 194;refine CN.out.mono ?_;rintro e w2 ⟨rfl,hR2⟩;have HR2:Hid (RndW w w2 g o dk rb R'):=hR2;obtain ⟨r1,f1⟩:=hR2.r.row (i0+t) (by omega);obtain ⟨r0,f0⟩:=hR2.r.row (a+O) (by omega);have zg:=hR2.r.lt;clear hR2)
      go_region
      all_goals
       go_wp2
       go_roundg (3-(t+1))
       case measure=>omega
       case rel =>
        refine ⟨t+1,xorNext r,Sort.swp dk (i0+t) (a+O),by omega,rfl,by first|rfl|go_num|(congr 1<;>omega),?_,Jb HM.out.1 (by omega) (by omega),(Sort.size_swp ..).trans HM.out.2,?_⟩
        ·have hz:=(HR2.out.swp (i:=i0+t) (j:=a+O) (by omega) (by omega)).kept (Qf (Qc _))
         rw [←HN.out.1]
         first|exact hz|(rw [hEq] at hz;exact hz)|(simpa [hEq] using hz)
        ·rw [←HT.out]
         exact (bp_step a L M i0 t r dk (O) h3 (by rw [←HN.out.2];exact if_neg (by omega))).symm
     ·have hEq2:¬a+O=i0+t:=fun e=>hEq e.symm
      go_wp2_with (go_at_call 194;refine CN.out.mono ?_;rintro e w2 ⟨rfl,hR2⟩;have HR2:Hid (RndW w w2 g o dk rb R'):=hR2;obtain ⟨r1,f1⟩:=hR2.r.row (i0+t) (by omega);obtain ⟨r0,f0⟩:=hR2.r.row (a+O) (by omega);have zg:=hR2.r.lt;clear hR2)
      go_region
      all_goals
       go_wp2
       go_roundg (3-(t+1))
       case measure=>omega
       case rel =>
        refine ⟨t+1,xorNext r,Sort.swp dk (i0+t) (a+O),by omega,rfl,by first|rfl|go_num|(congr 1<;>omega),?_,Jb HM.out.1 (by omega) (by omega),(Sort.size_swp ..).trans HM.out.2,?_⟩
        ·have hz:=(HR2.out.swp (i:=i0+t) (j:=a+O) (by omega) (by omega)).kept (Qf (Qc _))
         rw [←HN.out.1]
         first|exact hz|(rw [hEq] at hz;exact hz)|(simpa [hEq] using hz)
        ·rw [←HT.out]
         exact (bp_step a L M i0 t r dk (O) h3 (by rw [←HN.out.2];exact if_neg (by omega))).symm
   ·obtain rfl:t=3:=by omega
    have t1:¬(i0:Int)+3≤(a:Int)+(L:Int) / 4*2+1:=by have:=HQ1.out;omega
    clear k1
    go_wp2
    go_end0
    exact ⟨rfl,by rw [←HT.out];exact HR.out.r⟩
 ·have hv:Sort.breakPatterns d a (a+L)=d:=by unfold Sort.breakPatterns;simp only [Nat.add_sub_cancel_left];rw [if_neg h8]
  rw [hv]
  clear hw
  go_enter Tryz.func178,Tryz.ntmps178
  go_wp2
  go_end0
  exact ⟨rfl,HW.out⟩
end Go.Proofs.YtgpjaecgkkgehaaGreatDoor
