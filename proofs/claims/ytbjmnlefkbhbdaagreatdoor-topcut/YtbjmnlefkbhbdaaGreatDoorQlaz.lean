/- A part of it. -/
import Derived.Test.YtbjmnlefkbhbdaaGreatDoorQlay
set_option maxRecDepth 100000
set_option maxHeartbeats 40000000
namespace Go.Proofs
open Go.Shelf
def Tryz.npot_ren:Go.Shelf.Ren:=⟨fun | 47=>209 | 15=>142 | 28=>173 | 29=>174 | n=>n,fun | 3=>3 | 39=>154 | 53=>207 | 55=>210 | 4=>4 | 5=>5 | 9=>9 | n=>n,fun | n=>n⟩
theorem Tryz.npot:Go.Proofs.SlLaysF0.n47 Tryz.prog Tryz.npot_ren:={
 mixed:=by kernel_rfl
 f15:=Tryz.func142.trans (congrArg some (by kernel_rfl))
 f28:=Tryz.func173.trans (congrArg some (by kernel_rfl))
 f29:=Tryz.func174.trans (congrArg some (by kernel_rfl))
 f47:=Tryz.func209.trans (congrArg some (by kernel_rfl))
 t3:=Tryz.underlying3
 a3:=Tryz.isAgg3
 z3:=Tryz.sizeOf3
 v3:=Tryz.zeroValue3
 t4:=Tryz.underlying4
 a4:=Tryz.isAgg4
 z4:=Tryz.sizeOf4
 v4:=Tryz.zeroValue4
 t5:=Tryz.underlying5
 a5:=Tryz.isAgg5
 z5:=Tryz.sizeOf5
 v5:=Tryz.zeroValue5
 t9:=Tryz.underlying9
 a9:=Tryz.isAgg9
 z9:=Tryz.sizeOf9
 v9:=Tryz.zeroValue9
 t39:=Tryz.underlying154
 a39:=Tryz.isAgg154
 z39:=Tryz.sizeOf154
 v39:=Tryz.zeroValue154
 t53:=Tryz.underlying207
 a53:=Tryz.isAgg207
 z53:=Tryz.sizeOf207
 v53:=Tryz.zeroValue207
 t55:=Tryz.underlying210
 a55:=Tryz.isAgg210
 z55:=Tryz.sizeOf210
 v55:=Tryz.zeroValue210 }
def Tryz.xorN_ren:Go.Shelf.Ren:=⟨fun | 48=>210 | n=>n,fun | 76=>300 | 55=>210 | 0=>0 | 66=>276 | 39=>154 | n=>n,fun | n=>n⟩
theorem Tryz.xorN:Go.Proofs.SlLaysF0.n48 Tryz.prog Tryz.xorN_ren:={
 mixed:=by kernel_rfl
 f48:=Tryz.func210.trans (congrArg some (by kernel_rfl))
 t0:=Tryz.underlying0
 a0:=Tryz.isAgg0
 z0:=Tryz.sizeOf0
 v0:=Tryz.zeroValue0
 t39:=Tryz.underlying154
 a39:=Tryz.isAgg154
 z39:=Tryz.sizeOf154
 v39:=Tryz.zeroValue154
 t55:=Tryz.underlying210
 a55:=Tryz.isAgg210
 z55:=Tryz.sizeOf210
 v55:=Tryz.zeroValue210
 t66:=Tryz.underlying276
 a66:=Tryz.isAgg276
 z66:=Tryz.sizeOf276
 v66:=Tryz.zeroValue276
 t76:=Tryz.underlying300
 a76:=Tryz.isAgg300
 z76:=Tryz.sizeOf300
 v76:=Tryz.zeroValue300 }
end Go.Proofs
namespace Go.Proofs.YtbjmnlefkbhbdaaGreatDoor
open Go.RowKit
open Go.Sort hiding Below
variable {b w:World} {g o s:Nat} {d:Array Nat}
structure RndW (w wx:World) (g o:Nat) (d:Array Nat) (sb s:Nat):Prop where
 r:SrtW w wx g o d
 c:At wx sb 0 (.int .u64 (s:Int))
 f:Fn wx sb 0
 low:w.heap.size≤sb
 ne:sb≠g
theorem RndW.lt {a:Nat} (h:RndW w b g o d a s):a<b.heap.size:=bk h.c
theorem RndW.kept {w':World} {a:Nat} (h:RndW w b g o d a s) (hb:Bl b w'):RndW w w' g o d a s:=⟨h.r.kept hb,Qa hb h.c,(hb.frozen h.lt).trans h.f,h.low,h.ne⟩
theorem RndW.put {m:World} {i:Nat} (h:RndW w m g o d i s) (t:Nat):RndW w (m.setCell ⟨i,0,none⟩ (.int .u64 (t:Int))) g o d i t:=by
 have g1:=Qg m i 0 (.int .u64 (t:Int));have b:some g≠some i:=fun e=>h.ne (by cases e;rfl);refine ⟨⟨fun j n=>⟨g1.cell (h.r.row j n).1 b,(Fo (a:=⟨g,o+j,none⟩) (g1.block g h.r.lt b)).trans (h.r.row j n).2⟩, ?_,Nl h.r.lt g1.size⟩,Js h.c,by simp [go_sem,h.f],h.low,h.ne⟩;have a:=h.r.gr;exact ⟨g1.os.trans a.os,g1.tape.trans a.tape,g1.output.trans a.output,Nt a.size g1.size,fun k p l=>(g1.block k (Nl p a.size) (fun e=>by cases e;have:=h.low;omega)).trans (a.block k p l)⟩
theorem RndW.swp {k:Nat} (h:RndW w b g o d k s) {i j:Nat} (hi:i<d.size) (l:j<d.size):RndW w ((b.setCell ⟨g,o+i,none⟩ (I ((d[j]! : Nat):Int))).setCell ⟨g,o+j,none⟩ (I ((d[i]! : Nat):Int))) g o (Sort.swp d i j) k s:=by
 have a:some k≠some g:=fun e=>h.ne (by cases e;rfl);have g1:=Qg b g (o+i) (I ((d[j]! : Nat):Int));have g2:=Qg (b.setCell ⟨g,o+i,none⟩ (I ((d[j]! : Nat):Int))) g (o+j) (I ((d[i]! : Nat):Int));exact ⟨h.r.swp_any hi l,g2.cell (g1.cell h.c a) a,by simp [go_sem,h.f],h.low,h.ne⟩
theorem break_any (w:World) (g o n a2 a b N:Nat) (rv:Value) (d:Array Nat) (hd:d.size=n) (hN:∀ k,k<d.size→d[k]! < N) (ad:a≤b) (ae:b≤n) (hn:n≤300) (w1:World) (F:SrtW w w1 g o d) :
  Cl 167 #[.slice (Ad g o) n a2,I (a:Int),I (b:Int),.func (.func 100) #[rv] #[]] w1 fun e w'=>e=.returned (.tuple #[])∧SrtW w w' g o (Sort.breakPatterns d a b):=by
 obtain ⟨L,rfl⟩:∃ L,b=a+L:=⟨b - a,γ⟩;have HW:=Hd F;by_cases h8:8≤L
 ·rw [breakPatterns_eq d a L h8];obtain ⟨M,Q⟩:∃ M:Nat,M=1 <<< bitsLen L:=⟨_,rfl⟩;have ab:1≤M:=by rw [Q,Nat.one_shiftLeft];exact Nat.two_pow_pos _
  have ac:M≤2*L:=by rw [Q,Nat.one_shiftLeft];exact two_pow_bitsLen_le γ
  have a6:∀ w,Cl 209 #[I (L:Int)] w fun e w'=>e=.returned (.int .u64 (M:Int))∧w'=w:=by rw [Q];exact fun w=>AnyF.nextPowerOfTwo Tryz.npot L γ w
  rw [← Q];clear Q;obtain ⟨m,W⟩:∃ m:Nat,m=a+L / 4*2 - 1:=⟨_,rfl⟩;obtain ⟨A,v⟩:∃ A:Nat,A=w1.heap.size:=⟨_,rfl⟩;obtain ⟨T,hT⟩:∃ T,T=bpRest a L M m 3 0 (UInt64.ofNat L,d):=⟨_,rfl⟩;rw [← W,← hT];have K:=Hd hT.symm
  have x:Hid (RndW w (w1.alloc (.cells #[.int .u64 (L:Int)] 276)) g o d A (UInt64.ofNat L).toNat∧(∀ k,k<d.size→d[k]! < N)∧d.size=n):=by
   refine ⟨⟨F.kept β1, ?_, ?_, ?_, ?_⟩,hN,hd⟩
   ·rw [v,show (UInt64.ofNat L).toNat=L by simp;omega];simp [go_sem]
   ·rw [v];simp [go_sem]
   ·rw [v];exact F.gr.size
   ·have:=F.lt;omega
  have G:Hid ((m:Int)+1=(a:Int)+(L:Int) / 4*2∧m+4≤a+L∧a≤m):=⟨γ,γ,γ⟩;have Z:=Hd v.symm;clear hT F hN hd v HW W;go_enter Tryz.func167,Tryz.ntmps167;go_wp2_with (go_at_call 209;rw [show ((a:Int)+(L:Int) - (a:Int))=(L:Int) by omega];refine (a6 _).mono ?_;rintro e w' ⟨rfl,rfl⟩)
  rw [Z.out];go_loopg [11] 3 (fun gk a8 wx=>∃ (t:Nat) (r:UInt64) (q:Array Nat),t≤3∧gk=3 - t∧a8=I ((m+t:Nat):Int)∧RndW w wx g o q A r.toNat∧(∀ k,k<q.size→q[k]! < N)∧q.size=n∧bpRest a L M m (3 - t) t (r,q)=T)
  case atStart=>exact ⟨0,UInt64.ofNat L,d,γ,rfl,by have:=G.out.1;congr 1;omega,x.out.1,x.out.2.1,x.out.2.2,K.out⟩
  case round =>
   clear x K;obtain ⟨t,r,q,ht,rfl,rfl,D,U,E,V⟩:=hrel;obtain ⟨R,z⟩:∃ R:Nat,R=r.toNat:=⟨_,rfl⟩;have lR:R<18446744073709551616:=by rw [z];exact r.toNat_lt
   obtain ⟨u,y⟩:∃ u:Nat,u=xorNextN R:=⟨_,rfl⟩;have a7:u<18446744073709551616:=by rw [y];exact xorNextN_lt R lR
   obtain ⟨O,Y⟩:∃ O:Nat,O=u &&& (M - 1):=⟨_,rfl⟩;have lO:O≤M - 1:=by rw [Y];exact Nat.and_le_right
   have aa:bits .and .u64 (u:Int) ((M:Int) - 1)=(O:Int):=by
    rw [show ((M:Int) - 1)=((M - 1:Nat):Int) by omega,bits_and_u64_nat _ _ a7 γ,Y]
   rw [← z] at D
   have X:Hid (Cl 210 #[.pointer (Az A)] wr fun e w'=>e=.returned (.int .u64 (u:Int))∧RndW w w' g o q A u):=by
    have h:Cl 210 #[.pointer (Az A)] wr fun e w'=>e=.returned (.int .u64 (u:Int))∧RndW w w' g o q A u:=by
     refine (AnyF.xorshift_Next Tryz.xorN A 0 R lR wr D.c D.f).mono ?_;rintro e w' ⟨rfl,rfl⟩;rw [← y];exact ⟨rfl,(D.put u).kept (Uj (Qd _))⟩
    exact h
   have C:Hid (u=(xorNext r).toNat∧O=(xorNext r).toNat &&& (M - 1)):=by
    have e:u=(xorNext r).toNat:=by rw [y,z,xorNext_toNat]
    exact ⟨e,by rw [Y,e]⟩
   have B:=H2 U E;have J:=Hd V;have HR:=Hd D;have ag:=D.lt;have af:=E;clear D U E V z y Y;obtain ⟨q1,q2,q3⟩:=G.out;have H:=Hd q1;clear q1;have k1:(m:Int)+(t:Int)<(n:Int)∨t=3:=γ;by_cases h3:t<3
   ·have t1:(m:Int)+(t:Int)≤(a:Int)+(L:Int) / 4*2+1:=by have:=H.out;omega
    have t2:(m:Int)+(t:Int)<(n:Int):=γ;clear k1;by_cases hLO:L≤O
    ·have iP:O - L<L:=γ;by_cases hEq:m+t=a+(O - L)
     ·skip
      go_wp2_with (go_at_call 210;refine X.out.mono ?_;rintro e w2 ⟨rfl,l⟩;have s:=Hd l;obtain ⟨r1,f1⟩:=l.r.row (m+t) γ;obtain ⟨r0,f0⟩:=l.r.row (a+(O - L)) γ;have zg:=l.r.lt;clear l)
      go_region
      all_goals
       go_wp2;go_roundg (3 - (t+1))
       case measure=>omega
       case rel =>
        refine ⟨t+1,xorNext r,Sort.swp q (m+t) (a+(O - L)),γ,rfl,γ7, ?_,Jr B.out.1 γ γ,(Sort.size_swp ..).trans B.out.2, ?_⟩
        ·have p:=(s.out.swp (i:=m+t) (j:=a+(O - L)) γ γ).kept (Qe (Qd _));rw [← C.out.1];first | exact p | (rw [hEq] at p;exact p) | (simpa [hEq] using p)
        ·rw [← J.out];exact (bp_step a L M m t r q ((O - L)) h3 (by rw [← C.out.2];exact if_pos γ)).symm
     ·have P:¬ a+(O - L)=m+t:=fun e=>hEq e.symm;go_wp2_with (go_at_call 210;refine X.out.mono ?_;rintro e w2 ⟨rfl,l⟩;have s:=Hd l;obtain ⟨r1,f1⟩:=l.r.row (m+t) γ;obtain ⟨r0,f0⟩:=l.r.row (a+(O - L)) γ;have zg:=l.r.lt;clear l)
      go_region
      all_goals
       go_wp2;go_roundg (3 - (t+1))
       case measure=>omega
       case rel =>
        refine ⟨t+1,xorNext r,Sort.swp q (m+t) (a+(O - L)),γ,rfl,γ7, ?_,Jr B.out.1 γ γ,(Sort.size_swp ..).trans B.out.2, ?_⟩
        ·have p:=(s.out.swp (i:=m+t) (j:=a+(O - L)) γ γ).kept (Qe (Qd _));rw [← C.out.1];first | exact p | (rw [hEq] at p;exact p) | (simpa [hEq] using p)
        ·rw [← J.out];exact (bp_step a L M m t r q ((O - L)) h3 (by rw [← C.out.2];exact if_pos γ)).symm
    ·have iP:O<L:=γ;by_cases hEq:m+t=a+O
     ·skip
      go_wp2_with (go_at_call 210;refine X.out.mono ?_;rintro e w2 ⟨rfl,l⟩;have s:=Hd l;obtain ⟨r1,f1⟩:=l.r.row (m+t) γ;obtain ⟨r0,f0⟩:=l.r.row (a+O) γ;have zg:=l.r.lt;clear l)
      go_region
      all_goals
       go_wp2;go_roundg (3 - (t+1))
       case measure=>omega
       case rel =>
        refine ⟨t+1,xorNext r,Sort.swp q (m+t) (a+O),γ,rfl,γ7, ?_,Jr B.out.1 γ γ,(Sort.size_swp ..).trans B.out.2, ?_⟩
        ·have p:=(s.out.swp (i:=m+t) (j:=a+O) γ γ).kept (Qe (Qd _));rw [← C.out.1];first | exact p | (rw [hEq] at p;exact p) | (simpa [hEq] using p)
        ·rw [← J.out];exact (bp_step a L M m t r q (O) h3 (by rw [← C.out.2];exact if_neg γ)).symm
     ·have P:¬ a+O=m+t:=fun e=>hEq e.symm;go_wp2_with (go_at_call 210;refine X.out.mono ?_;rintro e w2 ⟨rfl,l⟩;have s:=Hd l;obtain ⟨r1,f1⟩:=l.r.row (m+t) γ;obtain ⟨r0,f0⟩:=l.r.row (a+O) γ;have zg:=l.r.lt;clear l)
      go_region
      all_goals
       go_wp2;go_roundg (3 - (t+1))
       case measure=>omega
       case rel =>
        refine ⟨t+1,xorNext r,Sort.swp q (m+t) (a+O),γ,rfl,γ7, ?_,Jr B.out.1 γ γ,(Sort.size_swp ..).trans B.out.2, ?_⟩
        ·have p:=(s.out.swp (i:=m+t) (j:=a+O) γ γ).kept (Qe (Qd _));rw [← C.out.1];first | exact p | (rw [hEq] at p;exact p) | (simpa [hEq] using p)
        ·rw [← J.out];exact (bp_step a L M m t r q (O) h3 (by rw [← C.out.2];exact if_neg γ)).symm
   ·obtain rfl:t=3:=γ;have t1:¬ (m:Int)+3≤(a:Int)+(L:Int) / 4*2+1:=by have:=H.out;omega
    clear k1;go_wp2;go_end0
    exact ⟨rfl,by rw [← J.out];exact HR.out.r⟩
 ·have hv:Sort.breakPatterns d a (a+L)=d:=by unfold Sort.breakPatterns;simp only [Nat.add_sub_cancel_left];rw [if_neg h8]
  rw [hv];clear F;go_enter Tryz.func167,Tryz.ntmps167;go_wp2;go_end0
  exact ⟨rfl,HW.out⟩
end Go.Proofs.YtbjmnlefkbhbdaaGreatDoor
