/- The reference's SameState, of two that are alike. -/
import Derived.Test.YtgpjaecgkkgehaaGreatDoorQfbd
import Derived.Test.YtgpjaecgkkgehaaGreatDoorQfat
import Derived.Test.YtgpjaecgkkgehaaGreatDoorQfac
import Derived.Test.YtgpjaecgkkgehaaGreatDoorQfah
namespace Go.Proofs.YtgpjaecgkkgehaaGreatDoor
open Go.RowKit
set_option maxRecDepth 100000 in
set_option maxHeartbeats 1600000 in
theorem sameTris_yes (a c:Option Addr) (ca cc:Nat) (L:List (Int×Int×Int)) (w:World) (hL:L.length≤300) (ha:TRow w a L) (hc:TRow w c L) :
  Calls Tryz.prog 27 #[.slice a L.length ca,.slice c L.length cc] w fun e w'=>e=.returned (.bool true)∧Below w.heap.size w w':=by
 have HA:Hid (TRow w a L):=ha
 have HC:Hid (TRow w c L):=hc
 clear ha hc
 go_enter Tryz.func27,Tryz.ntmps27
 go_wp2
 go_loopg [5] L.length (fun gk s5 wx=>∃ i:Nat,i≤L.length∧gk=L.length - i∧s5=.int .i64 (i:Int)∧Below w.heap.size w wx)
 case atStart=>exact ⟨0,by omega,rfl,rfl,bl_refl _⟩
 case round =>
  obtain ⟨i,hi,rfl,rfl,hB⟩:=hrel
  have HB:Hid (Below w.heap.size w wr):=hB
  clear hB
  by_cases h1:i<L.length
  ·have i1:(i:Int)<(L.length:Int):=by omega
   have i0:(0:Int)≤(i:Int):=by omega
   obtain ⟨g,rfl,t0,t1,t2⟩:=(HA.out.kept HB.out) i h1
   obtain ⟨g',rfl,u0,u1,u2⟩:=(HC.out.kept HB.out) i h1
   have z1:g<wr.heap.size:=World.block_lt_of_cell? _ _ t0
   have z2:g'<wr.heap.size:=World.block_lt_of_cell? _ _ u0
   obtain ⟨x,hx⟩:∃ x,x=L[i].1:=⟨_,rfl⟩
   obtain ⟨y,hy⟩:∃ y,y=L[i].2.1:=⟨_,rfl⟩
   obtain ⟨k,hk⟩:∃ k,k=L[i].2.2:=⟨_,rfl⟩
   rw [← hx] at t0 u0
   rw [← hy] at t1 u1
   rw [← hk] at t2 u2
   have hneq:∀ w':World,(binOp .neq 56 (.agg #[.int .i64 x,.int .i64 y,.int .i64 k]) (.agg #[.int .i64 x,.int .i64 y,.int .i64 k])).run Tryz.prog w'=.ok (.bool false) w':=fun w'=>by
    have:=neq23 x y k x y k w'
    simpa [sameT] using this
   clear hx hy hk
   have kc:=Kin.cells wr
   have kn:Nonempty (Kin wr):=⟨⟨wr,bl_refl _⟩⟩
   go_wp2
   refine wp_region_kin (by kernel_rfl) (by kernel_rfl) ?_
   repeat (go_big_quiet_step (fail))
   refine wpQuiet_nil ?_
   intro wq hw'
   obtain ⟨nq,hw''⟩:=hw'
   have hq:Below wr.heap.size wr wq:=hw'' ▸ nq.h
   have HQ:Hid (Below w.heap.size w wq):=bl_via HB.out hq
   clear hw'' nq hq kc kn
   go_wp2
   go_roundg (L.length - (i+1))
   case measure=>omega
   case rel=>exact ⟨i+1,by omega,rfl,by go_num,HQ.out⟩
  ·have i1:¬ (i:Int)<(L.length:Int):=by omega
   go_wp2
   go_ret
   exact ⟨rfl,HB.out⟩
def SRow (w:World) (a:Option Addr) (S:List ((Int×Int×Int)×List (Int×Int×Int))):Prop :=
 ∀ i (h:i<S.length),∃ g sa sc,a=some ⟨g,0,none⟩∧w.cell? ⟨g,i*4,none⟩=some (.int .i64 S[i].1.1)∧w.cell? ⟨g,i*4+1,none⟩=some (.int .i64 S[i].1.2.1)∧w.cell? ⟨g,i*4+2,none⟩=some (.int .i64 S[i].1.2.2)∧w.cell? ⟨g,i*4+3,none⟩=some (.slice sa S[i].2.length sc)∧TRow w sa S[i].2
theorem SRow.kept {w w':World} {a:Option Addr} {S:List ((Int×Int×Int)×List (Int×Int×Int))} (h:SRow w a S) (hb:Below w.heap.size w w'):SRow w' a S:=fun i hi=>by
 obtain ⟨g,sa,sc,e,c0,c1,c2,c3,ht⟩:=h i hi
 exact ⟨g,sa,sc,e,cl_kept hb c0,cl_kept hb c1,cl_kept hb c2,cl_kept hb c3,ht.kept hb⟩
theorem neqT_same (a b c:Int) (w:World):(binOp .neq 56 (.agg #[.int .i64 a,.int .i64 b,.int .i64 c]) (.agg #[.int .i64 a,.int .i64 b,.int .i64 c])).run Tryz.prog w=.ok (.bool false) w:=by
 simp [go_sem]
set_option maxRecDepth 100000 in
set_option maxHeartbeats 3200000 in
theorem sameState_yes (W H:Int) (a1 a2 c1 c2:Option Addr) (k1 k2 d1 d2 n g1 g2 m1 m2 N u1 u2:Nat) (t1 t2:Option Addr) (zs ks:List Int) (M:Nat→M6) (S:List ((Int×Int×Int)×List (Int×Int×Int))) (w:World) (hz1:Row w a1 zs) (hz2:Row w a2 zs) (hk1:Row w c1 ks) (hk2:Row w c2 ks) (hn:ks.length=n*5) (hl:zs.length≤17592186044416) (hn2:n≤3518437208883) (hM1:MRow w g1 N M) (hM2:MRow w g2 N M) (hN:N≤300) (hS1:SRow w t1 S) (hS2:SRow w t2 S) (hSl:S.length≤300) (hSe:∀ s∈S,s.2.length≤300) :
  Calls Tryz.prog 14 #[.agg #[.int .i64 W,.int .i64 H,.slice a1 zs.length k1,.slice c1 n d1,.slice (some ⟨g1,0,none⟩) N m1,.slice t1 S.length u1],.agg #[.int .i64 W,.int .i64 H,.slice a2 zs.length k2,.slice c2 n d2,.slice (some ⟨g2,0,none⟩) N m2,.slice t2 S.length u2]] w fun e w'=>e=.returned (.bool true)∧Below w.heap.size w w':=by
 have CS:Hid (∀ W':World,Below w.heap.size w W'→Calls Tryz.prog 47 #[.agg #[.int .i64 W,.int .i64 H,.slice a1 zs.length k1,.slice c1 n d1],.agg #[.int .i64 W,.int .i64 H,.slice a2 zs.length k2,.slice c2 n d2]] W' fun e w'=>e=.returned (.bool true)∧Below W'.heap.size W' w'):=fun W' hW'=>sameSheet_yes W H a1 a2 c1 c2 k1 k2 d1 d2 n zs ks W' (hz1.kept hW') (hz2.kept hW') (hk1.kept hW') (hk2.kept hW') hn hl hn2
 have HR:Hid (MRow w g1 N M∧MRow w g2 N M∧SRow w t1 S∧SRow w t2 S∧∀ s∈S,s.2.length≤300):=⟨hM1,hM2,hS1,hS2,hSe⟩
 obtain ⟨w0,hw0⟩:∃ W0,W0=(w.alloc (.cells #[.int .i64 W,.int .i64 H,.slice a1 zs.length k1,.slice c1 n d1,.slice (some ⟨g1,0,none⟩) N m1,.slice t1 S.length u1] 29)).alloc (.cells #[.int .i64 W,.int .i64 H,.slice a2 zs.length k2,.slice c2 n d2,.slice (some ⟨g2,0,none⟩) N m2,.slice t2 S.length u2] 29):=⟨_,rfl⟩
 have hx:w0.cell? ⟨w.heap.size,4,none⟩=some (.slice (some ⟨g1,0,none⟩) N m1)∧w0.cell? ⟨w.heap.size,5,none⟩=some (.slice t1 S.length u1)∧w0.cell? ⟨w.heap.size+1,4,none⟩=some (.slice (some ⟨g2,0,none⟩) N m2)∧w0.cell? ⟨w.heap.size+1,5,none⟩=some (.slice t2 S.length u2):=by
  rw [hw0]
  simp [go_sem]
 have HX:Hid (w0.cell? ⟨w.heap.size,4,none⟩=some (.slice (some ⟨g1,0,none⟩) N m1)∧w0.cell? ⟨w.heap.size,5,none⟩=some (.slice t1 S.length u1)∧w0.cell? ⟨w.heap.size+1,4,none⟩=some (.slice (some ⟨g2,0,none⟩) N m2)∧w0.cell? ⟨w.heap.size+1,5,none⟩=some (.slice t2 S.length u2)):=hx
 have hb0:Below w.heap.size w w0:=by
  rw [hw0]
  exact bl_alloc (bl_alloc (bl_refl _))
 have HB0:Hid (Below w.heap.size w w0):=hb0
 have HW0:Hid ((w.alloc (.cells #[.int .i64 W,.int .i64 H,.slice a1 zs.length k1,.slice c1 n d1,.slice (some ⟨g1,0,none⟩) N m1,.slice t1 S.length u1] 29)).alloc (.cells #[.int .i64 W,.int .i64 H,.slice a2 zs.length k2,.slice c2 n d2,.slice (some ⟨g2,0,none⟩) N m2,.slice t2 S.length u2] 29)=w0):=hw0.symm
 have q3:((N:Int) != (N:Int))=false:=by simp
 have q4:((S.length:Int) != (S.length:Int))=false:=by simp
 have hc:=neqM
 have hc2:=neqT_same
 clear hx hb0 hw0 hz1 hz2 hk1 hk2 hn hM1 hM2 hS1 hS2 hSe hl hn2
 go_enter Tryz.func14,Tryz.ntmps14
 go_upto_region 3 with (go_at_call 47;refine (CS.out _ (by with_reducible exact bl_alloc (bl_alloc (bl_refl _)))).mono ?_;rintro e w1 ⟨rfl,hb1⟩;have HB1:Hid (Below w0.heap.size w0 w1):=(by rw [HW0.out] at hb1;exact hb1);have e0:=cl_kept HB1.out HX.out.1;have e1:=cl_kept HB1.out HX.out.2.1;have e2:=cl_kept HB1.out HX.out.2.2.1;have e3:=cl_kept HB1.out HX.out.2.2.2;have ze0:w.heap.size<w1.heap.size:=World.block_lt_of_cell? _ _ e0;have ze1:w.heap.size+1<w1.heap.size:=World.block_lt_of_cell? _ _ e2;clear hb1)
 clear CS HW0 e0 e1 e2 e3 ze0 ze1
 go_wp2
 go_loopg [5] N (fun gk s5 wx=>∃ i:Nat,i≤N∧gk=N - i∧s5=.int .i64 (i:Int)∧Below w0.heap.size w0 wx)
 case atStart=>exact ⟨0,by omega,rfl,rfl,HB1.out⟩
 case round =>
  clear HB1
  obtain ⟨i,hi,rfl,rfl,hB⟩:=hrel
  have HB:Hid (Below w0.heap.size w0 wr):=hB
  have p0:=cl_kept hB HX.out.1
  have p1:=cl_kept hB HX.out.2.2.1
  have zp:w.heap.size<wr.heap.size:=World.block_lt_of_cell? _ _ p0
  have zp1:w.heap.size+1<wr.heap.size:=World.block_lt_of_cell? _ _ p1
  clear hB
  by_cases h1:i<N
  ·have i1:(i:Int)<(N:Int):=by omega
   have i0:(0:Int)≤(i:Int):=by omega
   obtain ⟨⟨r0,r1,r2,r3,r4,r5⟩,_⟩:=(HR.out.1.kept (bl_via HB0.out HB.out)) i h1
   obtain ⟨⟨s0,s1,s2,s3,s4,s5⟩,_⟩:=(HR.out.2.1.kept (bl_via HB0.out HB.out)) i h1
   obtain ⟨A,B,C,D,E,F,hmi⟩:∃ A B C D E F,M i=(A,B,C,D,E,F):=⟨_,_,_,_,_,_,rfl⟩
   rw [hmi] at r0 r1 r2 r3 r4 r5 s0 s1 s2 s3 s4 s5
   dsimp only at r0 r1 r2 r3 r4 r5 s0 s1 s2 s3 s4 s5
   have hsm:sameM A B C D E F A B C D E F=true:=by simp [sameM]
   have zb1:g1<wr.heap.size:=World.block_lt_of_cell? _ _ r0
   have zb2:g2<wr.heap.size:=World.block_lt_of_cell? _ _ s0
   clear hmi
   go_wp2
   have kc:=Kin.cells wr
   have kn:Nonempty (Kin wr):=⟨⟨wr,bl_refl _⟩⟩
   refine wp_region_kin (by kernel_rfl) (by kernel_rfl) ?_
   repeat (go_big_quiet_step (fail))
   refine wpQuiet_nil ?_
   intro wq hw'
   obtain ⟨nq,hw''⟩:=hw'
   have hq:Below wr.heap.size wr wq:=hw'' ▸ nq.h
   clear hw'' nq kc kn p0 p1 r0 r1 r2 r3 r4 r5 s0 s1 s2 s3 s4 s5
   go_wp2
   go_roundg (N - (i+1))
   case measure=>omega
   case rel=>exact ⟨i+1,by omega,rfl,by go_num,bl_via HB.out hq⟩
  ·have i1:¬ (i:Int)<(N:Int):=by omega
   go_wp2
   clear p0 p1 zp zp1 i1 h1
   go_loopg [6] S.length (fun gk s6 wx=>∃ i:Nat,i≤S.length∧gk=S.length - i∧s6=.int .i64 (i:Int)∧Below w0.heap.size w0 wx)
   case atStart=>exact ⟨0,by omega,rfl,rfl,HB.out⟩
   case round =>
    clear HB
    obtain ⟨i,hi,rfl,rfl,hB⟩:=hrel
    have HB:Hid (Below w0.heap.size w0 wr):=hB
    have p0:=cl_kept hB HX.out.2.1
    have p1:=cl_kept hB HX.out.2.2.2
    have zp:w.heap.size<wr.heap.size:=World.block_lt_of_cell? _ _ p0
    have zp1:w.heap.size+1<wr.heap.size:=World.block_lt_of_cell? _ _ p1
    clear hB
    by_cases h1:i<S.length
    ·have i1:(i:Int)<(S.length:Int):=by omega
     have i0:(0:Int)≤(i:Int):=by omega
     obtain ⟨b1,sa1,sc1,rfl,r0,r1,r2,r3,hT1⟩:=(HR.out.2.2.1.kept (bl_via HB0.out HB.out)) i h1
     obtain ⟨b2,sa2,sc2,rfl,s0,s1,s2,s3,hT2⟩:=(HR.out.2.2.2.1.kept (bl_via HB0.out HB.out)) i h1
     have hle:=HR.out.2.2.2.2 S[i] (List.getElem_mem h1)
     obtain ⟨⟨⟨x,y,k⟩,T⟩,hsi⟩:∃ s,s=S[i]:=⟨_,rfl⟩
     rw [← hsi] at r0 r1 r2 r3 s0 s1 s2 s3 hT1 hT2 hle
     dsimp only at r0 r1 r2 r3 s0 s1 s2 s3 hT1 hT2 hle
     have CT:Hid (∀ W':World,Below wr.heap.size wr W'→Calls Tryz.prog 27 #[.slice sa1 T.length sc1,.slice sa2 T.length sc2] W' fun e w'=>e=.returned (.bool true)∧Below W'.heap.size W' w'):=fun W' hW'=>sameTris_yes sa1 sa2 sc1 sc2 T W' hle (hT1.kept hW') (hT2.kept hW')
     have zb1:b1<wr.heap.size:=World.block_lt_of_cell? _ _ r0
     have zb2:b2<wr.heap.size:=World.block_lt_of_cell? _ _ s0
     clear hsi hT1 hT2 hle
     go_wp2
     have kc:=Kin.cells wr
     have kn:Nonempty (Kin wr):=⟨⟨wr,bl_refl _⟩⟩
     refine wp_region_kin (by kernel_rfl) (by kernel_rfl) ?_
     repeat (go_big_quiet_step ((go_at_call 27;exact kin_of (CT.out _ (Kin.h _)))))
     refine wpQuiet_nil ?_
     intro wq hw'
     obtain ⟨nq,hw''⟩:=hw'
     have hq:Below wr.heap.size wr wq:=hw'' ▸ nq.h
     clear hw'' nq kc kn p0 p1 r0 r1 r2 r3 s0 s1 s2 s3
     go_wp2
     go_roundg (S.length - (i+1))
     case measure=>omega
     case rel=>exact ⟨i+1,by omega,rfl,by go_num,bl_via HB.out hq⟩
    ·have i1:¬ (i:Int)<(S.length:Int):=by omega
     go_wp2
     go_ret
     exact ⟨rfl,bl_via HB0.out HB.out⟩
end Go.Proofs.YtgpjaecgkkgehaaGreatDoor
