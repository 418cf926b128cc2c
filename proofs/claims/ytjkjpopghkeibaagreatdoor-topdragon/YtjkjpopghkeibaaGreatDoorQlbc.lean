/- A part of it. -/
import Derived.Test.YtjkjpopghkeibaaGreatDoorQlbb
set_option maxRecDepth 100000
set_option maxHeartbeats 40000000
namespace Go.Proofs.YtjkjpopghkeibaaGreatDoor
open Go.RowKit Go.ChangeMaps
theorem ranks_any (v0 g h v3 v4 v5 i j k v9 a b c d f:Value) (w:World):Cl 34 #[.agg #[v0,g,h,v3,v4,v5,i,j,k,v9,a,b,c,d,f]] w fun e w'=>e=.returned (.func (.func 83) #[] #[.pointer (Az w.heap.size)])∧w'=w.alloc (.cells #[v0,g,h,v3,v4,v5,i,j,k,v9,a,b,c,d,f] 66):=by
 go_enter Tryz.func34,Tryz.ntmps34;go_wp2;go_ret;exact ⟨rfl,rfl⟩
theorem ranks_asks (pb t u n x y:Nat) (r a1 v bx h:Bool) (w:World) (E:x<n) (F:y<n) (_D:n≤1000) (c:At w pb 14 (.slice (Az u) n n)) (p:At w pb 5 (.func (.func 90) #[] #[.pointer (Az t)])) (q:At w pb 9 (.bool r)) (c0:At w u x (.bool bx)) (c1:At w u y (.bool h))
  (h1:∀ V:World,Bl w V→Rt 90 #[I (x:Int),I (y:Int),.pointer (Az t)] V (.bool a1))
  (h2:∀ V:World,Bl w V→Rt 90 #[I (y:Int),I (x:Int),.pointer (Az t)] V (.bool v)) :
  Rt 83 #[I (x:Int),I (y:Int),.pointer (Az pb)] w (.bool (if bx=h then (if bx=true then v else a1) else bx == r)):=by
 have z:=Hd h1;have A:=Hd h2;clear h1 h2;have G:(0:Int)≤(x:Int):=γ;have x1:(x:Int)<(n:Int):=γ;have H:(0:Int)≤(y:Int):=γ;have y1:(y:Int)<(n:Int):=γ;have K:=Bt c;have J:=Bt c0
 cases bx <;> cases h
 ·go_enter Tryz.func83,Tryz.ntmps83;go_upto_region 1 with fail
  obtain ⟨d,f⟩:=kcn w;refine wk ?_;repeat (go_big_quiet_step (fail))
  refine kq1 (fun o hq=>?_);clear d f;have a:=Qa hq c;have j:=Qa hq p;have k:=Qa hq q;have b:=Qa hq c0;have i:=Qa hq c1;have m:=Bt a;have l:=Bt b;have g:=Hd hq;clear hq;go_wp2_with (go_at_call 90;(with_reducible refine (z.out _ g.out).mono ?_);rintro e B ⟨rfl,hb⟩;have s:=Hd (Qc g.out hb);clear hb)
  go_ret;exact ⟨rfl,s.out⟩
 ·go_enter Tryz.func83,Tryz.ntmps83;go_upto_region 1 with fail
  obtain ⟨d,f⟩:=kcn w;refine wk ?_;repeat (go_big_quiet_step (fail))
  refine kq1 (fun o hq=>?_);clear d f;have a:=Qa hq c;have j:=Qa hq p;have k:=Qa hq q;have b:=Qa hq c0;have i:=Qa hq c1;have m:=Bt a;have l:=Bt b;have g:=Hd hq;clear hq;go_upto_region 2 with fail
  obtain ⟨d,f⟩:=kcn o;refine wk ?_;repeat (go_big_quiet_step (fail))
  refine kq1 (fun C hq=>?_);clear d f;go_wp2;go_ret;exact ⟨by cases r <;> rfl,Qc g.out hq⟩
 ·go_enter Tryz.func83,Tryz.ntmps83;go_upto_region 1 with fail
  obtain ⟨d,f⟩:=kcn w;refine wk ?_;repeat (go_big_quiet_step (fail))
  refine kq1 (fun o hq=>?_);clear d f;have a:=Qa hq c;have j:=Qa hq p;have k:=Qa hq q;have b:=Qa hq c0;have i:=Qa hq c1;have m:=Bt a;have l:=Bt b;have g:=Hd hq;clear hq;go_upto_region 2 with fail
  obtain ⟨d,f⟩:=kcn o;refine wk ?_;repeat (go_big_quiet_step (fail))
  refine kq1 (fun C hq=>?_);clear d f;go_wp2;go_ret;exact ⟨by cases r <;> rfl,Qc g.out hq⟩
 ·go_enter Tryz.func83,Tryz.ntmps83;go_upto_region 1 with fail
  obtain ⟨d,f⟩:=kcn w;refine wk ?_;repeat (go_big_quiet_step (fail))
  refine kq1 (fun o hq=>?_);clear d f;have a:=Qa hq c;have j:=Qa hq p;have k:=Qa hq q;have b:=Qa hq c0;have i:=Qa hq c1;have m:=Bt a;have l:=Bt b;have g:=Hd hq;clear hq;go_wp2_with (go_at_call 90;(with_reducible refine (A.out _ g.out).mono ?_);rintro e B ⟨rfl,hb⟩;have s:=Hd (Qc g.out hb);clear hb)
  go_ret;exact ⟨rfl,s.out⟩
def stpX (v c:Int):Int:=if v=0 then 2*c else if v=1 then 0 else c
def stpY (v c:Int):Int:=if v=0 then 0 else if v=1 then 2*c else if v=2 then c else -c
theorem idxP (a0 a1 a a3 a4 a5 b c:Int) (w:World) :
  (Instr.index 203 (.agg #[I a0,I a1,I a,I a3,I a4,I a5,I b,I c]) (I 0)).run Tryz.prog w=.ok (.agg #[I a0,I a1]) w
  ∧ (Instr.index 203 (.agg #[I a0,I a1,I a,I a3,I a4,I a5,I b,I c]) (I 1)).run Tryz.prog w=.ok (.agg #[I a,I a3]) w
  ∧ (Instr.index 203 (.agg #[I a0,I a1,I a,I a3,I a4,I a5,I b,I c]) (I 2)).run Tryz.prog w=.ok (.agg #[I a4,I a5]) w
  ∧ (Instr.index 203 (.agg #[I a0,I a1,I a,I a3,I a4,I a5,I b,I c]) (I 3)).run Tryz.prog w=.ok (.agg #[I b,I c]) w:=by
 refine ⟨η,η,η,η⟩
theorem reflected_any (j k l m n o A B C D E F r0 r1 r2 r3 r4 r5 f c e1 e2:Int) (w:World) (hw:0≤f∧f≤3) (hc : -1000000≤c∧c≤1000000) (h4 : -9000000≤r4∧r4≤9000000) (h5 : -9000000≤r5∧r5≤9000000)
  (an:∀ V:World,Bl w V→Rt 133 #[.agg #[I f,I 0]] V (.tuple #[.agg #[I A,I B,I C,I D,I E,I F],I e1]))
  (ao:∀ V:World,Bl w V→Rt 134 #[.agg #[I j,I k,I l,I m,I n,I o],.agg #[I A,I B,I C,I D,I E,I F]] V (.tuple #[.agg #[I r0,I r1,I r2,I r3,I r4,I r5],I e2])) :
  Rt 82 #[.agg #[I j,I k,I l,I m,I n,I o],.agg #[I f,I c]] w (.agg #[I r0,I r1,I r2,I r3,I (r4+stpX f c),I (r5+stpY f c)]):=by
 have ak:=Hd an;have am:=Hd ao;have g:Hid (((((w.alloc (.cells #[I j,I k,I l,I m,I n,I o] 114)).alloc (.cells #[I f,I c] 37)).alloc (.cells #[I 0,I 0,I 0,I 0,I 0,I 0] 114)).cell? ⟨w.heap.size,0,none⟩=some (I j)∧(((w.alloc (.cells #[I j,I k,I l,I m,I n,I o] 114)).alloc (.cells #[I f,I c] 37)).alloc (.cells #[I 0,I 0,I 0,I 0,I 0,I 0] 114)).cell? ⟨w.heap.size,1,none⟩=some (I k)∧(((w.alloc (.cells #[I j,I k,I l,I m,I n,I o] 114)).alloc (.cells #[I f,I c] 37)).alloc (.cells #[I 0,I 0,I 0,I 0,I 0,I 0] 114)).cell? ⟨w.heap.size,2,none⟩=some (I l)∧(((w.alloc (.cells #[I j,I k,I l,I m,I n,I o] 114)).alloc (.cells #[I f,I c] 37)).alloc (.cells #[I 0,I 0,I 0,I 0,I 0,I 0] 114)).cell? ⟨w.heap.size,3,none⟩=some (I m)∧(((w.alloc (.cells #[I j,I k,I l,I m,I n,I o] 114)).alloc (.cells #[I f,I c] 37)).alloc (.cells #[I 0,I 0,I 0,I 0,I 0,I 0] 114)).cell? ⟨w.heap.size,4,none⟩=some (I n)∧(((w.alloc (.cells #[I j,I k,I l,I m,I n,I o] 114)).alloc (.cells #[I f,I c] 37)).alloc (.cells #[I 0,I 0,I 0,I 0,I 0,I 0] 114)).cell? ⟨w.heap.size,5,none⟩=some (I o)∧(((w.alloc (.cells #[I j,I k,I l,I m,I n,I o] 114)).alloc (.cells #[I f,I c] 37)).alloc (.cells #[I 0,I 0,I 0,I 0,I 0,I 0] 114)).cell? ⟨w.heap.size+1,0,none⟩=some (I f)∧(((w.alloc (.cells #[I j,I k,I l,I m,I n,I o] 114)).alloc (.cells #[I f,I c] 37)).alloc (.cells #[I 0,I 0,I 0,I 0,I 0,I 0] 114)).cell? ⟨w.heap.size+1,1,none⟩=some (I c)∧(((w.alloc (.cells #[I j,I k,I l,I m,I n,I o] 114)).alloc (.cells #[I f,I c] 37)).alloc (.cells #[I 0,I 0,I 0,I 0,I 0,I 0] 114)).cell? ⟨w.heap.size+1+1,0,none⟩=some (I 0)∧(((w.alloc (.cells #[I j,I k,I l,I m,I n,I o] 114)).alloc (.cells #[I f,I c] 37)).alloc (.cells #[I 0,I 0,I 0,I 0,I 0,I 0] 114)).cell? ⟨w.heap.size+1+1,1,none⟩=some (I 0)∧(((w.alloc (.cells #[I j,I k,I l,I m,I n,I o] 114)).alloc (.cells #[I f,I c] 37)).alloc (.cells #[I 0,I 0,I 0,I 0,I 0,I 0] 114)).cell? ⟨w.heap.size+1+1,2,none⟩=some (I 0)∧(((w.alloc (.cells #[I j,I k,I l,I m,I n,I o] 114)).alloc (.cells #[I f,I c] 37)).alloc (.cells #[I 0,I 0,I 0,I 0,I 0,I 0] 114)).cell? ⟨w.heap.size+1+1,3,none⟩=some (I 0)∧(((w.alloc (.cells #[I j,I k,I l,I m,I n,I o] 114)).alloc (.cells #[I f,I c] 37)).alloc (.cells #[I 0,I 0,I 0,I 0,I 0,I 0] 114)).cell? ⟨w.heap.size+1+1,4,none⟩=some (I 0)∧(((w.alloc (.cells #[I j,I k,I l,I m,I n,I o] 114)).alloc (.cells #[I f,I c] 37)).alloc (.cells #[I 0,I 0,I 0,I 0,I 0,I 0] 114)).cell? ⟨w.heap.size+1+1,5,none⟩=some (I 0))∧(((w.alloc (.cells #[I j,I k,I l,I m,I n,I o] 114)).alloc (.cells #[I f,I c] 37)).alloc (.cells #[I 0,I 0,I 0,I 0,I 0,I 0] 114)).frozen? ⟨w.heap.size,0,none⟩=false∧(((w.alloc (.cells #[I j,I k,I l,I m,I n,I o] 114)).alloc (.cells #[I f,I c] 37)).alloc (.cells #[I 0,I 0,I 0,I 0,I 0,I 0] 114)).frozen? ⟨w.heap.size,1,none⟩=false∧(((w.alloc (.cells #[I j,I k,I l,I m,I n,I o] 114)).alloc (.cells #[I f,I c] 37)).alloc (.cells #[I 0,I 0,I 0,I 0,I 0,I 0] 114)).frozen? ⟨w.heap.size,2,none⟩=false∧(((w.alloc (.cells #[I j,I k,I l,I m,I n,I o] 114)).alloc (.cells #[I f,I c] 37)).alloc (.cells #[I 0,I 0,I 0,I 0,I 0,I 0] 114)).frozen? ⟨w.heap.size,3,none⟩=false∧(((w.alloc (.cells #[I j,I k,I l,I m,I n,I o] 114)).alloc (.cells #[I f,I c] 37)).alloc (.cells #[I 0,I 0,I 0,I 0,I 0,I 0] 114)).frozen? ⟨w.heap.size,4,none⟩=false∧(((w.alloc (.cells #[I j,I k,I l,I m,I n,I o] 114)).alloc (.cells #[I f,I c] 37)).alloc (.cells #[I 0,I 0,I 0,I 0,I 0,I 0] 114)).frozen? ⟨w.heap.size,5,none⟩=false∧(((w.alloc (.cells #[I j,I k,I l,I m,I n,I o] 114)).alloc (.cells #[I f,I c] 37)).alloc (.cells #[I 0,I 0,I 0,I 0,I 0,I 0] 114)).frozen? ⟨w.heap.size+1+1,0,none⟩=false∧(((w.alloc (.cells #[I j,I k,I l,I m,I n,I o] 114)).alloc (.cells #[I f,I c] 37)).alloc (.cells #[I 0,I 0,I 0,I 0,I 0,I 0] 114)).frozen? ⟨w.heap.size+1+1,1,none⟩=false∧(((w.alloc (.cells #[I j,I k,I l,I m,I n,I o] 114)).alloc (.cells #[I f,I c] 37)).alloc (.cells #[I 0,I 0,I 0,I 0,I 0,I 0] 114)).frozen? ⟨w.heap.size+1+1,2,none⟩=false∧(((w.alloc (.cells #[I j,I k,I l,I m,I n,I o] 114)).alloc (.cells #[I f,I c] 37)).alloc (.cells #[I 0,I 0,I 0,I 0,I 0,I 0] 114)).frozen? ⟨w.heap.size+1+1,3,none⟩=false∧(((w.alloc (.cells #[I j,I k,I l,I m,I n,I o] 114)).alloc (.cells #[I f,I c] 37)).alloc (.cells #[I 0,I 0,I 0,I 0,I 0,I 0] 114)).frozen? ⟨w.heap.size+1+1,4,none⟩=false∧(((w.alloc (.cells #[I j,I k,I l,I m,I n,I o] 114)).alloc (.cells #[I f,I c] 37)).alloc (.cells #[I 0,I 0,I 0,I 0,I 0,I 0] 114)).frozen? ⟨w.heap.size+1+1,5,none⟩=false):=⟨⟨δ,δ,δ,δ,δ,δ,δ,δ,δ,δ,δ,δ,δ,δ⟩,δ,δ,δ,δ,δ,δ,δ,δ,δ,δ,δ,δ⟩;clear an ao;go_enter Tryz.func82,Tryz.ntmps82;go_upto_region 2 with (go_at_call 133;(with_reducible refine (ak.out _ β3).mono ?_);rintro e w5 ⟨rfl,hb⟩;have H5:=Hd hb;clear hb)
 refine Qi (fun W2 M=>?_)
 have b:Hid (Bl w W2∧Below (((w.alloc (.cells #[I j,I k,I l,I m,I n,I o] 114)).alloc (.cells #[I f,I c] 37)).alloc (.cells #[I 0,I 0,I 0,I 0,I 0,I 0] 114)).heap.size (((w.alloc (.cells #[I j,I k,I l,I m,I n,I o] 114)).alloc (.cells #[I f,I c] 37)).alloc (.cells #[I 0,I 0,I 0,I 0,I 0,I 0] 114)) W2):=by
  rw [M];exact ⟨Qb (Qc β3 H5.out),Qb H5.out⟩
 have b0:=Qa b.out.2 g.out.1.1;have b1:=Qa b.out.2 g.out.1.2.1;have b2:=Qa b.out.2 g.out.1.2.2.1;have b3:=Qa b.out.2 g.out.1.2.2.2.1;have b4:=Qa b.out.2 g.out.1.2.2.2.2.1;have b5:=Qa b.out.2 g.out.1.2.2.2.2.2.1;have l0:=Qa b.out.2 g.out.1.2.2.2.2.2.2.1;have l1:=Qa b.out.2 g.out.1.2.2.2.2.2.2.2.1;have o0:=Qa b.out.2 g.out.1.2.2.2.2.2.2.2.2.1;have o1:=Qa b.out.2 g.out.1.2.2.2.2.2.2.2.2.2.1;have o2:=Qa b.out.2 g.out.1.2.2.2.2.2.2.2.2.2.2.1;have o3:=Qa b.out.2 g.out.1.2.2.2.2.2.2.2.2.2.2.2.1;have o4:=Qa b.out.2 g.out.1.2.2.2.2.2.2.2.2.2.2.2.2.1;have o5:=Qa b.out.2 g.out.1.2.2.2.2.2.2.2.2.2.2.2.2.2;have ax:=frozen_kept b.out.2 (g.out.1.1) (g.out.2.1);have ay:=frozen_kept b.out.2 (g.out.1.2.1) (g.out.2.2.1);have az:=frozen_kept b.out.2 (g.out.1.2.2.1) (g.out.2.2.2.1);have b6:=frozen_kept b.out.2 (g.out.1.2.2.2.1) (g.out.2.2.2.2.1);have b7:=frozen_kept b.out.2 (g.out.1.2.2.2.2.1) (g.out.2.2.2.2.2.1);have b8:=frozen_kept b.out.2 (g.out.1.2.2.2.2.2.1) (g.out.2.2.2.2.2.2.1);have b9:=frozen_kept b.out.2 (g.out.1.2.2.2.2.2.2.2.2.1) (g.out.2.2.2.2.2.2.2.1);have ba:=frozen_kept b.out.2 (g.out.1.2.2.2.2.2.2.2.2.2.1) (g.out.2.2.2.2.2.2.2.2.1);have bb:=frozen_kept b.out.2 (g.out.1.2.2.2.2.2.2.2.2.2.2.1) (g.out.2.2.2.2.2.2.2.2.2.1);have bc:=frozen_kept b.out.2 (g.out.1.2.2.2.2.2.2.2.2.2.2.2.1) (g.out.2.2.2.2.2.2.2.2.2.2.1);have be:=frozen_kept b.out.2 (g.out.1.2.2.2.2.2.2.2.2.2.2.2.2.1) (g.out.2.2.2.2.2.2.2.2.2.2.2.1);have bf:=frozen_kept b.out.2 (g.out.1.2.2.2.2.2.2.2.2.2.2.2.2.2) (g.out.2.2.2.2.2.2.2.2.2.2.2.2);have d0:At W2 w5.heap.size 0 (I A):=by rw [M];simp [go_sem]
 have d1:At W2 w5.heap.size 1 (I B):=by rw [M];simp [go_sem]
 have d2:At W2 w5.heap.size 2 (I C):=by rw [M];simp [go_sem]
 have d3:At W2 w5.heap.size 3 (I D):=by rw [M];simp [go_sem]
 have d4:At W2 w5.heap.size 4 (I E):=by rw [M];simp [go_sem]
 have d5:At W2 w5.heap.size 5 (I F):=by rw [M];simp [go_sem]
 clear M g H5;go_upto_region 3 with (go_at_call 134;(with_reducible refine (am.out _ b.out.1).mono ?_);rintro e w6 ⟨rfl,hb⟩;have bu:=Qa hb b0;have bv:=Qa hb b1;have bw:=Qa hb b2;have bz:=Qa hb b3;have ca:=Qa hb b4;have cb:=Qa hb b5;have cc:=Qa hb l0;have cd:=Qa hb l1;have ce:=Qa hb o0;have cf:=Qa hb o1;have cg:=Qa hb o2;have ch:=Qa hb o3;have ci:=Qa hb o4;have cj:=Qa hb o5;have bh:=frozen_kept hb b0 ax;have bi:=frozen_kept hb b1 ay;have bj:=frozen_kept hb b2 az;have bk:=frozen_kept hb b3 b6;have bm:=frozen_kept hb b4 b7;have bn:=frozen_kept hb b5 b8;have bo:=frozen_kept hb o0 b9;have bp:=frozen_kept hb o1 ba;have bq:=frozen_kept hb o2 bb;have br:=frozen_kept hb o3 bc;have bs:=frozen_kept hb o4 be;have bt:=frozen_kept hb o5 bf;have H6:=Hd (Qc b.out.1 hb);clear hb)
 refine Qi (fun i d=>?_)
 have bg:Bl w i:=by
  rw [d];with_reducible repeat (first | exact H6.out | refine Qh ?_ ?_)
  all_goals (exact Nr _)
 have ad:=Hd bg;clear bg;have O:At i w.heap.size 0 (I r0):=by rw [d];simp [go_sem, *]
 have p1:At i w.heap.size 1 (I r1):=by rw [d];simp [go_sem, *]
 have p2:At i w.heap.size 2 (I r2):=by rw [d];simp [go_sem, *]
 have p3:At i w.heap.size 3 (I r3):=by rw [d];simp [go_sem, *]
 have P:At i w.heap.size 4 (I r4):=by rw [d];simp [go_sem, *]
 have Q:At i w.heap.size 5 (I r5):=by rw [d];simp [go_sem, *]
 have ai:At i (w.heap.size+1) 0 (I f):=by rw [d];simp [go_sem, *]
 have aj:At i (w.heap.size+1) 1 (I c):=by rw [d];simp [go_sem, *]
 have p:At i (w.heap.size+1+1) 0 (I 0):=by rw [d];simp [go_sem, *]
 have q:At i (w.heap.size+1+1) 1 (I 0):=by rw [d];simp [go_sem, *]
 have r:At i (w.heap.size+1+1) 2 (I 0):=by rw [d];simp [go_sem, *]
 have s:At i (w.heap.size+1+1) 3 (I 0):=by rw [d];simp [go_sem, *]
 have t:At i (w.heap.size+1+1) 4 (I 0):=by rw [d];simp [go_sem, *]
 have u:At i (w.heap.size+1+1) 5 (I 0):=by rw [d];simp [go_sem, *]
 have K:i.frozen? ⟨w.heap.size,4,none⟩=false:=by rw [d];simp [go_sem, *]
 have L:i.frozen? ⟨w.heap.size,5,none⟩=false:=by rw [d];simp [go_sem, *]
 have x:i.frozen? ⟨w.heap.size+1+1,0,none⟩=false:=by rw [d];simp [go_sem, *]
 have y:i.frozen? ⟨w.heap.size+1+1,1,none⟩=false:=by rw [d];simp [go_sem, *]
 have z:i.frozen? ⟨w.heap.size+1+1,2,none⟩=false:=by rw [d];simp [go_sem, *]
 have G:i.frozen? ⟨w.heap.size+1+1,3,none⟩=false:=by rw [d];simp [go_sem, *]
 have H:i.frozen? ⟨w.heap.size+1+1,4,none⟩=false:=by rw [d];simp [go_sem, *]
 have J:i.frozen? ⟨w.heap.size+1+1,5,none⟩=false:=by rw [d];simp [go_sem, *]
 clear d bu bv bw bz ca cb cc cd ce cf cg ch ci cj bh bi bj bk bm bn bo bp bq br bs bt b0 b1 b2 b3 b4 b5 l0 l1 o0 o1 o2 o3 o4 o5 ax ay az b6 b7 b8 b9 ba bb bc be bf d0 d1 d2 d3 d4 d5 H6 b;obtain ⟨cu,cv⟩:=hc;obtain ⟨cm,co⟩:=h4;obtain ⟨cp,ct⟩:=h5;have hv:f=0∨f=1∨f=2∨f=3:=γ;clear hw ak am;have hx:=(idxP (2*c) 0 0 (2*c) c c c (-c) i);obtain ⟨ae,af,ag,ah⟩:=hx;rcases hv with rfl | rfl | rfl | rfl
 ·go_upto_region 4 with fail
  refine Qi (fun N h=>?_);have a:Bl i N:=by rw [h];exact Qb (Qe _)
  have HB4:=Hd (Qc ad.out a);have ap:=Qa a O;have aq:=Qa a p1;have ar:=Qa a p2;have au:=Qa a p3;have av:=Qa a P;have aw:=Qa a Q;have a6:=Qa a p;have a7:=Qa a q;have a8:=Qa a r;have aa:=Qa a s;have ab:=Qa a t;have ac:=Qa a u;have R:=frozen_kept a p x;have T:=frozen_kept a q y;have U:=frozen_kept a r z;have W:=frozen_kept a s G;have X:=frozen_kept a t H;have Y:=frozen_kept a u J;have Z:=frozen_kept a P K;have a2:=frozen_kept a Q L;have s0:At N i.heap.size 0 (I (2*c)):=by rw [h];simp [go_sem]
  have s1:At N i.heap.size 1 (I (0)):=by rw [h];simp [go_sem]
  have zs:=Bt O;clear h a O p1 p2 p3 P Q p q r s t u x y z G H J K L ai aj ae af ag ah;go_big_region
  go_wp2;refine bodyPost_ret (v:=.agg #[I r0,I r1,I r2,I r3,I (r4+(2*c)),I (r5+(0))]) (by simp [results,Tryz.results82,go_sem, *]) rfl ⟨by simp [stpX,stpY], ?_⟩;with_reducible repeat (first | exact HB4.out | refine Qh ?_ ?_ | refine Qg ?_)
  all_goals (dsimp only;omega)
 ·go_upto_region 4 with fail
  refine Qi (fun N h=>?_);have a:Bl i N:=by rw [h];exact Qb (Qe _)
  have HB4:=Hd (Qc ad.out a);have ap:=Qa a O;have aq:=Qa a p1;have ar:=Qa a p2;have au:=Qa a p3;have av:=Qa a P;have aw:=Qa a Q;have a6:=Qa a p;have a7:=Qa a q;have a8:=Qa a r;have aa:=Qa a s;have ab:=Qa a t;have ac:=Qa a u;have R:=frozen_kept a p x;have T:=frozen_kept a q y;have U:=frozen_kept a r z;have W:=frozen_kept a s G;have X:=frozen_kept a t H;have Y:=frozen_kept a u J;have Z:=frozen_kept a P K;have a2:=frozen_kept a Q L;have s0:At N i.heap.size 0 (I (0)):=by rw [h];simp [go_sem]
  have s1:At N i.heap.size 1 (I (2*c)):=by rw [h];simp [go_sem]
  have zs:=Bt O;clear h a O p1 p2 p3 P Q p q r s t u x y z G H J K L ai aj ae af ag ah;go_big_region
  go_wp2;refine bodyPost_ret (v:=.agg #[I r0,I r1,I r2,I r3,I (r4+(0)),I (r5+(2*c))]) (by simp [results,Tryz.results82,go_sem, *]) rfl ⟨by simp [stpX,stpY], ?_⟩;with_reducible repeat (first | exact HB4.out | refine Qh ?_ ?_ | refine Qg ?_)
  all_goals (dsimp only;omega)
 ·go_upto_region 4 with fail
  refine Qi (fun N h=>?_);have a:Bl i N:=by rw [h];exact Qb (Qe _)
  have HB4:=Hd (Qc ad.out a);have ap:=Qa a O;have aq:=Qa a p1;have ar:=Qa a p2;have au:=Qa a p3;have av:=Qa a P;have aw:=Qa a Q;have a6:=Qa a p;have a7:=Qa a q;have a8:=Qa a r;have aa:=Qa a s;have ab:=Qa a t;have ac:=Qa a u;have R:=frozen_kept a p x;have T:=frozen_kept a q y;have U:=frozen_kept a r z;have W:=frozen_kept a s G;have X:=frozen_kept a t H;have Y:=frozen_kept a u J;have Z:=frozen_kept a P K;have a2:=frozen_kept a Q L;have s0:At N i.heap.size 0 (I (c)):=by rw [h];simp [go_sem]
  have s1:At N i.heap.size 1 (I (c)):=by rw [h];simp [go_sem]
  have zs:=Bt O;clear h a O p1 p2 p3 P Q p q r s t u x y z G H J K L ai aj ae af ag ah;go_big_region
  go_wp2;refine bodyPost_ret (v:=.agg #[I r0,I r1,I r2,I r3,I (r4+(c)),I (r5+(c))]) (by simp [results,Tryz.results82,go_sem, *]) rfl ⟨by simp [stpX,stpY], ?_⟩;with_reducible repeat (first | exact HB4.out | refine Qh ?_ ?_ | refine Qg ?_)
  all_goals (dsimp only;omega)
 ·go_upto_region 4 with fail
  refine Qi (fun N h=>?_);have a:Bl i N:=by rw [h];exact Qb (Qe _)
  have HB4:=Hd (Qc ad.out a);have ap:=Qa a O;have aq:=Qa a p1;have ar:=Qa a p2;have au:=Qa a p3;have av:=Qa a P;have aw:=Qa a Q;have a6:=Qa a p;have a7:=Qa a q;have a8:=Qa a r;have aa:=Qa a s;have ab:=Qa a t;have ac:=Qa a u;have R:=frozen_kept a p x;have T:=frozen_kept a q y;have U:=frozen_kept a r z;have W:=frozen_kept a s G;have X:=frozen_kept a t H;have Y:=frozen_kept a u J;have Z:=frozen_kept a P K;have a2:=frozen_kept a Q L;have s0:At N i.heap.size 0 (I (c)):=by rw [h];simp [go_sem]
  have s1:At N i.heap.size 1 (I (-c)):=by rw [h];simp [go_sem]
  have zs:=Bt O;clear h a O p1 p2 p3 P Q p q r s t u x y z G H J K L ai aj ae af ag ah;go_big_region
  go_wp2;refine bodyPost_ret (v:=.agg #[I r0,I r1,I r2,I r3,I (r4+(c)),I (r5+(-c))]) (by simp [results,Tryz.results82,go_sem, *]) rfl ⟨by simp [stpX,stpY], ?_⟩;with_reducible repeat (first | exact HB4.out | refine Qh ?_ ?_ | refine Qg ?_)
  all_goals (dsimp only;omega)
theorem mirrored_any (t a k pl H sd O N K L J:Value) (y x p n:Nat) (l c:Int) (mw:Nat→Bool) (M R:Nat→M6) (w:World) (h0:0<n) (hn:n≤300) (hY:YRow w p n mw)
  (z:∀ V:World,Bl w V→Cl 53 #[.slice (Az y) n x] V fun e w'=>∃ g' c',e=.returned (.slice (Az g') n c')∧MRow w' g' n M∧V.heap.size≤g'∧Bl V w')
  (A:∀ (V:World) (i:Nat),Bl w V→i<n→mw i=true→Rt 82 #[.agg #[I (M i).1,I (M i).2.1,I (M i).2.2.1,I (M i).2.2.2.1,I (M i).2.2.2.2.1,I (M i).2.2.2.2.2],.agg #[I l,I c]] V (.agg #[I (R i).1,I (R i).2.1,I (R i).2.2.1,I (R i).2.2.2.1,I (R i).2.2.2.2.1,I (R i).2.2.2.2.2])) :
  Cl 33 #[.agg #[t,a,k,.slice (Az y) n x,pl,H,I l,I c,sd,O,N,K,L,J,.slice (Az p) n n]] w fun e w'=>∃ g' c',e=.returned (.slice (Az g') n c')∧MRow w' g' n (fun i=>if mw i then R i else M i)∧w.heap.size≤g'∧Bl w w':=by
 have Q:=Hd z;have s:=Hd A;have HY:=Hd hY;have E:Hid ((w.alloc (.cells #[t,a,k,.slice (Az y) n x,pl,H,I l,I c,sd,O,N,K,L,J,.slice (Az p) n n] 66)).cell? ⟨w.heap.size,6,none⟩=some (I l)∧(w.alloc (.cells #[t,a,k,.slice (Az y) n x,pl,H,I l,I c,sd,O,N,K,L,J,.slice (Az p) n n] 66)).cell? ⟨w.heap.size,7,none⟩=some (I c)∧(w.alloc (.cells #[t,a,k,.slice (Az y) n x,pl,H,I l,I c,sd,O,N,K,L,J,.slice (Az p) n n] 66)).cell? ⟨w.heap.size,14,none⟩=some (.slice (Az p) n n)):=⟨δ,δ,δ⟩;clear z A hY;go_enter Tryz.func33,Tryz.ntmps33;go_upto_region 2 with (go_at_call 53;refine (Q.out _ β1).mono ?_;rintro e w5 ⟨g,cq,rfl,B,hg,hb⟩;have D:Hid (MRow w5 g n M∧w.heap.size+1≤g∧Bl w w5):=⟨B,by simpa using hg,Qc β1 hb⟩;have k6:=Qa hb E.out.1;have k7:=Qa hb E.out.2.1;have X:=Qa hb E.out.2.2;clear hb B hg)
 have W:=H2 k6 k7;clear E k6 k7;go_wp2;go_loopg [4,5,13] n (fun gk s4 s5 Y P=>∃ i:Nat,i≤n∧gk=n - i∧Y=I (i:Int)∧MRow P g n (fun q=>if decide (q<i) && mw q then R q else M q)∧At P w.heap.size 6 (I l)∧At P w.heap.size 7 (I c)∧Bl w P)
 case atStart=>exact ⟨0,γ,rfl,rfl,by simpa using D.out.1,W.out.1,W.out.2,D.out.2.2⟩
 case round =>
  clear X W;obtain ⟨i,hi,rfl,rfl,B,c6,c7,hB⟩:=hrel;have f:=H4 B c6 c7 hB;clear B c6 c7 hB;by_cases h1:i<n
  ·have i1:(i:Int)<(n:Int):=γ;have i0:(0:Int)≤(i:Int):=γ;have y0:=((HY.out.kept f.out.2.2.2) i h1).1
   cases hmx:mw i with
   | false =>
    rw [hmx] at y0
    have v:Hid (MRow wr g n (fun q=>if decide (q<i+1) && mw q then R q else M q)):=by
     have e:(fun q=>if decide (q<i+1) && mw q then R q else M q)=(fun q=>if decide (q<i) && mw q then R q else M q):=funext fun q=>by
      by_cases e:q=i
      ·subst e;simp [hmx]
      ·have:(decide (q<i+1))=decide (q<i):=decide_eq_decide.mpr γ;rw [this]
     rw [e];exact f.out.1
    clear hmx;go_wp2;go_roundg (n - (i+1))
    case measure=>omega
    case rel=>exact ⟨i+1,γ,rfl,σ,v.out,f.out.2.1,f.out.2.2.1,f.out.2.2.2⟩
   | true =>
    rw [hmx] at y0;have hm:=f.out.1 i h1;simp only [Nat.lt_irrefl,decide_false,Bool.false_and,Bool.false_eq_true,if_false] at hm;obtain ⟨⟨a0,a1,G,a3,a4,a5⟩,f0,f1,f2,f3,f4,f5⟩:=hm;have T:Hid (∀ V:World,Bl w V→Rt 82 #[.agg #[I (M i).1,I (M i).2.1,I (M i).2.2.1,I (M i).2.2.2.1,I (M i).2.2.2.2.1,I (M i).2.2.2.2.2],.agg #[I l,I c]] V (.agg #[I (R i).1,I (R i).2.1,I (R i).2.2.1,I (R i).2.2.2.1,I (R i).2.2.2.2.1,I (R i).2.2.2.2.2])):=fun V o=>s.out V i o h1 hmx
    have v:Hid (∀ V:World,MRow V g n (fun q=>if decide (q<i) && mw q then R q else M q)→MRow (set6 V g i (R i)) g n (fun q=>if decide (q<i+1) && mw q then R q else M q)):=fun V o=>by
     have h:=o.set6 h1 (R i)
     have e:(fun q=>if decide (q<i+1) && mw q then R q else M q)=(fun q=>if q=i then R i else (if decide (q<i) && mw q then R q else M q)):=funext fun q=>by
      by_cases e:q=i
      ·subst e;simp [hmx]
      ·have:(decide (q<i+1))=decide (q<i):=decide_eq_decide.mpr γ;rw [this,if_neg e]
     rw [e];exact h
    have c6:=f.out.2.1;have c7:=f.out.2.2.1;have zg:w.heap.size<g:=by have:=D.out.2.1;omega
    clear hmx s;generalize M i=m at a0 a1 G a3 a4 a5 T;generalize R i=r at T v;go_upto_region 6 with fail
    have F:Hid (∀ V:World,Bl wr V→(fun w'=>At w' g (i*6) (I m.1)∧At w' g (i*6+1) (I m.2.1)∧At w' g (i*6+2) (I m.2.2.1)∧At w' g (i*6+3) (I m.2.2.2.1)∧At w' g (i*6+4) (I m.2.2.2.2.1)∧At w' g (i*6+5) (I m.2.2.2.2.2)∧At w' w.heap.size 6 (I l)∧At w' w.heap.size 7 (I c)) V):=fun V o=>⟨Qa o a0,Qa o a1,Qa o G,Qa o a3,Qa o a4,Qa o a5,Qa o c6,Qa o c7⟩;refine Jz (S:=fun w'=>At w' g (i*6) (I m.1)∧At w' g (i*6+1) (I m.2.1)∧At w' g (i*6+2) (I m.2.2.1)∧At w' g (i*6+3) (I m.2.2.2.1)∧At w' g (i*6+4) (I m.2.2.2.2.1)∧At w' g (i*6+5) (I m.2.2.2.2.2)∧At w' w.heap.size 6 (I l)∧At w' w.heap.size 7 (I c)) (late:=fun j=>decide (j=11)) η ?_;have b:=F.out _ (Qg (Qe wr));refine Lk 0 (.slice (Az g) n cq) b ?_;refine Lk 1 (I (i:Int)) b ?_;refine Lk 2 (.slice (Az g) n cq) b ?_;refine Lk 3 (I (i:Int)) b ?_;refine Lk 4 (.pointer (Ad g (i*6))) b ?_;refine Lk 5 (.agg #[I (m).1,I (m).2.1,I (m).2.2.1,I (m).2.2.2.1,I (m).2.2.2.2.1,I (m).2.2.2.2.2]) b ?_;refine Lk 6 (.pointer (Ad w.heap.size 6)) b ?_;refine Lk 7 (.pointer (Ad w.heap.size 6)) b ?_;refine Lk 8 (.agg #[I l,I c]) b ?_;refine Lt.one (i:=9) η rfl rfl ?_;refine Qag 82 #[.agg #[I (m).1,I (m).2.1,I (m).2.2.1,I (m).2.2.2.1,I (m).2.2.2.2.1,I (m).2.2.2.2.2],.agg #[I l,I c]] η (T.out _ (Qg f.out.2.2.2)) ?_;rintro e w1 ⟨rfl,C⟩;have d:Hid (Bl wr w1):=Qc (Qg (Qe _)) C;clear C;refine ⟨_,rfl,fun _=>F.out _ d.out, ?_⟩;try simp only [Ap]
    replace b:=F.out _ d.out;refine Lk 10 (.pointer (Ad g (i*6))) b ?_;have HZ:Hid (MRow (set6 w1 g i r) g n (fun q=>if decide (q<i+1) && mw q then R q else M q)):=v.out _ (f.out.1.kept d.out);obtain ⟨b0,b1,b2,b3,b4,b5,Z,b7⟩:=b;have g0:=frozen_kept d.out a0 f0;have g1:=frozen_kept d.out a1 f1;have g2:=frozen_kept d.out G f2;have g3:=frozen_kept d.out a3 f3;have g4:=frozen_kept d.out a4 f4;have g5:=frozen_kept d.out a5 f5;have U:Hid (Bl w (set6 w1 g i r)):=(Qc f.out.2.2.2 d.out).grown (set6_grown w1 g i r) (Qc f.out.2.2.2 d.out).size (fun k h=>by cases h;omega);have u:Hid ((set6 w1 g i r).cell? ⟨w.heap.size,6,none⟩=some (I l)∧(set6 w1 g i r).cell? ⟨w.heap.size,7,none⟩=some (I c)):=⟨(set6_grown w1 g i r).cell Z ω,(set6_grown w1 g i r).cell b7 ω⟩;clear F v a0 a1 G a3 a4 a5 f0 f1 f2 f3 f4 f5 c6 c7 Z b7;refine Lt.one (i:=11) η rfl rfl ?_;go_simp;refine Lt.done η ?_;go_wp2;go_roundg (n - (i+1))
    case measure=>omega
    case rel=>exact ⟨i+1,γ,rfl,σ,HZ.out,u.out.1,u.out.2,U.out⟩
  ·have i1:¬ (i:Int)<(n:Int):=γ;obtain rfl:i=n:=γ;go_wp2;go_ret;refine ⟨g,⟨cq,rfl⟩,fun q hq=>?_,by have:=D.out.2.1;omega,f.out.2.2.2⟩;have:=f.out.1 q hq;simpa [hq] using this
end Go.Proofs.YtjkjpopghkeibaaGreatDoor
