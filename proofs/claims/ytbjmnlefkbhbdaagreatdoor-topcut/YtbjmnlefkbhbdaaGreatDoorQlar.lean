/- A part of it. -/
import Derived.Test.YtbjmnlefkbhbdaaGreatDoorQlao
import Derived.Test.YtbjmnlefkbhbdaaGreatDoorQlaq
import Derived.Test.YtbjmnlefkbhbdaaGreatDoorQlap
import Derived.Laws.EntriesVeiled
set_option maxRecDepth 100000
set_option maxHeartbeats 40000000
namespace Go.Proofs.YtbjmnlefkbhbdaaGreatDoor
open Go.RowKit
variable {d w w':World} {N base g k r:Nat} {a b c j t v:Value} {h:Nat→Int}
def tov (m:M6):Bool:=decide (m.1*m.2.2.2.1 - m.2.1*m.2.2.1<0)
theorem Uu {A B C D E F:Int} (h:mapM (A,B,C,D,E,F)=true):((A=1∨A=-1)∧B=0∧C=0∧(D=1∨D=-1))∨(A=0∧(B=1∨B=-1)∧(C=1∨C=-1)∧D=0):=by
 unfold mapM mapB at h;simp [unitB] at h;omega
theorem Zh (w:World) (v0 j k v4:Value) (c n g i:Nat) (M:Nat→M6) (d:MRow w c n M) (hi:i<n) (_l:n≤300) (h:mapM (M i)=true) :
  Rt 159 #[.agg #[v0,j,k,.slice (Az c) n g,v4],I (i:Int)] w (.bool (tov (M i))):=by
 obtain ⟨⟨b,y1,y2,y3,e,f⟩,_⟩:=d i hi;obtain ⟨A,B,C,D,E,F,a⟩:∃ A B C D E F,M i=(A,B,C,D,E,F):=⟨_,_,_,_,_,_,rfl⟩;rw [a] at b y1 y2 y3 e f h ⊢;dsimp only at b y1 y2 y3 e f;have o:(i:Int)<(n:Int):=γ;have m:(0:Int)≤(i:Int):=γ;have p:=Bt b;clear a d;rcases Uu h with ⟨rfl | rfl,rfl,rfl,rfl | rfl⟩ | ⟨rfl,rfl | rfl,rfl | rfl,rfl⟩
 all_goals
  clear h;go_enter Tryz.func159,Tryz.ntmps159;go_wp2;go_ret;refine ⟨by simp [tov,go_sem], ?_⟩;with_reducible repeat (first | exact Qd _ | refine Qc ?_ | refine Qk ?_ ?_)
theorem Zx {u x M:Int} (h1 : -2≤u) (h2:u≤2) (h3 : -M≤x) (h4:x≤M) : -(2*M)≤u*x∧u*x≤2*M:=by
 have a:u=-2∨u=-1∨u=0∨u=1∨u=2:=γ;rcases a with rfl | rfl | rfl | rfl | rfl <;> omega
structure SdB (p q r s a0 a1 a2 a3 a4 a5:Int):Prop where
 hp : -4000000≤p∧p≤4000000
 hq : -4000000≤q∧q≤4000000
 hr : -2≤r - p∧r - p≤2
 hs : -2≤s - q∧s - q≤2
 h0 : -4000000≤a0∧a0≤4000000
 h1 : -4000000≤a1∧a1≤4000000
 h2 : -4000000≤a2∧a2≤4000000
 h3 : -4000000≤a3∧a3≤4000000
 h4 : -4000000≤a4∧a4≤4000000
 h5 : -4000000≤a5∧a5≤4000000
def sdM (p q r s a0 a1 a2 a3 a4 a5:Int):Nat→Int
 | 0=>0
 | 1=>0+((r - p)*(a1 - q) - (s - q)*(a0 - p))
 | 2=>0+((r - p)*(a1 - q) - (s - q)*(a0 - p))+((r - p)*(a3 - q) - (s - q)*(a2 - p))
 | _=>0+((r - p)*(a1 - q) - (s - q)*(a0 - p))+((r - p)*(a3 - q) - (s - q)*(a2 - p))+((r - p)*(a5 - q) - (s - q)*(a4 - p))
def sdR (n:Int):Int:=if 0<n then 1 else 0
theorem side_num (w:World) (v0 E F v3:Value) (g v pc i:Nat) (p q r s x y k a0 a1 b a3 a4 a5:Int) (hb:SdB p q r s a0 a1 b a3 a4 a5) (c0:At w g (i*3) (I x)) (c1:At w g (i*3+1) (I y)) (c2:At w g (i*3+2) (I k)) (t:(i:Int)<(v:Int))
  (f:Hid (∀ V:World,Bl w V→Rt 222 #[.agg #[I x,I y,I k]] V (.tuple #[.agg #[I a0,I a1,I b,I a3,I a4,I a5],I 0]))) :
  Rt 178 #[.agg #[v0,E,F,v3,.slice (Az g) v pc],.agg #[I p,I q,I r,I s],I (i:Int)] w (I (sdR (sdM p q r s a0 a1 b a3 a4 a5 3))):=by
 have o:(0:Int)≤(i:Int):=γ;have z:=Bt c0;obtain ⟨⟨R,T⟩,⟨U,W⟩,⟨r0,r1⟩,⟨X,Y⟩,⟨g0,g1⟩,⟨g2,g3⟩,⟨g4,g5⟩,⟨g6,g7⟩,⟨g8,g9⟩,P,Q⟩:=hb;obtain ⟨y0,K⟩:=Zx (u:=r - p) (x:=a1 - q) (M:=8000000) γ γ γ γ;obtain ⟨Z,G⟩:=Zx (u:=s - q) (x:=a0 - p) (M:=8000000) γ γ γ γ;obtain ⟨y1,L⟩:=Zx (u:=r - p) (x:=a3 - q) (M:=8000000) γ γ γ γ;obtain ⟨x1,H⟩:=Zx (u:=s - q) (x:=b - p) (M:=8000000) γ γ γ γ;obtain ⟨y2,O⟩:=Zx (u:=r - p) (x:=a5 - q) (M:=8000000) γ γ γ γ;obtain ⟨x2,J⟩:=Zx (u:=s - q) (x:=a4 - p) (M:=8000000) γ γ γ γ;have hi:=fun w=>index3 (I a0) (I a1) (I b) (I a3) (I a4) (I a5) w;have B:=fun w=>(hi w).1;have C:=fun w=>(hi w).2.1;have D:=fun w=>(hi w).2.2;clear hi;have m:∀ n:Int,n=sdM p q r s a0 a1 b a3 a4 a5 3→n=0+((r - p)*(a1 - q) - (s - q)*(a0 - p))+((r - p)*(a3 - q) - (s - q)*(b - p))+((r - p)*(a5 - q) - (s - q)*(a4 - p)):=fun n h=>h;obtain ⟨N,l⟩:∃ N,N=sdM p q r s a0 a1 b a3 a4 a5 3:=⟨_,rfl⟩;rw [← l];have c:=m N l;clear m l;by_cases hpos:0<0+((r - p)*(a1 - q) - (s - q)*(a0 - p))+((r - p)*(a3 - q) - (s - q)*(b - p))+((r - p)*(a5 - q) - (s - q)*(a4 - p))
 ·have j:Hid (sdR N=1):=if_pos (by rw [c];exact hpos);clear c;go_enter Tryz.func178,Tryz.ntmps178;go_wp2_with (go_at_call 222;(with_reducible refine (f.out _ Ψ).mono ?_);rintro e w1 ⟨rfl,a⟩;have e0:At w1 (w.heap.size+1) 0 (I p):=Qa a ζ;have e1:At w1 (w.heap.size+1) 1 (I q):=Qa a ζ;have e2:At w1 (w.heap.size+1) 2 (I r):=Qa a ζ;have A:At w1 (w.heap.size+1) 3 (I s):=Qa a ζ;have z1:=Bt e0;have z2:w.heap.size+1<w1.heap.size+1:=γ;have z3:w.heap.size+1<w1.heap.size+1+1:=γ;have z4:w.heap.size+1<w1.heap.size+1+1+1:=γ;have z5:w.heap.size+1<w1.heap.size+1+1+1+1:=γ;have d:=Hd (Qb β2 a);clear a)
  clear c0 c1 c2 t o z f;refine wp_loop_rounds 4 ?_;rw [rounds_succ];go_wp2;rw [rounds_succ];go_wp2;rw [rounds_succ];go_wp2;rw [rounds_succ];go_wp2;go_ret;refine ⟨Ja j.out.symm, ?_⟩;with_reducible repeat' (first | exact d.out | refine Qc ?_ | refine Qk ?_ ?_)
  all_goals (dsimp only;omega)
 ·have j:Hid (sdR N=0):=if_neg (by rw [c];exact hpos);clear c;go_enter Tryz.func178,Tryz.ntmps178;go_wp2_with (go_at_call 222;(with_reducible refine (f.out _ Ψ).mono ?_);rintro e w1 ⟨rfl,a⟩;have e0:At w1 (w.heap.size+1) 0 (I p):=Qa a ζ;have e1:At w1 (w.heap.size+1) 1 (I q):=Qa a ζ;have e2:At w1 (w.heap.size+1) 2 (I r):=Qa a ζ;have A:At w1 (w.heap.size+1) 3 (I s):=Qa a ζ;have z1:=Bt e0;have z2:w.heap.size+1<w1.heap.size+1:=γ;have z3:w.heap.size+1<w1.heap.size+1+1:=γ;have z4:w.heap.size+1<w1.heap.size+1+1+1:=γ;have z5:w.heap.size+1<w1.heap.size+1+1+1+1:=γ;have d:=Hd (Qb β2 a);clear a)
  clear c0 c1 c2 t o z f;refine wp_loop_rounds 4 ?_;rw [rounds_succ];go_wp2;rw [rounds_succ];go_wp2;rw [rounds_succ];go_wp2;rw [rounds_succ];go_wp2;go_ret;refine ⟨Ja j.out.symm, ?_⟩;with_reducible repeat' (first | exact d.out | refine Qc ?_ | refine Qk ?_ ?_)
  all_goals (dsimp only;omega)
theorem sdB_of {x y k p q r s:Int} (a:triB x y k=true) (h:hasT (x,y,k) (p,q,r,s)=true):SdB p q r s (2*x+1) (2*y+1) (c1x x k) (c1y y k) (c2x x k) (c2y y k):=by
 have hb:0≤k∧k≤3∧-1000000≤x∧x≤1000000∧-1000000≤y∧y≤1000000:=by simpa [triB] using a
 unfold hasT at h;rw [Jb] at h;dsimp only at h;have b:=Jz (show 0≤k∧k≤3 from ⟨hb.1,hb.2.1⟩);have a1:=c1x_bd x k;have c:=c1y_bd y k;have a3:=c2x_bd x k;have a4:=c2y_bd y k;clear a;rcases b with rfl | rfl | rfl | rfl <;> simp only [Km,Kl,Kk,Kj,Ki,Kh,Kg,Kf,Ke,Kc,Kb,Ka] at h <;> rcases h with ⟨rfl,rfl,rfl,rfl⟩ | ⟨rfl,rfl,rfl,rfl⟩ | ⟨rfl,rfl,rfl,rfl⟩ <;> constructor <;> omega
theorem sdR_is (p q r s x y k:Int):sdR (sdM p q r s (2*x+1) (2*y+1) (c1x x k) (c1y y k) (c2x x k) (c2y y k) 3)=(sd (p,q,r,s) (x,y,k):Int):=by
 have e:sdM p q r s (2*x+1) (2*y+1) (c1x x k) (c1y y k) (c2x x k) (c2y y k) 3=sdS (p,q,r,s) (x,y,k):=by
  simp only [sdM,sdS,crs];omega
 rw [e];unfold sdR sd;by_cases h:0<sdS (p,q,r,s) (x,y,k)
 ·rw [if_pos h,if_pos h];rfl
 ·rw [if_neg h,if_neg h];rfl
theorem side_any (w:World) (v0 f h v3:Value) (pa:Option Addr) (c pc i:Nat) (pl:List T3) (p q r s:Int) (j:TRow w pa pl) (hi:i<pl.length) (m:c=pl.length) (a:triT (pl.getD i (0,0,0))=true) (b:hasT (pl.getD i (0,0,0)) (p,q,r,s)=true) (hs:Steps w) :
  Rt 178 #[.agg #[v0,f,h,v3,.slice pa c pc],.agg #[I p,I q,I r,I s],I (i:Int)] w (I (sd (p,q,r,s) (pl.getD i (0,0,0)):Int)):=by
 obtain ⟨g,rfl,t0,d,e⟩:=j i hi;rw [Qq pl i hi] at a b ⊢;obtain ⟨x,y,k,n⟩:∃ x y k,pl[i]=(x,y,k):=⟨_,_,_,rfl⟩;rw [n] at t0 d e a b ⊢;have:=side_num w v0 f h v3 g c pc i p q r s x y k _ _ _ _ _ _ (sdB_of a b) t0 d e γ (fun V l=>Corners_yes x y k V a (hs.kept l));rw [sdR_is] at this;exact this
def fdT (kd:Int) (tv:Bool) (a b:Nat):Nat×Nat:=if tv=decide (kd=2) then (b,a) else (a,b)
theorem foldedP_any (w:World) (v0 t u v4:Value) (m n p a b:Nat) (kd:Int) (M:Nat→M6) (q:MRow w m n M) (r:a<n) (s:n≤300) (h:mapM (M a)=true) :
  Rt 179 #[.agg #[v0,t,u,.slice (Az m) n p,v4],I kd,I (a:Int),I (b:Int)] w (.agg #[I ((fdT kd (tov (M a)) a b).1:Int),I ((fdT kd (tov (M a)) a b).2:Int)]):=by
 have l:=Hd (fun (V:World) hV=>Zh V v0 t u v4 m n p a M (q.kept hV) r s h);obtain ⟨f,k⟩:∃ f,f=tov (M a):=⟨_,rfl⟩;rw [← k] at l ⊢;clear q r s h k;obtain ⟨i,d⟩:∃ i,i=decide (kd=2):=⟨_,rfl⟩;have x:(kd == 2)=i:=by rw [d];by_cases e:kd=2 <;> simp [e]
 by_cases hq:f=i
 ·have j:Hid (fdT kd f a b=(b,a)):=if_pos (by rw [hq,d]);have o:(f == i)=true:=by simp [hq]
  generalize fdT kd f a b=R at j ⊢;clear hq d;go_enter Tryz.func179,Tryz.ntmps179;go_wp2_with (go_at_call 159;(with_reducible refine (l.out _ Ψ).mono ?_);rintro e w1 ⟨rfl,c⟩;have r0:At w1 (w.heap.size+1) 0 (I 0):=Qa c ζ;have r1:At w1 (w.heap.size+1) 1 (I 0):=Qa c ζ;have f0:Fn w1 (w.heap.size+1) 0:=(c.frozen ν).trans ζ;have f1:Fn w1 (w.heap.size+1) 1:=(c.frozen ν).trans ζ;have z1:=Bt r0;have g:=Hd (Qb β2 c);clear c)
  refine bodyPost_ret (v:=.agg #[I (b:Int),I (a:Int)]) (by simp [results,Tryz.results179,go_sem, *]) rfl ⟨by rw [j.out], ?_⟩;with_reducible repeat' (first | exact g.out | refine Qc ?_ | refine Qk ?_ ?_)
  all_goals (dsimp only;omega)
 ·have j:Hid (fdT kd f a b=(a,b)):=if_neg (by rw [← d];exact hq);have o:(f == i)=false:=by simp [hq]
  generalize fdT kd f a b=R at j ⊢;clear hq d;go_enter Tryz.func179,Tryz.ntmps179;go_wp2_with (go_at_call 159;(with_reducible refine (l.out _ Ψ).mono ?_);rintro e w1 ⟨rfl,c⟩;have r0:At w1 (w.heap.size+1) 0 (I 0):=Qa c ζ;have r1:At w1 (w.heap.size+1) 1 (I 0):=Qa c ζ;have f0:Fn w1 (w.heap.size+1) 0:=(c.frozen ν).trans ζ;have f1:Fn w1 (w.heap.size+1) 1:=(c.frozen ν).trans ζ;have z1:=Bt r0;have g:=Hd (Qb β2 c);clear c)
  refine bodyPost_ret (v:=.agg #[I (a:Int),I (b:Int)]) (by simp [results,Tryz.results179,go_sem, *]) rfl ⟨by rw [j.out], ?_⟩;with_reducible repeat' (first | exact g.out | refine Qc ?_ | refine Qk ?_ ?_)
  all_goals (dsimp only;omega)
open Go.ChangeMaps
structure Sam (w w':World) (R:Nat→Prop):Prop where
 size:w.heap.size≤w'.heap.size
 blk:∀ k,k<w.heap.size→¬ R k→w'.heap[k]?=w.heap[k]?
theorem Sam.cell {R:Nat→Prop} (h:Sam w w' R) {a:Addr} (b:w.cell? a=some v) (c:¬ R a.block):w'.cell? a=some v :=
 (World.cell?_of_block (h.blk a.block (World.block_lt_of_cell? w a b) c)).trans b
theorem Sam.trans {w1 c:World} {R Q:Nat→Prop} (h1:Sam w w1 R) (h2:Sam w1 c Q):Sam w c (fun k=>R k∨Q k) :=
 ⟨Nt h1.size h2.size,fun k a b=>(h2.blk k (Nl a h1.size) fun q=>b (Or.inr q)).trans (h1.blk k a fun q=>b (Or.inl q))⟩
theorem Sam.mono {R Q:Nat→Prop} (h:Sam w w' R) (hq:∀ k,k<w.heap.size→R k→Q k):Sam w w' Q:=⟨h.size,fun k a b=>h.blk k a fun r=>b (hq k a r)⟩
theorem Sam.below {R:Nat→Prop} (h:Bl w w'):Sam w w' R:=⟨h.size,fun k a _=>h.block k a⟩
theorem Sam.grown {row:Option Nat} (h:w.grownBy w' row):Sam w w' (fun k=>row=some k):=⟨h.size,fun k a b=>h.block k a fun e=>b e.symm⟩
theorem Sam.own {R:Nat→Prop} {e n:Nat} {d:List Value} (h:Sam w w' R) (i:w.ownsRow base e k v n d) (f:∀ g,v.ownBlock=some g→¬ R g):w'.ownsRow base e k v n d:=by
 obtain ⟨hl,h0 | ⟨g,a,b,rfl,hb,c,h1,h2,h3,h4⟩⟩:=i
 ·exact ⟨hl,Or.inl h0⟩
 ·exact ⟨hl,Or.inr ⟨g,a,b,rfl,hb,(h.blk g (Array.getElem?_eq_some_iff.1 c).1 (f g rfl)).trans c,h1,h2,h3,h4⟩⟩
theorem Sam.em {R:Nat→Prop} {c:Nat} {ls:List (E4×Value×Nat)} (h:Sam w w' R) (a:EM w r ls c) (b:¬ R r):EM w' r ls c:=(h.blk r (Array.getElem?_eq_some_iff.1 a).1 b).trans a
structure MD where
 a0:List Nat
 b0:List (Nat×Nat)
 a1:List Nat
 b1:List (Nat×Nat)
def mdZ:MD:=⟨[],[],[],[]⟩
def nV (l:List Nat):List Value:=l.map fun (i:Nat)=>I (i:Int)
def pV (l:List (Nat×Nat)):List Value:=l.flatMap fun p=>[I (p.1:Int),I (p.2:Int)]
theorem Zl (l:List Nat) (i:Nat):nV (l ++ [i])=nV l ++ [I (i:Int)]:=by simp [nV]
theorem pV_add (l:List (Nat×Nat)) (p:Nat×Nat):pV (l ++ [p])=pV l ++ [I (p.1:Int),I (p.2:Int)]:=by simp [pV]
structure Ow (w:World) (base:Nat) (s0 s1 s2 s3:Value) (D:MD):Prop where
 o0:w.ownsRow base 3 1 s0 D.a0.length (nV D.a0)
 o1:w.ownsRow base 257 2 s1 D.b0.length (pV D.b0)
 o2:w.ownsRow base 3 1 s2 D.a1.length (nV D.a1)
 o3:w.ownsRow base 257 2 s3 D.b1.length (pV D.b1)
 d0:∀ g,s0.ownBlock=some g→s2.ownBlock≠some g
 d1:∀ g,s1.ownBlock=some g→s3.ownBlock≠some g
def mtB (s0 s1 s2 s3:Value) (k:Nat):Prop:=s0.ownBlock=some k∨s1.ownBlock=some k∨s2.ownBlock=some k∨s3.ownBlock=some k
theorem Ji {e j n s:Nat} {v':Value} {t d:List Value} (h:w.ownsRow base e k v n t) (o:w.ownsRow base j r v' s d) (c:e≠j):∀ g,v.ownBlock=some g→v'.ownBlock≠some g:=by
 intro g hg a;obtain ⟨_,⟨rfl,_⟩ | ⟨q,l,m,rfl,_,p,_⟩⟩:=h
 ·cases hg
 ·obtain ⟨_,⟨rfl,_⟩ | ⟨u,f,i,rfl,_,b,_⟩⟩:=o
  ·cases a
  ·simp only [Value.ownBlock,Option.some.injEq] at hg a;subst hg a;rw [p] at b;simp only [Option.some.injEq,Obj.cells.injEq] at b;exact c b.2.1
theorem ow_zero (w:World) (base:Nat):Ow w base SN SN SN SN mdZ :=
 ⟨World.ownsRow_nil _ _ _ _,World.ownsRow_nil _ _ _ _,World.ownsRow_nil _ _ _ _,World.ownsRow_nil _ _ _ _,(fun g h=>by cases h),(fun g h=>by cases h)⟩
theorem Ow.sam {R:Nat→Prop} {d f:Value} {D:MD} (h:Ow w base b c d f D) (hs:Sam w w' R) (a:∀ k,mtB b c d f k→¬ R k):Ow w' base b c d f D :=
 ⟨hs.own h.o0 fun g e=>a g (Or.inl e),hs.own h.o1 fun g e=>a g (Or.inr (Or.inl e)),hs.own h.o2 fun g e=>a g (Or.inr (Or.inr (Or.inl e))),hs.own h.o3 fun g e=>a g (Or.inr (Or.inr (Or.inr e))),h.d0,h.d1⟩
theorem Ow.low {d:Value} {D:MD} (h:Ow w base a b c d D) (f:mtB a b c d k):base≤k∧k<w.heap.size:=by
 rcases f with e | e | e | e
 ·exact h.o0.lt k e
 ·exact h.o1.lt k e
 ·exact h.o2.lt k e
 ·exact h.o3.lt k e
theorem Sam.set (w:World) (b o:Nat) (u:Value):Sam w (w.setCell ⟨b,o,none⟩ u) (fun k=>k=b):=(Sam.grown (Qg w b o u)).mono fun k _ h=>by simpa using h.symm
theorem Sam.then {w1 a:World} {R Q:Nat→Prop} (h1:Sam w w1 R) (h2:Sam w1 a Q) (hq:∀ k,k<w.heap.size→Q k→R k):Sam w a R:=(h1.trans h2).mono fun k b h=>h.elim id (hq k b)
theorem Ow.put0 {R:Nat→Prop} {D:MD} (h:Ow w base j b a c D) (hs:Sam w d R) (h1:∀ g,b.ownBlock=some g→¬ R g) (h2:∀ g,a.ownBlock=some g→¬ R g) (h3:∀ g,c.ownBlock=some g→¬ R g) {l:List Nat} (i:d.ownsRow base 3 1 t l.length (nV l)) (f:∀ g,t.ownBlock=some g→a.ownBlock≠some g):Ow d base t b a c ⟨l,D.b0,D.a1,D.b1⟩ :=
 ⟨i,hs.own h.o1 h1,hs.own h.o2 h2,hs.own h.o3 h3,fun g e=>f g e,h.d1⟩
theorem Ow.put1 {R:Nat→Prop} {D:MD} (h:Ow w base b j c a D) (hs:Sam w d R) (h0:∀ g,b.ownBlock=some g→¬ R g) (h2:∀ g,c.ownBlock=some g→¬ R g) (h3:∀ g,a.ownBlock=some g→¬ R g) {l:List (Nat×Nat)} (i:d.ownsRow base 257 2 t l.length (pV l)) (f:∀ g,t.ownBlock=some g→a.ownBlock≠some g):Ow d base b t c a ⟨D.a0,l,D.a1,D.b1⟩ :=
 ⟨hs.own h.o0 h0,i,hs.own h.o2 h2,hs.own h.o3 h3,h.d0,fun g e=>f g e⟩
theorem Ow.put2 {R:Nat→Prop} {D:MD} (h:Ow w base a b j c D) (hs:Sam w d R) (h0:∀ g,a.ownBlock=some g→¬ R g) (h1:∀ g,b.ownBlock=some g→¬ R g) (h3:∀ g,c.ownBlock=some g→¬ R g) {l:List Nat} (i:d.ownsRow base 3 1 t l.length (nV l)) (f:∀ g,t.ownBlock=some g→a.ownBlock≠some g):Ow d base a b t c ⟨D.a0,D.b0,l,D.b1⟩ :=
 ⟨hs.own h.o0 h0,hs.own h.o1 h1,i,hs.own h.o3 h3,fun g e q=>f g q e,h.d1⟩
theorem Ow.put3 {R:Nat→Prop} {D:MD} (h:Ow w base b a c j D) (hs:Sam w d R) (h0:∀ g,b.ownBlock=some g→¬ R g) (h1:∀ g,a.ownBlock=some g→¬ R g) (h2:∀ g,c.ownBlock=some g→¬ R g) {l:List (Nat×Nat)} (i:d.ownsRow base 257 2 t l.length (pV l)) (f:∀ g,t.ownBlock=some g→a.ownBlock≠some g):Ow d base b a c t ⟨D.a0,D.b0,D.a1,l⟩ :=
 ⟨hs.own h.o0 h0,hs.own h.o1 h1,hs.own h.o2 h2,i,h.d0,fun g e q=>f g q e⟩
def mtF (D:MD) (near:Nat) (f:Nat×Nat):MD:=if near=0 then ⟨D.a0,D.b0 ++ [f],D.a1,D.b1⟩ else ⟨D.a0,D.b0,D.a1,D.b1 ++ [f]⟩
def mtO (D:MD) (near i j:Nat):MD:=if near=0 then ⟨D.a0 ++ [i],D.b0,D.a1 ++ [j],D.b1⟩ else ⟨D.a0 ++ [j],D.b0,D.a1 ++ [i],D.b1⟩
def mt (D:MD) (kd:Int) (tv:Bool) (near i j:Nat):MD:=if kd=0 then mtO D near i j else mtF D near (fdT kd tv i j)
def MtTo (w w':World) (base:Nat) (s0 s1 s2 s3:Value) (D:MD) (e:Ending):Prop := ∃ t0 t1 t2 t3,e=.returned (.agg #[t0,t1,t2,t3])∧Ow w' base t0 t1 t2 t3 D∧Sam w w' (mtB s0 s1 s2 s3)∧(∀ k,mtB t0 t1 t2 t3 k→mtB s0 s1 s2 s3 k∨w.heap.size≤k)∧Below base w w'
theorem mt_fold1 {n o c:World} {N6 Nt H1:Nat} {l m:Value} {D:MD} {f:Nat×Nat} (a:Ow w base j b l m D) (v:Sam w n (fun k=>b.ownBlock=some k)) (x:n.ownsRow base 257 2 t (D.b0.length+1) (pV D.b0 ++ [I (f.1:Int),I (f.2:Int)])) (hl:t.ownBlock=b.ownBlock∨t.ownBlock=some H1) (r:Sam n o (fun k=>k=N6)) (s:Sam o c (fun k=>k=Nt)) (h6:w.heap.size≤N6) (z:w.heap.size≤Nt) (y:N6<H1) (u:Nt<H1) (hb:Below base w c):MtTo w c base j b l m ⟨D.a0,D.b0 ++ [f],D.a1,D.b1⟩ (.returned (.agg #[j,t,l,m])):=by
 have p:Sam w c (fun k=>b.ownBlock=some k):=(v.then r fun k d e=>by omega).then s fun k d e=>by omega
 have low:∀ g,t.ownBlock=some g→g<w.heap.size∨g=H1:=fun g e=>by
  rcases hl with h | h
  ·rw [h] at e;exact Or.inl (a.o1.lt g e).2
  ·rw [h] at e;simp at e;exact Or.inr e.symm
 have i:c.ownsRow base 257 2 t (D.b0 ++ [f]).length (pV (D.b0 ++ [f])):=by
  rw [List.length_append,pV_add];exact s.own (r.own x fun g e q=>by have:=low g e;omega) fun g e q=>by have:=low g e;omega
 refine ⟨_,_,_,_,rfl,Ow.put1 a p (Ji a.o0 a.o1 τ) (Ji a.o2 a.o1 τ) (fun g e q=>a.d1 g q e) i (fun g e q=>by
   rcases hl with h | h
   ·rw [h] at e;exact a.d1 g e q
   ·rw [h] at e;have:=(a.o3.lt g q).2;simp at e;omega),p.mono fun k _ h=>Or.inr (Or.inl h),fun k d=>?_,hb⟩
 rcases d with e | e | e | e
 ·exact Or.inl (Or.inl e)
 ·rcases hl with h | h
  ·rw [h] at e;exact Or.inl (Or.inr (Or.inl e))
  ·rw [h] at e;simp at e;exact Or.inr γ
 ·exact Or.inl (Or.inr (Or.inr (Or.inl e)))
 ·exact Or.inl (Or.inr (Or.inr (Or.inr e)))
theorem mt_fold3 {n o c:World} {N6 Nt H1:Nat} {l m:Value} {D:MD} {f:Nat×Nat} (a:Ow w base j l m b D) (v:Sam w n (fun k=>b.ownBlock=some k)) (x:n.ownsRow base 257 2 t (D.b1.length+1) (pV D.b1 ++ [I (f.1:Int),I (f.2:Int)])) (hl:t.ownBlock=b.ownBlock∨t.ownBlock=some H1) (r:Sam n o (fun k=>k=N6)) (s:Sam o c (fun k=>k=Nt)) (h6:w.heap.size≤N6) (z:w.heap.size≤Nt) (y:N6<H1) (u:Nt<H1) (hb:Below base w c):MtTo w c base j l m b ⟨D.a0,D.b0,D.a1,D.b1 ++ [f]⟩ (.returned (.agg #[j,l,m,t])):=by
 have p:Sam w c (fun k=>b.ownBlock=some k):=(v.then r fun k d e=>by omega).then s fun k d e=>by omega
 have low:∀ g,t.ownBlock=some g→g<w.heap.size∨g=H1:=fun g e=>by
  rcases hl with h | h
  ·rw [h] at e;exact Or.inl (a.o3.lt g e).2
  ·rw [h] at e;simp at e;exact Or.inr e.symm
 have i:c.ownsRow base 257 2 t (D.b1 ++ [f]).length (pV (D.b1 ++ [f])):=by
  rw [List.length_append,pV_add];exact s.own (r.own x fun g e q=>by have:=low g e;omega) fun g e q=>by have:=low g e;omega
 refine ⟨_,_,_,_,rfl,Ow.put3 a p (Ji a.o0 a.o3 τ) (fun g e q=>a.d1 g e q) (Ji a.o2 a.o3 τ) i (fun g e q=>by
   rcases hl with h | h
   ·rw [h] at e;exact a.d1 g q e
   ·rw [h] at e;have:=(a.o1.lt g q).2;simp at e;omega),p.mono fun k _ h=>Or.inr (Or.inr (Or.inr h)),fun k d=>?_,hb⟩
 rcases d with e | e | e | e
 ·exact Or.inl (Or.inl e)
 ·exact Or.inl (Or.inr (Or.inl e))
 ·exact Or.inl (Or.inr (Or.inr (Or.inl e)))
 ·rcases hl with h | h
  ·rw [h] at e;exact Or.inl (Or.inr (Or.inr (Or.inr e)))
  ·rw [h] at e;simp at e;exact Or.inr γ
def ABv (bh:Nat):Value:=.func (.func 87) #[] #[.pointer (Az bh)]
def Hg (w:World) (bh N:Nat) (h:Nat→Int):Prop := ∃ gh oh ch,At w bh 0 (.slice (Ad gh oh) N ch)∧∀ i,i<N→At w gh (oh+i) (I (h i))
theorem Hg.kept {a:Nat} (k:Hg w a N h) (hb:Bl w w'):Hg w' a N h:=by
 obtain ⟨c,d,b,h1,h2⟩:=k;exact ⟨c,d,b,Qa hb h1,fun i hi=>Qa hb (h2 i hi)⟩
theorem Xs (w:World) (c N a b:Nat) (h:Nat→Int) (j:Hg w c N h) (i:a<N) (hb:b<N) (_o:N≤300) :
  Rt 87 #[I (a:Int),I (b:Int),.pointer (Az c)] w (.bool (decide (h b<h a))):=by
 obtain ⟨n,s,m,h1,h2⟩:=j;have d:=h2 a i;have g:=h2 b hb;obtain ⟨x,e⟩:∃ x,x=h a:=⟨_,rfl⟩;obtain ⟨y,f⟩:∃ y,y=h b:=⟨_,rfl⟩;rw [← e] at d ⊢;rw [← f] at g ⊢;clear e f h2;have p:(a:Int)<(N:Int):=γ;have q:(b:Int)<(N:Int):=γ;have i3:(0:Int)≤(a:Int):=γ;have r:(0:Int)≤(b:Int):=γ;have z1:=Bt h1;have z2:=Bt d;go_enter Tryz.func87,Tryz.ntmps87;go_upto_region 1 with fail
 obtain ⟨k,l⟩:=kcn w;refine wk ?_;repeat (go_big_quiet_step (fail))
 refine kq1 (fun t hq=>?_);clear k l;go_wp2;go_ret;exact ⟨rfl,hq⟩
def arB (h:Nat→Int) (p:Nat×Nat) (i:Nat):Bool:=decide (h p.1<h i) != decide (h p.2<h i)
theorem Vt (w:World) (f N lo hi i:Nat) (h:Nat→Int) (l:Hg w f N h) (h0:lo<N) (h1:hi<N) (h2:i<N) (k:N≤300) :
  Rt 184 #[.agg #[I (lo:Int),I (hi:Int)],I (i:Int),ABv f] w (.bool (arB h (lo,hi) i)):=by
 have CA:Hid (∀ (a b:Nat) (V:World),a<N→b<N→Bl w V→Rt 87 #[I (a:Int),I (b:Int),.pointer (Az f)] V (.bool (decide (h b<h a)))):=fun a b V p hb g=>Xs V f N a b h (l.kept g) p hb k;clear l;obtain ⟨b1,d⟩:∃ b,b=decide (h lo<h i):=⟨_,rfl⟩;obtain ⟨b2,e⟩:∃ b,b=decide (h hi<h i):=⟨_,rfl⟩;have m:Hid (∀ V:World,Bl w V→Rt 87 #[I (i:Int),I (lo:Int),.pointer (Az f)] V (.bool b1)):=fun V g=>by rw [d];exact CA.out i lo V h2 h0 g
 have n:Hid (∀ V:World,Bl w V→Rt 87 #[I (i:Int),I (hi:Int),.pointer (Az f)] V (.bool b2)):=fun V g=>by rw [e];exact CA.out i hi V h2 h1 g
 have o:Hid (arB h (lo,hi) i=(b1 != b2)):=by rw [d,e];rfl
 clear d e CA h0 h1 h2 k;unfold ABv;go_enter Tryz.func184,Tryz.ntmps184;go_upto_region 1 with fail
 refine Qj (fun j hW0=>?_);have c:Hid (Bl w j):=Θ;have s:At j w.heap.size 0 (I (lo:Int)):=η;have t:At j w.heap.size 1 (I (hi:Int)):=η;have z0:=Bt s;clear hW0;obtain ⟨q,r⟩:=kcn j;refine wk ?_;repeat (go_big_quiet_step ((first | (go_at_call 87;(with_reducible exact Qm (m.out _ (Qb c.out (Kin.h _))))) | (go_at_call 87;(with_reducible exact Qm (n.out _ (Qb c.out (Kin.h _))))) | fail)))
 refine kq1 (fun u hq=>?_);clear q r;go_wp2;go_ret;exact ⟨Qs (by rw [o.out];cases b1 <;> cases b2 <;> rfl),Qb c.out hq⟩
theorem misCl_any (w:World) (c f N lo hi:Nat) (h:Nat→Int) (j:Hg w c N h) (g:At w f 0 (ABv c)) (h0:lo<N) (h1:hi<N) (i:N≤300) :
  Rt 186 #[.agg #[I (lo:Int),I (hi:Int)],.pointer (Az f)] w (.bool (decide (h hi<h lo))):=by
 have d:=Hd (fun (V:World) hV=>Xs V c N lo hi h (j.kept hV) h0 h1 i);obtain ⟨b1,a⟩:∃ b,b=decide (h hi<h lo):=⟨_,rfl⟩;rw [← a] at d ⊢;have l:=Bt g;clear a j h0 h1 i;unfold ABv at g;go_enter Tryz.func186,Tryz.ntmps186;go_wp2_with (go_at_call 87;(with_reducible refine (d.out _ Δ).mono ?_);rintro e w1 ⟨rfl,hb⟩;have k:=Hd (Qb β1 hb);clear hb)
 go_ret;exact ⟨rfl,k.out⟩
theorem by_val (w:World) (a:Option Addr) (n c:Nat):Cl 41 #[.slice a n c] w fun e w'=>∃ bf,e=.returned (.func (.func 87) #[] #[.pointer (Az bf)])∧At w' bf 0 (.slice a n c)∧w.heap.size≤bf∧Bl w w':=by
 have b:=Qy;go_enter Tryz.func41,Tryz.ntmps41;go_wp2;go_ret;exact ⟨_,rfl,ζ,Nr _,Qc (Qd _)⟩
structure HX (w:World) (r bf g N cf:Nat) (h:Nat→Int):Prop where
 c:At w bf 0 (.slice (Az g) N cf)
 z:∀ i,i<N→At w g i (I (h i))
 n1:bf≠r
 n2:g≠r
theorem HX.set {b d:Nat} (a:HX w r b g N d h) (o:Nat) (u:Value):HX (w.setCell ⟨r,o,none⟩ u) r b g N d h :=
 ⟨Jt a.c a.n1,fun i hi=>Jt (a.z i hi) a.n2,a.n1,a.n2⟩
theorem HX.kept {b d:Nat} (a:HX w r b g N d h) (hb:Bl w w'):HX w' r b g N d h :=
 ⟨Qa hb a.c,fun i hi=>Qa hb (a.z i hi),a.n1,a.n2⟩
theorem HX.dr {a b:Nat} (c:HX w r a g N b h):HX w.drew r a g N b h:=c.kept (Qe (Qd _))
def FSh (f:Value):Prop:=f=.nilFunc∨∃ bf:Nat,f=.func (.func 87) #[] #[.pointer (Az bf)]
def OfNf (w w':World) (e:Ending):Prop := ∃ z0 k0 d0 m1 m2 z3 k3 d3 z4 k4 d4 f,e=.returned (.tuple #[.agg #[.slice z0 k0 d0,.map m1,.map m2,.slice z3 k3 d3,.slice z4 k4 d4],f,.bool false])∧Bl w w'∧FSh f
def FRow (w:World) (a:Option Addr) (l:List (Nat×Nat)):Prop := ∀ i (h:i<l.length),∃ g,a=Az g∧At w g (i*2) (I (l[i].1:Int))∧At w g (i*2+1) (I (l[i].2:Int))
def IRow (w:World) (a:Option Addr) (l:List Nat):Prop := ∀ i (h:i<l.length),∃ g,a=Az g∧At w g i (I (l[i]:Int))
theorem FRow.kept {a:Option Addr} {l:List (Nat×Nat)} (h:FRow w a l) (hb:Bl w w'):FRow w' a l:=fun i hi=>by
 obtain ⟨g,e,h0,h1⟩:=h i hi;exact ⟨g,e,Qa hb h0,Qa hb h1⟩
theorem IRow.kept {a:Option Addr} {l:List Nat} (h:IRow w a l) (hb:Bl w w'):IRow w' a l:=fun i hi=>by
 obtain ⟨g,e,h0⟩:=h i hi;exact ⟨g,e,Qa hb h0⟩
theorem FRow.take {a:Option Addr} {l:List (Nat×Nat)} (h:FRow w a l) (n:Nat):FRow w a (l.take n):=fun i hi=>by
 rw [List.length_take] at hi;obtain ⟨g,e,h0,h1⟩:=h i γ;simp only [List.getElem_take];exact ⟨g,e,h0,h1⟩
structure AnyL {α:Type} (l:List α) (pr : α→Bool):Prop where
 out:l.any pr=true
theorem add0M (g j:Nat):(⟨g,0,none⟩:Addr).add j=⟨g,j,none⟩:=by
 cases j with
 | zero=>rfl
 | succ j=>simp [Addr.add]
theorem pV_at:∀ (l:List (Nat×Nat)) (i:Nat) (h:i<l.length),(pV l)[i*2]?=some (I (l[i].1:Int))∧(pV l)[i*2+1]?=some (I (l[i].2:Int))
 | p :: l,0,_=>by simp [pV]
 | p :: l,i+1,h=>by
  have:=pV_at l i (by simpa using h);have e:pV (p :: l)=I (p.1:Int) :: I (p.2:Int) :: pV l:=by simp [pV]
  rw [e,show (i+1)*2=i*2+1+1 by omega];simpa using this
theorem own_frow {c:Nat} {a:Option Addr} {l:List (Nat×Nat)} (h:w.ownsRow base 257 2 (.slice a l.length c) l.length (pV l)):FRow w a l:=fun i hi=>by
 rcases h.2 with ⟨_,h0⟩ | ⟨g,f,j,b,_,k,h1,h2,h3,h4⟩
 ·omega
 ·simp only [Value.slice.injEq] at b;have hg:(Value.slice a l.length c).ownBlock=some g:=by rw [b.1];rfl
  have d:=h.cells hg;have e:=pV_at l i hi;refine ⟨g,b.1, ?_, ?_⟩
  ·have:=d _ _ e.1;rw [add0M] at this;exact this
  ·have:=d _ _ e.2;rw [add0M] at this;exact this
theorem own_irow {c:Nat} {a:Option Addr} {l:List Nat} (h:w.ownsRow base 3 1 (.slice a l.length c) l.length (nV l)):IRow w a l:=fun i hi=>by
 rcases h.2 with ⟨_,h0⟩ | ⟨g,d,f,b,_,k,h1,h2,h3,h4⟩
 ·omega
 ·simp only [Value.slice.injEq] at b;have hg:(Value.slice a l.length c).ownBlock=some g:=by rw [b.1];rfl
  have j:=h.cells hg;have e:(nV l)[i]?=some (I (l[i]:Int)):=by simp [nV,hi]
  refine ⟨g,b.1, ?_⟩;have:=j _ _ e;rw [add0M] at this;exact this
theorem indexMis_any (w:World) (a:Option Addr) (m c k0:Nat) (l:List (Nat×Nat)) (o:(Nat×Nat)→Bool) (hl:FRow w a l) (x:m=l.length) (hb:m≤100000000)
  (y:Hid (∀ (V:World) (p:(Nat×Nat)),Bl w V→p∈l→Rt 186 #[.agg #[I (p.1:Int),I (p.2:Int)],.pointer (Az k0)] V (.bool (o p)))) :
  Cl 223 #[.slice a m c,.func (.func 186) #[] #[.pointer (Az k0)]] w fun e w'=>(∃ n:Int,e=.returned (I n)∧Hid (0≤n↔AnyL l o))∧Bl w w':=by
 have s:=H2 hl x;clear hl x;go_enter Tryz.func223,Tryz.ntmps223;go_wp2;go_loopg [8] m (fun z D E=>∃ i:Nat,i≤m∧z=m - i∧D=I (i:Int)∧Hid (∀ j (h:j<l.length),j<i→o l[j]=false)∧Bl w E)
 case atStart=>exact ⟨0,γ,rfl,rfl,fun j h h2=>by omega,Qd _⟩
 case round =>
  obtain ⟨i,hi,rfl,rfl,q,v⟩:=hrel;have k:=Hd v;clear v;by_cases h1:i<m
  ·have C:(i:Int)<(m:Int):=γ;have F:(0:Int)≤(i:Int):=γ;have f:i<l.length:=s.out.2 ▸ h1;obtain ⟨g,rfl,c0,c1⟩:=(s.out.1.kept k.out) i f;obtain ⟨lo,hi,hp⟩:∃ lo hi,l[i]=(lo,hi):=⟨_,_,rfl⟩;rw [hp] at c0 c1;dsimp only at c0 c1;have r:Hid (∀ V:World,Bl w V→Rt 186 #[.agg #[I (lo:Int),I (hi:Int)],.pointer (Az k0)] V (.bool (o (lo,hi)))):=fun V A=>y.out V (lo,hi) A (hp ▸ Lm f);have u:=Hd hp;clear hp
   cases hb2:o (lo,hi)
   ·rw [hb2] at r;go_wp2_with (go_at_call 186;(with_reducible refine (r.out _ k.out).mono ?_);rintro e w1 ⟨rfl,b⟩;have d:=Hd (Qb k.out b);clear b)
    go_roundg (m - (i+1))
    case measure=>omega
    case rel =>
     refine ⟨i+1,γ,rfl,σ,fun j t B=>?_,d.out⟩;by_cases e:j=i
     ·subst e;rw [u.out];exact hb2
     ·exact q.out j t γ
   ·rw [hb2] at r;go_wp2_with (go_at_call 186;(with_reducible refine (r.out _ k.out).mono ?_);rintro e w1 ⟨rfl,b⟩;have d:=Hd (Qb k.out b);clear b)
    try rw [Exit.noGoto_ret]
    go_ret;exact ⟨⟨_,rfl,⟨fun _=>AnyL.mk (List.any_eq_true.2 ⟨_,Lm f,by rw [u.out];exact hb2⟩),fun _=>by omega⟩⟩,d.out⟩
  ·have C:¬ (i:Int)<(m:Int):=γ;go_wp2;go_ret;refine ⟨⟨_,rfl,⟨fun h=>by omega,fun h=>?_⟩⟩,k.out⟩;obtain ⟨p,hp,hq⟩:=List.any_eq_true.1 (show l.any o=true from h.out);obtain ⟨j,t,rfl⟩:=List.mem_iff_getElem.1 hp;have:=q.out j t (by have:=s.out.2;omega);rw [this] at hq
   cases hq
theorem Gf (w:World) (a:Option Addr) (m c k0:Nat) (l:List (Nat×Nat)) (d:(Nat×Nat)→Bool) (hl:FRow w a l) (i:m=l.length) (hb:m≤100000000)
  (g:Hid (∀ (V:World) (p:(Nat×Nat)),Bl w V→p∈l→Rt 186 #[.agg #[I (p.1:Int),I (p.2:Int)],.pointer (Az k0)] V (.bool (d p)))) :
  Rt 181 #[.slice a m c,.func (.func 186) #[] #[.pointer (Az k0)]] w (.bool (l.any d)):=by
 have CI:=Hd (indexMis_any w a m c k0 l d hl i hb g);clear g hl i hb;go_enter Tryz.func181,Tryz.ntmps181;go_wp2_with (go_at_call 223;(with_reducible refine CI.out.mono ?_);rintro e w1 ⟨⟨n,rfl,j⟩,b⟩;have f:=Hd b;clear b)
 go_ret;refine ⟨Qs ?_,f.out⟩;by_cases h:0≤n
 ·rw [decide_eq_true h];exact (j.out.1 h).out.symm
 ·rw [decide_eq_false h]
  cases hq:l.any d
  ·rfl
  ·exact absurd (j.out.2 (AnyL.mk hq)) h
theorem indexPie_any (w:World) (a:Option Addr) (m c k0 k1:Nat) (l:List (Nat×Nat)) (o:(Nat×Nat)→Bool) (hl:FRow w a l) (x:m=l.length) (hb:m≤100000000)
  (y:Hid (∀ (V:World) (p:(Nat×Nat)),Bl w V→p∈l→Rt 182 #[.agg #[I (p.1:Int),I (p.2:Int)],.pointer (Az k0),.pointer (Az k1)] V (.bool (o p)))) :
  Cl 223 #[.slice a m c,.func (.func 182) #[] #[.pointer (Az k0),.pointer (Az k1)]] w fun e w'=>(∃ n:Int,e=.returned (I n)∧Hid (0≤n↔AnyL l o))∧Bl w w':=by
 have s:=H2 hl x;clear hl x;go_enter Tryz.func223,Tryz.ntmps223;go_wp2;go_loopg [8] m (fun z D E=>∃ i:Nat,i≤m∧z=m - i∧D=I (i:Int)∧Hid (∀ j (h:j<l.length),j<i→o l[j]=false)∧Bl w E)
 case atStart=>exact ⟨0,γ,rfl,rfl,fun j h h2=>by omega,Qd _⟩
 case round =>
  obtain ⟨i,hi,rfl,rfl,q,v⟩:=hrel;have k:=Hd v;clear v;by_cases h1:i<m
  ·have C:(i:Int)<(m:Int):=γ;have F:(0:Int)≤(i:Int):=γ;have f:i<l.length:=s.out.2 ▸ h1;obtain ⟨g,rfl,c0,c1⟩:=(s.out.1.kept k.out) i f;obtain ⟨lo,hi,hp⟩:∃ lo hi,l[i]=(lo,hi):=⟨_,_,rfl⟩;rw [hp] at c0 c1;dsimp only at c0 c1;have r:Hid (∀ V:World,Bl w V→Rt 182 #[.agg #[I (lo:Int),I (hi:Int)],.pointer (Az k0),.pointer (Az k1)] V (.bool (o (lo,hi)))):=fun V A=>y.out V (lo,hi) A (hp ▸ Lm f);have u:=Hd hp;clear hp
   cases hb2:o (lo,hi)
   ·rw [hb2] at r;go_wp2_with (go_at_call 182;(with_reducible refine (r.out _ k.out).mono ?_);rintro e w1 ⟨rfl,b⟩;have d:=Hd (Qb k.out b);clear b)
    go_roundg (m - (i+1))
    case measure=>omega
    case rel =>
     refine ⟨i+1,γ,rfl,σ,fun j t B=>?_,d.out⟩;by_cases e:j=i
     ·subst e;rw [u.out];exact hb2
     ·exact q.out j t γ
   ·rw [hb2] at r;go_wp2_with (go_at_call 182;(with_reducible refine (r.out _ k.out).mono ?_);rintro e w1 ⟨rfl,b⟩;have d:=Hd (Qb k.out b);clear b)
    try rw [Exit.noGoto_ret]
    go_ret;exact ⟨⟨_,rfl,⟨fun _=>AnyL.mk (List.any_eq_true.2 ⟨_,Lm f,by rw [u.out];exact hb2⟩),fun _=>by omega⟩⟩,d.out⟩
  ·have C:¬ (i:Int)<(m:Int):=γ;go_wp2;go_ret;refine ⟨⟨_,rfl,⟨fun h=>by omega,fun h=>?_⟩⟩,k.out⟩;obtain ⟨p,hp,hq⟩:=List.any_eq_true.1 (show l.any o=true from h.out);obtain ⟨j,t,rfl⟩:=List.mem_iff_getElem.1 hp;have:=q.out j t (by have:=s.out.2;omega);rw [this] at hq
   cases hq
theorem Ge (w:World) (a:Option Addr) (m c k0 k1:Nat) (l:List (Nat×Nat)) (d:(Nat×Nat)→Bool) (hl:FRow w a l) (i:m=l.length) (hb:m≤100000000)
  (g:Hid (∀ (V:World) (p:(Nat×Nat)),Bl w V→p∈l→Rt 182 #[.agg #[I (p.1:Int),I (p.2:Int)],.pointer (Az k0),.pointer (Az k1)] V (.bool (d p)))) :
  Rt 181 #[.slice a m c,.func (.func 182) #[] #[.pointer (Az k0),.pointer (Az k1)]] w (.bool (l.any d)):=by
 have CI:=Hd (indexPie_any w a m c k0 k1 l d hl i hb g);clear g hl i hb;go_enter Tryz.func181,Tryz.ntmps181;go_wp2_with (go_at_call 223;(with_reducible refine CI.out.mono ?_);rintro e w1 ⟨⟨n,rfl,j⟩,b⟩;have f:=Hd b;clear b)
 go_ret;refine ⟨Qs ?_,f.out⟩;by_cases h:0≤n
 ·rw [decide_eq_true h];exact (j.out.1 h).out.symm
 ·rw [decide_eq_false h]
  cases hq:l.any d
  ·rfl
  ·exact absurd (j.out.2 (AnyL.mk hq)) h
theorem indexTan_any (w:World) (a:Option Addr) (m c k0 k1:Nat) (l:List (Nat×Nat)) (o:(Nat×Nat)→Bool) (hl:FRow w a l) (x:m=l.length) (hb:m≤100000000)
  (y:Hid (∀ (V:World) (p:(Nat×Nat)),Bl w V→p∈l→Rt 185 #[.agg #[I (p.1:Int),I (p.2:Int)],.pointer (Az k0),.pointer (Az k1)] V (.bool (o p)))) :
  Cl 223 #[.slice a m c,.func (.func 185) #[] #[.pointer (Az k0),.pointer (Az k1)]] w fun e w'=>(∃ n:Int,e=.returned (I n)∧Hid (0≤n↔AnyL l o))∧Bl w w':=by
 have s:=H2 hl x;clear hl x;go_enter Tryz.func223,Tryz.ntmps223;go_wp2;go_loopg [8] m (fun z D E=>∃ i:Nat,i≤m∧z=m - i∧D=I (i:Int)∧Hid (∀ j (h:j<l.length),j<i→o l[j]=false)∧Bl w E)
 case atStart=>exact ⟨0,γ,rfl,rfl,fun j h h2=>by omega,Qd _⟩
 case round =>
  obtain ⟨i,hi,rfl,rfl,q,v⟩:=hrel;have k:=Hd v;clear v;by_cases h1:i<m
  ·have C:(i:Int)<(m:Int):=γ;have F:(0:Int)≤(i:Int):=γ;have f:i<l.length:=s.out.2 ▸ h1;obtain ⟨g,rfl,c0,c1⟩:=(s.out.1.kept k.out) i f;obtain ⟨lo,hi,hp⟩:∃ lo hi,l[i]=(lo,hi):=⟨_,_,rfl⟩;rw [hp] at c0 c1;dsimp only at c0 c1;have r:Hid (∀ V:World,Bl w V→Rt 185 #[.agg #[I (lo:Int),I (hi:Int)],.pointer (Az k0),.pointer (Az k1)] V (.bool (o (lo,hi)))):=fun V A=>y.out V (lo,hi) A (hp ▸ Lm f);have u:=Hd hp;clear hp
   cases hb2:o (lo,hi)
   ·rw [hb2] at r;go_wp2_with (go_at_call 185;(with_reducible refine (r.out _ k.out).mono ?_);rintro e w1 ⟨rfl,b⟩;have d:=Hd (Qb k.out b);clear b)
    go_roundg (m - (i+1))
    case measure=>omega
    case rel =>
     refine ⟨i+1,γ,rfl,σ,fun j t B=>?_,d.out⟩;by_cases e:j=i
     ·subst e;rw [u.out];exact hb2
     ·exact q.out j t γ
   ·rw [hb2] at r;go_wp2_with (go_at_call 185;(with_reducible refine (r.out _ k.out).mono ?_);rintro e w1 ⟨rfl,b⟩;have d:=Hd (Qb k.out b);clear b)
    try rw [Exit.noGoto_ret]
    go_ret;exact ⟨⟨_,rfl,⟨fun _=>AnyL.mk (List.any_eq_true.2 ⟨_,Lm f,by rw [u.out];exact hb2⟩),fun _=>by omega⟩⟩,d.out⟩
  ·have C:¬ (i:Int)<(m:Int):=γ;go_wp2;go_ret;refine ⟨⟨_,rfl,⟨fun h=>by omega,fun h=>?_⟩⟩,k.out⟩;obtain ⟨p,hp,hq⟩:=List.any_eq_true.1 (show l.any o=true from h.out);obtain ⟨j,t,rfl⟩:=List.mem_iff_getElem.1 hp;have:=q.out j t (by have:=s.out.2;omega);rw [this] at hq
   cases hq
theorem Gd (w:World) (a:Option Addr) (m c k0 k1:Nat) (l:List (Nat×Nat)) (d:(Nat×Nat)→Bool) (hl:FRow w a l) (i:m=l.length) (hb:m≤100000000)
  (g:Hid (∀ (V:World) (p:(Nat×Nat)),Bl w V→p∈l→Rt 185 #[.agg #[I (p.1:Int),I (p.2:Int)],.pointer (Az k0),.pointer (Az k1)] V (.bool (d p)))) :
  Rt 181 #[.slice a m c,.func (.func 185) #[] #[.pointer (Az k0),.pointer (Az k1)]] w (.bool (l.any d)):=by
 have CI:=Hd (indexTan_any w a m c k0 k1 l d hl i hb g);clear g hl i hb;go_enter Tryz.func181,Tryz.ntmps181;go_wp2_with (go_at_call 223;(with_reducible refine CI.out.mono ?_);rintro e w1 ⟨⟨n,rfl,j⟩,b⟩;have f:=Hd b;clear b)
 go_ret;refine ⟨Qs ?_,f.out⟩;by_cases h:0≤n
 ·rw [decide_eq_true h];exact (j.out.1 h).out.symm
 ·rw [decide_eq_false h]
  cases hq:l.any d
  ·rfl
  ·exact absurd (j.out.2 (AnyL.mk hq)) h
theorem indexInt_any (w:World) (a:Option Addr) (m c k0 k1:Nat) (l:List Nat) (o:Nat→Bool) (hl:IRow w a l) (x:m=l.length) (hb:m≤100000000)
  (y:Hid (∀ (V:World) (p:Nat),Bl w V→p∈l→Rt 183 #[I (p:Int),.pointer (Az k0),.pointer (Az k1)] V (.bool (o p)))) :
  Cl 157 #[.slice a m c,.func (.func 183) #[] #[.pointer (Az k0),.pointer (Az k1)]] w fun e w'=>(∃ n:Int,e=.returned (I n)∧Hid (0≤n↔AnyL l o))∧Bl w w':=by
 have s:=H2 hl x;clear hl x;go_enter Tryz.func157,Tryz.ntmps157;go_wp2;go_loopg [8] m (fun z D E=>∃ i:Nat,i≤m∧z=m - i∧D=I (i:Int)∧Hid (∀ j (h:j<l.length),j<i→o l[j]=false)∧Bl w E)
 case atStart=>exact ⟨0,γ,rfl,rfl,fun j h h2=>by omega,Qd _⟩
 case round =>
  obtain ⟨i,hi,rfl,rfl,q,v⟩:=hrel;have k:=Hd v;clear v;by_cases h1:i<m
  ·have C:(i:Int)<(m:Int):=γ;have F:(0:Int)≤(i:Int):=γ;have f:i<l.length:=s.out.2 ▸ h1;obtain ⟨g,rfl,c0⟩:=(s.out.1.kept k.out) i f;obtain ⟨lo,hp⟩:∃ lo,l[i]=lo:=⟨_,rfl⟩;rw [hp] at c0;skip
   have r:Hid (∀ V:World,Bl w V→Rt 183 #[I (lo:Int),.pointer (Az k0),.pointer (Az k1)] V (.bool (o lo))):=fun V A=>y.out V lo A (hp ▸ Lm f);have u:=Hd hp;clear hp
   cases hb2:o lo
   ·rw [hb2] at r;go_wp2_with (go_at_call 183;(with_reducible refine (r.out _ k.out).mono ?_);rintro e w1 ⟨rfl,b⟩;have d:=Hd (Qb k.out b);clear b)
    go_roundg (m - (i+1))
    case measure=>omega
    case rel =>
     refine ⟨i+1,γ,rfl,σ,fun j t B=>?_,d.out⟩;by_cases e:j=i
     ·subst e;rw [u.out];exact hb2
     ·exact q.out j t γ
   ·rw [hb2] at r;go_wp2_with (go_at_call 183;(with_reducible refine (r.out _ k.out).mono ?_);rintro e w1 ⟨rfl,b⟩;have d:=Hd (Qb k.out b);clear b)
    try rw [Exit.noGoto_ret]
    go_ret;exact ⟨⟨_,rfl,⟨fun _=>AnyL.mk (List.any_eq_true.2 ⟨_,Lm f,by rw [u.out];exact hb2⟩),fun _=>by omega⟩⟩,d.out⟩
  ·have C:¬ (i:Int)<(m:Int):=γ;go_wp2;go_ret;refine ⟨⟨_,rfl,⟨fun h=>by omega,fun h=>?_⟩⟩,k.out⟩;obtain ⟨p,hp,hq⟩:=List.any_eq_true.1 (show l.any o=true from h.out);obtain ⟨j,t,rfl⟩:=List.mem_iff_getElem.1 hp;have:=q.out j t (by have:=s.out.2;omega);rw [this] at hq
   cases hq
theorem Gg (w:World) (a:Option Addr) (m c k0 k1:Nat) (l:List Nat) (d:Nat→Bool) (hl:IRow w a l) (i:m=l.length) (hb:m≤100000000)
  (g:Hid (∀ (V:World) (p:Nat),Bl w V→p∈l→Rt 183 #[I (p:Int),.pointer (Az k0),.pointer (Az k1)] V (.bool (d p)))) :
  Rt 121 #[.slice a m c,.func (.func 183) #[] #[.pointer (Az k0),.pointer (Az k1)]] w (.bool (l.any d)):=by
 have CI:=Hd (indexInt_any w a m c k0 k1 l d hl i hb g);clear g hl i hb;go_enter Tryz.func121,Tryz.ntmps121;go_wp2_with (go_at_call 157;(with_reducible refine CI.out.mono ?_);rintro e w1 ⟨⟨n,rfl,j⟩,b⟩;have f:=Hd b;clear b)
 go_ret;refine ⟨Qs ?_,f.out⟩;by_cases h:0≤n
 ·rw [decide_eq_true h];exact (j.out.1 h).out.symm
 ·rw [decide_eq_false h]
  cases hq:l.any d
  ·rfl
  ·exact absurd (j.out.2 (AnyL.mk hq)) h
end Go.Proofs.YtbjmnlefkbhbdaaGreatDoor
