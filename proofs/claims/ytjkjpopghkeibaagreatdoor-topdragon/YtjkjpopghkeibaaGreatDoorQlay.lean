/- A part of it. -/
import Derived.Test.YtjkjpopghkeibaaGreatDoorQlav
set_option maxRecDepth 100000
set_option maxHeartbeats 40000000
namespace Go.Proofs.YtjkjpopghkeibaaGreatDoor
open Go.RowKit
variable {w:World} {a:Option Addr}
theorem inf271:(Tryz.prog.info? 216).map (fun i=>(i.zero,i.size,i.bytes))=some (some (.agg #[I 0,I 0]),2,16):=η
theorem Gh (w:World) (T:TypeId) (a b:Int):∀ j u,([I a,I b])[j]?=some u→(w.alloc (.cells #[I a,I b] T)).cell? ((⟨w.heap.size,0,none⟩:Addr).add j)=some u:=by
 intro j u c;match j with
 | 0=>simp at c;subst c;simp [go_sem,Addr.add]
 | 1=>simp at c;subst c;simp [go_sem,Addr.add]
 | j+2=>simp at c
theorem two_one (a b:Int):∀ u ∈ [I a,I b],u.oneCell'=true:=by
 intro u c;simp at c;rcases c with rfl | rfl <;> rfl
theorem met_fold (w:World) (base n W Z rk gm cm pc:Nat) (U pa a0 a1 a2 a3:Option Addr) (c0 c1 c2 c3:Nat) (p q r s A B C E:Int) (i j Y lo hi:Nat) (kd:Int) (D:MD) (hO:Ow w base (.slice a0 D.a0.length c0) (.slice a1 D.b0.length c1) (.slice a2 D.a1.length c2) (.slice a3 D.b1.length c3) D) (hb:base≤w.heap.size) (hn:Y=0∨Y=1) (hk:kd≠0) (h1:D.b0.length≤100000000) (h2:D.b1.length≤100000000)
  (CS:Hid (∀ V:World,Bl w V→Rt 142 #[.agg #[.slice U n W,.map (some Z),.map (some rk),.slice (Az gm) n cm,.slice pa n pc],.agg #[I p,I q,I r,I s],I (i:Int)] V (I (Y:Int))))
  (CK:Hid (∀ V:World,Bl w V→Rt 48 #[.agg #[.slice U n W,.map (some Z),.map (some rk)],.agg #[I A,I B,I C,I E]] V (I kd)))
  (CF:Hid (∀ V:World,Bl w V→Rt 143 #[.agg #[.slice U n W,.map (some Z),.map (some rk),.slice (Az gm) n cm,.slice pa n pc],I kd,I (i:Int),I (j:Int)] V (.agg #[I (lo:Int),I (hi:Int)]))) :
  Cl 104 #[.agg #[.slice U n W,.map (some Z),.map (some rk),.slice (Az gm) n cm,.slice pa n pc],.agg #[.slice a0 D.a0.length c0,.slice a1 D.b0.length c1,.slice a2 D.a1.length c2,.slice a3 D.b1.length c3],.agg #[I p,I q,I r,I s],I (i:Int),.agg #[I A,I B,I C,I E,I (j:Int)]] w fun e w'=>MtTo w w' base (.slice a0 D.a0.length c0) (.slice a1 D.b0.length c1) (.slice a2 D.a1.length c2) (.slice a3 D.b1.length c3) (mtF D Y (lo,hi)) e:=by
 have T:=H2 hO hb;obtain ⟨aw,hi,ar,au,av⟩:=info_parts inf271;have HI:=H4 hi ar au av;clear hO hb hi ar au av;have qk:(kd != 0)=true:=by simpa using hk
 clear hk;go_enter Tryz.func104,Tryz.ntmps104;go_upto_region 1 with fail
 refine Qi (fun l hW0=>?_)
 have ak:Hid (Bl w l):=by
  rw [hW0];exact Qb β4
 have p0:At l w.heap.size 0 (.slice U n W):=ν;have p1:At l w.heap.size 1 (.map (some Z)):=ν;have p2:At l w.heap.size 2 (.map (some rk)):=ν;have p3:At l w.heap.size 3 (.slice (Az gm) n cm):=ν;have p4:At l w.heap.size 4 (.slice pa n pc):=ν;have m0:At l (w.heap.size+1) 0 (.slice a0 D.a0.length c0):=ν;have m1:At l (w.heap.size+1) 1 (.slice a1 D.b0.length c1):=ν;have m2:At l (w.heap.size+1) 2 (.slice a2 D.a1.length c2):=ν;have m3:At l (w.heap.size+1) 3 (.slice a3 D.b1.length c3):=ν;have jt:At l (w.heap.size+1+1+1) 4 (I (j:Int)):=ν;have r0:At l (w.heap.size+1+1+1+1) 0 SN:=ν;have r1:At l (w.heap.size+1+1+1+1) 1 SN:=ν;have r2:At l (w.heap.size+1+1+1+1) 2 SN:=ν;have r3:At l (w.heap.size+1+1+1+1) 3 SN:=ν;have f0:l.frozen? ⟨w.heap.size+1+1+1+1,0,none⟩=false:=ν;have g0:l.frozen? ⟨w.heap.size+1,0,none⟩=false:=ν;have f1:l.frozen? ⟨w.heap.size+1+1+1+1,1,none⟩=false:=ν;have g1:l.frozen? ⟨w.heap.size+1,1,none⟩=false:=ν;have f2:l.frozen? ⟨w.heap.size+1+1+1+1,2,none⟩=false:=ν;have g2:l.frozen? ⟨w.heap.size+1,2,none⟩=false:=ν;have f3:l.frozen? ⟨w.heap.size+1+1+1+1,3,none⟩=false:=ν;have g3:l.frozen? ⟨w.heap.size+1,3,none⟩=false:=ν;have q0:At l (w.heap.size+1+1) 0 (I p):=ν;have q1:At l (w.heap.size+1+1) 1 (I q):=ν;have q2:At l (w.heap.size+1+1) 2 (I r):=ν;have q3:At l (w.heap.size+1+1) 3 (I s):=ν;have j0:At l (w.heap.size+1+1+1) 0 (I A):=ν;have j1:At l (w.heap.size+1+1+1) 1 (I B):=ν;have j2:At l (w.heap.size+1+1+1) 2 (I C):=ν;have j3:At l (w.heap.size+1+1+1) 3 (I E):=ν;have z0:l.heap.size=w.heap.size+5:=by rw [hW0];simp
 clear hW0;have aq:Hid (∀ V:World,Bl l V→Rt 142 #[.agg #[.slice U n W,.map (some Z),.map (some rk),.slice (Az gm) n cm,.slice pa n pc],.agg #[I p,I q,I r,I s],I (i:Int)] V (I (Y:Int))):=fun V F=>CS.out V (Qc ak.out F);have ap:Hid (∀ V:World,Bl l V→Rt 48 #[.agg #[.slice U n W,.map (some Z),.map (some rk)],.agg #[I A,I B,I C,I E]] V (I kd)):=fun V F=>CK.out V (Qc ak.out F);obtain ⟨kc,kn⟩:=kcn l;have y0:w.heap.size<l.heap.size:=γ;have y1:w.heap.size+1+1<l.heap.size:=γ;have y2:w.heap.size+1+1+1<l.heap.size:=γ;refine wk ?_;repeat (go_big_quiet_step ((first | (go_at_call 142;exact Qf (aq.out _ (Kin.h _))) | (go_at_call 48;exact Qf (ap.out _ (Kin.h _))) | fail)))
 refine kq1 (fun wq hq=>?_);clear kc kn aq ap CS CK q0 q1 q2 q3 j0 j1 j2 j3;replace p0:=Qa hq p0;replace p1:=Qa hq p1;replace p2:=Qa hq p2;replace p3:=Qa hq p3;replace p4:=Qa hq p4;replace m0:=Qa hq m0;replace m1:=Qa hq m1;replace m2:=Qa hq m2;replace m3:=Qa hq m3;replace jt:=Qa hq jt;replace r0:=Qa hq r0;replace r1:=Qa hq r1;replace r2:=Qa hq r2;replace r3:=Qa hq r3;replace f0:Fn wq (w.heap.size+1+1+1+1) 0:=(hq.frozen θ).trans f0;replace g0:Fn wq (w.heap.size+1) 0:=(hq.frozen θ).trans g0;replace f1:Fn wq (w.heap.size+1+1+1+1) 1:=(hq.frozen θ).trans f1;replace g1:Fn wq (w.heap.size+1) 1:=(hq.frozen θ).trans g1;replace f2:Fn wq (w.heap.size+1+1+1+1) 2:=(hq.frozen θ).trans f2;replace g2:Fn wq (w.heap.size+1) 2:=(hq.frozen θ).trans g2;replace f3:Fn wq (w.heap.size+1+1+1+1) 3:=(hq.frozen θ).trans f3;replace g3:Fn wq (w.heap.size+1) 3:=(hq.frozen θ).trans g3;have a8:=Hd (Qc ak.out hq);have zq:w.heap.size+5≤wq.heap.size:=by have:=hq.size;omega
 clear hq ak z0 y0 y1 y2;go_upto_region 3 with fail
 rcases hn with rfl | rfl
 ·have HS:Hid (∀ V:World,Bl wq V→(fun w'=>At w' w.heap.size 0 (.slice U n W)∧At w' w.heap.size 1 (.map (some Z))∧At w' w.heap.size 2 (.map (some rk))∧At w' w.heap.size 3 (.slice (Az gm) n cm)∧At w' w.heap.size 4 (.slice pa n pc)∧At w' (w.heap.size+1) 0 (.slice a0 D.a0.length c0)∧At w' (w.heap.size+1) 1 (.slice a1 D.b0.length c1)∧At w' (w.heap.size+1) 2 (.slice a2 D.a1.length c2)∧At w' (w.heap.size+1) 3 (.slice a3 D.b1.length c3)∧At w' (w.heap.size+1+1+1) 4 (I (j:Int))) V):=fun V F=>⟨Qa F p0,Qa F p1,Qa F p2,Qa F p3,Qa F p4,Qa F m0,Qa F m1,Qa F m2,Qa F m3,Qa F jt⟩;refine Jz (S:=fun w'=>At w' w.heap.size 0 (.slice U n W)∧At w' w.heap.size 1 (.map (some Z))∧At w' w.heap.size 2 (.map (some rk))∧At w' w.heap.size 3 (.slice (Az gm) n cm)∧At w' w.heap.size 4 (.slice pa n pc)∧At w' (w.heap.size+1) 0 (.slice a0 D.a0.length c0)∧At w' (w.heap.size+1) 1 (.slice a1 D.b0.length c1)∧At w' (w.heap.size+1) 2 (.slice a2 D.a1.length c2)∧At w' (w.heap.size+1) 3 (.slice a3 D.b1.length c3)∧At w' (w.heap.size+1+1+1) 4 (I (j:Int))) (late:=fun j=>decide (j=15)) η ?_;have g:=HS.out _ (Qg (Qe wq));refine Lk 0 (I 0) g ?_;refine Lk 1 (I 0) g ?_;refine Lk 2 (.pointer (Az (w.heap.size+1))) g ?_;refine Lk 3 (.pointer (Ad (w.heap.size+1) 1)) g ?_;refine Lk 4 (.slice a1 D.b0.length c1) g ?_;refine Lk 5 (.agg #[.slice U n W,.map (some Z),.map (some rk),.slice (Az gm) n cm,.slice pa n pc]) g ?_;refine Lk 6 (I kd) g ?_;refine Lk 7 (I (i:Int)) g ?_;refine Lk 8 (.pointer (Ad (w.heap.size+1+1+1) 4)) g ?_;refine Lk 9 (I (j:Int)) g ?_;refine Lt.one (i:=10) η rfl rfl ?_;refine Qag 143 #[.agg #[.slice U n W,.map (some Z),.map (some rk),.slice (Az gm) n cm,.slice pa n pc],I kd,I (i:Int),I (j:Int)] η (CF.out _ (Qg a8.out)) ?_;rintro e w1 ⟨rfl,aj⟩;have d:Hid (Bl wq w1):=Qc (Qg (Qe _)) aj;clear aj;refine ⟨_,rfl,fun _=>HS.out _ d.out, ?_⟩;try simp only [Ap]
  refine Lt.one (i:=11) η rfl rfl ?_;go_simp;refine ⟨HS.out _ (Qb d.out), ?_⟩;have x:Bl w (w1.alloc (.cells #[I (lo:Int),I (hi:Int)] 216)):=Qb (Qc a8.out d.out);have ay:w.heap.size+5≤w1.heap.size:=by have:=d.out.size;omega
  obtain ⟨u,m,hr,a6,a,ao,X⟩:=run_append_own_at (P:=Tryz.prog) (w1.alloc (.cells #[I (lo:Int),I (hi:Int)] 216)) base 118 118 216 aw (.agg #[I 0,I 0]) 2 16 Tryz.underlying118 HI.out.1 HI.out.2.1 HI.out.2.2.1 HI.out.2.2.2 rfl ψ (.slice a1 D.b0.length c1) D.b0.length (pV D.b0) (Qj T.out.1.o1 x) ⟨w1.heap.size,0,none⟩ 1 1 [I (lo:Int),I (hi:Int)] rfl (Gh _ _ _ _) (two_one _ _) Ξ γ (by have:=x.size;have:=T.out.2;omega);obtain ⟨a7,c7,rfl,_⟩:=Xi a6
  have c:∀ b,w.heap.size≤b→some b≠(Value.slice a1 D.b0.length c1).ownBlock:=fun b hb e=>by
   have:=(T.out.1.o1.lt b e.symm).2;omega
  have an:=HS.out _ (Qb (o:=.cells #[I (lo:Int),I (hi:Int)] 216) d.out);obtain ⟨L,M,N,O,Q,G,y,H,z,K⟩:=an;replace L:=a.cell L (c _ θ);replace M:=a.cell M (c _ θ);replace N:=a.cell N (c _ θ);replace O:=a.cell O (c _ θ);replace Q:=a.cell Q (c _ θ);replace G:=a.cell G (c _ θ);replace y:=a.cell y (c _ θ);replace H:=a.cell H (c _ θ);replace z:=a.cell z (c _ θ);replace K:=a.cell K (c _ θ);have af:At m (w.heap.size+1+1+1+1) 0 SN:=a.cell (Qk (Qa d.out r0)) (c _ θ);have aa:m.frozen? ⟨w.heap.size+1+1+1+1,0,none⟩=false:=by rw [Fo (a.block (w.heap.size+1+1+1+1) ω (c _ γ))];exact ((Qb d.out).frozen θ).trans f0
  have ag:At m (w.heap.size+1+1+1+1) 1 SN:=a.cell (Qk (Qa d.out r1)) (c _ θ);have ab:m.frozen? ⟨w.heap.size+1+1+1+1,1,none⟩=false:=by rw [Fo (a.block (w.heap.size+1+1+1+1) ω (c _ γ))];exact ((Qb d.out).frozen θ).trans f1
  have ah:At m (w.heap.size+1+1+1+1) 2 SN:=a.cell (Qk (Qa d.out r2)) (c _ θ);have ac:m.frozen? ⟨w.heap.size+1+1+1+1,2,none⟩=false:=by rw [Fo (a.block (w.heap.size+1+1+1+1) ω (c _ γ))];exact ((Qb d.out).frozen θ).trans f2
  have ai:At m (w.heap.size+1+1+1+1) 3 SN:=a.cell (Qk (Qa d.out r3)) (c _ θ);have ae:m.frozen? ⟨w.heap.size+1+1+1+1,3,none⟩=false:=by rw [Fo (a.block (w.heap.size+1+1+1+1) ω (c _ γ))];exact ((Qb d.out).frozen θ).trans f3
  have eg:m.frozen? ⟨w.heap.size+1,1,none⟩=false:=by rw [Fo (a.block (w.heap.size+1) ω (c _ γ))];exact ((Qb d.out).frozen θ).trans g1
  have J:(fun w'=>At w' w.heap.size 0 (.slice U n W)∧At w' w.heap.size 1 (.map (some Z))∧At w' w.heap.size 2 (.map (some rk))∧At w' w.heap.size 3 (.slice (Az gm) n cm)∧At w' w.heap.size 4 (.slice pa n pc)∧At w' (w.heap.size+1) 0 (.slice a0 D.a0.length c0)∧At w' (w.heap.size+1) 1 (.slice a1 D.b0.length c1)∧At w' (w.heap.size+1) 2 (.slice a2 D.a1.length c2)∧At w' (w.heap.size+1) 3 (.slice a3 D.b1.length c3)∧At w' (w.heap.size+1+1+1) 4 (I (j:Int))) m:=⟨L,M,N,O,Q,G,y,H,z,K⟩;have z5:w1.heap.size+1≤m.heap.size:=by have:=a.size;simpa using this
  try simp only [Ap]
  refine Lt.one (i:=12) η rfl rfl ?_;refine Je (.tmp 28) (.tmp 35) 118 rfl _ _ (.slice a7 (D.b0.length+1) c7) m rfl rfl hr ?_;refine ⟨fun _=>J, ?_⟩;try simp only [Ap]
  refine Lk 13 (.pointer (Az (w.heap.size+1))) J ?_;refine Lk 14 (.pointer (Ad (w.heap.size+1) 1)) J ?_;refine Lt.one (i:=15) η rfl rfl ?_;refine Zw (w':=m.setCell ⟨w.heap.size+1,1,none⟩ (.slice a7 (D.b0.length+1) c7)) (by first | go_simp | simp [go_sem,y,eg]) ?_;refine ⟨fun h=>absurd h ψ, ?_⟩;try simp only [Ap]
  refine Lt.done η ?_;go_upto_region 4 with fail
  refine Qi (fun t f=>?_);have x0:At t (w.heap.size+1) 0 (.slice a0 D.a0.length c0):=by rw [f];exact (Co _ _ _ _ ξ).trans G
  have x1:At t (w.heap.size+1) 1 (.slice a7 (D.b0.length+1) c7):=by rw [f];exact Cs _ _ _ y
  have x2:At t (w.heap.size+1) 2 (.slice a2 D.a1.length c2):=by rw [f];exact (Co _ _ _ _ ξ).trans H
  have x3:At t (w.heap.size+1) 3 (.slice a3 D.b1.length c3):=by rw [f];exact (Co _ _ _ _ ξ).trans z
  have b8:At t (w.heap.size+1+1+1+1) 0 SN:=by rw [f];exact (World.cell?_setCell_far _ _ _ _ θ).trans af
  have az:t.frozen? ⟨w.heap.size+1+1+1+1,0,none⟩=false:=by rw [f,Fz];exact aa
  have b9:At t (w.heap.size+1+1+1+1) 1 SN:=by rw [f];exact (World.cell?_setCell_far _ _ _ _ θ).trans ag
  have b5:t.frozen? ⟨w.heap.size+1+1+1+1,1,none⟩=false:=by rw [f,Fz];exact ab
  have ba:At t (w.heap.size+1+1+1+1) 2 SN:=by rw [f];exact (World.cell?_setCell_far _ _ _ _ θ).trans ah
  have b6:t.frozen? ⟨w.heap.size+1+1+1+1,2,none⟩=false:=by rw [f,Fz];exact ac
  have bb:At t (w.heap.size+1+1+1+1) 3 SN:=by rw [f];exact (World.cell?_setCell_far _ _ _ _ θ).trans ai
  have b7:t.frozen? ⟨w.heap.size+1+1+1+1,3,none⟩=false:=by rw [f,Fz];exact ae
  have HX:Hid (Sam m t (fun k=>k=w.heap.size+1)):=by rw [f];exact Sam.set _ _ _ _
  have HY:Hid (Sam w m (fun k=>(Value.slice a1 D.b0.length c1).ownBlock=some k)∧m.ownsRow base 216 2 (.slice a7 (D.b0.length+1) c7) (D.b0.length+1) (pV D.b0 ++ [I (lo:Int),I (hi:Int)])∧((Value.slice a7 (D.b0.length+1) c7).ownBlock=(Value.slice a1 D.b0.length c1).ownBlock∨(Value.slice a7 (D.b0.length+1) c7).ownBlock=some (w1.heap.size+1))∧Below base w m):=⟨(Sam.below (R:=fun k=>(Value.slice a1 D.b0.length c1).ownBlock=some k) x).then (Sam.grown a) fun k _ h=>h,a6,by simpa using X,(x.mono T.out.2).grown a (by have:=x.size;have:=T.out.2;omega) (Qw T.out.1.o1)⟩;have HM:Hid (mtF D 0 (lo,hi)=⟨D.a0,D.b0 ++ [(lo,hi)],D.a1,D.b1⟩):=rfl;have zz:w.heap.size+5≤t.heap.size:=by have:=HX.out.size;omega
  have am:Hid (Below base w t):=by rw [f];exact HY.out.2.2.2.setCell (p:=⟨w.heap.size+1,1,none⟩) (by have:=T.out.2;dsimp only;omega) _
  clear f L M N O Q G y H z K af aa ag ab ah ac ai ae eg c X ao a a6 hr x J g HS CF HI p0 p1 p2 p3 p4 m0 m1 m2 m3 jt r0 r1 r2 r3 f0 g0 f1 g1 f2 g2 f3 g3 a8 d;have ax:=T.out.2;go_wp2;refine bodyPost_ret (v:=.agg #[.slice a0 D.a0.length c0,.slice a7 (D.b0.length+1) c7,.slice a2 D.a1.length c2,.slice a3 D.b1.length c3]) (by simp [results,Tryz.results104,go_sem, *]) rfl ?_;rw [HM.out];refine mt_fold1 (N6:=w.heap.size+1) (Nt:=w.heap.size+1+1+1+1) (H1:=w1.heap.size+1) T.out.1 HY.out.1 HY.out.2.1 HY.out.2.2.1 HX.out ((((Sam.set _ _ _ _).then (Sam.set _ _ _ _) fun _ _ h=>h).then (Sam.set _ _ _ _) fun _ _ h=>h).then (Sam.set _ _ _ _) fun _ _ h=>h) γ γ γ γ ((((am.out.setCell θ _).setCell θ _).setCell θ _).setCell θ _)
 ·have HS:Hid (∀ V:World,Bl wq V→(fun w'=>At w' w.heap.size 0 (.slice U n W)∧At w' w.heap.size 1 (.map (some Z))∧At w' w.heap.size 2 (.map (some rk))∧At w' w.heap.size 3 (.slice (Az gm) n cm)∧At w' w.heap.size 4 (.slice pa n pc)∧At w' (w.heap.size+1) 0 (.slice a0 D.a0.length c0)∧At w' (w.heap.size+1) 1 (.slice a1 D.b0.length c1)∧At w' (w.heap.size+1) 2 (.slice a2 D.a1.length c2)∧At w' (w.heap.size+1) 3 (.slice a3 D.b1.length c3)∧At w' (w.heap.size+1+1+1) 4 (I (j:Int))) V):=fun V F=>⟨Qa F p0,Qa F p1,Qa F p2,Qa F p3,Qa F p4,Qa F m0,Qa F m1,Qa F m2,Qa F m3,Qa F jt⟩;refine Jz (S:=fun w'=>At w' w.heap.size 0 (.slice U n W)∧At w' w.heap.size 1 (.map (some Z))∧At w' w.heap.size 2 (.map (some rk))∧At w' w.heap.size 3 (.slice (Az gm) n cm)∧At w' w.heap.size 4 (.slice pa n pc)∧At w' (w.heap.size+1) 0 (.slice a0 D.a0.length c0)∧At w' (w.heap.size+1) 1 (.slice a1 D.b0.length c1)∧At w' (w.heap.size+1) 2 (.slice a2 D.a1.length c2)∧At w' (w.heap.size+1) 3 (.slice a3 D.b1.length c3)∧At w' (w.heap.size+1+1+1) 4 (I (j:Int))) (late:=fun j=>decide (j=15)) η ?_;have g:=HS.out _ (Qg (Qe wq));refine Lk 0 (I 1) g ?_;refine Lk 1 (I 1) g ?_;refine Lk 2 (.pointer (Ad (w.heap.size+1) 2)) g ?_;refine Lk 3 (.pointer (Ad (w.heap.size+1) 3)) g ?_;refine Lk 4 (.slice a3 D.b1.length c3) g ?_;refine Lk 5 (.agg #[.slice U n W,.map (some Z),.map (some rk),.slice (Az gm) n cm,.slice pa n pc]) g ?_;refine Lk 6 (I kd) g ?_;refine Lk 7 (I (i:Int)) g ?_;refine Lk 8 (.pointer (Ad (w.heap.size+1+1+1) 4)) g ?_;refine Lk 9 (I (j:Int)) g ?_;refine Lt.one (i:=10) η rfl rfl ?_;refine Qag 143 #[.agg #[.slice U n W,.map (some Z),.map (some rk),.slice (Az gm) n cm,.slice pa n pc],I kd,I (i:Int),I (j:Int)] η (CF.out _ (Qg a8.out)) ?_;rintro e w1 ⟨rfl,aj⟩;have d:Hid (Bl wq w1):=Qc (Qg (Qe _)) aj;clear aj;refine ⟨_,rfl,fun _=>HS.out _ d.out, ?_⟩;try simp only [Ap]
  refine Lt.one (i:=11) η rfl rfl ?_;go_simp;refine ⟨HS.out _ (Qb d.out), ?_⟩;have x:Bl w (w1.alloc (.cells #[I (lo:Int),I (hi:Int)] 216)):=Qb (Qc a8.out d.out);have ay:w.heap.size+5≤w1.heap.size:=by have:=d.out.size;omega
  obtain ⟨u,m,hr,a6,a,ao,X⟩:=run_append_own_at (P:=Tryz.prog) (w1.alloc (.cells #[I (lo:Int),I (hi:Int)] 216)) base 118 118 216 aw (.agg #[I 0,I 0]) 2 16 Tryz.underlying118 HI.out.1 HI.out.2.1 HI.out.2.2.1 HI.out.2.2.2 rfl ψ (.slice a3 D.b1.length c3) D.b1.length (pV D.b1) (Qj T.out.1.o3 x) ⟨w1.heap.size,0,none⟩ 1 1 [I (lo:Int),I (hi:Int)] rfl (Gh _ _ _ _) (two_one _ _) Ξ γ (by have:=x.size;have:=T.out.2;omega);obtain ⟨a7,c7,rfl,_⟩:=Xi a6
  have c:∀ b,w.heap.size≤b→some b≠(Value.slice a3 D.b1.length c3).ownBlock:=fun b hb e=>by
   have:=(T.out.1.o3.lt b e.symm).2;omega
  have an:=HS.out _ (Qb (o:=.cells #[I (lo:Int),I (hi:Int)] 216) d.out);obtain ⟨L,M,N,O,Q,G,y,H,z,K⟩:=an;replace L:=a.cell L (c _ θ);replace M:=a.cell M (c _ θ);replace N:=a.cell N (c _ θ);replace O:=a.cell O (c _ θ);replace Q:=a.cell Q (c _ θ);replace G:=a.cell G (c _ θ);replace y:=a.cell y (c _ θ);replace H:=a.cell H (c _ θ);replace z:=a.cell z (c _ θ);replace K:=a.cell K (c _ θ);have af:At m (w.heap.size+1+1+1+1) 0 SN:=a.cell (Qk (Qa d.out r0)) (c _ θ);have aa:m.frozen? ⟨w.heap.size+1+1+1+1,0,none⟩=false:=by rw [Fo (a.block (w.heap.size+1+1+1+1) ω (c _ γ))];exact ((Qb d.out).frozen θ).trans f0
  have ag:At m (w.heap.size+1+1+1+1) 1 SN:=a.cell (Qk (Qa d.out r1)) (c _ θ);have ab:m.frozen? ⟨w.heap.size+1+1+1+1,1,none⟩=false:=by rw [Fo (a.block (w.heap.size+1+1+1+1) ω (c _ γ))];exact ((Qb d.out).frozen θ).trans f1
  have ah:At m (w.heap.size+1+1+1+1) 2 SN:=a.cell (Qk (Qa d.out r2)) (c _ θ);have ac:m.frozen? ⟨w.heap.size+1+1+1+1,2,none⟩=false:=by rw [Fo (a.block (w.heap.size+1+1+1+1) ω (c _ γ))];exact ((Qb d.out).frozen θ).trans f2
  have ai:At m (w.heap.size+1+1+1+1) 3 SN:=a.cell (Qk (Qa d.out r3)) (c _ θ);have ae:m.frozen? ⟨w.heap.size+1+1+1+1,3,none⟩=false:=by rw [Fo (a.block (w.heap.size+1+1+1+1) ω (c _ γ))];exact ((Qb d.out).frozen θ).trans f3
  have eg:m.frozen? ⟨w.heap.size+1,3,none⟩=false:=by rw [Fo (a.block (w.heap.size+1) ω (c _ γ))];exact ((Qb d.out).frozen θ).trans g3
  have J:(fun w'=>At w' w.heap.size 0 (.slice U n W)∧At w' w.heap.size 1 (.map (some Z))∧At w' w.heap.size 2 (.map (some rk))∧At w' w.heap.size 3 (.slice (Az gm) n cm)∧At w' w.heap.size 4 (.slice pa n pc)∧At w' (w.heap.size+1) 0 (.slice a0 D.a0.length c0)∧At w' (w.heap.size+1) 1 (.slice a1 D.b0.length c1)∧At w' (w.heap.size+1) 2 (.slice a2 D.a1.length c2)∧At w' (w.heap.size+1) 3 (.slice a3 D.b1.length c3)∧At w' (w.heap.size+1+1+1) 4 (I (j:Int))) m:=⟨L,M,N,O,Q,G,y,H,z,K⟩;have z5:w1.heap.size+1≤m.heap.size:=by have:=a.size;simpa using this
  try simp only [Ap]
  refine Lt.one (i:=12) η rfl rfl ?_;refine Je (.tmp 28) (.tmp 35) 118 rfl _ _ (.slice a7 (D.b1.length+1) c7) m rfl rfl hr ?_;refine ⟨fun _=>J, ?_⟩;try simp only [Ap]
  refine Lk 13 (.pointer (Ad (w.heap.size+1) 2)) J ?_;refine Lk 14 (.pointer (Ad (w.heap.size+1) 3)) J ?_;refine Lt.one (i:=15) η rfl rfl ?_;refine Zw (w':=m.setCell ⟨w.heap.size+1,3,none⟩ (.slice a7 (D.b1.length+1) c7)) (by first | go_simp | simp [go_sem,z,eg]) ?_;refine ⟨fun h=>absurd h ψ, ?_⟩;try simp only [Ap]
  refine Lt.done η ?_;go_upto_region 4 with fail
  refine Qi (fun t f=>?_);have x0:At t (w.heap.size+1) 0 (.slice a0 D.a0.length c0):=by rw [f];exact (Co _ _ _ _ ξ).trans G
  have x1:At t (w.heap.size+1) 1 (.slice a1 D.b0.length c1):=by rw [f];exact (Co _ _ _ _ ξ).trans y
  have x2:At t (w.heap.size+1) 2 (.slice a2 D.a1.length c2):=by rw [f];exact (Co _ _ _ _ ξ).trans H
  have x3:At t (w.heap.size+1) 3 (.slice a7 (D.b1.length+1) c7):=by rw [f];exact Cs _ _ _ z
  have b8:At t (w.heap.size+1+1+1+1) 0 SN:=by rw [f];exact (World.cell?_setCell_far _ _ _ _ θ).trans af
  have az:t.frozen? ⟨w.heap.size+1+1+1+1,0,none⟩=false:=by rw [f,Fz];exact aa
  have b9:At t (w.heap.size+1+1+1+1) 1 SN:=by rw [f];exact (World.cell?_setCell_far _ _ _ _ θ).trans ag
  have b5:t.frozen? ⟨w.heap.size+1+1+1+1,1,none⟩=false:=by rw [f,Fz];exact ab
  have ba:At t (w.heap.size+1+1+1+1) 2 SN:=by rw [f];exact (World.cell?_setCell_far _ _ _ _ θ).trans ah
  have b6:t.frozen? ⟨w.heap.size+1+1+1+1,2,none⟩=false:=by rw [f,Fz];exact ac
  have bb:At t (w.heap.size+1+1+1+1) 3 SN:=by rw [f];exact (World.cell?_setCell_far _ _ _ _ θ).trans ai
  have b7:t.frozen? ⟨w.heap.size+1+1+1+1,3,none⟩=false:=by rw [f,Fz];exact ae
  have HX:Hid (Sam m t (fun k=>k=w.heap.size+1)):=by rw [f];exact Sam.set _ _ _ _
  have HY:Hid (Sam w m (fun k=>(Value.slice a3 D.b1.length c3).ownBlock=some k)∧m.ownsRow base 216 2 (.slice a7 (D.b1.length+1) c7) (D.b1.length+1) (pV D.b1 ++ [I (lo:Int),I (hi:Int)])∧((Value.slice a7 (D.b1.length+1) c7).ownBlock=(Value.slice a3 D.b1.length c3).ownBlock∨(Value.slice a7 (D.b1.length+1) c7).ownBlock=some (w1.heap.size+1))∧Below base w m):=⟨(Sam.below (R:=fun k=>(Value.slice a3 D.b1.length c3).ownBlock=some k) x).then (Sam.grown a) fun k _ h=>h,a6,by simpa using X,(x.mono T.out.2).grown a (by have:=x.size;have:=T.out.2;omega) (Qw T.out.1.o3)⟩;have HM:Hid (mtF D 1 (lo,hi)=⟨D.a0,D.b0,D.a1,D.b1 ++ [(lo,hi)]⟩):=rfl;have zz:w.heap.size+5≤t.heap.size:=by have:=HX.out.size;omega
  have am:Hid (Below base w t):=by rw [f];exact HY.out.2.2.2.setCell (p:=⟨w.heap.size+1,3,none⟩) (by have:=T.out.2;dsimp only;omega) _
  clear f L M N O Q G y H z K af aa ag ab ah ac ai ae eg c X ao a a6 hr x J g HS CF HI p0 p1 p2 p3 p4 m0 m1 m2 m3 jt r0 r1 r2 r3 f0 g0 f1 g1 f2 g2 f3 g3 a8 d;have ax:=T.out.2;go_wp2;refine bodyPost_ret (v:=.agg #[.slice a0 D.a0.length c0,.slice a1 D.b0.length c1,.slice a2 D.a1.length c2,.slice a7 (D.b1.length+1) c7]) (by simp [results,Tryz.results104,go_sem, *]) rfl ?_;rw [HM.out];refine mt_fold3 (N6:=w.heap.size+1) (Nt:=w.heap.size+1+1+1+1) (H1:=w1.heap.size+1) T.out.1 HY.out.1 HY.out.2.1 HY.out.2.2.1 HX.out ((((Sam.set _ _ _ _).then (Sam.set _ _ _ _) fun _ _ h=>h).then (Sam.set _ _ _ _) fun _ _ h=>h).then (Sam.set _ _ _ _) fun _ _ h=>h) γ γ γ γ ((((am.out.setCell θ _).setCell θ _).setCell θ _).setCell θ _)
def FRow (w:World) (a:Option Addr) (l:List (Nat×Nat)):Prop := ∀ i (h:i<l.length),∃ g,a=Az g∧At w g (i*2) (I (l[i].1:Int))∧At w g (i*2+1) (I (l[i].2:Int))
def IRow (w:World) (a:Option Addr) (l:List Nat):Prop := ∀ i (h:i<l.length),∃ g,a=Az g∧At w g i (I (l[i]:Int))
theorem FRow.kept {w':World} {l:List (Nat×Nat)} (h:FRow w a l) (b:Bl w w'):FRow w' a l:=fun i hi=>by
 obtain ⟨g,e,h0,h1⟩:=h i hi;exact ⟨g,e,Qa b h0,Qa b h1⟩
theorem IRow.kept {w':World} {l:List Nat} (h:IRow w a l) (b:Bl w w'):IRow w' a l:=fun i hi=>by
 obtain ⟨g,e,h0⟩:=h i hi;exact ⟨g,e,Qa b h0⟩
theorem FRow.take {l:List (Nat×Nat)} (h:FRow w a l) (n:Nat):FRow w a (l.take n):=fun i hi=>by
 rw [List.length_take] at hi;obtain ⟨g,e,h0,h1⟩:=h i γ;simp only [List.getElem_take];exact ⟨g,e,h0,h1⟩
structure AnyL {α:Type} (l:List α) (pr : α→Bool):Prop where
 out:l.any pr=true
theorem add0M (g j:Nat):(⟨g,0,none⟩:Addr).add j=⟨g,j,none⟩:=by
 cases j with
 | zero=>rfl
 | succ j=>simp [Addr.add]
theorem pV_at:∀ (l:List (Nat×Nat)) (i:Nat) (h:i<l.length),(pV l)[i*2]?=some (I (l[i].1:Int))∧(pV l)[i*2+1]?=some (I (l[i].2:Int))
 | p :: l,0,_=>by simp [pV]
 | p :: l,i+1,h=>by
  have:=pV_at l i (by simpa using h);have e:pV (p :: l)=I (p.1:Int) :: I (p.2:Int) :: pV l:=by simp [pV]
  rw [e,show (i+1)*2=i*2+1+1 by omega];simpa using this
theorem own_frow {base c:Nat} {l:List (Nat×Nat)} (h:w.ownsRow base 216 2 (.slice a l.length c) l.length (pV l)):FRow w a l:=fun i hi=>by
 rcases h.2 with ⟨_,h0⟩ | ⟨g,d,f,hv,_,j,h1,h2,h3,h4⟩
 ·omega
 ·simp only [Value.slice.injEq] at hv;have hg:(Value.slice a l.length c).ownBlock=some g:=by rw [hv.1];rfl
  have b:=h.cells hg;have e:=pV_at l i hi;refine ⟨g,hv.1, ?_, ?_⟩
  ·have:=b _ _ e.1;rw [add0M] at this;exact this
  ·have:=b _ _ e.2;rw [add0M] at this;exact this
theorem own_irow {base c:Nat} {l:List Nat} (h:w.ownsRow base 3 1 (.slice a l.length c) l.length (nV l)):IRow w a l:=fun i hi=>by
 rcases h.2 with ⟨_,h0⟩ | ⟨g,b,d,hv,_,j,h1,h2,h3,h4⟩
 ·omega
 ·simp only [Value.slice.injEq] at hv;have hg:(Value.slice a l.length c).ownBlock=some g:=by rw [hv.1];rfl
  have f:=h.cells hg;have e:(nV l)[i]?=some (I (l[i]:Int)):=by simp [nV,hi]
  refine ⟨g,hv.1, ?_⟩;have:=f _ _ e;rw [add0M] at this;exact this
theorem indexMis_any (w:World) (a:Option Addr) (m c k0:Nat) (l:List (Nat×Nat)) (o:(Nat×Nat)→Bool) (x:FRow w a l) (y:m=l.length) (G:m≤100000000)
  (z:Hid (∀ (V:World) (p:(Nat×Nat)),Bl w V→p∈l→Rt 150 #[.agg #[I (p.1:Int),I (p.2:Int)],.pointer (Az k0)] V (.bool (o p)))) :
  Cl 210 #[.slice a m c,.func (.func 150) #[] #[.pointer (Az k0)]] w fun e w'=>(∃ n:Int,e=.returned (I n)∧Hid (0≤n↔AnyL l o))∧Bl w w':=by
 have s:=H2 x y;clear x y;go_enter Tryz.func210,Tryz.ntmps210;go_wp2;go_loopg [8] m (fun A E F=>∃ i:Nat,i≤m∧A=m - i∧E=I (i:Int)∧Hid (∀ j (h:j<l.length),j<i→o l[j]=false)∧Bl w F)
 case atStart=>exact ⟨0,γ,rfl,rfl,fun j h h2=>by omega,Qe _⟩
 case round =>
  obtain ⟨i,hi,rfl,rfl,q,v⟩:=hrel;have k:=Hd v;clear v;by_cases h1:i<m
  ·have D:(i:Int)<(m:Int):=γ;have H:(0:Int)≤(i:Int):=γ;have f:i<l.length:=s.out.2 ▸ h1;obtain ⟨g,rfl,c0,c1⟩:=(s.out.1.kept k.out) i f;obtain ⟨lo,hi,hp⟩:∃ lo hi,l[i]=(lo,hi):=⟨_,_,rfl⟩;rw [hp] at c0 c1;dsimp only at c0 c1;have r:Hid (∀ V:World,Bl w V→Rt 150 #[.agg #[I (lo:Int),I (hi:Int)],.pointer (Az k0)] V (.bool (o (lo,hi)))):=fun V B=>z.out V (lo,hi) B (hp ▸ Lm f);have u:=Hd hp;clear hp
   cases hb2:o (lo,hi)
   ·rw [hb2] at r;go_wp2_with (go_at_call 150;(with_reducible refine (r.out _ k.out).mono ?_);rintro e w1 ⟨rfl,b⟩;have d:=Hd (Qc k.out b);clear b)
    go_roundg (m - (i+1))
    case measure=>omega
    case rel =>
     refine ⟨i+1,γ,rfl,σ,fun j t C=>?_,d.out⟩;by_cases e:j=i
     ·subst e;rw [u.out];exact hb2
     ·exact q.out j t γ
   ·rw [hb2] at r;go_wp2_with (go_at_call 150;(with_reducible refine (r.out _ k.out).mono ?_);rintro e w1 ⟨rfl,b⟩;have d:=Hd (Qc k.out b);clear b)
    try rw [Exit.noGoto_ret]
    go_ret;exact ⟨⟨_,rfl,⟨fun _=>AnyL.mk (List.any_eq_true.2 ⟨_,Lm f,by rw [u.out];exact hb2⟩),fun _=>by omega⟩⟩,d.out⟩
  ·have D:¬ (i:Int)<(m:Int):=γ;go_wp2;go_ret;refine ⟨⟨_,rfl,⟨fun h=>by omega,fun h=>?_⟩⟩,k.out⟩;obtain ⟨p,hp,hq⟩:=List.any_eq_true.1 (show l.any o=true from h.out);obtain ⟨j,t,rfl⟩:=List.mem_iff_getElem.1 hp;have:=q.out j t (by have:=s.out.2;omega);rw [this] at hq
   cases hq
theorem Qbe (w:World) (a:Option Addr) (m c k0:Nat) (l:List (Nat×Nat)) (d:(Nat×Nat)→Bool) (j:FRow w a l) (k:m=l.length) (i:m≤100000000)
  (g:Hid (∀ (V:World) (p:(Nat×Nat)),Bl w V→p∈l→Rt 150 #[.agg #[I (p.1:Int),I (p.2:Int)],.pointer (Az k0)] V (.bool (d p)))) :
  Rt 145 #[.slice a m c,.func (.func 150) #[] #[.pointer (Az k0)]] w (.bool (l.any d)):=by
 have q:=Hd (indexMis_any w a m c k0 l d j k i g);clear g j k i;go_enter Tryz.func145,Tryz.ntmps145;go_wp2_with (go_at_call 210;(with_reducible refine q.out.mono ?_);rintro e w1 ⟨⟨n,rfl,o⟩,b⟩;have f:=Hd b;clear b)
 go_ret;refine ⟨Qv ?_,f.out⟩;by_cases h:0≤n
 ·rw [decide_eq_true h];exact (o.out.1 h).out.symm
 ·rw [decide_eq_false h]
  cases hq:l.any d
  ·rfl
  ·exact absurd (o.out.2 (AnyL.mk hq)) h
theorem indexPie_any (w:World) (a:Option Addr) (m c k0 k1:Nat) (l:List (Nat×Nat)) (o:(Nat×Nat)→Bool) (x:FRow w a l) (y:m=l.length) (G:m≤100000000)
  (z:Hid (∀ (V:World) (p:(Nat×Nat)),Bl w V→p∈l→Rt 146 #[.agg #[I (p.1:Int),I (p.2:Int)],.pointer (Az k0),.pointer (Az k1)] V (.bool (o p)))) :
  Cl 210 #[.slice a m c,.func (.func 146) #[] #[.pointer (Az k0),.pointer (Az k1)]] w fun e w'=>(∃ n:Int,e=.returned (I n)∧Hid (0≤n↔AnyL l o))∧Bl w w':=by
 have s:=H2 x y;clear x y;go_enter Tryz.func210,Tryz.ntmps210;go_wp2;go_loopg [8] m (fun A E F=>∃ i:Nat,i≤m∧A=m - i∧E=I (i:Int)∧Hid (∀ j (h:j<l.length),j<i→o l[j]=false)∧Bl w F)
 case atStart=>exact ⟨0,γ,rfl,rfl,fun j h h2=>by omega,Qe _⟩
 case round =>
  obtain ⟨i,hi,rfl,rfl,q,v⟩:=hrel;have k:=Hd v;clear v;by_cases h1:i<m
  ·have D:(i:Int)<(m:Int):=γ;have H:(0:Int)≤(i:Int):=γ;have f:i<l.length:=s.out.2 ▸ h1;obtain ⟨g,rfl,c0,c1⟩:=(s.out.1.kept k.out) i f;obtain ⟨lo,hi,hp⟩:∃ lo hi,l[i]=(lo,hi):=⟨_,_,rfl⟩;rw [hp] at c0 c1;dsimp only at c0 c1;have r:Hid (∀ V:World,Bl w V→Rt 146 #[.agg #[I (lo:Int),I (hi:Int)],.pointer (Az k0),.pointer (Az k1)] V (.bool (o (lo,hi)))):=fun V B=>z.out V (lo,hi) B (hp ▸ Lm f);have u:=Hd hp;clear hp
   cases hb2:o (lo,hi)
   ·rw [hb2] at r;go_wp2_with (go_at_call 146;(with_reducible refine (r.out _ k.out).mono ?_);rintro e w1 ⟨rfl,b⟩;have d:=Hd (Qc k.out b);clear b)
    go_roundg (m - (i+1))
    case measure=>omega
    case rel =>
     refine ⟨i+1,γ,rfl,σ,fun j t C=>?_,d.out⟩;by_cases e:j=i
     ·subst e;rw [u.out];exact hb2
     ·exact q.out j t γ
   ·rw [hb2] at r;go_wp2_with (go_at_call 146;(with_reducible refine (r.out _ k.out).mono ?_);rintro e w1 ⟨rfl,b⟩;have d:=Hd (Qc k.out b);clear b)
    try rw [Exit.noGoto_ret]
    go_ret;exact ⟨⟨_,rfl,⟨fun _=>AnyL.mk (List.any_eq_true.2 ⟨_,Lm f,by rw [u.out];exact hb2⟩),fun _=>by omega⟩⟩,d.out⟩
  ·have D:¬ (i:Int)<(m:Int):=γ;go_wp2;go_ret;refine ⟨⟨_,rfl,⟨fun h=>by omega,fun h=>?_⟩⟩,k.out⟩;obtain ⟨p,hp,hq⟩:=List.any_eq_true.1 (show l.any o=true from h.out);obtain ⟨j,t,rfl⟩:=List.mem_iff_getElem.1 hp;have:=q.out j t (by have:=s.out.2;omega);rw [this] at hq
   cases hq
theorem Qbd (w:World) (a:Option Addr) (m c k0 k1:Nat) (l:List (Nat×Nat)) (d:(Nat×Nat)→Bool) (j:FRow w a l) (k:m=l.length) (i:m≤100000000)
  (g:Hid (∀ (V:World) (p:(Nat×Nat)),Bl w V→p∈l→Rt 146 #[.agg #[I (p.1:Int),I (p.2:Int)],.pointer (Az k0),.pointer (Az k1)] V (.bool (d p)))) :
  Rt 145 #[.slice a m c,.func (.func 146) #[] #[.pointer (Az k0),.pointer (Az k1)]] w (.bool (l.any d)):=by
 have q:=Hd (indexPie_any w a m c k0 k1 l d j k i g);clear g j k i;go_enter Tryz.func145,Tryz.ntmps145;go_wp2_with (go_at_call 210;(with_reducible refine q.out.mono ?_);rintro e w1 ⟨⟨n,rfl,o⟩,b⟩;have f:=Hd b;clear b)
 go_ret;refine ⟨Qv ?_,f.out⟩;by_cases h:0≤n
 ·rw [decide_eq_true h];exact (o.out.1 h).out.symm
 ·rw [decide_eq_false h]
  cases hq:l.any d
  ·rfl
  ·exact absurd (o.out.2 (AnyL.mk hq)) h
theorem indexTan_any (w:World) (a:Option Addr) (m c k0 k1:Nat) (l:List (Nat×Nat)) (o:(Nat×Nat)→Bool) (x:FRow w a l) (y:m=l.length) (G:m≤100000000)
  (z:Hid (∀ (V:World) (p:(Nat×Nat)),Bl w V→p∈l→Rt 149 #[.agg #[I (p.1:Int),I (p.2:Int)],.pointer (Az k0),.pointer (Az k1)] V (.bool (o p)))) :
  Cl 210 #[.slice a m c,.func (.func 149) #[] #[.pointer (Az k0),.pointer (Az k1)]] w fun e w'=>(∃ n:Int,e=.returned (I n)∧Hid (0≤n↔AnyL l o))∧Bl w w':=by
 have s:=H2 x y;clear x y;go_enter Tryz.func210,Tryz.ntmps210;go_wp2;go_loopg [8] m (fun A E F=>∃ i:Nat,i≤m∧A=m - i∧E=I (i:Int)∧Hid (∀ j (h:j<l.length),j<i→o l[j]=false)∧Bl w F)
 case atStart=>exact ⟨0,γ,rfl,rfl,fun j h h2=>by omega,Qe _⟩
 case round =>
  obtain ⟨i,hi,rfl,rfl,q,v⟩:=hrel;have k:=Hd v;clear v;by_cases h1:i<m
  ·have D:(i:Int)<(m:Int):=γ;have H:(0:Int)≤(i:Int):=γ;have f:i<l.length:=s.out.2 ▸ h1;obtain ⟨g,rfl,c0,c1⟩:=(s.out.1.kept k.out) i f;obtain ⟨lo,hi,hp⟩:∃ lo hi,l[i]=(lo,hi):=⟨_,_,rfl⟩;rw [hp] at c0 c1;dsimp only at c0 c1;have r:Hid (∀ V:World,Bl w V→Rt 149 #[.agg #[I (lo:Int),I (hi:Int)],.pointer (Az k0),.pointer (Az k1)] V (.bool (o (lo,hi)))):=fun V B=>z.out V (lo,hi) B (hp ▸ Lm f);have u:=Hd hp;clear hp
   cases hb2:o (lo,hi)
   ·rw [hb2] at r;go_wp2_with (go_at_call 149;(with_reducible refine (r.out _ k.out).mono ?_);rintro e w1 ⟨rfl,b⟩;have d:=Hd (Qc k.out b);clear b)
    go_roundg (m - (i+1))
    case measure=>omega
    case rel =>
     refine ⟨i+1,γ,rfl,σ,fun j t C=>?_,d.out⟩;by_cases e:j=i
     ·subst e;rw [u.out];exact hb2
     ·exact q.out j t γ
   ·rw [hb2] at r;go_wp2_with (go_at_call 149;(with_reducible refine (r.out _ k.out).mono ?_);rintro e w1 ⟨rfl,b⟩;have d:=Hd (Qc k.out b);clear b)
    try rw [Exit.noGoto_ret]
    go_ret;exact ⟨⟨_,rfl,⟨fun _=>AnyL.mk (List.any_eq_true.2 ⟨_,Lm f,by rw [u.out];exact hb2⟩),fun _=>by omega⟩⟩,d.out⟩
  ·have D:¬ (i:Int)<(m:Int):=γ;go_wp2;go_ret;refine ⟨⟨_,rfl,⟨fun h=>by omega,fun h=>?_⟩⟩,k.out⟩;obtain ⟨p,hp,hq⟩:=List.any_eq_true.1 (show l.any o=true from h.out);obtain ⟨j,t,rfl⟩:=List.mem_iff_getElem.1 hp;have:=q.out j t (by have:=s.out.2;omega);rw [this] at hq
   cases hq
theorem Qbc (w:World) (a:Option Addr) (m c k0 k1:Nat) (l:List (Nat×Nat)) (d:(Nat×Nat)→Bool) (j:FRow w a l) (k:m=l.length) (i:m≤100000000)
  (g:Hid (∀ (V:World) (p:(Nat×Nat)),Bl w V→p∈l→Rt 149 #[.agg #[I (p.1:Int),I (p.2:Int)],.pointer (Az k0),.pointer (Az k1)] V (.bool (d p)))) :
  Rt 145 #[.slice a m c,.func (.func 149) #[] #[.pointer (Az k0),.pointer (Az k1)]] w (.bool (l.any d)):=by
 have q:=Hd (indexTan_any w a m c k0 k1 l d j k i g);clear g j k i;go_enter Tryz.func145,Tryz.ntmps145;go_wp2_with (go_at_call 210;(with_reducible refine q.out.mono ?_);rintro e w1 ⟨⟨n,rfl,o⟩,b⟩;have f:=Hd b;clear b)
 go_ret;refine ⟨Qv ?_,f.out⟩;by_cases h:0≤n
 ·rw [decide_eq_true h];exact (o.out.1 h).out.symm
 ·rw [decide_eq_false h]
  cases hq:l.any d
  ·rfl
  ·exact absurd (o.out.2 (AnyL.mk hq)) h
theorem indexInt_any (w:World) (a:Option Addr) (m c k0 k1:Nat) (l:List Nat) (o:Nat→Bool) (x:IRow w a l) (y:m=l.length) (G:m≤100000000)
  (z:Hid (∀ (V:World) (p:Nat),Bl w V→p∈l→Rt 147 #[I (p:Int),.pointer (Az k0),.pointer (Az k1)] V (.bool (o p)))) :
  Cl 84 #[.slice a m c,.func (.func 147) #[] #[.pointer (Az k0),.pointer (Az k1)]] w fun e w'=>(∃ n:Int,e=.returned (I n)∧Hid (0≤n↔AnyL l o))∧Bl w w':=by
 have s:=H2 x y;clear x y;go_enter Tryz.func84,Tryz.ntmps84;go_wp2;go_loopg [8] m (fun A E F=>∃ i:Nat,i≤m∧A=m - i∧E=I (i:Int)∧Hid (∀ j (h:j<l.length),j<i→o l[j]=false)∧Bl w F)
 case atStart=>exact ⟨0,γ,rfl,rfl,fun j h h2=>by omega,Qe _⟩
 case round =>
  obtain ⟨i,hi,rfl,rfl,q,v⟩:=hrel;have k:=Hd v;clear v;by_cases h1:i<m
  ·have D:(i:Int)<(m:Int):=γ;have H:(0:Int)≤(i:Int):=γ;have f:i<l.length:=s.out.2 ▸ h1;obtain ⟨g,rfl,c0⟩:=(s.out.1.kept k.out) i f;obtain ⟨lo,hp⟩:∃ lo,l[i]=lo:=⟨_,rfl⟩;rw [hp] at c0;skip
   have r:Hid (∀ V:World,Bl w V→Rt 147 #[I (lo:Int),.pointer (Az k0),.pointer (Az k1)] V (.bool (o lo))):=fun V B=>z.out V lo B (hp ▸ Lm f);have u:=Hd hp;clear hp
   cases hb2:o lo
   ·rw [hb2] at r;go_wp2_with (go_at_call 147;(with_reducible refine (r.out _ k.out).mono ?_);rintro e w1 ⟨rfl,b⟩;have d:=Hd (Qc k.out b);clear b)
    go_roundg (m - (i+1))
    case measure=>omega
    case rel =>
     refine ⟨i+1,γ,rfl,σ,fun j t C=>?_,d.out⟩;by_cases e:j=i
     ·subst e;rw [u.out];exact hb2
     ·exact q.out j t γ
   ·rw [hb2] at r;go_wp2_with (go_at_call 147;(with_reducible refine (r.out _ k.out).mono ?_);rintro e w1 ⟨rfl,b⟩;have d:=Hd (Qc k.out b);clear b)
    try rw [Exit.noGoto_ret]
    go_ret;exact ⟨⟨_,rfl,⟨fun _=>AnyL.mk (List.any_eq_true.2 ⟨_,Lm f,by rw [u.out];exact hb2⟩),fun _=>by omega⟩⟩,d.out⟩
  ·have D:¬ (i:Int)<(m:Int):=γ;go_wp2;go_ret;refine ⟨⟨_,rfl,⟨fun h=>by omega,fun h=>?_⟩⟩,k.out⟩;obtain ⟨p,hp,hq⟩:=List.any_eq_true.1 (show l.any o=true from h.out);obtain ⟨j,t,rfl⟩:=List.mem_iff_getElem.1 hp;have:=q.out j t (by have:=s.out.2;omega);rw [this] at hq
   cases hq
theorem Qbf (w:World) (a:Option Addr) (m c k0 k1:Nat) (l:List Nat) (d:Nat→Bool) (j:IRow w a l) (k:m=l.length) (i:m≤100000000)
  (g:Hid (∀ (V:World) (p:Nat),Bl w V→p∈l→Rt 147 #[I (p:Int),.pointer (Az k0),.pointer (Az k1)] V (.bool (d p)))) :
  Rt 35 #[.slice a m c,.func (.func 147) #[] #[.pointer (Az k0),.pointer (Az k1)]] w (.bool (l.any d)):=by
 have q:=Hd (indexInt_any w a m c k0 k1 l d j k i g);clear g j k i;go_enter Tryz.func35,Tryz.ntmps35;go_wp2_with (go_at_call 84;(with_reducible refine q.out.mono ?_);rintro e w1 ⟨⟨n,rfl,o⟩,b⟩;have f:=Hd b;clear b)
 go_ret;refine ⟨Qv ?_,f.out⟩;by_cases h:0≤n
 ·rw [decide_eq_true h];exact (o.out.1 h).out.symm
 ·rw [decide_eq_false h]
  cases hq:l.any d
  ·rfl
  ·exact absurd (o.out.2 (AnyL.mk hq)) h
def thk (S:List (T3×List T3)):Nat→Nat
 | 0=>0
 | i+1=>if thk S i<(S.getD i ((0,0,0),[])).2.length then (S.getD i ((0,0,0),[])).2.length else thk S i
theorem thick_ok (W H:Int) (a c mp sp:Option Addr) (zl ca n cc mn mc sl sc:Nat) (S:List ((Int×Int×Int)×List (Int×Int×Int))) (w:World) (hS:SRow w sp S) (hsl:sl=S.length) (hb:sl≤2932031007402) (CO:Hid (∀ V:World,Below w.heap.size w V→Calls Tryz.prog 16 #[.agg #[.int .i64 W,.int .i64 H,.slice a zl ca,.slice c n cc,.slice mp mn mc,.slice sp sl sc]] V fun e w'=>∃ z0 k0 d0 m1 m2 z3 k3 d3 z4 k4 d4 f,e=.returned (.tuple #[.agg #[.slice z0 k0 d0,.map m1,.map m2,.slice z3 k3 d3,.slice z4 k4 d4],f,.bool true])∧Below V.heap.size V w')) :
  Calls Tryz.prog 9 #[.agg #[.int .i64 W,.int .i64 H,.slice a zl ca,.slice c n cc,.slice mp mn mc,.slice sp sl sc]] w fun e w'=>e=.returned (.tuple #[.int .i64 (thk S sl:Int),.int .i64 (sl:Int),.int .i64 0])∧Below w.heap.size w w':=by
 have HS:Hid (SRow w sp S∧sl=S.length):=⟨hS,hsl⟩
 clear hS hsl
 go_enter Tryz.func9,Tryz.ntmps9
 go_upto_region 1 with fail
 refine Qi (fun W0 hW0=>?_)
 have hw0:Below w.heap.size w W0:=by (try simp only [At,I,Fn,Az,Ad]);rw [hW0];exact Qb (Qe _)
 have x0:W0.cell? ⟨w.heap.size,0,none⟩=some (.int .i64 W):=by (try simp only [At,I,Fn,Az,Ad]);rw [hW0];simp [go_sem]
 have x1:W0.cell? ⟨w.heap.size,1,none⟩=some (.int .i64 H):=by (try simp only [At,I,Fn,Az,Ad]);rw [hW0];simp [go_sem]
 have x2:W0.cell? ⟨w.heap.size,2,none⟩=some (.slice a zl ca):=by (try simp only [At,I,Fn,Az,Ad]);rw [hW0];simp [go_sem]
 have x3:W0.cell? ⟨w.heap.size,3,none⟩=some (.slice c n cc):=by (try simp only [At,I,Fn,Az,Ad]);rw [hW0];simp [go_sem]
 have x4:W0.cell? ⟨w.heap.size,4,none⟩=some (.slice mp mn mc):=by (try simp only [At,I,Fn,Az,Ad]);rw [hW0];simp [go_sem]
 have x5:W0.cell? ⟨w.heap.size,5,none⟩=some (.slice sp sl sc):=by (try simp only [At,I,Fn,Az,Ad]);rw [hW0];simp [go_sem]
 have HW:Hid (Below w.heap.size w W0):=hw0
 clear hW0 hw0
 go_upto_region 2 with (go_at_call 16;refine (CO.out _ HW.out).mono ?_;rintro e w1 ⟨z0,k0,d0,m1,m2,z3,k3,d3,z4,k4,d4,f,rfl,hb1⟩;have HB1:Hid (Below w.heap.size w w1∧Below W0.heap.size W0 w1):=⟨Qc HW.out hb1,hb1⟩;replace x5:=Qa hb1 x5;have z1:w.heap.size<w1.heap.size:=World.block_lt_of_cell? _ _ x5;clear hb1)
 refine Qi (fun W2 hW2=>?_)
 have hb2:Below w1.heap.size w1 W2:=by
  (try simp only [At,I,Fn,Az,Ad]);rw [hW2]
  with_reducible repeat (first | exact Qe _ | refine Qb ?_ | refine Qh ?_ ?_)
  all_goals (dsimp only;omega)
 replace x5:=Qa hb2 x5
 have HB2:Hid (Below w.heap.size w W2):=Qc HB1.out.1 hb2
 have z2:w.heap.size<W2.heap.size:=World.block_lt_of_cell? _ _ x5
 clear hW2 hb2 HB1 x0 x1 x2 x3 x4 z1
 go_wp2
 go_loopg [8,22] sl (fun gk s8 s22 wx=>∃ i:Nat,i≤sl∧gk=sl - i∧s8=.int .i64 (thk S i:Int)∧s22=.int .i64 (i:Int)∧Below W2.heap.size W2 wx)
 case atStart=>exact ⟨0,by omega,rfl,rfl,rfl,Qe _⟩
 case round =>
  obtain ⟨i,hi,rfl,rfl,rfl,hB⟩:=hrel
  have HB:Hid (Below W2.heap.size W2 wr):=hB
  replace x5:=Qa hB x5
  have zb:w.heap.size<wr.heap.size:=World.block_lt_of_cell? _ _ x5
  by_cases h1:i<sl
  ·have i1:(i:Int)<(sl:Int):=by omega
   have i0:(0:Int)≤(i:Int):=by omega
   have hiS:i<S.length:=by (try simp only [At,I,Fn,Az,Ad]);rw [← HS.out.2];exact h1
   obtain ⟨g,sa,sd,e1,c0,c1,c2,c3,n4⟩:=(HS.out.1.kept (Qc HB2.out hB)) i hiS
   subst e1
   have ed:S.getD i ((0,0,0),[])=S[i]:=by (try simp only [At,I,Fn,Az,Ad]);rw [List.getD_eq_getElem?_getD,List.getElem?_eq_getElem hiS];rfl
   obtain ⟨m,hm⟩:∃ m,m=S[i].2.length:=⟨_,rfl⟩
   obtain ⟨X,Y,K,hk⟩:∃ X Y K,S[i].1=(X,Y,K):=⟨_,_,_,rfl⟩
   (try simp only [At,I] at c0 c1 c2);rw [hk] at c0 c1 c2
   dsimp only at c0 c1 c2
   (try simp only [At] at c3);rw [← hm] at c3
   have HN:Hid (thk S (i+1)=if thk S i<m then m else thk S i):=by
    show thk S (i+1)=if thk S i<m then m else thk S i
    (try simp only [At,I,Fn,Az,Ad]);rw [hm,← ed]
    rfl
   obtain ⟨q,hq⟩:∃ q,q=thk S i:=⟨_,rfl⟩
   (try simp only [Az] at HN ⊢);rw [← hq] at HN ⊢
   have zg:g<wr.heap.size:=World.block_lt_of_cell? _ _ c3
   clear n4
   clear hB ed hm hq hk hiS
   by_cases h2:q<m
   ·have h2':(q:Int)<(m:Int):=by omega
    (try simp only [At,I,Fn,Az,Ad] at HN);rw [if_pos h2] at HN
    go_wp2
    all_goals
     go_roundg (sl - (i+1))
     case measure=>omega
     case rel=>exact ⟨i+1,by omega,rfl,by (try simp only [At,I,Fn,Az,Ad]);rw [HN.out];congr 1;omega,by go_num,Qb HB.out⟩
   ·have h2':¬ (q:Int)<(m:Int):=by omega
    (try simp only [At,I,Fn,Az,Ad] at HN);rw [if_neg h2] at HN
    go_wp2
    all_goals
     go_roundg (sl - (i+1))
     case measure=>omega
     case rel=>exact ⟨i+1,by omega,rfl,by (try simp only [At,I,Fn,Az,Ad]);rw [HN.out];congr 1;omega,by go_num,Qb HB.out⟩
  ·have i1:¬ (i:Int)<(sl:Int):=by omega
   obtain rfl:i=sl:=by omega
   clear hB
   go_upto_region 10 with fail
   have kc:=Kin.cells wr
   have kn:Nonempty (Kin wr):=⟨⟨wr,Qe _⟩⟩
   refine wp_region_kin (by kernel_rfl) (by kernel_rfl) ?_
   repeat (go_big_quiet_step (fail))
   refine wpQuiet_nil ?_
   intro wq hw'
   obtain ⟨nq,hw''⟩:=hw'
   have hq:Below wr.heap.size wr wq:=hw'' ▸ nq.h
   clear hw'' nq kc kn x5
   go_wp2
   exact bodyPost_ret (v:=.tuple #[.int .i64 (thk S i:Int),.int .i64 (i:Int),.int .i64 0]) (by simp [results,Tryz.results9,go_sem]) rfl ⟨rfl,Qc HB2.out (Qc HB.out hq)⟩
end Go.Proofs.YtjkjpopghkeibaaGreatDoor
