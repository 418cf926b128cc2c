/- A part of it. -/
import Derived.Test.YtbjmnlefkbhbdaaGreatDoorQlaw
import Derived.Test.YtbjmnlefkbhbdaaGreatDoorQlba
import Derived.Test.YtbjmnlefkbhbdaaGreatDoorQlbb
import Derived.Test.YtbjmnlefkbhbdaaGreatDoorQlbc
set_option maxRecDepth 100000
set_option maxHeartbeats 40000000
namespace Go.Proofs.YtbjmnlefkbhbdaaGreatDoor
open Go.RowKit
variable {w w':World} {N a b base c d e f g i j m n pc r:Nat} {L pl:List T3} {M:Nat→M6} {kd:E4→Int} {v:Value} {h:Nat→Int} {pa:Option Addr}
theorem met_on (w:World) (base n cc ra rk gm cm pc:Nat) (ad pa a0 a1 L a3:Option Addr) (c0 c1 c2 c3:Nat) (p q r s A B C E:Int) (i j a6:Nat) (D:MD) (hO:Ow w base (.slice a0 D.a0.length c0) (.slice a1 D.b0.length c1) (.slice L D.a1.length c2) (.slice a3 D.b1.length c3) D) (hb:base≤w.heap.size) (hn:a6=0∨a6=1) (h1:D.a0.length≤100000000) (h2:D.a1.length≤100000000)
  (CS:Hid (∀ V:World,Bl w V→Rt 178 #[.agg #[.slice ad n cc,.map (some ra),.map (some rk),.slice (Az gm) n cm,.slice pa n pc],.agg #[I p,I q,I r,I s],I (i:Int)] V (I (a6:Int))))
  (CK:Hid (∀ V:World,Bl w V→Rt 104 #[.agg #[.slice ad n cc,.map (some ra),.map (some rk)],.agg #[I A,I B,I C,I E]] V (I 0))) :
  Cl 148 #[.agg #[.slice ad n cc,.map (some ra),.map (some rk),.slice (Az gm) n cm,.slice pa n pc],.agg #[.slice a0 D.a0.length c0,.slice a1 D.b0.length c1,.slice L D.a1.length c2,.slice a3 D.b1.length c3],.agg #[I p,I q,I r,I s],I (i:Int),.agg #[I A,I B,I C,I E,I (j:Int)]] w fun e w'=>MtTo w w' base (.slice a0 D.a0.length c0) (.slice a1 D.b0.length c1) (.slice L D.a1.length c2) (.slice a3 D.b1.length c3) (mtO D a6 i j) e:=by
 have G:=H2 hO hb;obtain ⟨i3,hi,be,bf,bg⟩:=info_parts inf3;have X:=H4 hi be bf bg;clear hO hb hi be bf bg;go_enter Tryz.func148,Tryz.ntmps148;go_upto_region 1 with fail
 refine Qj (fun x hW0=>?_)
 have az:Hid (Bl w x):=by
  rw [hW0];exact Qc β4
 have p0:At x w.heap.size 0 (.slice ad n cc):=η;have p1:At x w.heap.size 1 (.map (some ra)):=η;have p2:At x w.heap.size 2 (.map (some rk)):=η;have p3:At x w.heap.size 3 (.slice (Az gm) n cm):=η;have p4:At x w.heap.size 4 (.slice pa n pc):=η;have m0:At x (w.heap.size+1) 0 (.slice a0 D.a0.length c0):=η;have m1:At x (w.heap.size+1) 1 (.slice a1 D.b0.length c1):=η;have m2:At x (w.heap.size+1) 2 (.slice L D.a1.length c2):=η;have m3:At x (w.heap.size+1) 3 (.slice a3 D.b1.length c3):=η;have jt:At x (w.heap.size+1+1+1) 4 (I (j:Int)):=η;have r0:At x (w.heap.size+1+1+1+1) 0 SN:=η;have r1:At x (w.heap.size+1+1+1+1) 1 SN:=η;have r2:At x (w.heap.size+1+1+1+1) 2 SN:=η;have r3:At x (w.heap.size+1+1+1+1) 3 SN:=η;have f0:x.frozen? ⟨w.heap.size+1+1+1+1,0,none⟩=false:=η;have g0:x.frozen? ⟨w.heap.size+1,0,none⟩=false:=η;have f1:x.frozen? ⟨w.heap.size+1+1+1+1,1,none⟩=false:=η;have g1:x.frozen? ⟨w.heap.size+1,1,none⟩=false:=η;have f2:x.frozen? ⟨w.heap.size+1+1+1+1,2,none⟩=false:=η;have g2:x.frozen? ⟨w.heap.size+1,2,none⟩=false:=η;have f3:x.frozen? ⟨w.heap.size+1+1+1+1,3,none⟩=false:=η;have g3:x.frozen? ⟨w.heap.size+1,3,none⟩=false:=η;have q0:At x (w.heap.size+1+1) 0 (I p):=η;have q1:At x (w.heap.size+1+1) 1 (I q):=η;have q2:At x (w.heap.size+1+1) 2 (I r):=η;have q3:At x (w.heap.size+1+1) 3 (I s):=η;have j0:At x (w.heap.size+1+1+1) 0 (I A):=η;have j1:At x (w.heap.size+1+1+1) 1 (I B):=η;have j2:At x (w.heap.size+1+1+1) 2 (I C):=η;have j3:At x (w.heap.size+1+1+1) 3 (I E):=η;have z0:x.heap.size=w.heap.size+5:=by rw [hW0];simp
 clear hW0;have bc:Hid (∀ V:World,Bl x V→Rt 178 #[.agg #[.slice ad n cc,.map (some ra),.map (some rk),.slice (Az gm) n cm,.slice pa n pc],.agg #[I p,I q,I r,I s],I (i:Int)] V (I (a6:Int))):=fun V hV=>CS.out V (Qb az.out hV);have bb:Hid (∀ V:World,Bl x V→Rt 104 #[.agg #[.slice ad n cc,.map (some ra),.map (some rk)],.agg #[I A,I B,I C,I E]] V (I 0)):=fun V hV=>CK.out V (Qb az.out hV);obtain ⟨kc,kn⟩:=kcn x;have y0:w.heap.size<x.heap.size:=γ;have y1:w.heap.size+1+1<x.heap.size:=γ;have y2:w.heap.size+1+1+1<x.heap.size:=γ;refine wk ?_;repeat (go_big_quiet_step ((first | (go_at_call 178;exact Qm (bc.out _ (Kin.h _))) | (go_at_call 104;exact Qm (bb.out _ (Kin.h _))) | fail)))
 refine kq1 (fun y hq=>?_);clear kc kn bc bb CS CK q0 q1 q2 q3 j0 j1 j2 j3;replace p0:=Qa hq p0;replace p1:=Qa hq p1;replace p2:=Qa hq p2;replace p3:=Qa hq p3;replace p4:=Qa hq p4;replace m0:=Qa hq m0;replace m1:=Qa hq m1;replace m2:=Qa hq m2;replace m3:=Qa hq m3;replace jt:=Qa hq jt;replace r0:=Qa hq r0;replace r1:=Qa hq r1;replace r2:=Qa hq r2;replace r3:=Qa hq r3;replace f0:Fn y (w.heap.size+1+1+1+1) 0:=(hq.frozen θ).trans f0;replace g0:Fn y (w.heap.size+1) 0:=(hq.frozen θ).trans g0;replace f1:Fn y (w.heap.size+1+1+1+1) 1:=(hq.frozen θ).trans f1;replace g1:Fn y (w.heap.size+1) 1:=(hq.frozen θ).trans g1;replace f2:Fn y (w.heap.size+1+1+1+1) 2:=(hq.frozen θ).trans f2;replace g2:Fn y (w.heap.size+1) 2:=(hq.frozen θ).trans g2;replace f3:Fn y (w.heap.size+1+1+1+1) 3:=(hq.frozen θ).trans f3;replace g3:Fn y (w.heap.size+1) 3:=(hq.frozen θ).trans g3;have M:=Hd (Qb az.out hq);have zq:w.heap.size+5≤y.heap.size:=by have:=hq.size;omega
 have zb:w.heap.size+1<y.heap.size:=γ;have zc:w.heap.size+1<y.heap.size+1:=γ;clear hq az z0 y0 y1 y2;rcases hn with rfl | rfl
 ·have K:(y.alloc (.cells #[I (i:Int)] 3)).ownsRow base 3 1 (.slice a0 D.a0.length c0) D.a0.length (nV D.a0):=Qh G.out.1.o0 (Qc M.out);have Q:Hid ((y.alloc (.cells #[I (i:Int)] 3)).ownsRow base 3 1 (.slice a0 D.a0.length c0) D.a0.length (nV D.a0)∧base≤(y.alloc (.cells #[I (i:Int)] 3)).heap.size):=⟨K,by have:=(Qc (o:=.cells #[I (i:Int)] 3) M.out).size;have:=G.out.2;omega⟩
  have aj:∀ b,w.heap.size≤b→some b≠(Value.slice a0 D.a0.length c0).ownBlock:=fun b hb e=>by
   have:=(G.out.1.o0.lt b e.symm).2;omega
  have f:=Hd aj;clear K aj;go_upto_region 6 with (at_builtin;refine wpList_append_lies _ rfl (.tmp 44) (.tmp 46) 23 rfl base 3 i3 (I 0) 1 8 Tryz.underlying23 X.out.1 X.out.2.1 X.out.2.2.1 X.out.2.2.2 rfl τ (.slice a0 D.a0.length c0) D.a0.length (nV D.a0) rfl Q.out.1 ⟨y.heap.size,0,none⟩ 1 1 [I (i:Int)] rfl rfl (Xb _ ζ) (Jx _) τ Γ γ Q.out.2 (y.heap.size+1) ν ?_;rintro g7 c7 w5 ak U ah ai;have HG:=H3 ak U ah;have b7:At w5 (w.heap.size+1) 0 (.slice a0 D.a0.length c0):=U.cell (Ql m0) (f.out _ θ);have bh:Fn w5 (w.heap.size+1) 0:=(Fo (U.block (w.heap.size+1) ψ (f.out _ γ))).trans (((Qc (Qd y)).frozen θ).trans g0);have ez:=Bt b7;clear ak U ah)
  refine Qj (fun l c=>?_);have d:=HG.out.2.1;have x0:At l (w.heap.size+1) 0 (.slice (Az g7) (D.a0.length+1) c7):=by rw [c];exact Cs _ _ _ b7
  have x1:At l (w.heap.size+1) 1 (.slice a1 D.b0.length c1):=by rw [c];exact (Co _ _ _ _ ν).trans (d.cell (Ql m1) (f.out _ θ))
  have x2:At l (w.heap.size+1) 2 (.slice L D.a1.length c2):=by rw [c];exact (Co _ _ _ _ ν).trans (d.cell (Ql m2) (f.out _ θ))
  have x3:At l (w.heap.size+1) 3 (.slice a3 D.b1.length c3):=by rw [c];exact (Co _ _ _ _ ν).trans (d.cell (Ql m3) (f.out _ θ))
  have xj:At l (w.heap.size+1+1+1) 4 (I (j:Int)):=by rw [c];exact (World.cell?_setCell_far _ _ _ _ θ).trans (d.cell (Ql jt) (f.out _ θ))
  have av:At l (w.heap.size+1+1+1+1) 0 SN:=by rw [c];exact (World.cell?_setCell_far _ _ _ _ θ).trans (d.cell (Ql r0) (f.out _ θ))
  have an:l.frozen? ⟨w.heap.size+1+1+1+1,0,none⟩=false:=by rw [c,Fz];exact (Fo (d.block (w.heap.size+1+1+1+1) ψ (f.out _ γ))).trans (((Qc (Qd y)).frozen θ).trans f0)
  have aw:At l (w.heap.size+1+1+1+1) 1 SN:=by rw [c];exact (World.cell?_setCell_far _ _ _ _ θ).trans (d.cell (Ql r1) (f.out _ θ))
  have ao:l.frozen? ⟨w.heap.size+1+1+1+1,1,none⟩=false:=by rw [c,Fz];exact (Fo (d.block (w.heap.size+1+1+1+1) ψ (f.out _ γ))).trans (((Qc (Qd y)).frozen θ).trans f1)
  have ax:At l (w.heap.size+1+1+1+1) 2 SN:=by rw [c];exact (World.cell?_setCell_far _ _ _ _ θ).trans (d.cell (Ql r2) (f.out _ θ))
  have ap:l.frozen? ⟨w.heap.size+1+1+1+1,2,none⟩=false:=by rw [c,Fz];exact (Fo (d.block (w.heap.size+1+1+1+1) ψ (f.out _ γ))).trans (((Qc (Qd y)).frozen θ).trans f2)
  have ay:At l (w.heap.size+1+1+1+1) 3 SN:=by rw [c];exact (World.cell?_setCell_far _ _ _ _ θ).trans (d.cell (Ql r3) (f.out _ θ))
  have aq:l.frozen? ⟨w.heap.size+1+1+1+1,3,none⟩=false:=by rw [c,Fz];exact (Fo (d.block (w.heap.size+1+1+1+1) ψ (f.out _ γ))).trans (((Qc (Qd y)).frozen θ).trans f3)
  have xg:l.frozen? ⟨w.heap.size+1,2,none⟩=false:=by rw [c,Fz];exact (Fo (d.block (w.heap.size+1) ψ (f.out _ γ))).trans (((Qc (Qd y)).frozen θ).trans g2)
  have HX:Hid (Sam w5 l (fun k=>k=w.heap.size+1)):=by rw [c];exact Sam.set _ _ _ _
  have HY:Hid (Sam w w5 (fun k=>(Value.slice a0 D.a0.length c0).ownBlock=some k)):=(Sam.below (R:=fun k=>(Value.slice a0 D.a0.length c0).ownBlock=some k) (Qc M.out)).then (Sam.grown d) fun k _ h=>h;have b5:Hid (Below base w w5):=((Qc (o:=.cells #[I (i:Int)] 3) M.out).mono G.out.2).grown d Q.out.2 (Qn G.out.1.o0);have b6:Hid (Below base w l):=by rw [c];exact b5.out.setCell (p:=⟨w.heap.size+1,0,none⟩) (by have:=G.out.2;dsimp only;omega) _
  have z5:y.heap.size+1≤w5.heap.size:=by have:=d.size;simpa using this
  have bt:w5.heap.size≤l.heap.size:=HX.out.size;have bu:g7<w5.heap.size:=ai;have am:l.ownsRow base 3 1 (.slice L D.a1.length c2) D.a1.length (nV D.a1):=(HY.out.then HX.out fun k hk e=>by omega).own G.out.1.o2 fun g e q=>G.out.1.d0 g q e;have af:=Hd am
  have Y:∀ b,w.heap.size≤b→some b≠(Value.slice L D.a1.length c2).ownBlock:=fun b hb e=>by
   have:=(G.out.1.o2.lt b e.symm).2;omega
  have J:=Hd Y;clear d c am Y b7 bh p0 p1 p2 p3 p4 m0 m1 m2 m3 jt r0 r1 r2 r3 f0 g0 f1 g1 f2 g2 f3 g3 M Q f;have HS:Hid (∀ V:World,Bl l V→(fun w'=>At w' (w.heap.size+1) 0 (.slice (Az g7) (D.a0.length+1) c7)∧At w' (w.heap.size+1) 1 (.slice a1 D.b0.length c1)∧At w' (w.heap.size+1) 2 (.slice L D.a1.length c2)∧At w' (w.heap.size+1) 3 (.slice a3 D.b1.length c3)∧At w' (w.heap.size+1+1+1) 4 (I (j:Int))) V):=fun V hV=>⟨Qa hV x0,Qa hV x1,Qa hV x2,Qa hV x3,Qa hV xj⟩;refine Qz (S:=fun w'=>At w' (w.heap.size+1) 0 (.slice (Az g7) (D.a0.length+1) c7)∧At w' (w.heap.size+1) 1 (.slice a1 D.b0.length c1)∧At w' (w.heap.size+1) 2 (.slice L D.a1.length c2)∧At w' (w.heap.size+1) 3 (.slice a3 D.b1.length c3)∧At w' (w.heap.size+1+1+1) 4 (I (j:Int))) (late:=fun j=>decide (j=13)) μ ?_;have t:=HS.out _ (Qe (Qd l));refine Lkd 0 (I 0) t ?_;refine Lkd 1 (I 1) t ?_;refine Lkd 2 (I 0) t ?_;refine Lkd 3 (I 1) t ?_;refine Lkd 4 (.pointer (Ad (w.heap.size+1) 2)) t ?_;refine Lkd 5 (.pointer (Ad (w.heap.size+1) 2)) t ?_;refine Lkd 6 (.slice L D.a1.length c2) t ?_;refine Lkd 7 (.pointer (Ad (w.heap.size+1+1+1) 4)) t ?_;refine Lkd 8 (I (j:Int)) t ?_;refine Lt.one (i:=9) μ rfl rfl ?_;go_simp;refine ⟨HS.out (l.alloc (.cells #[I (j:Int)] 3)) β1, ?_⟩;have F:Bl l ((l.alloc (.cells #[I (j:Int)] 3)).drew):=Qe β1;obtain ⟨u8,W,hr,ab,H,ba,Z⟩:=run_append_own_at (P:=Tryz.prog) ((l.alloc (.cells #[I (j:Int)] 3)).drew) base 23 23 3 i3 (I 0) 1 8 Tryz.underlying23 X.out.1 X.out.2.1 X.out.2.2.1 X.out.2.2.2 rfl τ (.slice L D.a1.length c2) D.a1.length (nV D.a1) (Qh af.out F) ⟨l.heap.size,0,none⟩ 1 1 [I (j:Int)] rfl (Xb _ ζ) (Jx _) Γ γ (by have:=F.size;have:=G.out.2;omega);obtain ⟨a8,c8,rfl,_⟩:=Qt ab;have N:∀ (a:Addr) (u:Value),w.heap.size≤a.block→l.cell? a=some u→W.cell? a=some u:=fun a u hl hc=>H.cell (w:=((l.alloc (.cells #[I (j:Int)] 3)).drew)) (Qi (Ql hc)) (J.out _ hl);have a7:=N _ _ θ x0;have ac:=N _ _ θ x1;have aa:=N _ _ θ x2;have ae:=N _ _ θ x3;have au:=N _ _ θ xj;have O:(fun w'=>At w' (w.heap.size+1) 0 (.slice (Az g7) (D.a0.length+1) c7)∧At w' (w.heap.size+1) 1 (.slice a1 D.b0.length c1)∧At w' (w.heap.size+1) 2 (.slice L D.a1.length c2)∧At w' (w.heap.size+1) 3 (.slice a3 D.b1.length c3)∧At w' (w.heap.size+1+1+1) 4 (I (j:Int))) W:=⟨a7,ac,aa,ae,au⟩;have fy:∀ b o,w.heap.size≤b→b<l.heap.size→Fn l b o→Fn W b o:=fun b o hl b9 hc=>(Fo (H.block b ψ (J.out _ hl))).trans ((F.frozen (p:=⟨b,o,none⟩) b9).trans hc);have z8:l.heap.size+1≤W.heap.size:=by have:=H.size;simpa using this
  try simp only [Ap]
  refine Lt.one (i:=10) μ rfl rfl ?_;refine Jd (.tmp 56) (.tmp 59) 23 rfl _ _ (.slice a8 (D.a1.length+1) c8) W rfl rfl hr ?_;refine ⟨fun _=>O, ?_⟩;try simp only [Ap]
  refine Lkd 11 (.pointer (Ad (w.heap.size+1) 2)) O ?_;refine Lkd 12 (.pointer (Ad (w.heap.size+1) 2)) O ?_;have ar:=fy _ _ γ γ xg;refine Lt.one (i:=13) μ rfl rfl ?_;refine Yb (w':=W.setCell ⟨w.heap.size+1,2,none⟩ (.slice a8 (D.a1.length+1) c8)) (by first | go_simp | simp [go_sem,aa,ar]) ?_;refine ⟨fun h=>absurd h τ, ?_⟩;try simp only [Ap]
  refine Lt.done μ ?_;go_upto_region 7 with fail
  refine Qj (fun z m=>?_);have v0:At z (w.heap.size+1) 0 (.slice (Az g7) (D.a0.length+1) c7):=by rw [m];exact (Co _ _ _ _ ν).trans a7
  have v1:At z (w.heap.size+1) 1 (.slice a1 D.b0.length c1):=by rw [m];exact (Co _ _ _ _ ν).trans ac
  have v2:At z (w.heap.size+1) 2 (.slice a8 (D.a1.length+1) c8):=by rw [m];exact Cs _ _ _ aa
  have v3:At z (w.heap.size+1) 3 (.slice a3 D.b1.length c3):=by rw [m];exact (Co _ _ _ _ ν).trans ae
  have bp:At z (w.heap.size+1+1+1+1) 0 SN:=by rw [m];exact (World.cell?_setCell_far _ _ _ _ θ).trans (N _ _ θ av)
  have bk:z.frozen? ⟨w.heap.size+1+1+1+1,0,none⟩=false:=by rw [m,Fz];exact fy _ _ γ γ an
  have bq:At z (w.heap.size+1+1+1+1) 1 SN:=by rw [m];exact (World.cell?_setCell_far _ _ _ _ θ).trans (N _ _ θ aw)
  have bm:z.frozen? ⟨w.heap.size+1+1+1+1,1,none⟩=false:=by rw [m,Fz];exact fy _ _ γ γ ao
  have br:At z (w.heap.size+1+1+1+1) 2 SN:=by rw [m];exact (World.cell?_setCell_far _ _ _ _ θ).trans (N _ _ θ ax)
  have bn:z.frozen? ⟨w.heap.size+1+1+1+1,2,none⟩=false:=by rw [m,Fz];exact fy _ _ γ γ ap
  have bs:At z (w.heap.size+1+1+1+1) 3 SN:=by rw [m];exact (World.cell?_setCell_far _ _ _ _ θ).trans (N _ _ θ ay)
  have bo:z.frozen? ⟨w.heap.size+1+1+1+1,3,none⟩=false:=by rw [m,Fz];exact fy _ _ γ γ aq
  have ag:Hid (Sam W z (fun k=>k=w.heap.size+1)):=by rw [m];exact Sam.set _ _ _ _
  have T:Hid (Sam l W (fun k=>(Value.slice L D.a1.length c2).ownBlock=some k)∧W.ownsRow base 3 1 (.slice a8 (D.a1.length+1) c8) (D.a1.length+1) (nV D.a1 ++ [I (j:Int)])∧((Value.slice a8 (D.a1.length+1) c8).ownBlock=(Value.slice L D.a1.length c2).ownBlock∨(Value.slice a8 (D.a1.length+1) c8).ownBlock=some (l.heap.size+1))∧Below base w z):=⟨(Sam.below (R:=fun k=>(Value.slice L D.a1.length c2).ownBlock=some k) F).then (Sam.grown H) fun k _ h=>h,ab,by simpa using Z,by
   rw [m];exact ((b6.out.trans (F.mono (by have:=G.out.2;omega))).grown H (by have:=F.size;have:=G.out.2;omega) (Qn af.out)).setCell (p:=⟨w.heap.size+1,2,none⟩) (by have:=G.out.2;dsimp only;omega) _⟩
  have HM:Hid (mtO D 0 i j=⟨D.a0 ++ [i],D.b0,D.a1 ++ [j],D.b1⟩):=rfl;have zz:w.heap.size+5≤z.heap.size:=by have:=ag.out.size;omega
  have bj:=G.out.2;clear m x0 x1 x2 x3 xj a7 ac aa ae au N fy hr ab H ba Z F O t HS xg ar av an aw ao ax ap ay aq J X;go_wp2;refine bodyPost_ret (v:=.agg #[.slice (Az g7) (D.a0.length+1) c7,.slice a1 D.b0.length c1,.slice a8 (D.a1.length+1) c8,.slice a3 D.b1.length c3]) (by simp [results,Tryz.results148,go_sem, *]) rfl ?_;rw [HM.out];refine mt_on0 (N6:=w.heap.size+1) (Nt:=w.heap.size+1+1+1+1) (H1:=y.heap.size+1) (H2:=l.heap.size+1) G.out.1 HY.out HG.out.1 (fun g e=>?_) HX.out T.out.1 T.out.2.1 (fun g e=>?_) ag.out ((((Sam.set _ _ _ _).then (Sam.set _ _ _ _) fun _ _ h=>h).then (Sam.set _ _ _ _) fun _ _ h=>h).then (Sam.set _ _ _ _) fun _ _ h=>h) γ γ γ γ γ ((((T.out.2.2.2.setCell θ _).setCell θ _).setCell θ _).setCell θ _)
  ·simp only [Value.ownBlock,Option.some.injEq] at e;subst e;exact HG.out.2.2
  ·rcases T.out.2.2.1 with h | h
   ·exact Or.inl (h ▸ e)
   ·rw [h] at e;simp at e;exact Or.inr e.symm
 ·have K:(y.alloc (.cells #[I (i:Int)] 3)).ownsRow base 3 1 (.slice L D.a1.length c2) D.a1.length (nV D.a1):=Qh G.out.1.o2 (Qc M.out);have Q:Hid ((y.alloc (.cells #[I (i:Int)] 3)).ownsRow base 3 1 (.slice L D.a1.length c2) D.a1.length (nV D.a1)∧base≤(y.alloc (.cells #[I (i:Int)] 3)).heap.size):=⟨K,by have:=(Qc (o:=.cells #[I (i:Int)] 3) M.out).size;have:=G.out.2;omega⟩
  have aj:∀ b,w.heap.size≤b→some b≠(Value.slice L D.a1.length c2).ownBlock:=fun b hb e=>by
   have:=(G.out.1.o2.lt b e.symm).2;omega
  have f:=Hd aj;clear K aj;go_upto_region 6 with (at_builtin;refine wpList_append_lies _ rfl (.tmp 44) (.tmp 46) 23 rfl base 3 i3 (I 0) 1 8 Tryz.underlying23 X.out.1 X.out.2.1 X.out.2.2.1 X.out.2.2.2 rfl τ (.slice L D.a1.length c2) D.a1.length (nV D.a1) rfl Q.out.1 ⟨y.heap.size,0,none⟩ 1 1 [I (i:Int)] rfl rfl (Xb _ ζ) (Jx _) τ Γ γ Q.out.2 (y.heap.size+1) ν ?_;rintro g7 c7 w5 ak U ah ai;have HG:=H3 ak U ah;have b8:At w5 (w.heap.size+1) 2 (.slice L D.a1.length c2):=U.cell (Ql m2) (f.out _ θ);have bi:Fn w5 (w.heap.size+1) 2:=(Fo (U.block (w.heap.size+1) ψ (f.out _ γ))).trans (((Qc (Qd y)).frozen θ).trans g2);have ez:=Bt b8;clear ak U ah)
  refine Qj (fun l c=>?_);have d:=HG.out.2.1;have x0:At l (w.heap.size+1) 0 (.slice a0 D.a0.length c0):=by rw [c];exact (Co _ _ _ _ ν).trans (d.cell (Ql m0) (f.out _ θ))
  have x1:At l (w.heap.size+1) 1 (.slice a1 D.b0.length c1):=by rw [c];exact (Co _ _ _ _ ν).trans (d.cell (Ql m1) (f.out _ θ))
  have x2:At l (w.heap.size+1) 2 (.slice (Az g7) (D.a1.length+1) c7):=by rw [c];exact Cs _ _ _ b8
  have x3:At l (w.heap.size+1) 3 (.slice a3 D.b1.length c3):=by rw [c];exact (Co _ _ _ _ ν).trans (d.cell (Ql m3) (f.out _ θ))
  have xj:At l (w.heap.size+1+1+1) 4 (I (j:Int)):=by rw [c];exact (World.cell?_setCell_far _ _ _ _ θ).trans (d.cell (Ql jt) (f.out _ θ))
  have av:At l (w.heap.size+1+1+1+1) 0 SN:=by rw [c];exact (World.cell?_setCell_far _ _ _ _ θ).trans (d.cell (Ql r0) (f.out _ θ))
  have an:l.frozen? ⟨w.heap.size+1+1+1+1,0,none⟩=false:=by rw [c,Fz];exact (Fo (d.block (w.heap.size+1+1+1+1) ψ (f.out _ γ))).trans (((Qc (Qd y)).frozen θ).trans f0)
  have aw:At l (w.heap.size+1+1+1+1) 1 SN:=by rw [c];exact (World.cell?_setCell_far _ _ _ _ θ).trans (d.cell (Ql r1) (f.out _ θ))
  have ao:l.frozen? ⟨w.heap.size+1+1+1+1,1,none⟩=false:=by rw [c,Fz];exact (Fo (d.block (w.heap.size+1+1+1+1) ψ (f.out _ γ))).trans (((Qc (Qd y)).frozen θ).trans f1)
  have ax:At l (w.heap.size+1+1+1+1) 2 SN:=by rw [c];exact (World.cell?_setCell_far _ _ _ _ θ).trans (d.cell (Ql r2) (f.out _ θ))
  have ap:l.frozen? ⟨w.heap.size+1+1+1+1,2,none⟩=false:=by rw [c,Fz];exact (Fo (d.block (w.heap.size+1+1+1+1) ψ (f.out _ γ))).trans (((Qc (Qd y)).frozen θ).trans f2)
  have ay:At l (w.heap.size+1+1+1+1) 3 SN:=by rw [c];exact (World.cell?_setCell_far _ _ _ _ θ).trans (d.cell (Ql r3) (f.out _ θ))
  have aq:l.frozen? ⟨w.heap.size+1+1+1+1,3,none⟩=false:=by rw [c,Fz];exact (Fo (d.block (w.heap.size+1+1+1+1) ψ (f.out _ γ))).trans (((Qc (Qd y)).frozen θ).trans f3)
  have xg:l.frozen? ⟨w.heap.size+1,0,none⟩=false:=by rw [c,Fz];exact (Fo (d.block (w.heap.size+1) ψ (f.out _ γ))).trans (((Qc (Qd y)).frozen θ).trans g0)
  have HX:Hid (Sam w5 l (fun k=>k=w.heap.size+1)):=by rw [c];exact Sam.set _ _ _ _
  have HY:Hid (Sam w w5 (fun k=>(Value.slice L D.a1.length c2).ownBlock=some k)):=(Sam.below (R:=fun k=>(Value.slice L D.a1.length c2).ownBlock=some k) (Qc M.out)).then (Sam.grown d) fun k _ h=>h;have b5:Hid (Below base w w5):=((Qc (o:=.cells #[I (i:Int)] 3) M.out).mono G.out.2).grown d Q.out.2 (Qn G.out.1.o2);have b6:Hid (Below base w l):=by rw [c];exact b5.out.setCell (p:=⟨w.heap.size+1,2,none⟩) (by have:=G.out.2;dsimp only;omega) _
  have z5:y.heap.size+1≤w5.heap.size:=by have:=d.size;simpa using this
  have bt:w5.heap.size≤l.heap.size:=HX.out.size;have bu:g7<w5.heap.size:=ai;have am:l.ownsRow base 3 1 (.slice a0 D.a0.length c0) D.a0.length (nV D.a0):=(HY.out.then HX.out fun k hk e=>by omega).own G.out.1.o0 fun g e q=>G.out.1.d0 g e q;have af:=Hd am
  have Y:∀ b,w.heap.size≤b→some b≠(Value.slice a0 D.a0.length c0).ownBlock:=fun b hb e=>by
   have:=(G.out.1.o0.lt b e.symm).2;omega
  have J:=Hd Y;clear d c am Y b8 bi p0 p1 p2 p3 p4 m0 m1 m2 m3 jt r0 r1 r2 r3 f0 g0 f1 g1 f2 g2 f3 g3 M Q f;have HS:Hid (∀ V:World,Bl l V→(fun w'=>At w' (w.heap.size+1) 0 (.slice a0 D.a0.length c0)∧At w' (w.heap.size+1) 1 (.slice a1 D.b0.length c1)∧At w' (w.heap.size+1) 2 (.slice (Az g7) (D.a1.length+1) c7)∧At w' (w.heap.size+1) 3 (.slice a3 D.b1.length c3)∧At w' (w.heap.size+1+1+1) 4 (I (j:Int))) V):=fun V hV=>⟨Qa hV x0,Qa hV x1,Qa hV x2,Qa hV x3,Qa hV xj⟩;refine Qz (S:=fun w'=>At w' (w.heap.size+1) 0 (.slice a0 D.a0.length c0)∧At w' (w.heap.size+1) 1 (.slice a1 D.b0.length c1)∧At w' (w.heap.size+1) 2 (.slice (Az g7) (D.a1.length+1) c7)∧At w' (w.heap.size+1) 3 (.slice a3 D.b1.length c3)∧At w' (w.heap.size+1+1+1) 4 (I (j:Int))) (late:=fun j=>decide (j=13)) μ ?_;have t:=HS.out _ (Qe (Qd l));refine Lkd 0 (I 1) t ?_;refine Lkd 1 (I 0) t ?_;refine Lkd 2 (I 1) t ?_;refine Lkd 3 (I 0) t ?_;refine Lkd 4 (.pointer (Az (w.heap.size+1))) t ?_;refine Lkd 5 (.pointer (Az (w.heap.size+1))) t ?_;refine Lkd 6 (.slice a0 D.a0.length c0) t ?_;refine Lkd 7 (.pointer (Ad (w.heap.size+1+1+1) 4)) t ?_;refine Lkd 8 (I (j:Int)) t ?_;refine Lt.one (i:=9) μ rfl rfl ?_;go_simp;refine ⟨HS.out (l.alloc (.cells #[I (j:Int)] 3)) β1, ?_⟩;have F:Bl l ((l.alloc (.cells #[I (j:Int)] 3)).drew):=Qe β1;obtain ⟨u8,W,hr,ab,H,ba,Z⟩:=run_append_own_at (P:=Tryz.prog) ((l.alloc (.cells #[I (j:Int)] 3)).drew) base 23 23 3 i3 (I 0) 1 8 Tryz.underlying23 X.out.1 X.out.2.1 X.out.2.2.1 X.out.2.2.2 rfl τ (.slice a0 D.a0.length c0) D.a0.length (nV D.a0) (Qh af.out F) ⟨l.heap.size,0,none⟩ 1 1 [I (j:Int)] rfl (Xb _ ζ) (Jx _) Γ γ (by have:=F.size;have:=G.out.2;omega);obtain ⟨a8,c8,rfl,_⟩:=Qt ab;have N:∀ (a:Addr) (u:Value),w.heap.size≤a.block→l.cell? a=some u→W.cell? a=some u:=fun a u hl hc=>H.cell (w:=((l.alloc (.cells #[I (j:Int)] 3)).drew)) (Qi (Ql hc)) (J.out _ hl);have a7:=N _ _ θ x0;have ac:=N _ _ θ x1;have aa:=N _ _ θ x2;have ae:=N _ _ θ x3;have au:=N _ _ θ xj;have O:(fun w'=>At w' (w.heap.size+1) 0 (.slice a0 D.a0.length c0)∧At w' (w.heap.size+1) 1 (.slice a1 D.b0.length c1)∧At w' (w.heap.size+1) 2 (.slice (Az g7) (D.a1.length+1) c7)∧At w' (w.heap.size+1) 3 (.slice a3 D.b1.length c3)∧At w' (w.heap.size+1+1+1) 4 (I (j:Int))) W:=⟨a7,ac,aa,ae,au⟩;have fy:∀ b o,w.heap.size≤b→b<l.heap.size→Fn l b o→Fn W b o:=fun b o hl b9 hc=>(Fo (H.block b ψ (J.out _ hl))).trans ((F.frozen (p:=⟨b,o,none⟩) b9).trans hc);have z8:l.heap.size+1≤W.heap.size:=by have:=H.size;simpa using this
  try simp only [Ap]
  refine Lt.one (i:=10) μ rfl rfl ?_;refine Jd (.tmp 56) (.tmp 59) 23 rfl _ _ (.slice a8 (D.a0.length+1) c8) W rfl rfl hr ?_;refine ⟨fun _=>O, ?_⟩;try simp only [Ap]
  refine Lkd 11 (.pointer (Az (w.heap.size+1))) O ?_;refine Lkd 12 (.pointer (Az (w.heap.size+1))) O ?_;have ar:=fy _ _ γ γ xg;refine Lt.one (i:=13) μ rfl rfl ?_;refine Yb (w':=W.setCell ⟨w.heap.size+1,0,none⟩ (.slice a8 (D.a0.length+1) c8)) (by first | go_simp | simp [go_sem,a7,ar]) ?_;refine ⟨fun h=>absurd h τ, ?_⟩;try simp only [Ap]
  refine Lt.done μ ?_;go_upto_region 7 with fail
  refine Qj (fun z m=>?_);have v0:At z (w.heap.size+1) 0 (.slice a8 (D.a0.length+1) c8):=by rw [m];exact Cs _ _ _ a7
  have v1:At z (w.heap.size+1) 1 (.slice a1 D.b0.length c1):=by rw [m];exact (Co _ _ _ _ ν).trans ac
  have v2:At z (w.heap.size+1) 2 (.slice (Az g7) (D.a1.length+1) c7):=by rw [m];exact (Co _ _ _ _ ν).trans aa
  have v3:At z (w.heap.size+1) 3 (.slice a3 D.b1.length c3):=by rw [m];exact (Co _ _ _ _ ν).trans ae
  have bp:At z (w.heap.size+1+1+1+1) 0 SN:=by rw [m];exact (World.cell?_setCell_far _ _ _ _ θ).trans (N _ _ θ av)
  have bk:z.frozen? ⟨w.heap.size+1+1+1+1,0,none⟩=false:=by rw [m,Fz];exact fy _ _ γ γ an
  have bq:At z (w.heap.size+1+1+1+1) 1 SN:=by rw [m];exact (World.cell?_setCell_far _ _ _ _ θ).trans (N _ _ θ aw)
  have bm:z.frozen? ⟨w.heap.size+1+1+1+1,1,none⟩=false:=by rw [m,Fz];exact fy _ _ γ γ ao
  have br:At z (w.heap.size+1+1+1+1) 2 SN:=by rw [m];exact (World.cell?_setCell_far _ _ _ _ θ).trans (N _ _ θ ax)
  have bn:z.frozen? ⟨w.heap.size+1+1+1+1,2,none⟩=false:=by rw [m,Fz];exact fy _ _ γ γ ap
  have bs:At z (w.heap.size+1+1+1+1) 3 SN:=by rw [m];exact (World.cell?_setCell_far _ _ _ _ θ).trans (N _ _ θ ay)
  have bo:z.frozen? ⟨w.heap.size+1+1+1+1,3,none⟩=false:=by rw [m,Fz];exact fy _ _ γ γ aq
  have ag:Hid (Sam W z (fun k=>k=w.heap.size+1)):=by rw [m];exact Sam.set _ _ _ _
  have T:Hid (Sam l W (fun k=>(Value.slice a0 D.a0.length c0).ownBlock=some k)∧W.ownsRow base 3 1 (.slice a8 (D.a0.length+1) c8) (D.a0.length+1) (nV D.a0 ++ [I (j:Int)])∧((Value.slice a8 (D.a0.length+1) c8).ownBlock=(Value.slice a0 D.a0.length c0).ownBlock∨(Value.slice a8 (D.a0.length+1) c8).ownBlock=some (l.heap.size+1))∧Below base w z):=⟨(Sam.below (R:=fun k=>(Value.slice a0 D.a0.length c0).ownBlock=some k) F).then (Sam.grown H) fun k _ h=>h,ab,by simpa using Z,by
   rw [m];exact ((b6.out.trans (F.mono (by have:=G.out.2;omega))).grown H (by have:=F.size;have:=G.out.2;omega) (Qn af.out)).setCell (p:=⟨w.heap.size+1,0,none⟩) (by have:=G.out.2;dsimp only;omega) _⟩
  have HM:Hid (mtO D 1 i j=⟨D.a0 ++ [j],D.b0,D.a1 ++ [i],D.b1⟩):=rfl;have zz:w.heap.size+5≤z.heap.size:=by have:=ag.out.size;omega
  have bj:=G.out.2;clear m x0 x1 x2 x3 xj a7 ac aa ae au N fy hr ab H ba Z F O t HS xg ar av an aw ao ax ap ay aq J X;go_wp2;refine bodyPost_ret (v:=.agg #[.slice a8 (D.a0.length+1) c8,.slice a1 D.b0.length c1,.slice (Az g7) (D.a1.length+1) c7,.slice a3 D.b1.length c3]) (by simp [results,Tryz.results148,go_sem, *]) rfl ?_;rw [HM.out];refine mt_on2 (N6:=w.heap.size+1) (Nt:=w.heap.size+1+1+1+1) (H1:=y.heap.size+1) (H2:=l.heap.size+1) G.out.1 HY.out HG.out.1 (fun g e=>?_) HX.out T.out.1 T.out.2.1 (fun g e=>?_) ag.out ((((Sam.set _ _ _ _).then (Sam.set _ _ _ _) fun _ _ h=>h).then (Sam.set _ _ _ _) fun _ _ h=>h).then (Sam.set _ _ _ _) fun _ _ h=>h) γ γ γ γ γ ((((T.out.2.2.2.setCell θ _).setCell θ _).setCell θ _).setCell θ _)
  ·simp only [Value.ownBlock,Option.some.injEq] at e;subst e;exact HG.out.2.2
  ·rcases T.out.2.2.1 with h | h
   ·exact Or.inl (h ▸ e)
   ·rw [h] at e;simp at e;exact Or.inr e.symm
open Go.ChangeMaps
theorem zero114 (w:World):(zeroValue 182).run Tryz.prog w=.ok (.agg #[SN,SN,SN,SN]) w:=μ
def vB (v:Value) (k:Nat):Prop := ∃ s0 s1 s2 s3,v=.agg #[s0,s1,s2,s3]∧mtB s0 s1 s2 s3 k
theorem vB_is {a b c d:Value} {k:Nat}:vB (.agg #[a,b,c,d]) k↔mtB a b c d k:=by
 constructor
 ·rintro ⟨t0,f,g,t3,e,h⟩;simp only [Value.agg.injEq,Array.mk.injEq,List.cons.injEq,and_true] at e;obtain ⟨rfl,rfl,rfl,rfl⟩:=e;exact h
 ·exact fun h=>⟨_,_,_,_,rfl,h⟩
def MGP (w:World) (base ra:Nat) (G:E4→MD) (m:Nat) (X:Nat→Prop):Prop := ∃ ls c,EM w ra ls c∧Good ls c∧ls.length≤m∧(∀ e,lk ls e=none→G e=mdZ)∧(∀ e v,lk ls e=some v→G e≠mdZ∧∃ s0 s1 s2 s3,v=.agg #[s0,s1,s2,s3]∧Ow w base s0 s1 s2 s3 (G e))∧(∀ e e' v v',e≠e'→lk ls e=some v→lk ls e'=some v'→∀ k,vB v k→¬ vB v' k)∧∀ e v,lk ls e=some v→∀ k,vB v k→¬ X k
theorem MGP.kept {G:E4→MD} {X:Nat→Prop} (h:MGP w base a G m X) (hb:Bl w w'):MGP w' base a G m X:=by
 obtain ⟨ls,c,h1,h2,h3,h4,h5,h6⟩:=h;refine ⟨ls,c,(Sam.below (R:=fun _=>False) hb).em h1 id,h2,h3,h4,fun e v b=>?_,h6⟩;obtain ⟨a1,f,g,i,j,rfl,d⟩:=h5 e v b;exact ⟨a1,f,g,i,j,rfl,d.sam (Sam.below (R:=fun _=>False) hb) fun _ _=>id⟩
theorem MGP.made (w:World) (base:Nat):MGP (w.alloc (.map #[] 0)) base w.heap.size (fun _=>mdZ) 0 (fun _=>False) :=
 ⟨[],0,em_made w,good_nil,Nr _,fun _ _=>rfl,(fun e v h=>by cases h),(fun e a v v' _ h=>by cases h),(fun e v h=>by cases h)⟩
theorem MGP.avoid {G:E4→MD} {X Y:Nat→Prop} (h:MGP w base a G m X) (b:∀ k,Y k→w.heap.size≤k):MGP w base a G m Y:=by
 obtain ⟨ls,c,h1,h2,h3,h4,h5,h6,j⟩:=h;refine ⟨ls,c,h1,h2,h3,h4,h5,h6,fun e v d k f i=>?_⟩;obtain ⟨_,l,n,o,p,rfl,g⟩:=h5 e v d;have:=(g.low (vB_is.1 f)).2;have:=b k i;omega
theorem MGP.less {G:E4→MD} {X Y:Nat→Prop} (h:MGP w base a G m X) (d:∀ k,Y k→X k):MGP w base a G m Y:=by
 obtain ⟨ls,c,h1,h2,h3,h4,h5,h6,b⟩:=h;exact ⟨ls,c,h1,h2,h3,h4,h5,h6,fun e v f k g i=>b e v f k g (d k i)⟩
theorem MGP.step {G:E4→MD} {X:Nat→Prop} (h:MGP w base f G m X) (ad:f<base) (e:E4) :
  ∃ l n o p,(∀ W:World,W.heap[f]?=w.heap[f]?→(Instr.lookup 176 (.map (some f)) (ek e) false).run Tryz.prog W=.ok (.agg #[l,n,o,p]) W)∧Ow w base l n o p (G e)∧f<w.heap.size∧(∀ k,mtB l n o p k→¬ X k) ∧
   ∀ (W w':World) (t0 E F t3:Value) (D:MD),Bl w W→Ow w' base t0 E F t3 D→Sam W w' (mtB l n o p)→(∀ k,mtB t0 E F t3 k→mtB l n o p k∨W.heap.size≤k)→(∀ k,X k→k<W.heap.size)→D≠mdZ →
    ∃ W4,(Instr.mapUpdate 176 (.map (some f)) (ek e) (.agg #[t0,E,F,t3])).run Tryz.prog w'=.ok () W4∧MGP W4 base f (fun j=>if j=e then D else G j) (m+1) X∧w'.grownBy W4 (some f):=by
 obtain ⟨ls,c,h1,h2,h3,h4,h5,h6,h7⟩:=h;have x:∀ W:World,W.heap[f]?=w.heap[f]?→(Instr.lookup 176 (.map (some f)) (ek e) false).run Tryz.prog W=.ok ((lk ls e).getD (.agg #[SN,SN,SN,SN])) W:=fun W U=>lookup27 Tryz.underlying176 zero114 (show EM W f ls c from U.trans h1) h2 e
 have B:∃ l n o p,(lk ls e).getD (.agg #[SN,SN,SN,SN])=.agg #[l,n,o,p]∧Ow w base l n o p (G e)∧∀ k,mtB l n o p k→∃ v,lk ls e=some v∧vB v k:=by
  cases hl:lk ls e with
  | none =>
   rw [h4 e hl];exact ⟨_,_,_,_,rfl,ow_zero w base,fun k b=>by rcases b with q | q | q | q <;> cases q⟩
  | some v =>
   obtain ⟨_,l,n,o,p,rfl,V⟩:=h5 e v hl;exact ⟨l,n,o,p,rfl,V,fun k b=>⟨_,rfl,vB_is.2 b⟩⟩
 obtain ⟨l,n,o,p,hs,V,Z⟩:=B;rw [hs] at x;refine ⟨l,n,o,p,x,V,(Array.getElem?_eq_some_iff.1 h1).1,(fun k b P=>by obtain ⟨v,ac,g⟩:=Z k b;exact h7 e v ac k g P),fun W w' t0 E F t3 D U hD H M a2 aa=>?_⟩;have hS:Sam w w' (mtB l n o p):=(Sam.below (R:=mtB l n o p) U).then H fun k _ h=>h;have y:EM w' f ls c:=hS.em h1 fun b=>by have:=(V.low b).1;omega
 obtain ⟨C,c',N,a6,t,L⟩:=update27 Tryz.underlying176 y h2 e (.agg #[t0,E,F,t3]);have J:=Yc y (.map (C.map toE).toArray c');have O:Sam w' (setBlock w' f (.map (C.map toE).toArray c')) (fun k=>k=f):=(Sam.grown J).mono fun k _ q=>by simpa using q.symm
 refine ⟨_,N,⟨C,c',heap_setBlock_same y _,a6,by rw [L];split <;> omega,fun j a=>?_,fun j v a=>?_,fun j j' v v' z a d k b A=>?_,fun j v a k b P=>?_⟩,J⟩
 ·rw [t j] at a;by_cases e1:j=e
  ·rw [if_pos e1] at a
   cases a
  ·rw [if_neg e1] at a;dsimp only;rw [if_neg e1];exact h4 j a
 ·rw [t j] at a;by_cases e1:j=e
  ·rw [if_pos e1] at a;dsimp only;rw [if_pos e1];simp only [Option.some.injEq] at a;subst a;exact ⟨aa,t0,E,F,t3,rfl,hD.sam O fun k b q=>by have:=(hD.low b).1;omega⟩
  ·rw [if_neg e1] at a;dsimp only;rw [if_neg e1];obtain ⟨a1,u0,u1,u2,u3,rfl,Y⟩:=h5 j v a;refine ⟨a1,u0,u1,u2,u3,rfl, ?_⟩
   have b1:=Y.sam hS fun k b a7=>by
    obtain ⟨Q,g,s⟩:=Z k a7;exact h6 j e _ Q e1 a g k (vB_is.2 b) s
   exact b1.sam O fun k b q=>by have:=(b1.low b).1;omega
 ·have r:∀ i u,i≠e→lk ls i=some u→∀ k,vB u k→¬ mtB t0 E F t3 k:=fun i u hi Y k K a8=>by
   rcases M k a8 with q | q
   ·obtain ⟨Q,g,s⟩:=Z k q;exact h6 i e u Q hi Y g k K s
   ·obtain ⟨_,u0,u1,u2,u3,rfl,ab⟩:=h5 i u Y;have:=(ab.low (vB_is.1 K)).2;have:=U.size;omega
  rw [t j] at a;rw [t j'] at d;by_cases e1:j=e
  ·rw [if_pos e1] at a;rw [if_neg (fun e2=>z (e1.trans e2.symm))] at d;simp only [Option.some.injEq] at a;subst a;exact r j' v' (fun T=>z (e1.trans T.symm)) d k A (vB_is.1 b)
  ·rw [if_neg e1] at a;by_cases T:j'=e
   ·rw [if_pos T] at d;simp only [Option.some.injEq] at d;subst d;exact r j v e1 a k b (vB_is.1 A)
   ·rw [if_neg T] at d;exact h6 j j' v v' z a d k b A
 ·rw [t j] at a;by_cases e1:j=e
  ·rw [if_pos e1] at a;simp only [Option.some.injEq] at a;subst a;rcases M k (vB_is.1 b) with q | q
   ·obtain ⟨Q,g,s⟩:=Z k q;exact h7 e Q g k s P
   ·have:=a2 k P;omega
  ·rw [if_neg e1] at a;exact h7 j v a k b P
theorem met_any (w:World) (base n c f g l k pc:Nat) (b pa:Option Addr) (o t u v:Value) (p q r s A B C E:Int) (i j a:Nat) (kd:Int) (h:Bool) (D:MD) (d:Ow w base o t u v D) (hb:base≤w.heap.size) (F:a≤1) (h0:D.a0.length≤100000000) (h1:D.b0.length≤100000000) (h2:D.a1.length≤100000000) (h3:D.b1.length≤100000000)
  (CS:Hid (∀ V:World,Bl w V→Rt 178 #[.agg #[.slice b n c,.map (some f),.map (some g),.slice (Az l) n k,.slice pa n pc],.agg #[I p,I q,I r,I s],I (i:Int)] V (I (a:Int))))
  (x:Hid (∀ V:World,Bl w V→Rt 104 #[.agg #[.slice b n c,.map (some f),.map (some g)],.agg #[I A,I B,I C,I E]] V (I kd)))
  (z:Hid (∀ V:World,Bl w V→Rt 179 #[.agg #[.slice b n c,.map (some f),.map (some g),.slice (Az l) n k,.slice pa n pc],I kd,I (i:Int),I (j:Int)] V (.agg #[I ((fdT kd h i j).1:Int),I ((fdT kd h i j).2:Int)]))) :
  Cl 148 #[.agg #[.slice b n c,.map (some f),.map (some g),.slice (Az l) n k,.slice pa n pc],.agg #[o,t,u,v],.agg #[I p,I q,I r,I s],I (i:Int),.agg #[I A,I B,I C,I E,I (j:Int)]] w fun e w'=>MtTo w w' base o t u v (mt D kd h a i j) e:=by
 obtain ⟨a0,c0,rfl,_⟩:=Qt d.o0;obtain ⟨a1,c1,rfl,_⟩:=Qt d.o1;obtain ⟨y,c2,rfl,_⟩:=Qt d.o2;obtain ⟨a3,c3,rfl,_⟩:=Qt d.o3;have m:a=0∨a=1:=γ;by_cases hk:kd=0
 ·subst hk;have e:mt D 0 h a i j=mtO D a i j:=if_pos rfl;rw [e];exact met_on w base n c f g l k pc b pa a0 a1 y a3 c0 c1 c2 c3 p q r s A B C E i j a D d hb m h0 h2 CS x
 ·have e:mt D kd h a i j=mtF D a (fdT kd h i j):=if_neg hk;rw [e];exact met_fold w base n c f g l k pc b pa a0 a1 y a3 c0 c1 c2 c3 p q r s A B C E i j a _ _ kd D d hb m hk h1 h3 CS x z
def stJ (kd:E4→Int) (M:Nat→M6) (pl:List T3) (i:Nat) (G:E4→MD) (q:E4×Int):E4→MD :=
 if (i:Int)<q.2 then fun e=>if e=bro (M i) q.1 then mt (G (bro (M i) q.1)) (kd q.1) (tov (M i)) (sd (bro (M i) q.1) (pl.getD i (0,0,0))) i q.2.toNat else G e else G
def gJ (kd:E4→Int) (M:Nat→M6) (pl:List T3) (i:Nat) (G:E4→MD) (l:List (E4×Int)):E4→MD:=l.foldl (stJ kd M pl i) G
def gA (kd:E4→Int) (L:List T3) (M:Nat→M6) (pl:List T3):Nat→E4→MD
 | 0=>fun _=>mdZ
 | i+1=>gJ kd M pl i (gA kd L M pl i) (jl L (L.getD i (0,0,0)) i 3)
theorem gJ_succ (kd:E4→Int) (M:Nat→M6) (pl:List T3) (i:Nat) (G:E4→MD) (l:List (E4×Int)) {k:Nat} (a:k<l.length):gJ kd M pl i G (l.take (k+1))=stJ kd M pl i (gJ kd M pl i G (l.take k)) l[k]:=by
 unfold gJ;rw [List.take_succ_eq_append_getElem a,List.foldl_append];rfl
def MdLe (G:E4→MD) (c:Nat):Prop := ∀ e,(G e).a0.length≤c∧(G e).b0.length≤c∧(G e).a1.length≤c∧(G e).b1.length≤c
theorem mt_le {D:MD} (h:D.a0.length≤c∧D.b0.length≤c∧D.a1.length≤c∧D.b1.length≤c) (kd:Int) (b:Bool) (a i j:Nat):(mt D kd b a i j).a0.length≤c+1∧(mt D kd b a i j).b0.length≤c+1∧(mt D kd b a i j).a1.length≤c+1∧(mt D kd b a i j).b1.length≤c+1:=by
 unfold mt mtO mtF;split <;> split <;> simp <;> omega
theorem MdLe.step {G:E4→MD} (h:MdLe G c) (q:E4×Int):MdLe (stJ kd M pl i G q) (c+1):=fun e=>by
 unfold stJ;split
 ·dsimp only;split
  ·exact mt_le (h _) _ _ _ _ _
  ·have:=h e;omega
 ·have:=h e;omega
theorem mt_ne (D:MD) (kd:Int) (b:Bool) (a i j:Nat):mt D kd b a i j≠mdZ:=by
 unfold mt mtO mtF mdZ;split <;> split <;> simp
structure PBx (w:World) (b n cc ra0 rk gm cm pc:Nat) (ad pa:Option Addr):Prop where
 c0:At w b 0 (.slice ad n cc)
 c1:At w b 1 (.map (some ra0))
 c2:At w b 2 (.map (some rk))
 c3:At w b 3 (.slice (Az gm) n cm)
 c4:At w b 4 (.slice pa n pc)
theorem PBx.kept {c:Option Addr} (h:PBx w b n d a g f e pc c pa) (hb:Bl w w'):PBx w' b n d a g f e pc c pa:=⟨Qa hb h.c0,Qa hb h.c1,Qa hb h.c2,Qa hb h.c3,Qa hb h.c4⟩
theorem PBx.sam {R:Nat→Prop} {d:Option Addr} (h:PBx w b n e c i g f pc d pa) (hs:Sam w w' R) (a:¬ R b):PBx w' b n e c i g f pc d pa:=⟨hs.cell h.c0 a,hs.cell h.c1 a,hs.cell h.c2 a,hs.cell h.c3 a,hs.cell h.c4 a⟩
structure MtI (w wx:World) (n cc ra0 rk gm cm pc:Nat) (ad pa:Option Addr) (G:E4→MD) (c:Nat) (X:Nat→Prop):Prop where
 m:MGP wx (w.heap.size+2) (w.heap.size+1) G c X
 le:MdLe G c
 bx:PBx wx w.heap.size n cc ra0 rk gm cm pc ad pa
 bl:Bl w wx
 sz:w.heap.size+2≤wx.heap.size
theorem MtI.kept {i:World} {b:Option Addr} {G:E4→MD} {X:Nat→Prop} (h:MtI w i n d a g f e pc b pa G c X) (hb:Bl i w'):MtI w w' n d a g f e pc b pa G c X :=
 ⟨h.m.kept hb,h.le,h.bx.kept hb,Qb h.bl hb,Nt h.sz hb.size⟩
theorem MtI.mono {l:World} {b:Option Addr} {G:E4→MD} {X:Nat→Prop} (h:MtI w l n f a j i g pc b pa G c X) (o:c≤d):MtI w l n f a j i g pc b pa G d X:=by
 refine ⟨?_,fun e=>by have:=h.le e;omega,h.bx,h.bl,h.sz⟩;obtain ⟨ls,k,h1,h2,h3,h4⟩:=h.m;exact ⟨ls,k,h1,h2,γ,h4⟩
theorem JRow.sam {R:Nat→Prop} {a:Option Addr} {l:List (E4×Int)} (h:JRow w a l) (hs:Sam w w' R) (b:∀ g,a=Az g→¬ R g):JRow w' a l:=fun i hi=>by
 obtain ⟨g,e,h0,h1,h2,h3,h4⟩:=h i hi;have hg:=b g e;exact ⟨g,e,hs.cell h0 hg,hs.cell h1 hg,hs.cell h2 hg,hs.cell h3 hg,hs.cell h4 hg⟩
theorem edge_bdM {x y k p q r s:Int} (hb:(0≤x∧x≤8)∧(0≤y∧y≤8)∧(0≤k∧k≤3)) (h:hasT (x,y,k) (p,q,r,s)=true):(0≤p∧p≤20)∧(0≤q∧q≤20)∧(0≤r∧r≤20)∧(0≤s∧s≤20):=by
 unfold hasT at h;rw [Jb] at h;dsimp only at h;rcases Jz hb.2.2 with rfl | rfl | rfl | rfl <;> simp only [Km,Kl,Kk,Kj,Ki,Kh,Kg,Kf,Ke,Kc,Kb,Ka] at h <;> omega
theorem Gq {a b c d u v:Int} (h:mapM (a,b,c,d,u,v)=true):Sm a b c d∧(-1000000≤u∧u≤1000000)∧(-1000000≤v∧v≤1000000):=by
 have h:mapB a b c d u v=true:=h;have h2:=Xh h;simp only [mapB,evenB,Bool.and_eq_true,decide_eq_true_eq] at h;unfold Sm;omega
def Eb4 (w:World) (b:Nat) (p q r s:Int):Prop:=At w b 0 (I p)∧At w b 1 (I q)∧At w b 2 (I r)∧At w b 3 (I s)
def MtsTo (w w':World) (G:E4→MD) (e:Ending):Prop := ∃ ra base m,e=.returned (.map (some ra))∧MGP w' base ra G m (fun _=>False)∧w.heap.size≤ra∧ra<base∧m≤300000∧Bl w w'
theorem meetings_any (w:World) (n O o T u H pc:Nat) (N pa:Option Addr) (L:List T3) (kd:E4→Int) (M:Nat→M6) (hP:PileAt w N O o T u H pa pc L kd M) (hn:n=L.length) (hL:n≤300) (bm:∀ t∈L,(0≤t.1∧t.1≤8)∧(0≤t.2.1∧t.2.1≤8)∧(0≤t.2.2∧t.2.2≤3)) (be:∀ i,i<L.length→MOk1 L M i) (hs:Steps w) :
  Cl 108 #[.agg #[.slice N n O,.map (some o),.map (some T),.slice (Az u) n H,.slice pa n pc]] w fun e w'=>MtsTo w w' (gA kd L M (pls L M L.length) n) e:=by
 have HR:Hid (PileAt w N O o T u H pa pc L kd M∧n=L.length∧(∀ t∈L,(0≤t.1∧t.1≤8)∧(0≤t.2.1∧t.2.1≤8)∧(0≤t.2.2∧t.2.2≤3))∧(∀ i,i<L.length→MOk1 L M i)∧Steps w):=⟨hP,hn,bm,be,hs⟩;clear hP hn bm be hs;have cd:=@run_makeMap Tryz.prog;go_enter Tryz.func108,Tryz.ntmps108;go_wp2;go_loopg [13] n (fun gk c6 wx=>∃ i:Nat,i≤n∧gk=n - i∧c6=I (i:Int)∧MtI w wx n O o T u H pc N pa (gA kd L M (pls L M L.length) i) (i*900) (fun _=>False))
 case atStart =>
  refine ⟨0,γ,rfl,rfl, ?_⟩;refine ⟨?_,fun e=>by simp [gA,mdZ], ?_, ?_, ?_⟩
  ·have:=MGP.made (w.alloc (.cells #[.slice N n O,.map (some o),.map (some T),.slice (Az u) n H,.slice pa n pc] 67)) (w.heap.size+2);rw [World.size_alloc] at this;simpa [gA] using this
  ·constructor <;> simp [go_sem]
  ·exact Qc β1
  ·simp
 case round =>
  obtain ⟨i,hi,rfl,rfl,hI⟩:=hrel;have HI:Hid (MtI w wr n O o T u H pc N pa (gA kd L M (pls L M L.length) i) (i*900) (fun _=>False)):=hI;clear hI;by_cases h1:i<n
  ·have i1:(i:Int)<(n:Int):=γ;have i0:(0:Int)≤(i:Int):=γ;have Q:i<L.length:=HR.out.2.1 ▸ h1;obtain ⟨x,y,z,hx⟩:∃ x y z,L[i]=(x,y,z):=⟨_,_,_,rfl⟩;obtain ⟨l,hl⟩:∃ l,l=jl L (x,y,z) i 3:=⟨_,rfl⟩;have HL:Hid (L.getD i (0,0,0)=(x,y,z)∧l=jl L (x,y,z) i 3∧l.length≤900):=⟨by rw [Qq L i Q,hx],hl,by rw [hl];have:=Uv L (x,y,z) i 3;have:=HR.out.2.1;omega⟩
   have CJ:Hid (∀ V:World,Bl wr V→Cl 89 #[.agg #[.slice N n O,.map (some o),.map (some T)],I (i:Int)] V fun e w'=>∃ v,e=.returned v∧w'.ownsRow (V.heap.size+1) 79 5 v l.length (flatJ l)∧Bl V w'):=fun V hV=>by
    have hB:=Qb HI.out.bl hV;have:=Xm V O o T i N L x y z (HR.out.2.2.2.2.kept hB) (HR.out.1.kept hB).tr Q hx.symm (by have:=HR.out.2.1;omega) (by have:=HR.out.2.2.1 _ (Lm Q);rw [hx] at this;exact this);rw [← hl,← HR.out.2.1] at this;exact this
   clear hx hl;have b0:=HI.out.bx.c0;have b1:=HI.out.bx.c1;have b2:=HI.out.bx.c2;go_wp2_with (go_at_call 89;(with_reducible refine (CJ.out _ (Qd _)).mono ?_);rintro e w2 ⟨v,rfl,ho,bi⟩;obtain ⟨ja,jc,rfl,hJ⟩:=own_joints ho;have HJ:Hid (JRow w2 ja l∧(∀ g,ja=Az g→g<w2.heap.size∧w.heap.size+2≤g∧wr.heap.size≤g)∧Bl wr w2):=⟨hJ,fun g e=>by have:=ho.lt g (by rw [e];rfl);have:=HI.out.sz;omega,bi⟩;clear hJ ho bi)
   go_loopg [21] l.length (fun gk c7 wx=>∃ k:Nat,k≤l.length∧gk=l.length - k∧c7=I (k:Int)∧MtI w wx n O o T u H pc N pa (gJ kd M (pls L M L.length) i (gA kd L M (pls L M L.length) i) (l.take k)) (i*900+k) (fun b=>ja=Az b)∧JRow wx ja l∧(∀ g,ja=Az g→g<wx.heap.size∧w.heap.size+2≤g))
   case atStart =>
    refine ⟨0,γ,rfl,rfl, ?_,HJ.out.1,fun g e=>⟨(HJ.out.2.1 g e).1,(HJ.out.2.1 g e).2.1⟩⟩;have:=HI.out;exact (⟨this.m.avoid fun b hb=>(HJ.out.2.1 b hb).2.2,this.le,this.bx,this.bl,this.sz⟩:MtI w wr n O o T u H pc N pa _ _ _).kept HJ.out.2.2
   case round =>
    clear HJ CJ b0 b1 b2;obtain ⟨k,hk,rfl,rfl,hM,hJ,hg⟩:=hrel;have HM:Hid (MtI w wr n O o T u H pc N pa (gJ kd M (pls L M L.length) i (gA kd L M (pls L M L.length) i) (l.take k)) (i*900+k) (fun b=>ja=Az b)):=hM;have HJ:Hid (JRow wr ja l∧∀ g,ja=Az g→g<wr.heap.size∧w.heap.size+2≤g):=⟨hJ,hg⟩;clear hM hJ hg;by_cases hk1:k<l.length
    ·have k1:(k:Int)<(l.length:Int):=γ;have k0:(0:Int)≤(k:Int):=γ;obtain ⟨gj,rfl,e0,e1,e2,e3,e4⟩:=HJ.out.1 k hk1;obtain ⟨A,B,C,E,To,hq⟩:∃ A B C E To,l[k]=((A,B,C,E),To):=⟨_,_,_,_,_,rfl⟩;rw [hq] at e0 e1 e2 e3 e4;dsimp only at e0 e1 e2 e3 e4;have ap:((A,B,C,E),To)∈jl L (x,y,z) i 3:=by rw [← HL.out.2.1,← hq];exact Lm hk1
     obtain ⟨m,bz,bo,j,bt,rfl,bv,bu⟩:=Xw.1 ap;have HQ:Hid (l[k]=((A,B,C,E),(j:Int))∧hasT (x,y,z) (A,B,C,E)=true∧j<L.length):=⟨hq,by rw [bo];exact Xq _ _,bt⟩;clear hq ap bo bz bu bv;have h9:=HL.out.2.2;have zj:=Bt e0;have zb:w.heap.size<wr.heap.size:=by have:=HM.out.sz;omega
     by_cases hij:(i:Int)<(j:Int)
     ·go_upto_region 9 with fail
      refine Qj (fun F a6=>?_)
      have ab:Hid (Bl wr F∧Bl w F∧F.heap.size=wr.heap.size+1):=by
       rw [a6];exact ⟨Qc (Qd _),Qc HM.out.bl,ν⟩
      have q0:At F wr.heap.size 0 (I A):=by rw [a6];simp [go_sem]
      have q1:At F wr.heap.size 1 (I B):=by rw [a6];simp [go_sem]
      have q2:At F wr.heap.size 2 (I C):=by rw [a6];simp [go_sem]
      have q3:At F wr.heap.size 3 (I E):=by rw [a6];simp [go_sem]
      have q4:At F wr.heap.size 4 (I (j:Int)):=by rw [a6];simp [go_sem]
      clear a6 e0 e1 e2 e3 e4;have bx:=HM.out.bx.kept ab.out.1;have c0:=bx.c0;have c1:=bx.c1;have c2:=bx.c2;have c3:=bx.c3;have c4:=bx.c4;have c5:=((HR.out.1.mr.kept ab.out.2.1) i Q).1;have aj:=(HR.out.2.2.2.1 i Q);obtain ⟨mA,mB,mC,mD,mU,mV,af⟩:∃ a b c d e f,M i=(a,b,c,d,e,f):=⟨_,_,_,_,_,_,rfl⟩;obtain ⟨p,q,r,s,aw⟩:∃ p q r s,bro (M i) (A,B,C,E)=(p,q,r,s):=⟨_,_,_,_,rfl⟩;have b6:Hid (bro (M i) (A,B,C,E)=(p,q,r,s)∧M i=(mA,mB,mC,mD,mU,mV)):=⟨aw,af⟩;obtain ⟨y0,y1,y2,y3,y4,y5⟩:=c5;rw [af] at y0 y1 y2 y3 y4 y5;dsimp only at y0 y1 y2 y3 y4 y5
      have b9:Hid ((0≤x∧x≤8)∧(0≤y∧y≤8)∧(0≤z∧z≤3)):=by
       have:=HR.out.2.2.1 _ (Lm Q);have e:L[i]=(x,y,z):=by rw [← Qq L i Q (d:=(0,0,0))];exact HL.out.1
       rw [e] at this;exact this
      have CB:Hid (∀ V:World,Rt 147 #[.agg #[I A,I B,I C,I E],.agg #[I mA,I mB,I mC,I mD,I mU,I mV]] V (.agg #[I p,I q,I r,I s])):=fun V=>by
       have ay:=Gq (by have:=aj.1;rw [af] at this;exact this);have c9:=edge_bdM b9.out HQ.out.2.1;have:=Kx A B C E mA mB mC mD mU mV V ay.1 ay.2.1 ay.2.2 γ γ γ γ;rw [← af,aw] at this;exact this
      clear af aw;have zg:=Bt y0;have z8:wr.heap.size<F.heap.size:=by have:=ab.out.2.2;omega
      have z9:w.heap.size<F.heap.size:=γ;have iw:(i:Int)<(n:Int):=i1;have Z:Hid (∀ V:World,Bl F V→(fun w'=>At w' wr.heap.size 0 (I A)∧At w' wr.heap.size 1 (I B)∧At w' wr.heap.size 2 (I C)∧At w' wr.heap.size 3 (I E)∧At w' w.heap.size 3 (.slice (Az u) n H)∧At w' u (i*6) (I mA)∧At w' u (i*6+1) (I mB)∧At w' u (i*6+2) (I mC)∧At w' u (i*6+3) (I mD)∧At w' u (i*6+4) (I mU)∧At w' u (i*6+5) (I mV)) V):=fun V hV=>⟨Qa hV q0,Qa hV q1,Qa hV q2,Qa hV q3,Qa hV c3,Qa hV y0,Qa hV y1,Qa hV y2,Qa hV y3,Qa hV y4,Qa hV y5⟩;go_cut [7] (fun s7 wx=>∃ X:Nat,s7=.pointer (Az X)∧Eb4 wx X p q r s∧Bl F wx∧F.heap.size≤X)
      case first =>
       refine wp_region_held_drew (S:=fun w'=>At w' wr.heap.size 0 (I A)∧At w' wr.heap.size 1 (I B)∧At w' wr.heap.size 2 (I C)∧At w' wr.heap.size 3 (I E)∧At w' w.heap.size 3 (.slice (Az u) n H)∧At w' u (i*6) (I mA)∧At w' u (i*6+1) (I mB)∧At w' u (i*6+2) (I mC)∧At w' u (i*6+3) (I mD)∧At w' u (i*6+4) (I mU)∧At w' u (i*6+5) (I mV)) μ (Z.out _ (Qe (Qd _))) (fun bs=>?_);refine Tk 0 (.pointer (Az wr.heap.size)) ?_;refine Tk 1 (.agg #[I A,I B,I C,I E]) ?_;refine Tk 2 (.pointer (Ad w.heap.size 3)) ?_;refine Tk 3 (.slice (Az u) n H) ?_;refine Tk 4 (I (i:Int)) ?_;refine Tk 5 (.pointer (Ad u (i*6))) ?_;refine Tk 6 (.agg #[I mA,I mB,I mC,I mD,I mU,I mV]) ?_;refine wpAnyH_ready (rs:=[7,8]) μ ν ?_;refine AllReadyH.cons rfl (fun K hK=>?_) (AllReadyH.cons rfl (fun K hK=>?_) AllReadyH.nil)
       ·refine Ks γ2 147 #[.agg #[I A,I B,I C,I E],.agg #[I mA,I mB,I mC,I mD,I mU,I mV]] μ (CB.out _) ?_;rintro e w5 ⟨rfl,bj⟩;refine ⟨_,rfl, ?_⟩;have aa:Hid (Bl F w5):=Qb (Qe (Qd _)) bj;clear bj;refine hK.out _ _ (Z.out _ aa.out) (fun ac=>?_);clear hK K;try simp only [Ap]
        refine Rd 8 rfl (fun K hK=>?_);go_simp;refine hK.out _ _ (Z.out _ (Qc aa.out)) (fun ac=>?_);clear hK K;try simp only [Ap]
        refine Rd 9 rfl (fun K hK=>?_);go_simp;refine hK.out _ _ (Z.out (w5.alloc (.cells #[I p,I q,I r,I s] 77)) (Qc aa.out)) (fun ac=>?_);clear hK K;try simp only [Ap]
        refine wpAnyH_done μ ?_ _;go_wp2;go_meet
        case rel=>exact ⟨_,rfl,⟨ζ,ζ,ζ,ζ⟩,Qc aa.out,aa.out.size⟩
       ·go_simp;refine hK.out _ _ (Z.out (F.alloc (.cells #[I 0,I 0,I 0,I 0] 77)) β1) (fun ac=>?_);clear hK K;try simp only [Ap]
        refine Rd 7 rfl (fun K hK=>?_);refine Ks γ2 147 #[.agg #[I A,I B,I C,I E],.agg #[I mA,I mB,I mC,I mD,I mU,I mV]] μ (CB.out _) ?_;rintro e w6 ⟨rfl,P⟩;refine ⟨_,rfl, ?_⟩;have az:Hid (Bl F w6):=Qb (Qe β1) P;have t0:At w6 F.heap.size 0 (I 0):=Qa P ζ;have u0:Fn w6 F.heap.size 0:=(P.frozen ν).trans ζ;have t1:At w6 F.heap.size 1 (I 0):=Qa P ζ;have u1:Fn w6 F.heap.size 1:=(P.frozen ν).trans ζ;have t2:At w6 F.heap.size 2 (I 0):=Qa P ζ;have u2:Fn w6 F.heap.size 2:=(P.frozen ν).trans ζ;have t3:At w6 F.heap.size 3 (I 0):=Qa P ζ;have u3:Fn w6 F.heap.size 3:=(P.frozen ν).trans ζ;clear P;refine hK.out _ _ (Z.out _ az.out) (fun ac=>?_);clear hK K;try simp only [Ap]
        have b5:Hid (Bl F ((((w6.setCell ⟨F.heap.size,0,none⟩ (I p)).setCell ⟨F.heap.size,1,none⟩ (I q)).setCell ⟨F.heap.size,2,none⟩ (I r)).setCell ⟨F.heap.size,3,none⟩ (I s))):=Qk (Qk (Qk (Qk az.out (Nr _)) (Nr _)) (Nr _)) (Nr _);refine Rd 9 rfl (fun K hK=>?_);go_simp;refine hK.out _ _ (Z.out ((((w6.setCell ⟨F.heap.size,0,none⟩ (I p)).setCell ⟨F.heap.size,1,none⟩ (I q)).setCell ⟨F.heap.size,2,none⟩ (I r)).setCell ⟨F.heap.size,3,none⟩ (I s)) b5.out) (fun ac=>?_);clear hK K;try simp only [Ap]
        refine wpAnyH_done μ ?_ _;go_wp2;go_meet
        case rel=>exact ⟨_,rfl,⟨by simp [go_sem,t0],by simp [go_sem,t1],by simp [go_sem,t2],by simp [go_sem,t3]⟩,b5.out,Nr _⟩
      case rest =>
       obtain ⟨X,rfl,hE,G,c8⟩:=hcut;have Y:Hid (Bl F wc∧Bl wr wc∧Bl w wc):=⟨G,Qb ab.out.1 G,Qb ab.out.2.1 G⟩;have b8:=HM.out.kept Y.out.2.1;obtain ⟨s0,s1,s2,s3,ae,bg,ar,bh,aq⟩:=HM.out.m.step γ (p,q,r,s);have a8:Hid (Ow wr (w.heap.size+2) s0 s1 s2 s3 (gJ kd M (pls L M L.length) i (gA kd L M (pls L M L.length) i) (l.take k) (p,q,r,s))∧(∀ W:World,W.heap[w.heap.size+1]?=wr.heap[w.heap.size+1]?→(Instr.lookup 176 (.map (some (w.heap.size+1))) (.agg #[I p,I q,I r,I s]) false).run Tryz.prog W=.ok (.agg #[s0,s1,s2,s3]) W)∧(∀ k,mtB s0 s1 s2 s3 k→¬ (some (⟨gj,0,none⟩:Addr)=Az k))):=⟨bg,ae,bh⟩;have am:Hid (∀ (W w':World) (t0 t1 t2 t3:Value) (D:MD),Bl wr W→Ow w' (w.heap.size+2) t0 t1 t2 t3 D→Sam W w' (mtB s0 s1 s2 s3)→(∀ k,mtB t0 t1 t2 t3 k→mtB s0 s1 s2 s3 k∨W.heap.size≤k)→(∀ k,some (⟨gj,0,none⟩:Addr)=Az k→k<W.heap.size)→D≠mdZ→∃ W4,(Instr.mapUpdate 176 (.map (some (w.heap.size+1))) (.agg #[I p,I q,I r,I s]) (.agg #[t0,t1,t2,t3])).run Tryz.prog w'=.ok () W4∧MGP W4 (w.heap.size+2) (w.heap.size+1) (fun j=>if j=(p,q,r,s) then D else gJ kd M (pls L M L.length) i (gA kd L M (pls L M L.length) i) (l.take k) j) (i*900+k+1) (fun b=>some (⟨gj,0,none⟩:Addr)=Az b)∧w'.grownBy W4 (some (w.heap.size+1))):=aq;have ai:Hid (MtI w wc n O o T u H pc N pa (gJ kd M (pls L M L.length) i (gA kd L M (pls L M L.length) i) (l.take k)) (i*900+k) (fun b=>some (⟨gj,0,none⟩:Addr)=Az b)):=b8
       have ah:(pls L M L.length).getD i (0,0,0)=mvt (M i) (x,y,z):=by
        have e:L[i]=(x,y,z):=by rw [← Qq L i Q (d:=(0,0,0))];exact HL.out.1
        have:=plF_pls (L:=L) (M:=M) Q;rw [e] at this;exact this
       have ag:mapM (M i)=true:=aj.1;have bw:Kd (x,y,z):=b9.out.2.2
       have ao:hasT ((pls L M L.length).getD i (0,0,0)) (p,q,r,s)=true:=by
        rw [ah,← b6.out.1];exact bro_has ag bw HQ.out.2.1
       have au:triT ((pls L M L.length).getD i (0,0,0))=true:=by
        rw [ah];have:=aj.2;rw [HL.out.1] at this;exact this
       have CM:Hid (∀ V:World,Bl wc V→Cl 148 #[.agg #[.slice N n O,.map (some o),.map (some T),.slice (Az u) n H,.slice pa n pc],.agg #[s0,s1,s2,s3],.agg #[I p,I q,I r,I s],I (i:Int),.agg #[I A,I B,I C,I E,I (j:Int)]] V fun e w'=>MtTo V w' (w.heap.size+2) s0 s1 s2 s3 (mt (gJ kd M (pls L M L.length) i (gA kd L M (pls L M L.length) i) (l.take k) (p,q,r,s)) (kd (A,B,C,E)) (tov (M i)) (sd (p,q,r,s) ((pls L M L.length).getD i (0,0,0))) i j) e):=fun V hV=>by
        have bb:Bl w V:=Qb Y.out.2.2 hV;have ca:=ai.out.le (p,q,r,s);have av:=HR.out.1.kept bb;refine met_any V (w.heap.size+2) n O o T u H pc N pa s0 s1 s2 s3 p q r s A B C E i j (sd (p,q,r,s) ((pls L M L.length).getD i (0,0,0))) (kd (A,B,C,E)) (tov (M i)) _ (a8.out.1.sam (Sam.below (R:=fun _=>False) (Qb Y.out.2.1 hV)) fun _ _=>id) (by have:=hV.size;have:=ai.out.sz;omega) (sd_le _ _) γ γ γ γ (fun U hU=>?_) (fun U hU=>?_) (fun U hU=>?_)
        ·exact side_any U _ _ _ _ pa n pc i (pls L M L.length) p q r s (av.kept hU).pl (by rw [Qu];exact Q) (by rw [Qu];exact HR.out.2.1) au ao (HR.out.2.2.2.2.kept (Qb bb hU))
        ·exact Yj U N n O o T kd A B C E (av.kept hU).kl
        ·exact foldedP_any U _ _ _ _ u n H i j (kd (A,B,C,E)) M (by have:=(av.kept hU).mr;rw [← HR.out.2.1] at this;exact this) h1 hL ag
       obtain ⟨x0,x1,x2,x3⟩:=hE;replace bx:=bx.kept G;replace q0:=Qa G q0;replace q1:=Qa G q1;replace q2:=Qa G q2;replace q3:=Qa G q3;replace q4:=Qa G q4;replace c0:=Qa G c0;replace c1:=Qa G c1;replace c2:=Qa G c2;replace c3:=Qa G c3;replace c4:=Qa G c4;have J:(fun w'=>At w' w.heap.size 0 (.slice N n O)∧At w' w.heap.size 1 (.map (some o))∧At w' w.heap.size 2 (.map (some T))∧At w' w.heap.size 3 (.slice (Az u) n H)∧At w' w.heap.size 4 (.slice pa n pc)∧At w' wr.heap.size 0 (I A)∧At w' wr.heap.size 1 (I B)∧At w' wr.heap.size 2 (I C)∧At w' wr.heap.size 3 (I E)∧At w' wr.heap.size 4 (I (j:Int))∧At w' X 0 (I p)∧At w' X 1 (I q)∧At w' X 2 (I r)∧At w' X 3 (I s)∧(Instr.lookup 176 (.map (some (w.heap.size+1))) (.agg #[I p,I q,I r,I s]) false).run Tryz.prog w'=.ok (.agg #[s0,s1,s2,s3]) w') wc.drew:=⟨c0,c1,c2,c3,c4,q0,q1,q2,q3,q4,x0,x1,x2,x3,a8.out.2.1 _ (Y.out.2.1.block _ ar)⟩;have HZ:Hid (wr.heap.size<wc.heap.size∧X<wc.heap.size∧wr.heap.size≤X):=⟨bk q0,bk x0,γ⟩;have a7:Hid ((∀ k,mtB s0 s1 s2 s3 k→w.heap.size+2≤k∧k<wr.heap.size)∧w.heap.size+1<wr.heap.size):=⟨fun k hk=>a8.out.1.low hk,ar⟩;clear y0 y1 y2 y3 y4 y5 aq ae bg bh ah ao au b8 G Z CB aj ag;go_upto_region 10 with fail
       refine Qz (S:=fun w'=>At w' w.heap.size 0 (.slice N n O)∧At w' w.heap.size 1 (.map (some o))∧At w' w.heap.size 2 (.map (some T))∧At w' w.heap.size 3 (.slice (Az u) n H)∧At w' w.heap.size 4 (.slice pa n pc)∧At w' wr.heap.size 0 (I A)∧At w' wr.heap.size 1 (I B)∧At w' wr.heap.size 2 (I C)∧At w' wr.heap.size 3 (I E)∧At w' wr.heap.size 4 (I (j:Int))∧At w' X 0 (I p)∧At w' X 1 (I q)∧At w' X 2 (I r)∧At w' X 3 (I s)∧(Instr.lookup 176 (.map (some (w.heap.size+1))) (.agg #[I p,I q,I r,I s]) false).run Tryz.prog w'=.ok (.agg #[s0,s1,s2,s3]) w') (late:=fun j=>decide (j=10)) μ ?_;refine Lk 0 (.map (some (w.heap.size+1))) J ?_;refine Lk 1 (.agg #[I p,I q,I r,I s]) J ?_;refine Lk 2 (.agg #[.slice N n O,.map (some o),.map (some T),.slice (Az u) n H,.slice pa n pc]) J ?_;refine Lk 3 (.map (some (w.heap.size+1))) J ?_;refine Lk 4 (.agg #[I p,I q,I r,I s]) J ?_;refine Lk 5 (.agg #[s0,s1,s2,s3]) J ?_;refine Lk 6 (.agg #[I p,I q,I r,I s]) J ?_;refine Lk 7 (I (i:Int)) J ?_;refine Lk 8 (.agg #[I A,I B,I C,I E,I (j:Int)]) J ?_;refine Lt.one (i:=9) μ rfl rfl ?_;refine Jc 148 #[.agg #[.slice N n O,.map (some o),.map (some T),.slice (Az u) n H,.slice pa n pc],.agg #[s0,s1,s2,s3],.agg #[I p,I q,I r,I s],I (i:Int),.agg #[I A,I B,I C,I E,I (j:Int)]] μ (CM.out _ (Qe (Qd _))) ?_;rintro e w9 ⟨t0,t1,t2,t3,rfl,bf,a2,bp,ba⟩;have hd:∀ (a:Addr) (v:Value),(a.block=w.heap.size∨wr.heap.size≤a.block)→wc.cell? a=some v→w9.cell? a=some v:=fun a v hl hc=>a2.cell (w:=wc.drew) hc fun hk=>by have:=a7.out.1 _ hk;omega
       have bq:w9.heap[w.heap.size+1]?=wr.heap[w.heap.size+1]?:=(a2.blk _ (by have:=a7.out.2;have:=HZ.out;show _<wc.heap.size;omega) fun hk=>by have:=a7.out.1 _ hk;omega).trans (Y.out.2.1.block _ a7.out.2);have an:(fun w'=>At w' w.heap.size 0 (.slice N n O)∧At w' w.heap.size 1 (.map (some o))∧At w' w.heap.size 2 (.map (some T))∧At w' w.heap.size 3 (.slice (Az u) n H)∧At w' w.heap.size 4 (.slice pa n pc)∧At w' wr.heap.size 0 (I A)∧At w' wr.heap.size 1 (I B)∧At w' wr.heap.size 2 (I C)∧At w' wr.heap.size 3 (I E)∧At w' wr.heap.size 4 (I (j:Int))∧At w' X 0 (I p)∧At w' X 1 (I q)∧At w' X 2 (I r)∧At w' X 3 (I s)∧(Instr.lookup 176 (.map (some (w.heap.size+1))) (.agg #[I p,I q,I r,I s]) false).run Tryz.prog w'=.ok (.agg #[s0,s1,s2,s3]) w') w9:=⟨hd _ _ (Or.inl rfl) c0,hd _ _ (Or.inl rfl) c1,hd _ _ (Or.inl rfl) c2,hd _ _ (Or.inl rfl) c3,hd _ _ (Or.inl rfl) c4,hd _ _ (Or.inr (Nr _)) q0,hd _ _ (Or.inr (Nr _)) q1,hd _ _ (Or.inr (Nr _)) q2,hd _ _ (Or.inr (Nr _)) q3,hd _ _ (Or.inr (Nr _)) q4,hd _ _ (Or.inr HZ.out.2.2) x0,hd _ _ (Or.inr HZ.out.2.2) x1,hd _ _ (Or.inr HZ.out.2.2) x2,hd _ _ (Or.inr HZ.out.2.2) x3,a8.out.2.1 _ bq⟩;refine ⟨_,rfl,fun _=>an, ?_⟩;try simp only [Ap]
       obtain ⟨W4,br,bc,ax⟩:=am.out wc.drew w9 t0 t1 t2 t3 _ (Qe Y.out.2.1) bf a2 bp (fun b e=>by simp only [Option.some.injEq,Addr.mk.injEq,and_true] at e;have:=(HJ.out.2 gj rfl).1;have:=HZ.out;show b<wc.heap.size;omega) (mt_ne _ _ _ _ _ _);refine Lt.one (i:=10) μ rfl rfl ?_;refine Yb (w':=W4) (by first | go_simp | simp [go_sem,br]) ?_;refine ⟨fun h=>absurd h τ, ?_⟩;try simp only [Ap]
       refine Lt.done μ ?_;have ak:Sam w9 W4 (fun b=>b=w.heap.size+1):=(Sam.grown ax).mono fun b _ h=>by simpa using h.symm
       have HT:Hid (gJ kd M (pls L M L.length) i (gA kd L M (pls L M L.length) i) (l.take (k+1))=fun j'=>if j'=(p,q,r,s) then (mt (gJ kd M (pls L M L.length) i (gA kd L M (pls L M L.length) i) (l.take k) (p,q,r,s)) (kd (A,B,C,E)) (tov (M i)) (sd (p,q,r,s) ((pls L M L.length).getD i (0,0,0))) i j) else gJ kd M (pls L M L.length) i (gA kd L M (pls L M L.length) i) (l.take k) j'):=by
        have:=gJ_succ kd M (pls L M L.length) i (gA kd L M (pls L M L.length) i) l hk1;rw [HQ.out.1] at this;rw [this];unfold stJ;rw [if_pos hij,b6.out.1];rfl
       have HF:Hid (MtI w W4 n O o T u H pc N pa (gJ kd M (pls L M L.length) i (gA kd L M (pls L M L.length) i) (l.take (k+1))) (i*900+(k+1)) (fun b=>some (⟨gj,0,none⟩:Addr)=Az b)∧JRow W4 (Az gj) l∧∀ g,some (⟨gj,0,none⟩:Addr)=Az g→g<W4.heap.size∧w.heap.size+2≤g):=by
        have bn:Bl w w9:=(Qe Y.out.2.2).trans (ba.mono γ);have ce:wc.heap.size≤w9.heap.size:=a2.size;have cf:=ak.size;have cg:=HZ.out;have cb:=a7.out.2;refine ⟨⟨?_, ?_, ?_, ?_, ?_⟩, ?_,fun g e=>?_⟩
        ·rw [HT.out];exact bc
        ·have:=gJ_succ kd M (pls L M L.length) i (gA kd L M (pls L M L.length) i) l hk1;rw [this];exact MdLe.step ai.out.le _
        ·exact (PBx.sam (w:=wc.drew) (w':=w9) ⟨c0,c1,c2,c3,c4⟩ a2 (fun hk=>by have:=a7.out.1 _ hk;omega)).sam ak γ
        ·exact bn.grown ax bn.size (fun b e=>by simp at e;omega)
        ·omega
        ·exact ((HJ.out.1.kept Y.out.2.1).sam (⟨a2.size,a2.blk⟩:Sam wc w9 (mtB s0 s1 s2 s3)) (fun g e hk=>a8.out.2.2 g hk e)).sam ak (fun g e=>by have:=(HJ.out.2 g e).2;omega)
        ·have:=HJ.out.2 g e;exact ⟨γ,this.2⟩
       clear br bc ax ak HT bf a2 bp ba hd bq an J CM am a8 ai bx c0 c1 c2 c3 c4 q0 q1 q2 q3 q4 x0 x1 x2 x3;go_wp2;go_roundg (l.length - (k+1))
       case measure=>omega
       case rel=>exact ⟨k+1,γ,rfl,σ,HF.out.1,HF.out.2.1,HF.out.2.2⟩
     ·have HT:Hid (gJ kd M (pls L M L.length) i (gA kd L M (pls L M L.length) i) (l.take (k+1))=gJ kd M (pls L M L.length) i (gA kd L M (pls L M L.length) i) (l.take k)):=by
       have:=gJ_succ kd M (pls L M L.length) i (gA kd L M (pls L M L.length) i) l hk1;rw [HQ.out.1] at this;rw [this];exact if_neg hij
      go_wp2;go_roundg (l.length - (k+1))
      case measure=>omega
      case rel =>
       refine ⟨k+1,γ,rfl,σ, ?_,fun i hi=>?_,fun g e=>?_⟩
       ·rw [HT.out];exact (HM.out.kept β1).mono γ
       ·exact (HJ.out.1.kept β1) i hi
       ·have:=HJ.out.2 g e;exact ⟨ψ,this.2⟩
    ·have k1:¬ (k:Int)<(l.length:Int):=γ
     have HE:Hid (gJ kd M (pls L M L.length) i (gA kd L M (pls L M L.length) i) (l.take k)=gA kd L M (pls L M L.length) (i+1)):=by
      have e:k=l.length:=γ;rw [e,List.take_length,HL.out.2.1,← HL.out.1];rfl
     have h9:=HL.out.2.2;go_wp2;go_roundg (n - (i+1))
     case measure=>omega
     case rel =>
      refine ⟨i+1,γ,rfl,σ, ?_⟩;rw [← HE.out];have:=HM.out.mono (d:=(i+1)*900) γ;exact ⟨this.m.less (fun _ h=>h.elim),this.le,this.bx,this.bl,this.sz⟩
  ·have i1:¬ (i:Int)<(n:Int):=γ
   have HE:Hid (i=n):=by
    have:i=n:=γ;exact this
   go_wp2;go_ret;rw [← HE.out];have:=HI.out.sz;exact ⟨_,_,_,rfl,HI.out.m,γ,γ,γ,HI.out.bl⟩
def pt (L:List T3) (M:Nat→M6) (i:Nat):Int×Int×Int:=mvt (M i) (L.getD i (0,0,0))
theorem pls_at (L:List T3) (M:Nat→M6) (n i:Nat) (h:i<(pls L M n).length):(pls L M n)[i]=pt L M i:=by simp [pls,pt]
theorem triB_of {t:T3} (h:triT t=true):triB t.1 t.2.1 t.2.2=true:=h
theorem hand25 (v w:World) (d:Option Addr) (k n o g s:Nat) (pa:Option Addr) (pc f:Nat) (b c sd:Int) (t:Bool) (m q r p:Int) (L:List T3) (A:List Int) (B:Nat) (M:Nat→M6) (h:Nat→Int) (mv:Value) (u:HandAt v w d k n o g pa f L A B M h) (hs:Steps w) (h0:0<L.length) (hl:lineB b c=true) (x:∀ i,i<L.length→MOk1 L M i) (l:sd=1∨sd=-1) (j:0≤m) :
  Rt 74 #[.agg #[.slice d L.length k,.map (some n),.map (some o),.slice (Az g) L.length s,.slice pa L.length pc,.func (.func 87) #[] #[.pointer (Az f)],I b,I c,I sd,.bool t,I m,I q,I r,I p,mv]] w (.bool true):=by
 have a:=Qu L M L.length;have hp:0<(pls L M L.length).length:=γ;have hq:=pls_at L M L.length 0 hp
 have z:=mayFold_any (.slice d L.length k) (.map (some n)) (.map (some o)) (.slice (Az g) L.length s) (.func (.func 87) #[] #[.pointer (Az f)]) mv pa L.length pc b c sd m q r p t (pls L M L.length) (sideN b c (pt L M 0).1 (pt L M 0).2.1 (pt L M 0).2.2) 0 w u.2.2.1 a hp (fun V y=>by
  rw [hq];exact Vb _ _ _ _ _ V (triB_of (x 0 h0).2) hl (hs.kept y))
 refine z.mono ?_;rintro e w' ⟨rfl,hb⟩;refine ⟨?_,hb⟩;rcases l with rfl | rfl <;> simp [j]
def onS (L:List T3) (M:Nat→M6) (wy c sd:Int) (i:Nat):Bool:=decide (sideN wy c (pt L M i).1 (pt L M i).2.1 (pt L M i).2.2=sd)
theorem hand26 (x w:World) (d:Option Addr) (k j l g p:Nat) (pa:Option Addr) (pc f:Nat) (a c sd:Int) (r:Bool) (n o m:Int) (L:List T3) (A:List Int) (B:Nat) (M:Nat→M6) (h:Nat→Int) (mv:Value) (t:HandAt x w d k j l g pa f L A B M h) (hs:Steps w) (y:L.length≤300) (hl:lineB a c=true) (z:∀ i,i<L.length→MOk1 L M i) :
  Cl 75 #[.agg #[.slice d L.length k,.map (some j),.map (some l),.slice (Az g) L.length p,.slice pa L.length pc,.func (.func 87) #[] #[.pointer (Az f)],I a,I c,I sd,.bool r,I 0,I n,I o,I m,mv]] w fun e w'=>∃ v,e=.returned (.tuple #[v,.bool true])∧w'.ownsRow w.heap.size 3 1 v (whL (onS L M a c sd) L.length).length (nuV (whL (onS L M a c sd) L.length))∧Bl w w':=by
 have b:=Qu L M L.length;refine held_all (.map (some j)) (.map (some l)) (.slice (Az g) L.length p) (.func (.func 87) #[] #[.pointer (Az f)]) mv d pa L.length k L.length pc a c sd n o m r (onS L M a c sd) w y (fun V i s hi=>?_);have hp:i<(pls L M L.length).length:=γ;have hq:=pls_at L M L.length i hp
 exact onSide_any (.slice d L.length k) (.map (some j)) (.map (some l)) (.slice (Az g) L.length p) (.func (.func 87) #[] #[.pointer (Az f)]) mv pa L.length pc a c sd 0 n o m r i (pls L M L.length) (sideN a c (pt L M i).1 (pt L M i).2.1 (pt L M i).2.2) 0 V (t.2.2.1.kept s) b hp (fun u q=>by
  rw [hq];exact Vb _ _ _ _ _ u (triB_of (z i hi).2) hl (hs.kept (Qb s q)))
theorem partsOk_le {cr:E4→Bool} {part:Nat→Int} (h:PartsOk cr L part):∀ i,i<L.length→0≤part i∧part i≤(i:Int):=by
 intro i;induction i using Nat.strongRecOn with
 | _ i ih =>
  intro hi;refine ⟨h.1 i hi, ?_⟩;by_cases q:part i≤(i:Int)
  ·exact q
  ·obtain ⟨b,hb,e⟩:=h.2.2.2 i hi (part i - 1) γ γ;have:=(ih b hb γ).2;omega
theorem own_numR {l:List Nat} (h:w.ownsRow base 3 1 v l.length (nuV l)):∃ a b,v=.slice a l.length b∧NumR w a l:=by
 obtain ⟨a,b,rfl,hs⟩:=Qt h;refine ⟨a,b,rfl,fun j c=>?_⟩;obtain ⟨g,rfl⟩:=hs γ;refine ⟨g,rfl, ?_⟩;have:=h.cellAt j γ;(try simp only [At,I]);rw [this]
 simp [nuV,c]
def crF (M:Nat→M6) (wy c:Int) (i:Nat) (e:E4):Bool := !(decide (lnW (bro (M i) e)=wy) && decide (lnC (bro (M i) e)=c))
def rl (h:Nat→Int) (D:MD):Nat→Bool
 | 0=>twB h D.a0 D.a1
 | 1=>(D.b0.any fun p=>D.a0.any (arB h p)) || (D.b1.any fun p=>D.a1.any (arB h p))
 | 2=>tnB h D.b0 || tnB h D.b1
 | _=>(D.b0.any fun p=>decide (h p.2<h p.1)) || (D.b1.any fun p=>decide (h p.2<h p.1))
theorem Yl {size:Nat} {e:TypeId} {f:List Value} (h:w.ownsRow base e size v n f):∃ a b,v=.slice a n b∧n≤b:=by
 rcases h.2 with ⟨e1,e2⟩ | ⟨g,b,c,d,_,i,h1,h2,h3,h4⟩
 ·exact ⟨none,0,by rw [e1,e2],γ⟩
 ·exact ⟨_,b,d,γ⟩
structure MdOk (D:MD) (N:Nat):Prop where
 eq:D.a0.length=D.a1.length
 l0:D.a0.length≤100000000
 l1:D.b0.length≤100000000
 l2:D.a1.length≤100000000
 l3:D.b1.length≤100000000
 n0:∀ i∈D.a0,i<N
 n1:∀ p∈D.b0,p.1<N∧p.2<N
 n2:∀ i∈D.a1,i<N
 n3:∀ p∈D.b1,p.1<N∧p.2<N
theorem meetClash_any (w:World) (base d N:Nat) (k l m n:Value) (D:MD) (h:Nat→Int) (f:Ow w base k l m n D) (i:Hg w d N h) (g:N≤300) (hD:MdOk D N) :
  Cl 109 #[.agg #[k,l,m,n],ABv d] w fun e w'=>∃ a c,e=.returned (.slice a (clN (rl h D) 4).length c)∧w'.ownsRow w.heap.size 3 1 (.slice a (clN (rl h D) 4).length c) (clN (rl h D) 4).length (nV (clN (rl h D) 4))∧Bl w w':=by
 obtain ⟨a0,c0,rfl,_⟩:=Yl f.o0;obtain ⟨a1,c1,rfl,k1⟩:=Yl f.o1;obtain ⟨j,c2,rfl,_⟩:=Yl f.o2;obtain ⟨a3,c3,rfl,k3⟩:=Yl f.o3;have r0:=own_irow f.o0;have r1:=own_frow f.o1;have r2:=own_irow f.o2;have r3:=own_frow f.o3;refine clashes_any w d a0 a1 j a3 _ c0 _ c1 _ c2 _ c3 (rl h D) _ _ _ _ _ _ rfl rfl rfl (fun V b=>?_) (fun V b=>Kw V d N _ c0 _ c1 a0 a1 D.a0 D.b0 h (i.kept b) (r0.kept b) rfl hD.l0 (r1.kept b) rfl hD.l1 hD.n0 hD.n1 g) (fun V b=>Kw V d N _ c2 _ c3 j a3 D.a1 D.b1 h (i.kept b) (r2.kept b) rfl hD.l2 (r3.kept b) rfl hD.l3 hD.n2 hD.n3 g) (fun V b=>Kr V d N _ c0 _ c1 a0 a1 D.b0 h (i.kept b) (r1.kept b) rfl hD.l1 k1 hD.n1 g) (fun V b=>Kr V d N _ c2 _ c3 j a3 D.b1 h (i.kept b) (r3.kept b) rfl hD.l3 k3 hD.n3 g) (fun V b=>Ve V d N _ c0 _ c1 a0 a1 D.b0 h (i.kept b) (r1.kept b) rfl hD.l1 hD.n1 g) (fun V b=>Ve V d N _ c2 _ c3 j a3 D.b1 h (i.kept b) (r3.kept b) rfl hD.l3 hD.n3 g);have:=twisted_any V d N D.a0.length c0 c2 D.b0.length c1 D.b1.length c3 a0 a1 j a3 D.a0 D.a1 h (i.kept b) (r0.kept b) (r2.kept b) rfl hD.eq hD.l0 hD.n0 hD.n2 g;rw [← hD.eq];exact this
structure Dg where
 cs:List C5
 ml:List M6
 T:List (T3×List Nat)
 hl:List Int
def gM (d:Dg) (i:Nat):M6:=d.ml.getD i idM
def gK (cs:List C5):List Int:=cs.flatMap fun c=>[c.1.1,c.1.2.1,c.1.2.2.1,c.1.2.2.2,c.2]
def gKd (d:Dg):E4→Int:=kdn (gK d.cs) d.cs.length
def gS (L:List T3) (d:Dg):List (T3×List T3):=d.T.map fun s=>(s.1,tgn L s.2)
def gH (d:Dg) (i:Nat):Int:=d.hl.getD i 0
def gP (L:List T3) (d:Dg) (i:Nat):T3:=mvt (gM d i) (L.getD i (0,0,0))
def gJs (L:List T3):List (Nat×C5):=(List.range L.length).flatMap fun i=>(jl L (L.getD i (0,0,0)) i 3).map fun q=>(i,q)
def gF (kd:E4→Int) (M:Nat→M6) (pl:Nat→T3) (E:E4) (D:MD) (p:Nat×C5):MD :=
 if (p.1:Int)<p.2.2∧E=bro (M p.1) p.2.1 then mt D (kd p.2.1) (tov (M p.1)) (sd E (pl p.1)) p.1 p.2.2.toNat else D
def ltTb (a b:T3):Bool:=decide (a.2.1<b.2.1) || (decide (a.2.1=b.2.1) && (decide (a.1<b.1) || (decide (a.1=b.1) && decide (a.2.2<b.2.2))))
def okL (L:List T3) (d:Dg):Bool:=decide ((d.T.flatMap fun s=>s.2).length=L.length) && d.T.all fun s=>(List.range s.2.length).all fun k=>decide (gH d (s.2.getD k 0)=(k:Int))
def gR (i:Nat):Nat:=if i<4 then [0,1,2,1].getD i 0 else 4*(i / 4) + [1,2,1,0].getD (i % 4) 0
theorem gA_js (kd:E4→Int) (L:List T3) (M:Nat→M6) (pl:List T3):∀ n,gA kd L M pl n=((List.range n).flatMap fun i=>(jl L (L.getD i (0,0,0)) i 3).map fun q=>(i,q)).foldl (fun G p=>stJ kd M pl p.1 G p.2) (fun _=>mdZ)
 | 0=>rfl
 | n+1=>by
  rw [List.range_succ,List.flatMap_append,List.foldl_append,← gA_js kd L M pl n];simp [gA,Proofs.YtbjmnlefkbhbdaaGreatDoor.gJ,List.foldl_map]
theorem stJ_at (kd:E4→Int) (M:Nat→M6) (pl:List T3) (E:E4):∀ (J:List (Nat×C5)) (G:E4→MD),(J.foldl (fun G p=>stJ kd M pl p.1 G p.2) G) E=J.foldl (gF kd M (fun i=>pl.getD i (0,0,0)) E) (G E)
 | [],_=>rfl
 | p :: J,G=>by
  rw [List.foldl_cons,List.foldl_cons,stJ_at kd M pl E J];congr 1
  unfold stJ gF;by_cases h1:(p.1:Int)<p.2.2
  ·by_cases h2:E=bro (M p.1) p.2.1
   ·subst h2;simp [h1]
   ·simp [h1,h2]
  ·simp [h1]
theorem js_mem {q:C5}:(i,q)∈gJs L↔i<L.length∧q∈jl L (L.getD i (0,0,0)) i 3:=by
 simp [gJs]
theorem Jm (h:i<L.length):(pls L M L.length).getD i (0,0,0)=mvt (M i) (L.getD i (0,0,0)):=by
 simp [pls,h]
theorem ltTb_iff (a b:T3):ltTb a b=true↔ltT a b:=by simp [ltTb,ltT]
theorem all_pairs {α:Type} {r : α → α→Prop} {f : α → α→Bool} (e:∀ a b,f a b=true→r a b) (l:List α) (z : α) (h:(List.range l.length).all (fun i=>(List.range i).all fun k=>f (l.getD k z) (l.getD i z))=true):l.Pairwise r:=by
 rw [List.pairwise_iff_getElem];intro i j hi d c;have h1:=List.all_eq_true.1 (List.all_eq_true.1 h j (by simp [d])) i (by simp [c]);have:=e _ _ h1;simpa [hi,d] using this
theorem Uw {l:List Nat} (k:l.Pairwise fun i j=>h i<h j):l.Nodup:=k.imp fun a e=>by subst e;omega
theorem tgn_nodup (b:L.Nodup):∀ {l:List Nat},l.Nodup→(∀ j∈l,j<L.length)→(tgn L l).Nodup
 | [],_,_=>List.nodup_nil
 | x :: l,h,k=>by
  rw [List.nodup_cons] at h;have c:=k x ν;show (L.getD x (0,0,0) :: tgn L l).Nodup
  rw [List.nodup_cons];refine ⟨fun g=>?_,tgn_nodup b h.2 fun j f=>k j (by simp [f])⟩;obtain ⟨y,d,e⟩:=List.mem_map.1 g;have a:=k y (by simp [d]);rw [Qq L x c,Qq L y a] at e;have:=Jp b a c e;subst this;exact h.1 d
theorem gS_ok {d:Dg} (r:L.Nodup) (v:Heap L.length (gP L d) (gH d) d.T) (k:okL L d=true):StOk L (plF (pls L (gM d) L.length)) (gS L d)∧Lv (gS L d) L (gH d) (gS L d).length 0:=by
 unfold okL at k;rw [Bool.and_eq_true] at k;obtain ⟨h1,h2,h3⟩:=v;constructor
 ·refine ⟨fun s hs=>?_,fun n z=>?_,fun s hs t A=>?_,fun s hs=>?_, ?_⟩
  ·obtain ⟨u,f,rfl⟩:=List.mem_map.1 hs;have:=(h2 u f).1;simpa [tgn] using this
  ·have o:n+1<d.T.length:=by simpa [gS] using z
   have:=List.pairwise_iff_getElem.1 h1 n (n+1) γ o γ;simpa [gS] using this
  ·obtain ⟨u,f,rfl⟩:=List.mem_map.1 hs;obtain ⟨j,g,rfl⟩:=List.mem_map.1 A;obtain ⟨a,b⟩:=(h2 u f).2.2 j g;exact ⟨j,a,(Qq L j a).symm,(Jm a).trans b⟩
  ·obtain ⟨u,f,rfl⟩:=List.mem_map.1 hs;exact tgn_nodup r (Uw (h2 u f).2.1) fun j g=>((h2 u f).2.2 j g).1
  ·have:=of_decide_eq_true k.1;rw [← this];simp only [allS,gS,List.flatMap_map,List.length_flatMap,tgn,List.length_map]
 ·intro i hi m p y x e _;have l:m<d.T.length:=by simpa [gS] using y
  have c:p<d.T[m].2.length:=by simpa [gS,tgn] using x
  have q:L.getD (d.T[m].2[p]) (0,0,0)=L[i]:=by simpa [gS,tgn] using e
  have h:=((h2 _ (Lm l)).2.2 _ (Lm c)).1;rw [Qq L _ h] at q;have g:=Jp r h hi q;have:=List.all_eq_true.1 (List.all_eq_true.1 k.2 _ (Lm l)) p (by simp [c]);simp only [decide_eq_true_eq,List.getD_eq_getElem?_getD,List.getElem?_eq_getElem c,Option.getD_some] at this;rw [g] at this;exact this
structure StripD (L:List T3):Prop where
 up:L.Pairwise ltT
 nd:L.Nodup
 bd:∀ t∈L,(0≤t.1∧t.1≤8)∧(0≤t.2.1∧t.2.1≤8)∧(0≤t.2.2∧t.2.2≤3)
 pos:0<L.length
 le:L.length≤32
 jo:Joined L
 j3:∀ i,i<L.length→(jl L (L.getD i (0,0,0)) i 3).length≤3
theorem js_adj {e:E4} (c:L.Nodup) (h:(i,(e,(j:Int)))∈gJs L):∃ hi:i<L.length,∃ hj:j<L.length,L[j]≠L[i]∧hasT L[i] e=true∧hasT L[j] e=true:=by
 obtain ⟨hi,h⟩:=js_mem.1 h;obtain ⟨k,f,rfl,m,b,e1,a,d⟩:=Xw.1 h;have:j=m:=γ;subst this;refine ⟨hi,b,fun e=>a (Jp c b hi e), ?_,d⟩;rw [Qq L i hi];exact Xq _ _
def gKs (d:Dg) (ov:Bool) (j:C5):Int:=if ov=tov (gM d j.2.toNat) then 1 else 2
def gJl (L:List T3) (i:Nat):List C5:=if i<L.length then jl L (L.getD i (0,0,0)) i 3 else []
theorem jl3 (a:StripD L) (i:Nat):(gJl L i).length≤3:=by
 unfold gJl;split
 ·exact a.j3 i ‹_›
 ·simp
theorem js_of {e:E4} (hi:i<L.length) (c:j<L.length) (a:j≠i) (h1:hasT L[i] e=true) (h2:hasT L[j] e=true):(i,(e,(j:Int)))∈gJs L:=by
 obtain ⟨k,d,b⟩:=Uf h1;refine js_mem.2 ⟨hi,Xw.2 ⟨k,d, ?_,j,c,rfl,a,h2⟩⟩;rw [Qq L i hi];exact b.symm
theorem eq_of_up {α:Type} {r : α → α→Prop} (d:∀ a,¬ r a a) (tr:∀ a b c,r a b→r b c→r a c):∀ (A B:List α),A.Pairwise r→B.Pairwise r→(∀ x,x∈A↔x∈B)→A=B
 | [],[],_,_,_=>rfl
 | [],b :: B,_,_,h=>absurd ((h b).2 ν) ν
 | a :: A,[],_,_,h=>absurd ((h a).1 ν) ν
 | a :: A,b :: B,hA,hB,h=>by
  rw [List.pairwise_cons] at hA hB
  have e:a=b:=by
   rcases List.mem_cons.1 ((h a).1 ν) with q | q
   ·exact q
   ·rcases List.mem_cons.1 ((h b).2 ν) with g | g
    ·exact g.symm
    ·exact absurd (tr _ _ _ (hB.1 a q) (hA.1 b g)) (d b)
  subst e;rw [eq_of_up d tr A B hA.2 hB.2 fun x=>?_];constructor
  ·intro f;rcases List.mem_cons.1 ((h x).1 (by simp [f])) with q | q
   ·subst q;exact absurd (hA.1 x f) (d x)
   ·exact q
  ·intro f;rcases List.mem_cons.1 ((h x).2 (by simp [f])) with q | q
   ·subst q;exact absurd (hB.1 x f) (d x)
   ·exact q
theorem heap_all {pl:Nat→T3} {A:List (T3×List Nat)} (k:Heap n pl h A) {s:T3×List Nat} (hs:s∈A) (j:Nat):j∈s.2↔j<n∧pl j=s.1:=by
 refine ⟨(k.2.1 s hs).2.2 j,fun q=>?_⟩;obtain ⟨t,b,a⟩:=k.2.2 j q.1;have:=pair_same k.1 b hs (((k.2.1 t b).2.2 j a).2.symm.trans q.2);rw [← this];exact a
theorem Vp {pl a:Nat→T3} {d:Nat→Int} {A:List (T3×List Nat)} (k:Heap n pl h A) (e:∀ i,i<n→pl i=a i) (c:∀ i,i<n→h i=d i):Heap n a d A :=
 ⟨k.1,fun s hs=>⟨(k.2.1 s hs).1,(k.2.1 s hs).2.1.imp_of_mem (fun f hb q=>by
  rw [← c _ ((k.2.1 s hs).2.2 _ f).1,← c _ ((k.2.1 s hs).2.2 _ hb).1];exact q),fun j b=>⟨((k.2.1 s hs).2.2 j b).1,(e j ((k.2.1 s hs).2.2 j b).1).symm.trans ((k.2.1 s hs).2.2 j b).2⟩⟩,k.2.2⟩
theorem bro_bd {m:M6} {e:E4} (f:mapM m=true) (h:(0≤e.1∧e.1≤20)∧(0≤e.2.1∧e.2.1≤20)∧(0≤e.2.2.1∧e.2.2.1≤20)∧(0≤e.2.2.2∧e.2.2.2≤20)):(-4000000≤(bro m e).1∧(bro m e).1≤4000000)∧(-4000000≤(bro m e).2.1∧(bro m e).2.1≤4000000):=by
 obtain ⟨a,b,c,d,u,v⟩:=m;obtain ⟨p,q,r,s⟩:=e;obtain ⟨_,i,j⟩:=Gq f;have g:=Uu f;dsimp only at h;unfold bro mpX mpY;dsimp only;rcases g with ⟨h1 | h1,rfl,rfl,h2 | h2⟩ | ⟨rfl,h1 | h1,h2 | h2,rfl⟩ <;> subst h1 <;> subst h2 <;> split <;> refine ⟨⟨?_, ?_⟩, ?_, ?_⟩ <;> dsimp only <;> omega
theorem mem_clN (R:Nat→Bool) (k:Nat):∀ n,k∈clN R n↔∃ i,i<n∧R i=true∧k=i+1
 | 0=>by simp [clN]
 | n+1=>by
  unfold clN;rw [List.mem_append,mem_clN R k n];constructor
  ·rintro (⟨i,hi,h1,h2⟩ | h)
   ·exact ⟨i,γ,h1,h2⟩
   ·cases hR:R n
    ·rw [hR] at h;simp at h
    ·rw [hR] at h;simp at h;exact ⟨n,γ,hR,h⟩
  ·rintro ⟨i,hi,h1,h2⟩;by_cases e:i=n
   ·subst e;rw [h1];exact Or.inr (by simp [h2])
   ·exact Or.inl ⟨i,γ,h1,h2⟩
theorem clN_up (R:Nat→Bool):∀ n,(clN R n).Pairwise (· < ·)
 | 0=>List.Pairwise.nil
 | n+1=>by
  unfold clN;rw [List.pairwise_append];refine ⟨clN_up R n,by split <;> simp,fun a c b hb=>?_⟩;obtain ⟨i,hi,_,rfl⟩:=(mem_clN R a n).1 c;split at hb
  ·simp at hb;omega
  ·simp at hb
variable {n:Nat} {Cm:Nat→Nat→E4→Int→Prop} {P:Nat→T3} {tv:Nat→Bool} {h:Nat→Int} {E:E4} {D:MD}
section
variable {kd:E4→Int} {L:List T3} {M:Nat→M6}
theorem lv_at {P:Nat→T3} {S:List (T3×List T3)} (c:L.Nodup) (d:StOk L P S) (hl:Lv S L h S.length 0) (hi:i<L.length):∃ m k,∃ a:m<S.length,∃ b:k<S[m].2.length,S[m].2[k]=L[i]∧S[m].1=P i∧h i=(k:Int):=by
 have f:=d.cov c _ (Lm hi);unfold allS at f;obtain ⟨s,hs,g⟩:=List.mem_flatMap.1 f;obtain ⟨m,a,rfl⟩:=List.getElem_of_mem hs;obtain ⟨k,b,e⟩:=List.getElem_of_mem g;obtain ⟨j,h0,e0,e1⟩:=d.pl _ hs _ g;have:j=i:=Jp c h0 hi e0;subst this;exact ⟨m,k,a,b,e,e1.symm,hl j hi m k a b e (Or.inl a)⟩
end
structure MdIn (D:MD) (N:Nat):Prop where
 eq:D.a0.length=D.a1.length
 n0:∀ i∈D.a0,i<N
 n1:∀ p∈D.b0,p.1<N∧p.2<N
 n2:∀ i∈D.a1,i<N
 n3:∀ p∈D.b1,p.1<N∧p.2<N
theorem mdIn_zero (N:Nat):MdIn mdZ N:=⟨rfl,(fun i h=>by cases h),(fun i h=>by cases h),(fun i h=>by cases h),(fun i h=>by cases h)⟩
theorem Ud {l:List Nat} (h:∀ i∈l,i<N) (a:j<N):∀ i∈l ++ [j],i<N:=fun i hi=>by
 rcases List.mem_append.1 hi with q | q
 ·exact h i q
 ·rw [List.mem_singleton.1 q];exact a
theorem mem_addP {l:List (Nat×Nat)} {f:Nat×Nat} (h:∀ p∈l,p.1<N∧p.2<N) (a:f.1<N∧f.2<N):∀ p∈l ++ [f],p.1<N∧p.2<N:=fun p hp=>by
 rcases List.mem_append.1 hp with q | q
 ·exact h p q
 ·rw [List.mem_singleton.1 q];exact a
theorem fdT_in (kd:Int) (d:Bool) (c:a<N) (hb:b<N):(fdT kd d a b).1<N∧(fdT kd d a b).2<N:=by
 unfold fdT;split
 ·exact ⟨hb,c⟩
 ·exact ⟨c,hb⟩
theorem MdIn.mt {D:MD} (h:MdIn D N) (kd:Int) (d:Bool) (a:Nat) (hi:i<N) (c:j<N):MdIn (mt D kd d a i j) N:=by
 unfold Go.Proofs.YtbjmnlefkbhbdaaGreatDoor.mt mtO mtF;have b:=h.eq;split <;> split
 ·exact ⟨by simp [b],Ud h.n0 hi,h.n1,Ud h.n2 c,h.n3⟩
 ·exact ⟨by simp [b],Ud h.n0 c,h.n1,Ud h.n2 hi,h.n3⟩
 ·exact ⟨b,h.n0,mem_addP h.n1 (fdT_in _ _ hi c),h.n2,h.n3⟩
 ·exact ⟨b,h.n0,h.n1,h.n2,mem_addP h.n3 (fdT_in _ _ hi c)⟩
theorem stJ_in {G:E4→MD} (h:∀ e,MdIn (G e) N) (q:E4×Int) (hi:i<N) (hq:q.2<(N:Int)):∀ e,MdIn (stJ kd M pl i G q e) N:=fun e=>by
 unfold stJ;split
 ·dsimp only;split
  ·exact (h _).mt _ _ _ hi γ
  ·exact h e
 ·exact h e
theorem gJ_in (hi:i<N):∀ (l:List (E4×Int)) (G:E4→MD),(∀ q∈l,q.2<(N:Int))→(∀ e,MdIn (G e) N)→∀ e,MdIn (gJ kd M pl i G l e) N
 | [],_,_,h=>h
 | q :: l,G,hl,h=>gJ_in hi l (stJ kd M pl i G q) (fun p hp=>hl p (List.mem_cons_of_mem _ hp)) (stJ_in h q hi (hl q (List.mem_cons_self ..)))
theorem gA_in (a:∀ i,i<N→∀ q∈jl L (L.getD i (0,0,0)) i 3,q.2<(N:Int)):∀ n,n≤N→∀ e,MdIn (gA kd L M pl n e) N
 | 0,_=>fun _=>mdIn_zero N
 | i+1,hn=>gJ_in γ _ _ (a i γ) (gA_in a i γ)
theorem MdIn.ok {D:MD} (h:MdIn D N) (hl:D.a0.length≤c∧D.b0.length≤c∧D.a1.length≤c∧D.b1.length≤c) (a:c≤100000000):MdOk D N :=
 ⟨h.eq,γ,γ,γ,γ,h.n0,h.n1,h.n2,h.n3⟩
section
variable {kd:E4→Int} {L:List T3} {M:Nat→M6} {pl:List T3}
theorem jl_pos {t:T3} {q:E4×Int} (h:q∈jl L t i n):0≤q.2∧q.2<(L.length:Int):=by
 obtain ⟨e,j⟩:=q;obtain ⟨c,a,rfl,m,b,rfl,_⟩:=Xw.1 h;dsimp only;omega
end
theorem run_range_em {ls:EL} (h:EM w a ls c):(Instr.range 176 (.map (some a))).run Tryz.prog w=.ok (.pointer (Az w.heap.size)) (w.alloc (.mapIter (some a) c #[] c)):=by
 unfold EM at h;simp [Instr.range,run_underlying Tryz.underlying176,MapKept.run_getObj_map h,Result.andThen]
def kE (K:E4→List Nat) (e:E4) (m:Nat):List C5:=((K e).take m).map fun (k:Nat)=>(e,(k:Int))
theorem kE_zero (K:E4→List Nat) (e:E4):kE K e 0=[]:=by simp [kE]
theorem kE_succ (K:E4→List Nat) (e:E4) (h:m<(K e).length):kE K e (m+1)=kE K e m ++ [(e,((K e)[m]:Int))]:=by
 unfold kE;rw [List.take_succ_eq_append_getElem h,List.map_append];rfl
theorem kE_len (K:E4→List Nat) (e:E4) (m:Nat):(kE K e m).length≤(K e).length:=by
 unfold kE;rw [List.length_map,List.length_take];exact Nat.min_le_right _ _
def kV (K:E4→List Nat) (vis:EL):List C5:=vis.flatMap fun x=>kE K x.1 (K x.1).length
theorem kV_add (K:E4→List Nat) (a:EL) (x:E4×Value×Nat):kV K (a ++ [x])=kV K a ++ kE K x.1 (K x.1).length:=by simp [kV]
theorem kV_len (K:E4→List Nat) (a:∀ e,(K e).length≤4):∀ vis:EL,(kV K vis).length≤vis.length*4
 | []=>by simp [kV]
 | x :: l=>by
  have b:=kV_len K a l;have h1:=kE_len K x.1 (K x.1).length;have h2:=a x.1;have:kV K (x :: l)=kE K x.1 (K x.1).length ++ kV K l:=by simp [kV]
  rw [this,List.length_append,List.length_cons];omega
theorem kV_mem (K:E4→List Nat) (a:EL) (y:C5):y∈kV K a↔∃ x∈a,∃ k∈K x.1,y=(x.1,(k:Int)):=by
 unfold kV kE;simp only [List.mem_flatMap,List.take_length,List.mem_map];constructor
 ·rintro ⟨x,c,k,b,rfl⟩;exact ⟨x,c,k,b,rfl⟩
 ·rintro ⟨x,c,k,b,rfl⟩;exact ⟨x,c,k,b,rfl⟩
theorem kV_nodup (K:E4→List Nat) (d:∀ e,(K e).Nodup):∀ vis:EL,(vis.map fun x=>x.1).Nodup→(kV K vis).Nodup
 | [],_=>by simp [kV]
 | x :: l,h=>by
  rw [List.map_cons,List.nodup_cons] at h;have:kV K (x :: l)=kE K x.1 (K x.1).length ++ kV K l:=by simp [kV]
  rw [this,List.nodup_append];refine ⟨?_,kV_nodup K d l h.2,fun a f b hb e=>?_⟩
  ·unfold kE;rw [List.take_length];refine List.pairwise_map.2 ((d x.1).imp fun {a b} c e=>c ?_);simp only [Prod.mk.injEq] at e;omega
  ·subst e;obtain ⟨y,g,k,_,rfl⟩:=(kV_mem K l a).1 hb;unfold kE at f;obtain ⟨i,_,e⟩:=List.mem_map.1 f;simp only [Prod.mk.injEq] at e;exact h.1 (List.mem_map.2 ⟨y,g,e.1.symm⟩)
structure CS (w wx:World) (rm r c:Nat) (ls:EL) (seen:List Nat) (v:Value) (A:List C5):Prop where
 em:EM wx rm ls c
 it:wx.heap[r]?=some (.mapIter (some rm) c seen.toArray c)
 own:wx.ownsRow (r+1) 185 5 v A.length (flatJ A)
 b:Bl w wx
 lo:w.heap.size≤r
 hr:rm<w.heap.size
theorem CS.lt {b:World} {ls:EL} {a:List Nat} {A:List C5} (h:CS w b d r c ls a v A):r<b.heap.size:=(Array.getElem?_eq_some_iff.1 h.it).1
theorem EM.keptB {b:World} {ls:EL} (h:EM w a ls c) (hb:Bl w b):EM b a ls c:=(hb.block a (Array.getElem?_eq_some_iff.1 h).1).trans h
theorem CS.kept {e:World} {ls:EL} {a:List Nat} {A:List C5} (h:CS w e d r c ls a v A) (hb:Bl e w'):CS w w' d r c ls a v A :=
 ⟨h.em.keptB hb,(hb.block r h.lt).trans h.it,Qh h.own hb,Qb h.b hb,h.lo,h.hr⟩
theorem CS.next {e:World} {x:Nat} {ls:EL} {a:List Nat} {A:List C5} (h:CS w e d r c ls a v A) (hs:StepE e w' d r c ls a x):CS w w' d r c ls (a ++ [x]) v A:=by
 obtain ⟨g,hi,hg⟩:=hs;refine ⟨g,hi,h.own.kept hg ?_,h.b.grown hg h.b.size (fun k f=>by have:=h.lo;simp at f;omega),h.lo,h.hr⟩
 cases e2:v.ownBlock with
 | none=>exact Or.inl rfl
 | some q =>
  refine Or.inr (fun e1=>?_);have:=Qn h.own q e2;simp at e1;omega
theorem CS.more {j i:World} {ls:EL} {a:List Nat} {v':Value} {A:List C5} {x:C5} (h:CS w j d r c ls a v A) (hg:j.grownBy i v.ownBlock) (k:i.ownsRow (r+1) 185 5 v' (A.length+1) (flatJ A ++ flatJ [x])):CS w i d r c ls a v' (A ++ [x]):=by
 have hb:∀ q,v.ownBlock=some q→r<q:=fun q hq=>by
  have:=Qn h.own q hq;omega
 have f:some d≠v.ownBlock:=fun e=>by
  have:=hb d e.symm;have:=h.hr;have:=h.lo;omega
 have g:some r≠v.ownBlock:=fun e=>by
  have:=hb r e.symm;omega
 refine ⟨(hg.block d (Array.getElem?_eq_some_iff.1 h.em).1 f).trans h.em,(hg.block r h.lt g).trans h.it, ?_,h.b.grown hg h.b.size (fun q hq=>by have:=hb q hq;have:=h.lo;omega),h.lo,h.hr⟩;rw [List.length_append,Uz];exact k
theorem CS.start {ls:EL} (h:EM w a ls c):CS w (w.alloc (.mapIter (some a) c #[] c)) a w.heap.size c ls [] SN [] :=
 ⟨h.keptB β1,heap_alloc_new w _,⟨rfl,Or.inl ⟨rfl,rfl⟩⟩,Qc (Qd _),Nr _,(Array.getElem?_eq_some_iff.1 h).1⟩
theorem clashes_ok (W H:Int) (a0 c0 mp sp:Option Addr) (zl bc n af mn mc sl sc:Nat) (kd:E4→Int) (L:List T3) (M:Nat→M6) (h:Nat→Int) (w:World)
  (ay:Hid (∀ V:World,Bl w V→Cl 15 #[.agg #[I W,I H,.slice a0 zl bc,.slice c0 n af,.slice mp mn mc,.slice sp sl sc]] V fun e w'=>∃ ad k ra rk gm cm pa pc bf,e=.returned (.tuple #[.agg #[.slice ad L.length k,.map (some ra),.map (some rk),.slice (Az gm) L.length cm,.slice pa L.length pc],ABv bf,.bool true])∧PileAt w' ad k ra rk gm cm pa pc L kd M∧Hg w' bf L.length h∧Bl V w'))
  (hs:Steps w) (hL:L.length≤300) (bk:∀ t∈L,(0≤t.1∧t.1≤8)∧(0≤t.2.1∧t.2.1≤8)∧(0≤t.2.2∧t.2.2≤3)) (be:∀ i,i<L.length→MOk1 L M i) (bg:∀ E,MdOk (gA kd L M (pls L M L.length) L.length E) L.length) :
  Cl 73 #[.agg #[I W,I H,.slice a0 zl bc,.slice c0 n af,.slice mp mn mc,.slice sp sl sc]] w fun e w'=>∃ a c C,e=.returned (.tuple #[.slice a (List.length C) c,I 0])∧JRow w' a C∧C.Pairwise (fun x y=>ltC x y=true)∧(∀ y,y∈C↔∃ e k,k∈clN (rl h (gA kd L M (pls L M L.length) L.length e)) 4∧y=(e,(k:Int)))∧Bl w w':=by
 obtain ⟨G,hG⟩:∃ G,G=gA kd L M (pls L M L.length) L.length:=⟨_,rfl⟩;obtain ⟨K,Z⟩:∃ K:E4→List Nat,K=fun e=>clN (rl h (G e)) 4:=⟨_,rfl⟩
 have HK:Hid ((∀ e,(K e).length≤4)∧(∀ e,(K e).Nodup)∧(∀ e,K e=clN (rl h (G e)) 4)∧∀ e,G e=mdZ→K e=[]):=by
  refine ⟨fun e=>by rw [Z];exact Va _ 4,fun e=>by rw [Z];exact (clN_up _ 4).imp fun q=>Nat.ne_of_lt q,fun e=>by rw [Z],fun e he=>?_⟩;rw [Z];dsimp only;rw [he];rfl
 have HR:Hid ((∀ t∈L,(0≤t.1∧t.1≤8)∧(0≤t.2.1∧t.2.1≤8)∧(0≤t.2.2∧t.2.2≤3))∧(∀ i,i<L.length→MOk1 L M i)∧(∀ E,MdOk (G E) L.length)∧Steps w∧G=gA kd L M (pls L M L.length) L.length):=⟨bk,be,by rw [hG];exact bg,hs,hG⟩;obtain ⟨cc,hi,bt,bu,bv⟩:=info_parts inf44;have HI:=H4 hi bt bu bv;rw [← hG];clear hi bt bu bv hG Z hs bk be bg;go_enter Tryz.func73,Tryz.ntmps73;go_upto_region 2 with (go_at_call 15;refine (ay.out _ Δ).mono ?_;rintro e w1 ⟨ad,k,ra,rk,gm,cm,pa,pc,bf,rfl,hP,hH,hb⟩;have H1:=H3 hP hH (Qb β1 hb);clear hP hH hb)
 refine Qj (fun W1 hW1=>?_);obtain ⟨B1,ap⟩:∃ b,b=w1.heap.size:=⟨_,rfl⟩
 have aa:Hid (Bl w1 W1):=by
  show Bl w1 W1
  rw [hW1];with_reducible repeat' (first | exact Qd _ | refine Qk ?_ ?_ | refine Qc ?_)
  all_goals (first | omega | (dsimp only;omega) | (simp;done))
 have X1:Hid (At W1 B1 0 (.slice ad L.length k)∧At W1 B1 1 (.map (some ra))∧At W1 B1 2 (.map (some rk))∧At W1 B1 3 (.slice (Az gm) L.length cm)∧At W1 B1 4 (.slice pa L.length pc)):=by
  rw [hW1,ap];refine ⟨?_, ?_, ?_, ?_, ?_⟩ <;> simp [go_sem]
 rw [← ap];clear hW1 ap;obtain ⟨x0,x1,x2,x3,x4⟩:=X1.out;have zB:=Bt x0
 have az:Hid (Cl 108 #[.agg #[.slice ad L.length k,.map (some ra),.map (some rk),.slice (Az gm) L.length cm,.slice pa L.length pc]] W1 fun e w'=>MtsTo W1 w' G e):=by
  rw [HR.out.2.2.2.2];exact meetings_any W1 L.length k ra rk gm cm pc ad pa L kd M (H1.out.1.kept aa.out) rfl hL HR.out.1 HR.out.2.1 (HR.out.2.2.2.1.kept (Qb H1.out.2.2 aa.out))
 go_wp2_with (go_at_call 108;refine az.out.mono ?_;rintro e X ⟨rm,base,mm,rfl,c6,bp,bq,c9,ar⟩;obtain ⟨ls,c,au,bn,bo,a2,a8,_⟩:=c6;have H3:Hid (Good ls c∧ls.length≤300000∧(∀ e,lk ls e=none→G e=mdZ)∧(∀ e v,lk ls e=some v→G e≠mdZ∧∃ s0 s1 s2 s3,v=.agg #[s0,s1,s2,s3]∧Ow X base s0 s1 s2 s3 (G e))∧Hg X bf L.length h∧Bl w X):=⟨bn,γ,a2,a8,(H1.out.2.1.kept aa.out).kept ar,Qb H1.out.2.2 (Qb aa.out ar)⟩;have ae:=run_range_em au;have ao:=Hd (CS.start au);clear au bn bo a2 a8 bp bq c9 ar x0 x1 x2 x3 x4 zB)
 obtain ⟨r,hr⟩:∃ r,r=X.heap.size:=⟨_,rfl⟩;rw [← hr] at ao ⊢;clear hr ae X1 az ay;go_loopg [7] (ls.length+1) (fun gk s7 wx=>∃ f:EL,gk=ls.length+1 - f.length∧VisE ls f∧CS X wx rm r c ls (stampE f) s7 (kV K f))
 case atStart=>exact ⟨[],rfl,VisE.nil ls,ao.out⟩
 case round =>
  clear ao;obtain ⟨f,rfl,hV,hS⟩:=hrel;have HV:=Hd hV;obtain ⟨a7,c7,e7,_,_⟩:=Ub hS.own;subst e7;have Y:=Hd hS
  have b9:Hid ((kV K f).length≤1200000):=by
   show (kV K f).length≤1200000
   have h1:=kV_len K HK.out.1 f;have h2:=hV.len;have h3:=H3.out.2.1;omega
  clear hV hS;go_wp2_with (at_next;refine wpList_next_em rfl _ rfl rm r c ls (stampE f) rfl Y.out.em Y.out.it H3.out.1 (by have:=Y.out.hr;have:=Y.out.lo;omega) ?done ?more)
  case done =>
   intro ag;have HD:=Hd ag;clear ag;have b5:Hid (Cl 110 #[.slice a7 (kV K f).length c7,.func (.func 111) #[] #[]] wr fun e w'=>e=.returned (.tuple #[])∧∃ Bs',Bs'.Perm (kV K f)∧Bs'.Pairwise (fun x y=>ltC y x=false)∧JRow w' a7 Bs'∧wr.grownBy w' (Value.slice a7 (kV K f).length c7).ownBlock):=sortClash_any wr (r+1) c7 a7 (kV K f) Y.out.own (by have:=b9.out;omega);go_wp2_with (go_at_call 110;refine b5.out.mono ?_;rintro e w9 ⟨rfl,Bs,hp,bs,hj,hg⟩;have H9:Hid (Bs.Perm (kV K f)∧Bs.Pairwise (fun x y=>ltC y x=false)∧JRow w9 a7 Bs∧Bl w w9):=⟨hp,bs,hj,Qb H3.out.2.2.2.2.2 (Y.out.b.grown hg Y.out.b.size (fun q hq=>by have:=Qn Y.out.own q hq;have:=Y.out.lo;omega))⟩;clear hp bs hj hg)
   have ax:(kV K f).length=Bs.length:=H9.out.1.length_eq.symm;refine bodyPost_ret (v:=.tuple #[.slice a7 (kV K f).length c7,I 0]) (by simp [results,Tryz.results73,go_sem]) rfl ⟨a7,c7,Bs,by rw [← ax],H9.out.2.2.1, ?_,fun y=>?_,H9.out.2.2.2⟩
   ·have ca:Bs.Nodup:=H9.out.1.nodup_iff.2 (kV_nodup K HK.out.2.1 f (HV.out.keys H3.out.1));refine List.Pairwise.imp₂ (fun {x y} h1 h2=>ltC_tri h1 (Ne.symm h2)) H9.out.2.1 ca
   ·rw [H9.out.1.mem_iff,kV_mem];constructor
    ·rintro ⟨x,hx,k,hk,rfl⟩;exact ⟨x.1,k,by rw [← HK.out.2.2.1];exact hk,rfl⟩
    ·rintro ⟨e,k,hk,rfl⟩;rw [← HK.out.2.2.1] at hk
     cases hl:lk ls e with
     | none =>
      rw [HK.out.2.2.2 e (H3.out.2.2.1 e hl)] at hk
      cases hk
     | some v =>
      obtain ⟨b,hb⟩:=lk_mem hl;exact ⟨(e,v,b),(HV.out.all H3.out.1 HD.out _).2 hb,k,hk,rfl⟩
  case more =>
   intro e0 e1 e2 d xv st W4 Q aj c8;have HX:=Hd Q;have bb:=Hd (HV.out.add Q)
   have ab:Hid (CS X W4 rm r c ls (stampE (f ++ [((e0,e1,e2,d),xv,st)])) (.slice a7 (kV K f).length c7) (kV K f)):=by
    show CS X W4 rm r c ls (stampE (f ++ [((e0,e1,e2,d),xv,st)])) (.slice a7 (kV K f).length c7) (kV K f)
    rw [stampE_add];exact Y.out.next aj
   obtain ⟨_,s0,s1,s2,s3,cb,bh⟩:=H3.out.2.2.2.1 (e0,e1,e2,d) xv (lk_in H3.out.1 Q.1);subst cb;have T:=Hd bh;clear Q aj bh;obtain ⟨s,F,f0,_⟩:=Yl T.out.o0;obtain ⟨z,J,f1,_⟩:=Yl T.out.o1;obtain ⟨B,N,f2,_⟩:=Yl T.out.o2;obtain ⟨D,O,f3,_⟩:=Yl T.out.o3;subst f0 f1 f2 f3;go_upto_region 8 with fail
   refine Qj (fun P aq=>?_);obtain ⟨p,ac⟩:∃ b,b=W4.heap.size:=⟨_,rfl⟩
   have b7:Hid (Bl W4 P):=by
    show Bl W4 P
    rw [aq];with_reducible repeat' (first | exact Qd _ | refine Qk ?_ ?_ | refine Qc ?_)
    all_goals (first | (dsimp only;omega) | (simp;done) | (simp;omega))
   have X5:Hid ((At P p 0 (I e0)∧At P p 1 (I e1)∧At P p 2 (I e2)∧At P p 3 (I d))∧(At P (p+1) 0 (.slice s (G (e0,e1,e2,d)).a0.length F)∧At P (p+1) 1 (.slice z (G (e0,e1,e2,d)).b0.length J)∧At P (p+1) 2 (.slice B (G (e0,e1,e2,d)).a1.length N)∧At P (p+1) 3 (.slice D (G (e0,e1,e2,d)).b1.length O))):=by
    rw [aq,ac];refine ⟨⟨?_, ?_, ?_, ?_⟩, ?_, ?_, ?_, ?_⟩ <;> simp [go_sem]
   have b8:=Hd ac;rw [← ac];clear aq ac c8;obtain ⟨⟨x0,x1,x2,x3⟩,y0,y1,y2,y3⟩:=X5.out;have zB:=Bt x0;have zC:=Bt y0;obtain ⟨o,aw⟩:∃ o,o=K (e0,e1,e2,d):=⟨_,rfl⟩
   have am:Hid (Cl 109 #[.agg #[.slice s (G (e0,e1,e2,d)).a0.length F,.slice z (G (e0,e1,e2,d)).b0.length J,.slice B (G (e0,e1,e2,d)).a1.length N,.slice D (G (e0,e1,e2,d)).b1.length O],ABv bf] P fun e w'=>∃ a c,e=.returned (.slice a o.length c)∧w'.ownsRow P.heap.size 3 1 (.slice a o.length c) o.length (nV o)∧Bl P w'):=by
    have bj:Bl X P:=Qb ab.out.b b7.out;have:=meetClash_any P base bf L.length _ _ _ _ (G (e0,e1,e2,d)) h (T.out.sam (Sam.below (R:=fun _=>False) bj) fun _ _=>id) (H3.out.2.2.2.2.1.kept bj) hL (HR.out.2.2.1 _);rw [aw,HK.out.2.2.1];exact this
   have an:=Hd aw;clear aw;unfold ABv at am;unfold ABv;go_wp2_with (go_at_call 109;refine am.out.mono ?_;rintro e w6 ⟨ak,ck,rfl,a6,bi⟩;have H6:=H2 a6 bi;clear a6 bi x0 x1 x2 x3 y0 y1 y2 y3 zB zC)
   go_loopg [7,32] o.length (fun gk s7 cd wx=>∃ (j:Nat) (u:Value),j≤o.length∧gk=o.length - j∧u=s7∧cd=I (j:Int)∧CS X wx rm r c ls (stampE (f ++ [((e0,e1,e2,d),Value.agg #[.slice s (G (e0,e1,e2,d)).a0.length F,.slice z (G (e0,e1,e2,d)).b0.length J,.slice B (G (e0,e1,e2,d)).a1.length N,.slice D (G (e0,e1,e2,d)).b1.length O],st)])) u (kV K f ++ kE K (e0,e1,e2,d) j)∧wx.ownsRow P.heap.size 3 1 (.slice ak o.length ck) o.length (nV o)∧(At wx p 0 (I e0)∧At wx p 1 (I e1)∧At wx p 2 (I e2)∧At wx p 3 (I d))∧some p≠u.ownBlock)
   case atStart =>
    obtain ⟨⟨x0,x1,x2,x3⟩,_⟩:=X5.out;refine ⟨0,_,γ,rfl,rfl,rfl, ?_,H6.out.1,⟨Qa H6.out.2 x0,Qa H6.out.2 x1,Qa H6.out.2 x2,Qa H6.out.2 x3⟩,fun e=>?_⟩
    ·rw [kE_zero,List.append_nil];exact ab.out.kept (Qb b7.out H6.out.2)
    ·have:=(ab.out.own.lt p e.symm).2;have:=b8.out;omega
   case round =>
    clear H6 X5 ab Y b8 am T;obtain ⟨j,u,hj,rfl,rfl,rfl,hS,a6,⟨x0,x1,x2,x3⟩,br⟩:=hrel;obtain ⟨A,hA⟩:∃ A,A=kV K f ++ kE K (e0,e1,e2,d) j:=⟨_,rfl⟩;rw [← hA] at hS;have b6:=Hd hA;obtain ⟨ua,uc,eu,_,_⟩:=Ub hS.own;subst eu;have l:Hid (CS X wr rm r c ls (stampE (f ++ [((e0,e1,e2,d),Value.agg #[.slice s (G (e0,e1,e2,d)).a0.length F,.slice z (G (e0,e1,e2,d)).b0.length J,.slice B (G (e0,e1,e2,d)).a1.length N,.slice D (G (e0,e1,e2,d)).b1.length O],st)])) (.slice ua A.length uc) A∧wr.ownsRow P.heap.size 3 1 (.slice ak o.length ck) o.length (nV o)∧(At wr p 0 (I e0)∧At wr p 1 (I e1)∧At wr p 2 (I e2)∧At wr p 3 (I d))∧some p≠(Value.slice ua A.length uc).ownBlock):=⟨hS,a6,⟨x0,x1,x2,x3⟩,br⟩;have zB:=Bt x0
    have ba:Hid (A.length≤1300000):=by
     show A.length≤1300000
     rw [hA,List.length_append];have h1:=kE_len K (e0,e1,e2,d) j;have h2:=HK.out.1 (e0,e1,e2,d);have h3:=b9.out;omega
    clear hS a6 br hA;have ce:o.length≤4:=by rw [an.out];exact HK.out.1 _
    by_cases hj1:j<o.length
    ·have j1:(j:Int)<(o.length:Int):=γ;have j0:(0:Int)≤(j:Int):=γ;obtain ⟨gk,c5,bm⟩:=own_irow l.out.2.1 j hj1;subst c5;obtain ⟨kj,av⟩:∃ kj,kj=o[j]:=⟨_,rfl⟩;rw [← av] at bm;have zk:=Bt bm
     have bz:Hid (kE K (e0,e1,e2,d) (j+1)=kE K (e0,e1,e2,d) j ++ [((e0,e1,e2,d),(kj:Int))]):=by
      show kE K (e0,e1,e2,d) (j+1)=kE K (e0,e1,e2,d) j ++ [((e0,e1,e2,d),(kj:Int))]
      have e9:=an.out;subst e9;rw [kE_succ K _ hj1,av]
     clear av;go_wp2_with (at_builtin;refine wpList_append_own_at _ rfl (.tmp 36) (.tmp 40) 142 rfl (r+1) 185 cc (.agg #[I 0,I 0,I 0,I 0,I 0]) 5 40 Tryz.underlying142 HI.out.1 HI.out.2.1 HI.out.2.2.1 HI.out.2.2.2 rfl τ (.slice ua A.length uc) A.length (flatJ A) rfl (Qh l.out.1.own β1) ⟨wr.heap.size,0,none⟩ 1 1 [I e0,I e1,I e2,I d,I (kj:Int)] rfl rfl (cell_fiveC _ _ _ _ _ _ _) (flatJ_one1 [((e0,e1,e2,d),(kj:Int))]) (by have:=ba.out;unfold maxLen;omega) (by have:=ba.out;omega) (by have:=l.out.1.lt;simp;omega) ?growS)
     case growS =>
      intro v' w8 ai m _ ah
      have HN:Hid (CS X w8 rm r c ls (stampE (f ++ [((e0,e1,e2,d),Value.agg #[.slice s (G (e0,e1,e2,d)).a0.length F,.slice z (G (e0,e1,e2,d)).b0.length J,.slice B (G (e0,e1,e2,d)).a1.length N,.slice D (G (e0,e1,e2,d)).b1.length O],st)])) v' (kV K f ++ kE K (e0,e1,e2,d) (j+1))∧w8.ownsRow P.heap.size 3 1 (.slice (Az gk) o.length ck) o.length (nV o)∧(At w8 p 0 (I e0)∧At w8 p 1 (I e1)∧At w8 p 2 (I e2)∧At w8 p 3 (I d))∧some p≠v'.ownBlock):=by
       have U:Bl wr (wr.alloc (.cells #[I e0,I e1,I e2,I d,I (kj:Int)] 185)):=Qc (Qd _);refine ⟨?_, ?_,⟨m.cell (Qa U l.out.2.2.1.1) l.out.2.2.2,m.cell (Qa U l.out.2.2.1.2.1) l.out.2.2.2,m.cell (Qa U l.out.2.2.1.2.2.1) l.out.2.2.2,m.cell (Qa U l.out.2.2.1.2.2.2) l.out.2.2.2⟩,fun e=>?_⟩
       ·rw [bz.out,← List.append_assoc,← b6.out];exact (l.out.1.kept U).more m ai
       ·refine (Sam.grown m).own (Qh l.out.2.1 U) fun g e9 e8=>?_;exact Ji (own_leC l.out.2.1 (Nat.zero_le _)) (own_leC l.out.1.own (Nat.zero_le _)) τ g e9 e8
       ·rcases ah with h9 | h9
        ·rw [h9] at e;exact l.out.2.2.2 e
        ·rw [h9] at e;simp at e;omega
      clear ai m ah;go_wp2;go_roundg (o.length - (j+1))
      case measure=>omega
      case rel=>exact ⟨j+1,v',γ,rfl,rfl,σ,HN.out.1,HN.out.2.1,HN.out.2.2.1,HN.out.2.2.2⟩
    ·have j1:¬ (j:Int)<(o.length:Int):=γ;obtain rfl:j=o.length:=γ
     have bw:Hid (CS X wr rm r c ls (stampE (f ++ [((e0,e1,e2,d),Value.agg #[.slice s (G (e0,e1,e2,d)).a0.length F,.slice z (G (e0,e1,e2,d)).b0.length J,.slice B (G (e0,e1,e2,d)).a1.length N,.slice D (G (e0,e1,e2,d)).b1.length O],st)])) (.slice ua A.length uc) (kV K (f ++ [((e0,e1,e2,d),Value.agg #[.slice s (G (e0,e1,e2,d)).a0.length F,.slice z (G (e0,e1,e2,d)).b0.length J,.slice B (G (e0,e1,e2,d)).a1.length N,.slice D (G (e0,e1,e2,d)).b1.length O],st)]))):=by
      show CS X wr rm r c ls (stampE (f ++ [((e0,e1,e2,d),Value.agg #[.slice s (G (e0,e1,e2,d)).a0.length F,.slice z (G (e0,e1,e2,d)).b0.length J,.slice B (G (e0,e1,e2,d)).a1.length N,.slice D (G (e0,e1,e2,d)).b1.length O],st)])) (.slice ua A.length uc) (kV K (f ++ [((e0,e1,e2,d),Value.agg #[.slice s (G (e0,e1,e2,d)).a0.length F,.slice z (G (e0,e1,e2,d)).b0.length J,.slice B (G (e0,e1,e2,d)).a1.length N,.slice D (G (e0,e1,e2,d)).b1.length O],st)]))
      have h9:=l.out.1;have e9:=an.out;rw [kV_add];have e8:=b6.out;rw [e9] at e8;rw [← e8];exact h9
     go_wp2;go_roundg (ls.length+1 - (f ++ [((e0,e1,e2,d),Value.agg #[.slice s (G (e0,e1,e2,d)).a0.length F,.slice z (G (e0,e1,e2,d)).b0.length J,.slice B (G (e0,e1,e2,d)).a1.length N,.slice D (G (e0,e1,e2,d)).b1.length O],st)]).length)
     case measure =>
      have h8:=bb.out.len;rw [List.length_append,List.length_singleton] at h8 ⊢;omega
     case rel=>exact ⟨f ++ [((e0,e1,e2,d),Value.agg #[.slice s (G (e0,e1,e2,d)).a0.length F,.slice z (G (e0,e1,e2,d)).b0.length J,.slice B (G (e0,e1,e2,d)).a1.length N,.slice D (G (e0,e1,e2,d)).b1.length O],st)],rfl,bb.out,bw.out⟩
theorem lv_one9 {P:Nat→T3} {S:List (T3×List T3)} {b:Nat→Int} (d:L.Nodup) (f:StOk L P S) (hl:Lv S L h S.length 0) (a:Lv S L b S.length 0) (hi:i<L.length):h i=b i:=by
 obtain ⟨m,k,c,g,e,_,e2⟩:=lv_at d f hl hi;rw [e2,a i hi m k c g e (Or.inl c)]
def Mdl9 (D:MD) (c:Nat):Prop:=D.a0.length≤c∧D.b0.length≤c∧D.a1.length≤c∧D.b1.length≤c
theorem gF_len {pl:Nat→T3} {E:E4}:∀ (J:List (Nat×C5)) (D:MD) (c:Nat),Mdl9 D c→Mdl9 (J.foldl (gF kd M pl E) D) (c+J.length)
 | [],_,_,h=>h
 | p :: J,D,c,h=>by
  have:=gF_len (pl:=pl) (E:=E) J (gF kd M pl E D p) (c+1) (by
   obtain ⟨h1,h2,h3,h4⟩:=h;unfold gF mt mtO mtF;repeat' split
   all_goals refine ⟨?_, ?_, ?_, ?_⟩ <;> (try simp) <;> omega)
  rw [List.foldl_cons,List.length_cons];obtain ⟨h1,h2,h3,h4⟩:=this;exact ⟨γ,γ,γ,γ⟩
theorem md_of9 (a:(gJs L).length≤100000) (E:E4):MdOk (gA kd L M pl L.length E) L.length:=by
 refine (gA_in (fun i _ q hq=>(jl_pos hq).2) L.length (Nr _) E).ok (c:=0+(gJs L).length) ?_ γ;rw [gA_js,stJ_at];exact gF_len (gJs L) mdZ 0 ⟨Nr _,Nr _,Nr _,Nr _⟩
def zW (W:Nat):List Int:=List.replicate W 15
theorem Ju (W:Nat):(zW W).length=W:=by simp [zW]
theorem Zq (cs:List C5):(gK cs).length=cs.length*5:=by
 induction cs with
 | nil=>rfl
 | cons c cs ih =>
  have:gK (c :: cs)=[c.1.1,c.1.2.1,c.1.2.2.1,c.1.2.2.2,c.2] ++ gK cs:=rfl;rw [this,List.length_append,ih,List.length_cons];simp only [List.length_cons,List.length_nil];omega
structure StA (W:Nat) (L:List T3) (d:Dg) (a0 c0 mp sp:Option Addr) (w:World):Prop where
 z:Row w a0 (zW W)
 za:∃ b off,a0=Ad b off
 k:Row w c0 (gK d.cs)
 ka:c0=none∨∃ p off,c0=Ad p off
 m:∃ g,mp=Az g∧MRow w g L.length (gM d)
 s:SRow w sp (gS L d)
theorem Hg0.like {a:Nat→Int} (k:Hg0 w b n h) (e:∀ i,i<n→h i=a i):Hg0 w b n a:=by
 obtain ⟨g,c,h1,h2⟩:=k;exact ⟨g,c,h1,fun i hi=>by rw [← e i hi];exact h2 i hi⟩
def gLS (L:List T3) (d:Dg):List (List Nat):=d.T.map fun s=>(List.range L.length).filter fun k=>decide (gP L d k=s.1)
theorem Gn_gLS {d:Dg} (e:T3):Gn (pls L (gM d) L.length) (pls L (gM d) L.length).length e=((List.range L.length).filter fun k=>decide (gP L d k=e)).map fun k:Nat=>(k:Int):=by
 rw [Gn_eq,Qu];congr 1
 refine List.filter_congr fun k a=>?_;rw [Jm (List.mem_range.1 a)];rfl
end Go.Proofs.YtbjmnlefkbhbdaaGreatDoor
namespace Go.Proofs
open Go.Shelf
def Tryz.blen_ren:Go.Shelf.Ren:=⟨fun | 15=>142 | 28=>173 | 29=>174 | n=>n,fun | 39=>154 | 3=>3 | 53=>207 | 55=>210 | 4=>4 | 5=>5 | 9=>9 | n=>n,fun | n=>n⟩
theorem Tryz.blen:Go.Proofs.SlLaysF0.n15 Tryz.prog Tryz.blen_ren:={
 mixed:=by kernel_rfl
 f15:=Tryz.func142.trans (congrArg some (by kernel_rfl))
 f28:=Tryz.func173.trans (congrArg some (by kernel_rfl))
 f29:=Tryz.func174.trans (congrArg some (by kernel_rfl))
 t3:=Tryz.underlying3
 a3:=Tryz.isAgg3
 z3:=Tryz.sizeOf3
 v3:=Tryz.zeroValue3
 t4:=Tryz.underlying4
 a4:=Tryz.isAgg4
 z4:=Tryz.sizeOf4
 v4:=Tryz.zeroValue4
 t5:=Tryz.underlying5
 a5:=Tryz.isAgg5
 z5:=Tryz.sizeOf5
 v5:=Tryz.zeroValue5
 t9:=Tryz.underlying9
 a9:=Tryz.isAgg9
 z9:=Tryz.sizeOf9
 v9:=Tryz.zeroValue9
 t39:=Tryz.underlying154
 a39:=Tryz.isAgg154
 z39:=Tryz.sizeOf154
 v39:=Tryz.zeroValue154
 t53:=Tryz.underlying207
 a53:=Tryz.isAgg207
 z53:=Tryz.sizeOf207
 v53:=Tryz.zeroValue207
 t55:=Tryz.underlying210
 a55:=Tryz.isAgg210
 z55:=Tryz.sizeOf210
 v55:=Tryz.zeroValue210 }
end Go.Proofs
namespace Go.Proofs.YtbjmnlefkbhbdaaGreatDoor
open Go.RowKit
variable {L:List T3} {C H W b base c1 c2 c3 c4 g i j n:Nat} {B:Int} {V w w':World} {M:Nat→M6} {h:Nat→Int} {α:Type} {a a0 a1 b1 c c0 f:Option Addr} {kd:E4→Int}
theorem sortNums_any (w:World) (g o n a N:Nat) (q:Value) (b:Nat→Nat→Int) (y:CmpF w g N q b) (s:Sort.SWO (ltF b)) (d:Array Nat) (z:d.size=n) (x:∀ k,k<d.size→d[k]! < N) (C:n≤300) (A:SrtW w w g o d) :
  Cl 99 #[.slice (Ad g o) n a,.func (.func 100) #[q] #[]] w fun e w'=>e=.returned (.tuple #[])∧∃ c,Sort.PermIn 0 n d c∧Sort.SortedIn (ltF b) 0 n c∧SrtW w w' g o c:=by
 have j:Lib.bitLen n≤62:=Lib.bitLen_le n 62 γ γ
 have hl:Cl 142 #[.int .u64 (n:Int)] w fun e w'=>e=.returned (I (Lib.bitLen n:Nat))∧w'=w:=by
  have h:=Any.bits_Len (SlLaysF0.n15.bits (P:=Tryz.prog) (ρ:=Tryz.blen_ren) Tryz.blen) (n:Int) w γ γ;rw [Int.toNat_natCast] at h;exact h
 obtain ⟨f,l⟩:∃ f,f=Lib.bitLen n:=⟨_,rfl⟩;rw [← l] at hl j;have B:=Hd hl
 have u:Hid (Cl 141 #[.slice (Ad g o) n a,I 0,I (n:Int),I (f:Int),.func (.func 100) #[q] #[]] w fun e w'=>e=.returned (.tuple #[])∧SrtW w w' g o (Sort.pdq (ltF b) d 0 n f true true)):=by
  have:=pdq_any w g o n a N q b y s C (n+1) 0 n f d w γ z A γ γ γ x (Or.inl rfl);exact this
 have hs:=Sort.pdq_sorts (ltF b) s d 0 n f true true γ γ (Or.inl rfl);obtain ⟨c,i⟩:∃ c,c=Sort.pdq (ltF b) d 0 n f true true:=⟨_,rfl⟩;rw [← i] at u hs;have v:=Hd hs;have wr:IntKind.u64.wrap (n:Int)=(n:Int):=by simp [IntKind.wrap,IntKind.bits,IntKind.signed];omega
 clear hs i l hl A y s x z;go_enter Tryz.func99,Tryz.ntmps99;go_wp2_with (first | (go_at_call 142;refine B.out.mono ?_;rintro e w1 ⟨rfl,m⟩;have t:=m.symm;clear m;subst t) | (go_at_call 141;refine u.out.mono ?_;rintro e D ⟨rfl,p⟩;have r:=Hd p;clear p))
 go_end0
 exact ⟨rfl,c,v.out.1,v.out.2,r.out⟩
theorem ltF_key (h:Nat→Int):ltF (fun x y=>cmp3 (h x) (h y))=fun x y=>decide (h x<h y):=by
 funext x y
 unfold ltF cmp3;by_cases q:h x<h y
 ·simp [q]
 ·by_cases q2:h y<h x
  ·simp [q,q2]
  ·simp [q,q2]
theorem Zt (w:World) (N:Nat) (m:Value) (h:Nat→Int) (C:∀ W:World,Bl w W→∀ x y:Nat,x<N→y<N→Rt 100 #[m,I (x:Int),I (y:Int)] W (I (cmp3 (h x) (h y)))):SortsN w N m h:=by
 intro W g n R hb hg u f A v;have p:CmpF W g N m (fun x y=>cmp3 (h x) (h y)):=fun G q x y E F=>C G (hb.grown q hb.size (fun r e=>by cases e;exact hg)) x y E F;have o:Sort.SWO (ltF (fun x y=>cmp3 (h x) (h y))):=by rw [ltF_key];exact swo_key h
 have t:g<W.heap.size:=bk (v 0 (List.length_pos_iff.2 u)).1
 have B:SrtW W W g 0 R.toArray:=⟨fun j d=>by
  have c:j<R.length:=by simpa using d
  obtain ⟨c1,c2⟩:=v j c;rw [Nat.zero_add,getElem!_pos _ j d];simp only [List.getElem_toArray];exact ⟨c1,c2⟩,⟨rfl,rfl,rfl,Nr _,fun _ _ _=>rfl⟩,t⟩
 refine (sortNums_any W g 0 R.length n N m _ p o R.toArray ν (fun k D=>by
  rw [getElem!_pos _ k D];simp only [List.getElem_toArray];exact A _ (Lm _)) f B).mono ?_
 rintro e w' ⟨rfl,a,hp,hs,z⟩;have l:a.size=R.length:=by simpa using hp.1
 refine ⟨rfl,a.toList, ?_, ?_, ?_,z.gr⟩
 ·have h3:=hp.2.2
  have e1:(a.extract 0 R.length).toList=a.toList:=by
   rw [← l];simp
  have e2:(R.toArray.extract 0 R.length).toList=R:=ν;rw [e1,e2] at h3;exact h3
 ·unfold Upw;rw [List.pairwise_iff_getElem];intro i j hi d s;have:=hs i j (Nat.zero_le _) s (by simpa [l] using d);have b:i<a.size:=by simpa using hi
  have c:j<a.size:=by simpa using d
  rw [getElem!_pos a i b,getElem!_pos a j c,ltF_key,decide_eq_false_iff_not] at this;simpa using this
 ·intro i hi;have b:i<a.size:=by simpa using hi
  obtain ⟨c1,c2⟩:=z.row i b;rw [Nat.zero_add,getElem!_pos a i b] at c1;rw [Nat.zero_add] at c2;exact ⟨by simpa using c1,c2⟩
open Go.ChangeMaps
theorem SRowF.grown {S:List (T3×List T3)} (h:SRowF w base a S) (hg:w.grownBy w' (some b)) (hb:b<base):SRowF w' base a S:=fun i hi=>by
 obtain ⟨g,d,f,e,h0,h1,h2,h3,h4,h5,h6⟩:=h i hi;have c:some g≠some b:=fun q=>by cases q;omega
 exact ⟨g,d,f,e,h0,hg.cell h1 c,hg.cell h2 c,hg.cell h3 c,hg.cell h4 c,h5.grown hg (fun q e=>by have:=h6 q e;omega),h6⟩
theorem flatJ_gK (cs:List C5):flatJ cs=(gK cs).map (Value.int .i64):=by simp [flatJ,gK,List.map_flatMap]
def S5D (W:Nat) (L:List T3) (d:Dg) (base:Nat) (a1:Option Addr) (c1:Nat) (b1:Option Addr) (c2:Nat) (m1:Option Addr) (_:Nat) (p1:Option Addr) (_:Nat) (V:World):Prop :=
 V.ownsRow base 3 1 (.slice a1 W c1) W ((zW W).map (Value.int .i64))∧V.ownsRow base 122 5 (.slice b1 d.cs.length c2) d.cs.length ((gK d.cs).map (Value.int .i64))∧(∃ g,m1=Az g∧base≤g∧MRow V g L.length (gM d))∧SRowF V base p1 (gS L d)
theorem S5D.kept {d:Dg} {a:World} {b:Option Addr} (h:S5D W L d base a1 c1 b1 c2 b c3 c c4 V) (hb:Bl V a):S5D W L d base a1 c1 b1 c2 b c3 c c4 a:=by
 obtain ⟨h1,h2,⟨g,e,h3,h4⟩,h5⟩:=h;exact ⟨Qh h1 hb,Qh h2 hb,⟨g,e,h3,h4.kept hb⟩,h5.kept hb⟩
theorem S5D.grown {d:Dg} {a:World} (h:S5D W L d base a1 c1 b1 c2 c c3 f c4 V) (hg:V.grownBy a (some b)) (hb:b<base):S5D W L d base a1 c1 b1 c2 c c3 f c4 a:=by
 obtain ⟨h1,h2,⟨g,e,h3,h4⟩,h5⟩:=h;exact ⟨Xa h1 hg (fun q hq k=>by have:=Qn h1 q hq;cases k;omega),Xa h2 hg (fun q hq k=>by have:=Qn h2 q hq;cases k;omega),⟨g,e,h3,h4.grown hg (fun k=>by cases k;omega)⟩,h5.grown hg hb⟩
theorem own_none {e size c:Nat} {f:List Value} (h:w.ownsRow base e size (.slice a n c) n f):a=none∨∃ p off,a=Ad p off:=by
 rcases h.2 with ⟨e,_⟩ | ⟨g,b,d,e,_⟩
 ·cases e;exact Or.inl rfl
 ·cases e;exact Or.inr ⟨g,0,rfl⟩
theorem S5D.sta {d:Dg} (p:1≤W) (h:S5D W L d base a1 c1 b1 c2 c c3 f c4 V):StA W L d a1 b1 c f V:=by
 obtain ⟨h1,h2,⟨g,e,h3,h4⟩,h5⟩:=h;obtain ⟨a,m,j,i⟩:=Yu h1 γ5;obtain ⟨b,n,k,l⟩:=Yu h2 (Zq _)
 cases j
 cases k;refine ⟨i.row, ?_,l.row,own_none h2,⟨g,e,h4⟩,h5.row⟩;obtain ⟨q,o,e,_⟩:=i.row 0 γ5;exact ⟨q,o,e⟩
theorem jrow_row {b:Option Addr} {l:List C5} (h:JRow w b l):Row w b (gK l):=fun i hi=>by
 (try simp only [At,I,Fn,Az,Ad] at hi);rw [Zq] at hi
 have hq:i / 5<l.length:=γ;obtain ⟨g,e,k0,k1,k2,k3,k⟩:=h (i / 5) hq;refine ⟨g,0,e, ?_⟩;have f:∀ j,(flatJ l)[j]?=((gK l)[j]?).map (Value.int .i64):=fun j=>by (try simp only [At,I,Fn,Az,Ad]);rw [flatJ_gK,List.getElem?_map]
 obtain ⟨f0,f1,f2,f3,f4⟩:=Zr l (i / 5) hq;have d:i<(gK l).length:=by (try simp only [At,I,Fn,Az,Ad]);rw [Zq];omega
 have a:∀ (r:Nat) (x:Int),i=i / 5*5+r→(flatJ l)[i / 5*5+r]?=some (I x)→w.cell? ⟨g,i / 5*5+r,none⟩=some (I x)→w.cell? ⟨g,0+i,none⟩=some (I (gK l)[i]):=fun r x e1 e2 c=>by
  (try simp only [I] at e2 c);rw [← e1] at e2 c
  (try simp only [At,I,Fn,Az,Ad] at e2);rw [f,List.getElem?_eq_getElem d,Option.map_some] at e2
  (try simp only [I]);rw [Nat.zero_add,c,← e2]
 have h5:i % 5=0∨i % 5=1∨i % 5=2∨i % 5=3∨i % 5=4:=γ;rcases h5 with q | q | q | q | q
 ·exact a 0 _ γ f0 k0
 ·exact a 1 _ γ f1 k1
 ·exact a 2 _ γ f2 k2
 ·exact a 3 _ γ f3 k3
 ·exact a 4 _ γ f4 k
theorem MRow.like {a:Nat→M6} (h:MRow w g n M) (e:∀ i,i<n→M i=a i):MRow w g n a:=fun i hi=>by rw [← e i hi];exact h i hi
theorem heap_dis {pl:Nat→T3} {A:List (T3×List Nat)} (k:Heap n pl h A) (hi:i<n) (c:j<n) (e:pl i=pl j) (a:i≠j):h i≠h j:=by
 obtain ⟨s,hs,h1⟩:=k.2.2 i hi;have h2:j∈s.2:=(heap_all k hs j).2 ⟨c,e.symm.trans ((heap_all k hs i).1 h1).2⟩;obtain ⟨p,hp,rfl⟩:=List.mem_iff_getElem.1 h1;obtain ⟨q,hq,rfl⟩:=List.mem_iff_getElem.1 h2;have b:=List.pairwise_iff_getElem.1 (k.2.1 s hs).2.1;rcases Nat.lt_trichotomy p q with l | l | l
 ·have:=b p q hp hq l;omega
 ·subst l;exact absurd rfl a
 ·have:=b q p hq hp l;omega
structure ShOk (W H:Nat) (L:List T3):Prop where
 w1:1≤W∧W≤8
 h1:1≤H∧H≤8
 e:ty (zW (W*H)) W H=L
 st:StripD L
 js:(gJs L).length≤100000
structure GdC (B:Int) (C:Nat) (L:List T3) (d:Dg):Prop where
 cr:∀ i,i<d.cs.length→CrOk L (gK d.cs) i
 mo:MOk (gKd d) L (gM d)
 hp:Heap L.length (gP L d) (gH d) d.T
 ol:okL L d=true
 cn:d.cs.length≤C
 bd:∀ i,i<L.length→(-B≤(gM d i).2.2.2.2.1∧(gM d i).2.2.2.2.1≤B)∧-B≤(gM d i).2.2.2.2.2∧(gM d i).2.2.2.2.2≤B
theorem flat_ge:∀ (T:List (α×List Nat)),(∀ s∈T,s.2≠[])→T.length≤(T.flatMap fun s=>s.2).length
 | [],_=>Nr _
 | s :: T,h=>by
  have h1:=flat_ge T fun t a=>h t (by simp [a]);have h2:=List.length_pos_iff.2 (h s ν);rw [List.flatMap_cons,List.length_append,List.length_cons];omega
theorem flat_mem:∀ (T:List (α×List Nat)) (s : α×List Nat),s∈T→s.2.length≤(T.flatMap fun s=>s.2).length
 | t :: T,s,h=>by
  rw [List.flatMap_cons,List.length_append];rcases List.mem_cons.1 h with rfl | h
  ·omega
  ·have:=flat_mem T s h;omega
theorem GdC.len {d:Dg} (g:GdC B C L d):(d.T.flatMap fun s=>s.2).length=L.length:=by
 have:=g.ol;unfold okL at this;rw [Bool.and_eq_true] at this;exact of_decide_eq_true this.1
theorem GdC.sl {d:Dg} (g:GdC B C L d):(gS L d).length≤L.length:=by
 have:=flat_ge d.T fun s hs=>(g.hp.2.1 s hs).1;rw [g.len] at this;simpa [gS] using this
theorem GdC.se {d:Dg} (g:GdC B C L d):∀ s∈gS L d,s.2.length≤L.length:=fun s hs=>by
 obtain ⟨u,a,rfl⟩:=List.mem_map.1 hs;have:=flat_mem d.T u a;rw [g.len] at this;simpa [tgn] using this
theorem GdC.hb {d:Dg} (g:GdC B C L d) (i:Nat) (hi:i<L.length):0≤gH d i∧gH d i<(L.length:Int):=by
 obtain ⟨s,hs,h⟩:=g.hp.2.2 i hi;obtain ⟨k,a,rfl⟩:=List.mem_iff_getElem.1 h;have hl:=flat_mem d.T s hs;rw [g.len] at hl;have:=g.ol;unfold okL at this;rw [Bool.and_eq_true] at this;have:=List.all_eq_true.1 (List.all_eq_true.1 this.2 s hs) k (by simp [a]);simp only [decide_eq_true_eq,List.getD_eq_getElem?_getD,List.getElem?_eq_getElem a,Option.getD_some] at this;rw [this];omega
theorem GdC.sto {d:Dg} (a:L.Nodup) (g:GdC B C L d):StOk L (plF (pls L (gM d) L.length)) (gS L d)∧Lv (gS L d) L (gH d) (gS L d).length 0:=gS_ok a g.hp g.ol
theorem flat_nodup:∀ (T:List (α×List Nat)),(∀ s∈T,s.2.Nodup)→(T.Pairwise fun a b=>∀ x∈a.2,x ∉ b.2)→(T.flatMap fun s=>s.2).Nodup
 | [],_,_=>List.nodup_nil
 | s :: T,h,k=>by
  rw [List.pairwise_cons] at k;rw [List.flatMap_cons,List.nodup_append];refine ⟨h s ν,flat_nodup T (fun t c=>h t (by simp [c])) k.2,fun a d b hb e=>?_⟩;subst e;obtain ⟨t,c,hb⟩:=List.mem_flatMap.1 hb;exact k.1 t c a d hb
theorem heap_flat {pl:Nat→T3} {T:List (T3×List Nat)} (k:Heap n pl h T):(T.flatMap fun s=>s.2).length=n:=by
 have g:(T.flatMap fun s=>s.2).Nodup:=flat_nodup T (fun s hs=>Uw (k.2.1 s hs).2.1) (k.1.imp_of_mem fun {a b} f hb d x c e=>by
  have e1:=((k.2.1 a f).2.2 x c).2;have e2:=((k.2.1 b hb).2.2 x e).2;rw [e1.symm.trans e2] at d;exact Xo _ d)
 have:=(List.perm_ext_iff_of_nodup g List.nodup_range).2 fun x=>by
  rw [List.mem_range];constructor
  ·intro c;obtain ⟨s,hs,c⟩:=List.mem_flatMap.1 c;exact ((k.2.1 s hs).2.2 x c).1
  ·intro c;obtain ⟨s,hs,c⟩:=k.2.2 x c;exact List.mem_flatMap.2 ⟨s,hs,c⟩
 rw [this.length_eq,List.length_range]
def hpos (T:List (T3×List Nat)) (i:Nat):Int:=(((T.find? fun s=>s.2.contains i).map fun s=>s.2.idxOf i).getD 0:Nat)
theorem hpos_at {pl:Nat→T3} {T:List (T3×List Nat)} (k:Heap n pl h T) {s:T3×List Nat} (hs:s∈T) {q:Nat} (hq:q<s.2.length):hpos T s.2[q]=(q:Int):=by
 have c:=Lm hq
 have:(T.find? fun u=>u.2.contains s.2[q])=some s:=by
  cases hf:T.find? fun u=>u.2.contains s.2[q] with
  | none=>exact absurd (List.find?_eq_none.1 hf s hs) ν
  | some u =>
   have a:=List.mem_of_find?_eq_some hf;have b:=List.find?_some hf;have d:s.2[q]∈u.2:=by simpa using b
   rw [pair_same k.1 a hs (((k.2.1 u a).2.2 _ d).2.symm.trans ((k.2.1 s hs).2.2 _ c).2)]
 unfold hpos;rw [this];simp only [Option.map_some,Option.getD_some];rw [(Uw (k.2.1 s hs).2.1).idxOf_getElem q hq]
theorem heap_hl {pl:Nat→T3} {T:List (T3×List Nat)} (k:Heap n pl h T) (cs:List C5) (ml:List M6):Heap n pl (gH ⟨cs,ml,T,(List.range n).map (hpos T)⟩) T:=by
 have hg:∀ i,i<n→gH ⟨cs,ml,T,(List.range n).map (hpos T)⟩ i=hpos T i:=fun i hi=>by simp [gH,hi]
 refine ⟨k.1,fun s hs=>⟨(k.2.1 s hs).1, ?_,(k.2.1 s hs).2.2⟩,k.2.2⟩;rw [List.pairwise_iff_getElem];intro i j hi a b;rw [hg _ ((k.2.1 s hs).2.2 _ (Lm hi)).1,hg _ ((k.2.1 s hs).2.2 _ (Lm a)).1,hpos_at k hs hi,hpos_at k hs a];omega
theorem heap_ol {pl:Nat→T3} {T:List (T3×List Nat)} (k:Heap L.length pl h T) (cs:List C5) (ml:List M6):okL L ⟨cs,ml,T,(List.range L.length).map (hpos T)⟩=true:=by
 unfold okL;rw [Bool.and_eq_true];refine ⟨decide_eq_true (heap_flat k),List.all_eq_true.2 fun s hs=>List.all_eq_true.2 fun q hq=>decide_eq_true ?_⟩;have a:q<s.2.length:=by simpa using hq
 have b:=((k.2.1 s hs).2.2 _ (Lm a)).1;have:gH ⟨cs,ml,T,(List.range L.length).map (hpos T)⟩ s.2[q]=hpos T s.2[q]:=by simp [gH,b]
 rw [List.getD_eq_getElem?_getD,List.getElem?_eq_getElem a,Option.getD_some,this];exact hpos_at k hs a
structure StC (n:Nat) (L:List T3) (d:Dg) (a0 c0 mp sp:Option Addr) (w:World):Prop where
 z:Row w a0 (zW n)
 za:∃ b off,a0=Ad b off
 k:Row w c0 (gK d.cs)
 ka:c0=none∨∃ p off,c0=Ad p off
 m:∃ g,mp=Az g∧MRow w g L.length (gM d)
 s:SRow w sp (gS L d)
theorem StC.kept {d:Dg} {b:Option Addr} (h:StC n L d a0 c0 a b w) (hb:Bl w w'):StC n L d a0 c0 a b w':=by
 obtain ⟨g,e,hg⟩:=h.m;exact ⟨h.z.kept hb,h.za,h.k.kept hb,h.ka,⟨g,e,hg.kept hb⟩,h.s.kept hb⟩
theorem lay_gc (a:ShOk W H L) (cs:List C5) (a0 c0:Option Addr) (c d:Nat) (w:World) (l:Row w a0 (zW (W*H))) (g:∃ b off,a0=Ad b off) (h:Row w c0 (gK cs)) (hs:Steps w) (f:∀ i,i<cs.length→CrOk L (gK cs) i) (j:cs.length≤3518437208883) :
  Cl 20 #[.agg #[I (W:Int),I (H:Int),.slice a0 (W*H) c,.slice c0 cs.length d]] w fun e w'=>∃ ad k base ra rk,e=.returned (.tuple #[.agg #[.slice ad L.length k,.map (some ra),.map (some rk)],.bool true])∧PK w w' base ra rk (.slice ad L.length k) L (gix L) (kf (gK cs) cs.length):=by
 obtain ⟨b,off,rfl⟩:=g;have:=lay_yes W H b off c cs.length d c0 (zW (W*H)) (gK cs) w l a.w1 a.h1 (Ju _) (by simp [maskB,zW]) h (Zq cs) j hs (by rw [a.e];exact a.st.jo) (by rw [a.e];exact f);rw [a.e,Ju] at this;exact this
def HgC (L:List T3) (d:Dg) (h:Nat→Int):Prop := ∀ i,i<L.length→h i=gH d i
theorem of_gc {d:Dg} (x:ShOk W H L) (b:GdC B C L d) (M:C≤3518437208883) {u v:Option Addr} (o p y A:Nat) (w:World) (c:StC (W*H) L d a0 c0 u v w) (hs:Steps w) :
  Cl 15 #[.agg #[I (W:Int),I (H:Int),.slice a0 (W*H) o,.slice c0 d.cs.length p,.slice u L.length y,.slice v (gS L d).length A]] w fun e w'=>∃ h f k l n j q pa pc g,e=.returned (.tuple #[.agg #[.slice f L.length k,.map (some l),.map (some n),.slice (Az j) L.length q,.slice pa L.length pc],.func (.func 87) #[] #[.pointer (Az g)],.bool true])∧HgC L d h∧HandAt w w' f k l n j pa g L (gK d.cs) d.cs.length (gM d) h∧Bl w w':=by
 have a:=x.st;have J:=b.sl;have F:=a.le;have E:=b.cn;obtain ⟨st,K⟩:=b.sto a.nd;have r:SOk (kdn (gK d.cs) d.cs.length) L L.length (gM d) (gS L d):=⟨rfl,b.mo,st⟩;refine (of_yesw (W:Int) (H:Int) a0 c0 u v (W*H) o d.cs.length p L.length y A w (gK d.cs) d.cs.length L (gM d) (gS L d) hs (fun V t=>lay_gc x d.cs a0 c0 o p V (c.z.kept t) c.za (c.k.kept t) (hs.kept t) b.cr γ) (fun _=>c.m) c.s a.up a.pos γ a.bd γ (fun s h=>by have:=b.se s h;omega)).mono ?_;rintro e w' (⟨_,G⟩ | ⟨_,f,k,l,n,j,q,pa,pc,g,h,rfl,D,hl,hb⟩)
 ·exact absurd r G
 ·exact ⟨h,f,k,l,n,j,q,pa,pc,g,rfl,fun i hi=>lv_one9 a.nd st hl K hi,D,hb⟩
theorem clash_gc {d:Dg} (b:ShOk W H L) (p:GdC B C L d) (y:C≤3518437208883) {j n:Option Addr} (f g i l:Nat) (w:World) (x:StC (W*H) L d a0 c0 j n w) (hs:Steps w) :
  Cl 73 #[.agg #[I (W:Int),I (H:Int),.slice a0 (W*H) f,.slice c0 d.cs.length g,.slice j L.length i,.slice n (gS L d).length l]] w fun e w'=>∃ q m qc,e=.returned (.tuple #[.slice q m qc,I 0])∧Bl w w':=by
 have A:=b.st.le;refine (clashes_ok (W:Int) (H:Int) a0 c0 j n (W*H) f d.cs.length g L.length i (gS L d).length l (gKd d) L (gM d) (gH d) w (fun V s=>(of_gc b p y f g i l V (x.kept s) (hs.kept s)).mono ?_) hs γ b.st.bd p.mo.1 (md_of9 b.js)).mono ?_
 ·rintro e w' ⟨h,t,k,D,E,v,o,pa,pc,u,rfl,z,r,hb⟩;exact ⟨t,k,D,E,v,o,pa,pc,u,rfl,r.pile o pc,(r.2.2.2.like z).hg,hb⟩
 ·rintro e w' ⟨a,c,X,rfl,_,_,_,hb⟩;exact ⟨a,X.length,c,rfl,hb⟩
def crX (L:List T3) (M:Nat→M6) (wy c:Int) (e:E4):Bool:=crF M wy c ((gix L e).headD 0).toNat e
theorem kd_of (a:StripD L) {t:T3} (h:t∈L):Kd t:=by
 have:=a.bd t h;unfold Kd;omega
theorem crF_two (g:StripD L) (b:MOk kd L M) (f c:Int) {e:E4} (hi:i<L.length) (d:j<L.length) (a:j≠i) (h1:hasT L[i] e=true) (h2:hasT L[j] e=true):crF M f c i e=crF M f c j e:=by
 have hp:=js_mem.1 (js_of hi d a h1 h2);have h:=b.2 i hi _ hp.2 j rfl
 have:bro (M j) e=bro (M i) e:=by
  rw [(bynd_iff (b.1 j d).1).1 h];unfold farM;split
  ·rfl
  ·exact bro_far (kd_of g (Lm hi)) h1
 unfold crF;rw [this]
theorem crX_is (k:StripD L) (j:MOk kd L M) (b c:Int) (i:Nat) (hi:i<L.length) (e:E4) (g:hasT L[i] e=true):crF M b c i e=crX L M b c e:=by
 have h:(i:Int)∈gix L e:=List.mem_map.2 ⟨i,List.mem_filter.2 ⟨by simp [hi],by rw [Qq L i hi];exact g⟩,rfl⟩;unfold crX
 cases hg:gix L e with
 | nil=>rw [hg] at h;simp at h
 | cons f r =>
  have n:f∈gix L e:=by rw [hg];simp
  obtain ⟨m,d,rfl⟩:=List.mem_map.1 n;obtain ⟨l,hb⟩:=List.mem_filter.1 d;have a:m<L.length:=by simpa using l
  rw [Qq L m a] at hb;show _=crF M b c (m:Int).toNat e
  rw [Int.toNat_natCast];by_cases q:i=m
  ·rw [q]
  ·exact (crF_two k j b c a hi q hb g).symm
theorem Ze {cr:E4→Bool} {p q:Nat→Int} (d:L.Nodup) (hp:PartsOk cr L p) (hq:PartsOk cr L q) {a:Nat} (g:a<L.length) (hb:b<L.length) (h:p a=p b):q a=q b:=by
 have:=(hp.2.2.1 a b g hb h).2 (fun u=>u∈L∧∀ j (c:j<L.length),L[j]=u→q j=q a) ⟨Lm _,fun j c e=>by rw [Jp d c g e]⟩ (fun u v l m f=>by
  refine ⟨m,fun j c e=>?_⟩;obtain ⟨k,i,rfl⟩:=List.mem_iff_getElem.1 l.1;subst e;rw [← l.2 k i rfl];exact hq.2.1 k j i c f)
 exact (this.2 b hb rfl).symm
theorem mw_of (cr:E4→Bool) (L:List T3) (c:L.Nodup) (hl:List Nat) (b:∀ x∈hl,x<L.length):∃ mw:Nat→Bool,∀ part,PartsOk cr L part→∀ i,i<L.length→(hl.any fun x=>decide (part x=part i))=mw i:=by
 by_cases a:∃ p,PartsOk cr L p
 ·obtain ⟨p,hp⟩:=a;refine ⟨fun i=>hl.any fun x=>decide (p x=p i),fun part hq i hi=>?_⟩;rw [Bool.eq_iff_iff,List.any_eq_true,List.any_eq_true];constructor
  ·rintro ⟨x,a,e⟩;exact ⟨x,a,decide_eq_true (Ze c hq hp (b x a) hi (of_decide_eq_true e))⟩
  ·rintro ⟨x,a,e⟩;exact ⟨x,a,decide_eq_true (Ze c hp hq (b x a) hi (of_decide_eq_true e))⟩
 ·exact ⟨fun _=>false,fun part hq=>absurd ⟨part,hq⟩ a⟩
theorem hand29c {d:Dg} (W:StripD L) (t:GdC B C L d) (wy c sd:Int) (Z:Bool) (Y R U Q:Int) (h:Nat→Int) (mw:Nat→Bool) (V0 w:World) (z:Option Addr) (k E F D G:Nat) (pa:Option Addr) (pc A H:Nat) (P:HandAt V0 w z k E F D pa A L (gK d.cs) d.cs.length (gM d) h) (hY:YRow w H L.length mw) :
  Cl 78 #[.agg #[.slice z L.length k,.map (some E),.map (some F),.slice (Az D) L.length G,.slice pa L.length pc,.func (.func 87) #[] #[.pointer (Az A)],I wy,I c,I sd,.bool Z,I Y,I R,I U,I Q,.slice (Az H) L.length L.length]] w fun e w'=>∃ b,e=.returned (.bool b)∧Bl w w':=by
 have a7:=W.le;have hpos:=W.pos;have n:=Qu L (gM d) L.length;have hT:=t.sl;have a6:d.T.length≤L.length:=by simpa [gS] using hT
 have p:L.length≤300:=γ;have K:(gLS L d).length≤1000:=by simp [gLS];omega
 refine (covered_any (.slice z L.length k) (.map (some E)) (.map (some F)) (.slice (Az D) L.length G) (.slice pa L.length pc) (I wy) (I c) (I sd) (I Y) (I R) (I U) (I Q) A H L.length Z mw (fun x y=>decide (h y<h x)) (gLS L d) w p K hY (fun l hl=>by
  obtain ⟨s,hs,rfl⟩:=List.mem_map.1 hl;refine ⟨Nt (List.length_filter_le _ _) (by rw [List.length_range];exact p),fun x v=>by simpa using (List.mem_filter.1 v).1⟩) (fun V J=>?_) (fun V x y J v hy=>Xs V A L.length x y h ((P.2.2.2.kept J).hg) v hy p)).mono (fun e w' q=>⟨_,q⟩)
 have hp:=piled_any V z (Az D) pa L.length k L.length G pc (some E) (some F) (pls L (gM d) L.length) (P.2.2.1.kept J) γ γ;rw [n] at hp;refine hp.mono ?_;rintro e w' ⟨g,m,c0,S,rfl,o⟩
 have O:S.map (fun s=>s.1)=d.T.map fun s=>s.1:=by
  refine eq_of_up (r:=ltT) Xo Za _ _ (List.pairwise_map.2 o.ord) (List.pairwise_map.2 t.hp.1) fun x=>?_
  have v:x∈d.T.map (fun s=>s.1)↔∃ j,j<L.length∧gP L d j=x:=by
   constructor
   ·intro h;obtain ⟨s,hs,rfl⟩:=List.mem_map.1 h;obtain ⟨j,f⟩:=List.exists_mem_of_ne_nil _ (t.hp.2.1 s hs).1;exact ⟨j,(t.hp.2.1 s hs).2.2 j f⟩
   ·rintro ⟨j,f,rfl⟩;obtain ⟨s,hs,N⟩:=t.hp.2.2 j f;exact List.mem_map.2 ⟨s,hs,((t.hp.2.1 s hs).2.2 j N).2.symm⟩
  rw [v];constructor
  ·intro h;obtain ⟨s,hs,rfl⟩:=List.mem_map.1 h;obtain ⟨j,f⟩:=List.exists_mem_of_ne_nil _ (o.ne s hs);rw [Gn_gLS] at f;obtain ⟨i,hi,_⟩:=List.mem_map.1 f;obtain ⟨a,b⟩:=List.mem_filter.1 hi;exact ⟨i,by simpa using a,of_decide_eq_true b⟩
  ·rintro ⟨j,f,rfl⟩;obtain ⟨s,hs,e⟩:=o.all j (by rw [n];exact f);rw [Jm f] at e;exact List.mem_map.2 ⟨s,hs,e⟩
 refine ⟨g,c0,S.map fun s=>(s.2.1,s.2.2,(List.range L.length).filter fun k=>decide (gP L d k=s.1)), ?_, ?_,⟨fun i hi=>?_,fun s hs=>?_⟩,o.b⟩
 ·rw [List.length_map,o.len]
 ·have:(S.map (fun s=>s.1)).map (fun e=>(List.range L.length).filter fun k=>decide (gP L d k=e))=gLS L d:=by
   rw [O,List.map_map];rfl
  rw [← this,List.map_map,List.map_map];rfl
 ·have M:i<S.length:=by simpa using hi
  have:=o.row i M;rw [Gn_gLS,List.length_map] at this;simpa using this
 ·obtain ⟨u,hu,rfl⟩:=List.mem_map.1 hs;have X:=o.own u hu;rw [Gn_gLS,List.length_map,List.map_map] at X;obtain ⟨a,a2,e,hN⟩:=own_numR X
  cases e;exact hN
theorem seams_gc {d:Dg} (f:StripD L) (z c sd:Int) (y:Bool) (x r s q:Int) (h:Nat→Int) (mw:Nat→Bool) (B w:World) (a:Option Addr) (k g l o n:Nat) (pa:Option Addr) (pc m b:Nat) (A:HandAt B w a k g l o pa m L (gK d.cs) d.cs.length (gM d) h) (u:YRow w b L.length mw) (hs:Steps w) :
  Cl 124 #[.agg #[.slice a L.length k,.map (some g),.map (some l),.slice (Az o) L.length n,.slice pa L.length pc,.func (.func 87) #[] #[.pointer (Az m)],I z,I c,I sd,.bool y,I x,I r,I s,I q,.slice (Az b) L.length L.length]] w fun e w'=>∃ v,e=.returned v∧w'.ownsRow w.heap.size 197 5 v (smL mw (gJl L) L.length).length (flatJ (smL mw (gJl L) L.length))∧Bl w w':=by
 have C:=f.le;have hpos:=f.pos;have hg:b<w.heap.size:=bk (u 0 hpos).1;refine seams_any (.slice a L.length k) (.map (some g)) (.map (some l)) (.slice (Az o) L.length n) (.slice pa L.length pc) (.func (.func 87) #[] #[.pointer (Az m)]) (I z) (I c) (I sd) (.bool y) (I x) (I r) (I s) (I q) b L.length mw (gJl L) w γ u hg (jl3 f) (fun i hi j p=>by unfold gJl at p;rw [if_pos hi] at p;exact jl_pos p) (fun V i t hi=>?_);have hb:=f.bd _ (Lm hi);refine (Xm V k g l i a L L[i].1 L[i].2.1 L[i].2.2 (hs.kept t) ((A.pile n pc).tr.kept t) hi rfl γ hb).mono ?_;rintro e w' ⟨v,rfl,D,hb⟩;refine ⟨v,rfl, ?_,hb⟩
 have:gJl L i=jl L (L[i].1,L[i].2.1,L[i].2.2) i 3:=by
  unfold gJl;rw [if_pos hi,Qq L i hi]
 rw [this];exact Jo D γ
theorem hand30c {d:Dg} (s:StripD L) (v c sd:Int) (u:Bool) (t p r o:Int) (h:Nat→Int) (mw:Nat→Bool) (y w:World) (a:Option Addr) (k g i m l:Nat) (pa:Option Addr) (pc j n:Nat) (x:HandAt y w a k g i m pa j L (gK d.cs) d.cs.length (gM d) h) (z:YRow w n L.length mw) (hs:Steps w) :
  Cl 79 #[.agg #[.slice a L.length k,.map (some g),.map (some i),.slice (Az m) L.length l,.slice pa L.length pc,.func (.func 87) #[] #[.pointer (Az j)],I v,I c,I sd,.bool u,I t,I p,I r,I o,.slice (Az n) L.length L.length]] w fun e w'=>∃ b,e=.returned (.bool b)∧Bl w w':=by
 have D:=s.le;have h3:=smL_len (mw:=mw) (jl3 s) L.length;exact (unfolds_any (.slice a L.length k) (.map (some g)) (.map (some i)) (.slice (Az m) L.length l) (.slice pa L.length pc) (.func (.func 87) #[] #[.pointer (Az j)]) (I v) (I c) (I sd) (.bool u) (I t) (I p) (I r) (I o) (.slice (Az n) L.length L.length) (smL mw (gJl L) L.length) (gKd d) w γ (fun V f=>seams_gc s v c sd u t p r o h mw y V a k g i m l pa pc j n (x.kept f) (z.kept f) (hs.kept f)) (fun V A B C E f=>Yj V a L.length k g i (gKd d) A B C E ((x.pile l pc).kl.kept f))).mono (fun e w' q=>⟨_,q⟩)
theorem hand27n (V0 w:World) (a:Option Addr) (k d f m l:Nat) (pa:Option Addr) (pc z:Nat) (y c sd:Int) (F:Bool) (E B C A:Int) (L:List T3) (ks:List Int) (nk:Nat) (M:Nat→M6) (h:Nat→Int) (mv:Value) (hp:Option Addr) (Z:Nat) (hl:List Nat) (cr:E4→Bool) (mw:Nat→Bool) (U:HandAt V0 w a k d f m pa z L ks nk M h) (hs:Steps w) (h0:0<L.length) (Y:L.length≤300) (R:L.Nodup) (J:∀ t∈L,(0≤t.1∧t.1≤8)∧(0≤t.2.1∧t.2.1≤8)∧(0≤t.2.2∧t.2.2≤3)) (hM:∀ i,i<L.length→MOk1 L M i) (hN:NumR w hp hl) (N:hl.length≤300) (O:∀ j (h:j<hl.length),hl[j]<L.length)
  (K:∀ i (hi:i<L.length) (e:E4),hasT L[i] e=true→((-4000000≤e.1∧e.1≤4000000)∧(-4000000≤e.2.1∧e.2.1≤4000000)∧(-4000000≤e.2.2.1∧e.2.2.1≤4000000)∧(-4000000≤e.2.2.2∧e.2.2.2≤4000000))∧(-4000000≤(bro (M i) e).1∧(bro (M i) e).1≤4000000)∧(-4000000≤(bro (M i) e).2.1∧(bro (M i) e).2.1≤4000000)∧crF M y c i e=cr e)
  (Q:∀ part,PartsOk cr L part→∀ i,i<L.length→(hl.any fun x=>decide (part x=part i))=mw i) :
  Cl 76 #[.agg #[.slice a L.length k,.map (some d),.map (some f),.slice (Az m) L.length l,.slice pa L.length pc,.func (.func 87) #[] #[.pointer (Az z)],I y,I c,I sd,.bool F,I E,I B,I C,I A,mv],.slice hp hl.length Z] w fun e w'=>∃ gv,e=.returned (.slice (Az gv) L.length L.length)∧YRow w' gv L.length mw∧w.heap.size≤gv∧Bl w w':=by
 refine (alongF_any (.slice a L.length k) (.map (some d)) (.map (some f)) (.slice pa L.length pc) (.func (.func 87) #[] #[.pointer (Az z)]) (I sd) (.bool F) (I E) (I B) (I C) (I A) mv m L.length l Z hp y c hl (PartsOk cr L) w h0 Y N hN O (fun part H i hi=>by have:=partsOk_le H i hi;omega) ?_).mono ?_
 ·have n:Bl w (w.alloc (.cells #[.slice a L.length k,.map (some d),.map (some f),.slice (Az m) L.length l,.slice pa L.length pc,.func (.func 87) #[] #[.pointer (Az z)],I y,I c,I sd,.bool F,I E,I B,I C,I A,mv] 105)):=Qc (Qd _);refine Gm _ k d f a L 118 #[.pointer (Az w.heap.size)] (fun _ _=>by simp [go_sem]) cr (hs.kept n) ((U.pile l pc).tr.kept n) Y R J (fun i j hi hj q r s v W a6 T a7 D=>?_);have hB:=Qb n D;obtain ⟨⟨g1,g2,g3,g4⟩,g5,g6,g7⟩:=K i hi (q,r,s,v) T;have e9:cr (q,r,s,v)=(!(decide (lnW (bro (M i) (q,r,s,v))=y) && decide (lnC (bro (M i) (q,r,s,v))=c))):=g7.symm;rw [e9];have p:∀ o u,(w.alloc (.cells #[.slice a L.length k,.map (some d),.map (some f),.slice (Az m) L.length l,.slice pa L.length pc,.func (.func 87) #[] #[.pointer (Az z)],I y,I c,I sd,.bool F,I E,I B,I C,I A,mv] 105)).cell? ⟨w.heap.size,o,none⟩=some u→At W w.heap.size o u:=fun o u hu=>Qa D hu;refine along_asks (.slice a L.length k) (.map (some d)) (.map (some f)) (.slice pa L.length pc) (.func (.func 87) #[] #[.pointer (Az z)]) (I sd) (.bool F) (I E) (I B) (I C) (I A) mv m L.length l w.heap.size (i:Int) (j:Int) q r s v y c _ _ W (p 0 _ ζ) (p 1 _ ζ) (p 2 _ ζ) (p 3 _ ζ) (p 4 _ ζ) (p 6 _ ζ) (p 7 _ ζ) (fun V hV=>?_);have P:=(U.2.1.kept (Qb hB hV)) i hi;obtain ⟨⟨a0,a1,X,a3,a4,a5⟩,_⟩:=P;have b:=(hM i hi).1;generalize M i=mm at a0 a1 X a3 a4 a5 b g5 g6 ⊢;obtain ⟨m0,m1,m2,m3,m4,m5⟩:=mm;obtain ⟨s1,s2,s3⟩:=Gq b;exact pileLine_any (.slice a L.length k) (.map (some d)) (.map (some f)) (.slice pa L.length pc) m L.length l i q r s v m0 m1 m2 m3 m4 m5 _ _ _ _ _ _ V hi a0 a1 X a3 a4 a5 (fun G=>Kx q r s v m0 m1 m2 m3 m4 m5 G s1 s2 s3 g1 g2 g3 g4) (fun G=>lineOf_wide _ _ _ _ G g5 g6)
 ·rintro e w' ⟨g,part,rfl,hY,H,hg,hb⟩;exact ⟨g,rfl,fun i hi=>by rw [← Q part H i hi];exact hY i hi,hg,hb⟩
theorem hand27c {d:Dg} (a:StripD L) (n:GdC B C L d) (f c sd:Int) (O:Bool) (N G H F:Int) (h:Nat→Int) (E w:World) (g:Option Addr) (k A D m J:Nat) (pa:Option Addr) (pc l:Nat) (v:Value) (hl:List Nat) (P:HandAt E w g k A D m pa l L (gK d.cs) d.cs.length (gM d) h) (M:HlOk L w v hl) (hs:Steps w) :
  Cl 76 #[.agg #[.slice g L.length k,.map (some A),.map (some D),.slice (Az m) L.length J,.slice pa L.length pc,.func (.func 87) #[] #[.pointer (Az l)],I f,I c,I sd,.bool O,I N,I G,I H,I F,SN],v] w fun e w'=>∃ b mw,e=.returned ((.slice (Az b) L.length L.length))∧YRow w' b L.length mw∧w.heap.size≤b∧Bl w w':=by
 have V:=a.le;obtain ⟨mw,z⟩:=mw_of (crX L (gM d) f c) L a.nd hl M.choose_spec.choose_spec.2.2.2;obtain ⟨Q,R,rfl,T,t,u⟩:=M;refine (hand27n E w g k A D m J pa pc l f c sd O N G H F L _ _ _ _ _ Q R hl (crX L (gM d) f c) mw P hs a.pos γ a.nd a.bd n.mo.1 T t (fun j U=>u _ (Lm U)) (fun i hi e K=>?_) z).mono (fun e w' ⟨b,q⟩=>⟨b,mw,q⟩);have hb:=a.bd _ (Lm hi);have W:=(n.mo.1 i hi).1;have X:=crX_is a n.mo f c i hi e K;obtain ⟨p,q,r,s⟩:=e;have o:=edge_bdM (x:=L[i].1) (y:=L[i].2.1) (k:=L[i].2.2) hb K;obtain ⟨g1,g2⟩:=bro_bd (e:=(p,q,r,s)) W o;refine ⟨?_,g1,g2,X⟩;dsimp only;omega
theorem take_gc {d:Dg} (N:ShOk W H L) (A:GdC B C L d) (U:C≤3518437208883) (r c sd:Int) (x:Bool) (p t u s:Int) (Y:lineB r c=true) (P:sd=1∨sd=-1) (O:0≤p) {Q R:Option Addr} (E F G J:Nat) (w:World) (T:StC (W*H) L d a0 c0 Q R w) (hs:Steps w)
  (K:∀ (f V:World) (h:Nat→Int) (g:Option Addr) (k l m j n:Nat) (pa:Option Addr) (pc i:Nat),Bl w f→Bl w V→HgC L d h→HandAt f V g k l m j pa i L (gK d.cs) d.cs.length (gM d) h→Cl 75 #[.agg #[.slice g L.length k,.map (some l),.map (some m),.slice (Az j) L.length n,.slice pa L.length pc,.func (.func 87) #[] #[.pointer (Az i)],I r,I c,I sd,.bool x,I p,I t,I u,I s,SN]] V fun e w'=>∃ v b hl,e=.returned (.tuple #[v,.bool b])∧(b=true→HlOk L w' v hl)∧Bl V w') :
  Cl 37 #[.agg #[I (W:Int),I (H:Int),.slice a0 (W*H) E,.slice c0 d.cs.length F,.slice Q L.length G,.slice R (gS L d).length J],.agg #[I r,I c,I sd,.bool x,I p,I t,I u,I s]] w fun e w'=>TkW (HgC L d) w w' L (gK d.cs) d.cs.length (gM d) r c sd x p t u s e:=by
 have y:=N.st;have Z:=y.le
 exact take_weak (HgC L d) (W:Int) (H:Int) a0 c0 Q R (W*H) E d.cs.length F L.length G (gS L d).length J r c sd x p t u s L (gK d.cs) d.cs.length (gM d) w y.pos
  (fun V a=>clash_gc N A U E F G J V (T.kept a) (hs.kept a))
  (fun V a=>of_gc N A U E F G J V (T.kept a) (hs.kept a))
  (fun f V h g k l m j n pa pc i _ a _ o=>(hand25 f V g k l m j n pa pc i r c sd x p t u s L _ _ _ _ _ o (hs.kept a) y.pos Y A.mo.1 P O).mono (fun e w' q=>⟨_,q⟩))
  (fun f V h g k l m j n pa pc i M a X o=>K f V h g k l m j n pa pc i M a X o)
  (fun f V h g k l m j n pa pc i v hl _ a _ o ho=>hand27c y A r c sd x p t u s h f V g k l m j n pa pc i v hl o ho (hs.kept a))
  (fun V z mw b a D=>(hasBool_any z L.length mw b V γ D).mono (fun e w' h=>⟨_,h⟩))
  (fun f V h g k l m j n pa pc i z mw _ a _ o D=>hand29c y A r c sd x p t u s h mw f V g k l m j n pa pc i z o D)
  (fun f V h g k l m j n pa pc i z mw _ a _ o D=>hand30c y r c sd x p t u s h mw f V g k l m j n pa pc i z o D (hs.kept a))
theorem where_cap (pb:Nat) (a k m C mv:Value) (P pa:Option Addr) (N Q L pc:Nat) (T c sd K E F D:Int) (M:Bool) (f:Nat→Bool) (w:World) (hN:N≤300)
  (s:∀ (V:World) (i:Nat),Bl w V→i<N→Rt 116 #[I (i:Int),.pointer (Az pb)] V (.bool (f i))) :
  Cl 114 #[.agg #[.slice P N Q,a,k,m,.slice pa L pc,C,I T,I c,I sd,.bool M,I K,I E,I F,I D,mv],.func (.func 116) #[] #[.pointer (Az pb)]] w fun e w'=>∃ v,e=.returned v∧w'.ownsRow w.heap.size 3 1 v (whL f N).length (nuV (whL f N))∧Bl w w':=by
 obtain ⟨i3,hi,y,z,A⟩:=info_parts infI;have B:=H4 hi y z A;have l:=Hd s;clear hi y z A s;have j:Hid (((w.alloc (.cells #[.slice P N Q,a,k,m,.slice pa L pc,C,I T,I c,I sd,.bool M,I K,I E,I F,I D,mv] 105)).ownsRow w.heap.size 3 1 SN (whL f 0).length (nuV (whL f 0)))∧Bl w (w.alloc (.cells #[.slice P N Q,a,k,m,.slice pa L pc,C,I T,I c,I sd,.bool M,I K,I E,I F,I D,mv] 105))):=⟨by simpa [whL,nuV] using World.ownsRow_nil _ _ _ _,Qc (Qd _)⟩;go_enter Tryz.func114,Tryz.ntmps114;go_wp2;go_loopg [5,6,12] N (fun gk s5 s6 O wx=>∃ i:Nat,i≤N∧gk=N - i∧O=I (i:Int)∧wx.ownsRow w.heap.size 3 1 s5 (whL f i).length (nuV (whL f i))∧Bl w wx)
 case atStart=>exact ⟨0,γ,rfl,rfl,j.out.1,j.out.2⟩
 case round =>
  clear j;obtain ⟨i,hi,rfl,rfl,W,U⟩:=hrel;obtain ⟨Y,J⟩:∃ x,x=u5:=⟨_,rfl⟩;subst J;have d:=H2 W U;clear W U;have H:=whL_le f i;by_cases h1:i<N
  ·have i1:(i:Int)<(N:Int):=γ;have i0:(0:Int)≤(i:Int):=γ
   cases hf:f i with
   | false =>
    have CA:Hid (∀ V:World,Bl w V→Rt 116 #[I (i:Int),.pointer (Az pb)] V (.bool false)):=fun V G=>by
     have h:=l.out V i G h1;rw [hf] at h;exact h
    have o:=whL_no hf
    go_wp2_with (first
     | (go_at_call 116;(with_reducible refine (CA.out _ d.out.2).mono ?_);rintro e R ⟨rfl,b⟩;have g:=Hd b;clear b)
     | fail)
    go_roundg (N - (i+1))
    case measure=>omega
    case rel=>exact ⟨i+1,γ,rfl,σ,by rw [o];exact Qh d.out.1 g.out,Qb d.out.2 g.out⟩
   | true =>
    have CA:Hid (∀ V:World,Bl w V→Rt 116 #[I (i:Int),.pointer (Az pb)] V (.bool true)):=fun V G=>by
     have h:=l.out V i G h1;rw [hf] at h;exact h
    have o:Hid (nuV (whL f (i+1))=nuV (whL f i) ++ [I (i:Int)]∧(whL f (i+1)).length=(whL f i).length+1):=by
     rw [whL_yes hf];exact ⟨by simp [nuV],ν⟩
    obtain ⟨n0,u⟩:∃ n,n=(whL f i).length:=⟨_,rfl⟩;rw [← u] at d o H;clear hf u
    go_wp2_with (first
     | (go_at_call 116;(with_reducible refine (CA.out _ d.out.2).mono ?_);rintro e R ⟨rfl,b⟩;have g:=H2 (Qh d.out.1 b) (Qb d.out.2 b);clear b)
     | (at_builtin;refine wpList_append_own _ rfl (.tmp 18) (.tmp 20) 23 rfl w.heap.size 3 i3 (I 0) 1 8 Tryz.underlying23 B.out.1 B.out.2.1 B.out.2.2.1 B.out.2.2.2 rfl τ Y n0 (nuV (whL f i)) rfl (Qh g.out.1 β1) ⟨R.heap.size,0,none⟩ 1 1 [I (i:Int)] rfl rfl (one_int _ _ _) (by intro q hq;simp at hq;subst hq;rfl) Γ γ (by have:=g.out.2.size;simp;omega) ?gA)
     | fail)
    case gA =>
     intro v' Z X hg _
     have p:Hid (Z.ownsRow w.heap.size 3 1 v' (whL f (i+1)).length (nuV (whL f (i+1)))∧Bl w Z):=by
      refine ⟨?_, ?_⟩
      ·rw [o.out.1,o.out.2];exact X
      ·have t:Bl w (R.alloc (.cells #[I (i:Int)] 3)):=Qc g.out.2;exact t.grown hg t.size (fun r e=>(g.out.1.lt r e).1)
     clear X hg;go_wp2;go_roundg (N - (i+1))
     case measure=>omega
     case rel=>exact ⟨i+1,γ,rfl,σ,p.out.1,p.out.2⟩
  ·have i1:¬ (i:Int)<(N:Int):=γ;obtain rfl:i=N:=γ;go_wp2;go_ret;exact ⟨Y,rfl,d.out.1,d.out.2⟩
theorem byCompare (pb:Nat) (a b:Int) (p q:Bool) (r:Int) (w:World) (hr:r=if p=true then -1 else if q=true then 1 else 0)
  (h1:∀ W:World,Bl w W→Rt 87 #[I b,I a,.pointer (Az pb)] W (.bool p))
  (h2:∀ W:World,Bl w W→Rt 87 #[I a,I b,.pointer (Az pb)] W (.bool q)) :
  Rt 100 #[.func (.func 87) #[] #[.pointer (Az pb)],I a,I b] w (I r):=by
 have i:=Hd h1;have k:=Hd h2;have h:=Hd hr;clear h1 h2 hr
 cases p
 ·cases q
  ·have j:=Hd h.out;clear h;go_enter Tryz.func100,Tryz.ntmps100
   go_wp2_with (first
    | (go_at_call 87;refine (i.out _ (Qd _)).mono ?_;rintro e w1 ⟨rfl,c⟩;have d:=Hd c;clear c i)
    | (go_at_call 87;refine (k.out _ d.out).mono ?_;rintro e l ⟨rfl,f⟩;have g:=Hd (Qb d.out f);clear f))
   go_ret;exact ⟨Ja j.out.symm,g.out⟩
  ·have j:=Hd h.out;clear h;go_enter Tryz.func100,Tryz.ntmps100
   go_wp2_with (first
    | (go_at_call 87;refine (i.out _ (Qd _)).mono ?_;rintro e w1 ⟨rfl,c⟩;have d:=Hd c;clear c i)
    | (go_at_call 87;refine (k.out _ d.out).mono ?_;rintro e l ⟨rfl,f⟩;have g:=Hd (Qb d.out f);clear f))
   go_ret;exact ⟨Ja j.out.symm,g.out⟩
 ·have j:=Hd h.out;clear h;go_enter Tryz.func100,Tryz.ntmps100;go_wp2_with (go_at_call 87;refine (i.out _ (Qd _)).mono ?_;rintro e w1 ⟨rfl,c⟩;have d:=Hd c;clear c)
  go_ret;exact ⟨Ja j.out.symm,d.out⟩
theorem reverse_in (g s:Nat) (R:List Nat) (w:World) (h:NW w g R) (hl:R.length≤300) (h0:0<R.length) :
  Cl 117 #[.slice (some ⟨g,0,none⟩) R.length s] w fun e w'=>(∃ v,e=.returned v)∧(∃ R':List Nat,R'.length=R.length∧(∀ x∈R',x∈R)∧NW w' g R')∧w.grownBy w' (some g):=by
 have E:Hid (NW w g R):=h;clear h;obtain ⟨n,z⟩:∃ n,n=R.length:=⟨_,rfl⟩;have F:Hid (n=R.length):=z;(try simp only [At,I,Fn,Az,Ad] at hl h0 ⊢);rw [← z] at hl h0 ⊢
 clear z;obtain ⟨n1,rfl⟩:∃ n1,n=n1+1:=⟨n - 1,γ⟩;go_enter Tryz.func117,Tryz.ntmps117;go_wp2;go_loopg [2,3] (n1+1) (fun J O P D=>∃ i j:Nat,i≤300∧j≤300∧J=n1+1 - i∧O=I (i:Int)∧P=I (j:Int)∧Hid (i+j=n1∧i≤j+1)∧Hid (∃ H:List Nat,(H.length=n1+1∧∀ x∈H,x∈R)∧NW D g H)∧Hid (w.grownBy D (some g)))
 case atStart=>exact ⟨0,n1,γ,γ,rfl,rfl,σ,⟨γ,γ⟩,⟨R,⟨F.out.symm,fun x h=>h⟩,E.out⟩,⟨rfl,rfl,rfl,Nr _,fun _ _ _=>rfl⟩⟩
 case round =>
  obtain ⟨i,j,K,L,rfl,rfl,rfl,a,HX,B⟩:=hrel;obtain ⟨H,m,l⟩:=HX.out;have b:Hid ((H.length=n1+1∧∀ x∈H,x∈R)∧NW wr g H):=⟨m,l⟩;clear m l HX;by_cases q:i<j
  ·have N:(i:Int)<(j:Int):=γ;have T:(0:Int)≤(i:Int):=γ;have V:(0:Int)≤(j:Int):=γ;have U:(i:Int)<(n1:Int)+1:=by have:=a.out;omega
   have W:(j:Int)<(n1:Int)+1:=by have:=a.out;omega
   have t:i<H.length:=by have:=a.out;have:=b.out.1.1;omega
   have u:j<H.length:=by have:=a.out;have:=b.out.1.1;omega
   obtain ⟨c0,f0⟩:=b.out.2 i t;obtain ⟨c1,f1⟩:=b.out.2 j u;obtain ⟨p,c⟩:∃ v,v=H[i]:=⟨_,rfl⟩;obtain ⟨f,d⟩:∃ v,v=H[j]:=⟨_,rfl⟩;(try simp only [At,I] at c0);rw [← c] at c0
   (try simp only [At,I] at c1);rw [← d] at c1
   have X:g<wr.heap.size:=bk c0;have ne:¬ i=j:=γ;have A:¬ j=i:=γ
   have Q:(wr.setCell ⟨g,i,none⟩ (I ((f:Nat):Int))).cell? ⟨g,j,none⟩=some (I ((f:Nat):Int)):=by
    (try simp only [I]);rw [Co _ _ _ _ (by simp)]
    exact c1
   have C:Hid ((((H.set i f).set j p).length=n1+1∧∀ x∈(H.set i f).set j p,x∈R)∧NW ((wr.setCell ⟨g,i,none⟩ (I ((f:Nat):Int))).setCell ⟨g,j,none⟩ (I ((p:Nat):Int))) g ((H.set i f).set j p)):=by
    refine ⟨⟨by simp [b.out.1.1],fun x o=>?_⟩,fun k M=>?_⟩
    ·rcases List.mem_or_eq_of_mem_set o with o | rfl
     ·rcases List.mem_or_eq_of_mem_set o with o | rfl
      ·exact b.out.1.2 x o
      ·exact b.out.1.2 _ (by (try simp only [At,I,Fn,Az,Ad]);rw [d];exact Lm _)
     ·exact b.out.1.2 _ (by (try simp only [At,I,Fn,Az,Ad]);rw [c];exact Lm _)
    ·have y:k<H.length:=by simpa using M
     obtain ⟨ck,G⟩:=b.out.2 k y;refine ⟨?_,by (try simp only [I,Fn]);rw [Fz,Fz];exact G⟩;by_cases e1:k=j
     ·subst e1;(try simp only [At,I]);rw [Cs _ _ _ Q]
      simp
     ·(try simp only [At,I]);rw [Co _ _ _ _ (by simp)]
      by_cases e2:k=i
      ·subst e2;(try simp only [At,I,Fn,Az,Ad]);rw [Cs _ _ _ c0]
       simp [Ne.symm e1]
      ·(try simp only [At,I,Fn,Az,Ad]);rw [Co _ _ _ _ (by simp),ck]
       simp [Ne.symm e1,Ne.symm e2]
   have r:Hid (w.grownBy ((wr.setCell ⟨g,i,none⟩ (I ((f:Nat):Int))).setCell ⟨g,j,none⟩ (I ((p:Nat):Int))) (some g)):=Qp (Qp B.out (Qg wr g i _)) (Qg _ g j _);clear c d;go_wp2;go_region
   all_goals
    go_wp2;go_roundg (n1+1 - (i+1))
    case measure=>have:=a.out;omega
    case rel=>exact ⟨i+1,j - 1,by have:=a.out;omega,γ,rfl,σ,σ,(by have:=a.out;constructor <;> omega),⟨_,C.out.1,C.out.2.kept (Qe (Qd _))⟩,Qp r.out ⟨rfl,rfl,rfl,Nr _,fun _ _ _=>rfl⟩⟩
  ·have N:¬ (i:Int)<(j:Int):=γ;go_wp2;go_end0
   exact ⟨⟨_,rfl⟩,⟨H,b.out.1.1,b.out.1.2,b.out.2⟩,B.out⟩
theorem onAt_any (pb:Nat) (a k m p mv:Value) (t pa:Option Addr) (N u pc:Nat) (v c sd r j l f:Int) (s b:Bool) (i:Nat) (P:List T3) (w:World) (x:HB15 w pb (.slice t N u) a k m (.slice pa N pc) p (I v) (I c) (I sd) (.bool s) (I r) (I j) (I l) (I f) mv) (q:TRow w pa P) (z:P.length=N) (hi:i<N)
  (e:∀ V:World,Bl w V→Rt 115 #[.agg #[.slice t N u,a,k,m,.slice pa N pc,p,I v,I c,I sd,.bool s,I r,I j,I l,I f,mv],I (i:Int)] V (.bool b)) :
  Rt 116 #[I (i:Int),.pointer (Az pb)] w (.bool (b && sameT P[i].1 P[i].2.1 P[i].2.2 j l f)):=by
 have d:=Hd e;obtain ⟨D,x1,x2,x3,M,O,Q,R,T,U,E,F,G,H,J⟩:=x;obtain ⟨g,rfl,t0,A,B⟩:=q i γ;have X:=Bt D;have W:=Bt t0;have K:(0:Int)≤(i:Int):=γ;have L:(i:Int)<(N:Int):=γ;generalize P[i].1=tx at t0 ⊢;generalize P[i].2.1=ty at A ⊢;generalize P[i].2.2=tk at B ⊢;have y:∀ V:World,(binOp .eql 44 (.agg #[I tx,I ty,I tk]) (.agg #[I j,I l,I f])).run Tryz.prog V=.ok (.bool (sameT tx ty tk j l f)) V:=fun V=>eql23 _ _ _ _ _ _ V;clear e q z;generalize sameT tx ty tk j l f=sq at y ⊢
 cases b with
 | true =>
  go_enter Tryz.func116,Tryz.ntmps116;go_upto_region 1 with fail
  obtain ⟨n,o⟩:=kcn w;refine wk ?_;repeat (go_big_quiet_step ((first | (go_at_call 115;(with_reducible exact Qm (d.out _ (Kin.h _)))) | fail)))
  refine kq1 (fun C hq=>?_);clear n o;go_wp2;go_ret;exact ⟨by first | rfl | simp,hq⟩
 | false =>
  go_enter Tryz.func116,Tryz.ntmps116;go_upto_region 1 with fail
  obtain ⟨n,o⟩:=kcn w;refine wk ?_;repeat (go_big_quiet_step ((first | (go_at_call 115;(with_reducible exact Qm (d.out _ (Kin.h _)))) | fail)))
  refine kq1 (fun C hq=>?_);clear n o;go_wp2;go_ret;exact ⟨by first | rfl | simp,hq⟩
def TBv (bt:Nat):Value:=.func (.func 34) #[] #[.pointer (Az bt)]
theorem turnCl_any (w:World) (g f N a b:Nat) (h:Nat→Int) (j:At w g 0 (ABv f)) (i:Hg w f N h) (l:a<N) (hb:b<N) (k:N≤300) :
  Rt 34 #[I (a:Int),I (b:Int),.pointer (Az g)] w (.bool (decide (h a<h b))):=by
 have CA:=Hd (Xs w f N b a h i hb l k);obtain ⟨r,hr⟩:∃ r,r=decide (h a<h b):=⟨_,rfl⟩;rw [← hr] at CA ⊢;clear hr i;unfold ABv at j;have m:=Bt j;go_enter Tryz.func34,Tryz.ntmps34;go_wp2_with (go_at_call 87;refine CA.out.mono ?_;rintro e w1 ⟨rfl,c⟩;have d:=Hd c;clear c)
 go_ret;exact ⟨rfl,d.out⟩
theorem turnCmp_any (w:World) (m l N a b:Nat) (h:Nat→Int) (t:At w m 0 (ABv l)) (s:Hg w l N h) (o:a<N) (hb:b<N) (u:N≤300) :
  Rt 100 #[TBv m,I (a:Int),I (b:Int)] w (I (cmp3 (-h a) (-h b))):=by
 have j:=Hd (fun (W:World) hW=>turnCl_any W m l N b a h (Qa hW t) (s.kept hW) hb o u);have n:=Hd (fun (W:World) hW=>turnCl_any W m l N a b h (Qa hW t) (s.kept hW) o hb u)
 have g:Hid (cmp3 (-h a) (-h b)=if decide (h b<h a)=true then -1 else if decide (h a<h b)=true then 1 else 0):=by
  show cmp3 (-h a) (-h b)=_
  unfold cmp3;simp only [decide_eq_true_eq];by_cases q1:h b<h a
  ·rw [if_pos γ,if_pos q1]
  ·rw [if_neg γ,if_neg q1];by_cases q2:h a<h b
   ·rw [if_pos γ,if_pos q2]
   ·rw [if_neg γ,if_neg q2]
 obtain ⟨r,hr⟩:∃ r,r=cmp3 (-h a) (-h b):=⟨_,rfl⟩;obtain ⟨p,hp⟩:∃ p,p=decide (h b<h a):=⟨_,rfl⟩;obtain ⟨q,hq⟩:∃ q,q=decide (h a<h b):=⟨_,rfl⟩;rw [← hp] at j g;rw [← hq] at n g;rw [← hr] at g ⊢;unfold TBv;clear hp hq hr s t o hb
 cases p
 ·cases q
  ·have k:=Hd g.out;clear g;go_enter Tryz.func100,Tryz.ntmps100
   go_wp2_with (first
    | (go_at_call 34;refine (j.out _ (Qd _)).mono ?_;rintro e w1 ⟨rfl,c⟩;have d:=Hd c;clear c j)
    | (go_at_call 34;refine (n.out _ d.out).mono ?_;rintro e v ⟨rfl,f⟩;have i:=Hd (Qb d.out f);clear f))
   go_ret;exact ⟨Ja k.out.symm,i.out⟩
  ·have k:=Hd g.out;clear g;go_enter Tryz.func100,Tryz.ntmps100
   go_wp2_with (first
    | (go_at_call 34;refine (j.out _ (Qd _)).mono ?_;rintro e w1 ⟨rfl,c⟩;have d:=Hd c;clear c j)
    | (go_at_call 34;refine (n.out _ d.out).mono ?_;rintro e v ⟨rfl,f⟩;have i:=Hd (Qb d.out f);clear f))
   go_ret;exact ⟨Ja k.out.symm,i.out⟩
 ·have k:=Hd g.out;clear g;go_enter Tryz.func100,Tryz.ntmps100;go_wp2_with (go_at_call 34;refine (j.out _ (Qd _)).mono ?_;rintro e w1 ⟨rfl,c⟩;have d:=Hd c;clear c)
  go_ret;exact ⟨Ja k.out.symm,d.out⟩
theorem turnSorts (w:World) (a b N:Nat) (h:Nat→Int) (f:At w a 0 (ABv b)) (e:Hg w b N h) (d:N≤300):SortsN w N (TBv a) (fun i=>-h i) :=
 Zt w N (TBv a) (fun i=>-h i) fun W c x y g j=>turnCmp_any W a b N x y h (Qa c f) (e.kept c) g j d
def mz:M6:=(-1,0,0,1,0,0)
def tz (M:Nat→M6) (i:Nat):M6:=aft (M i) mz
theorem aft_mz (a b c d e f:Int):aft (a,b,c,d,e,f) mz=(-a, -b,c,d, -e,f):=by
 simp only [aft,mz,dot,Prod.mk.injEq];refine ⟨?_, ?_, ?_, ?_, ?_, ?_⟩ <;> omega
theorem map_mz {m:M6} (h:mapM m=true):mapM (aft m mz)=true:=by
 obtain ⟨a,b,c,d,e,f⟩:=m;have h:mapB a b c d e f=true:=h;rw [aft_mz];show mapB (-a) (-b) c d (-e) f=true
 have g:=Xh h;simp only [mapB,evenB,unitB,Bool.and_eq_true,Bool.or_eq_true,decide_eq_true_eq] at h ⊢;omega
theorem map_mzZ:mapM mz=true:=τ
theorem aft_assoc (a b c:M6):aft (aft a b) c=aft a (aft b c):=by
 obtain ⟨a0,a1,d,a3,a4,a5⟩:=a;obtain ⟨b0,b1,b2,b3,b4,e⟩:=b;obtain ⟨c0,c1,c2,c3,c4,f⟩:=c;simp only [aft,dot,Prod.mk.injEq];refine ⟨?_, ?_, ?_, ?_, ?_, ?_⟩ <;> simp only [Int.mul_add,Int.add_mul,Int.mul_assoc] <;> omega
theorem fz_new (V:World) (cs:Array Value) (T:TypeId) (q:Nat):(V.alloc (.cells cs T)).frozen? ⟨V.heap.size,q,none⟩=false:=World.frozen?_alloc_at cs T _ q rfl
structure Onw (w wx:World) (gm gn n:Nat) (M:Nat→M6) (i:Nat) (ad pa:Option Addr) (cc ra rk cm pc:Nat):Prop where
 mr:MRow wx gn n (fun q=>if q<i then tz M q else noM)
 b:Bl w wx
 c0:At wx w.heap.size 0 (.slice ad n cc)
 c1:At wx w.heap.size 1 (.map (some ra))
 c2:At wx w.heap.size 2 (.map (some rk))
 d0:At wx (w.heap.size+1) 0 (I (-1))
 d1:At wx (w.heap.size+1) 1 (I 0)
 d2:At wx (w.heap.size+1) 2 (I 0)
 d3:At wx (w.heap.size+1) 3 (I 1)
 d4:At wx (w.heap.size+1) 4 (I 0)
 d5:At wx (w.heap.size+1) 5 (I 0)
 z0:At wx (w.heap.size+2) 0 SN
 z1:At wx (w.heap.size+2) 1 (.map none)
 z2:At wx (w.heap.size+2) 2 (.map none)
 z3:At wx (w.heap.size+2) 3 SN
 z4:At wx (w.heap.size+2) 4 SN
 fz:∀ q,Fn wx (w.heap.size+2) q
 gl:w.heap.size+3≤gn
theorem Onw.kept {c:World} {d pa:Option Addr} {e k l f pc:Nat} (h:Onw w c g j n M i d pa e k l f pc) (hb:Bl c w'):Onw w w' g j n M i d pa e k l f pc :=
 ⟨h.mr.kept hb,Qb h.b hb,Qa hb h.c0,Qa hb h.c1,Qa hb h.c2,Qa hb h.d0,Qa hb h.d1,Qa hb h.d2,Qa hb h.d3,Qa hb h.d4,Qa hb h.d5,Qa hb h.z0,Qa hb h.z1,Qa hb h.z2,Qa hb h.z3,Qa hb h.z4,fun q=>(Fo (a:=⟨w.heap.size+2,q,none⟩) (hb.block (w.heap.size+2) (World.block_lt_of_cell? c ⟨w.heap.size+2,0,none⟩ h.z0))).trans (h.fz q),h.gl⟩
theorem Onw.put {c:World} {l d:Nat} {pa:Option Addr} {m p pc:Nat} (h:Onw w c l d n M i f pa g m p j pc) (hi:i<n):Onw w (set6 c d i (tz M i)) l d n M (i+1) f pa g m p j pc:=by
 have hg:=Jw c d i (tz M i);have hl:=h.gl;have k:∀ {b o:Nat} {u:Value},At c b o u→b<w.heap.size+3→(set6 c d i (tz M i)).cell? ⟨b,o,none⟩=some u:=fun {b o u} r hb=>hg.cell r ψ;refine ⟨?_,h.b.grown hg h.b.size (fun q e=>by simp at e;omega),k h.c0 γ,k h.c1 γ,k h.c2 γ,k h.d0 γ,k h.d1 γ,k h.d2 γ,k h.d3 γ,k h.d4 γ,k h.d5 γ,k h.z0 γ,k h.z1 γ,k h.z2 γ,k h.z3 γ,k h.z4 γ,fun q=>(Fo (a:=⟨w.heap.size+2,q,none⟩) (hg.block (w.heap.size+2) (World.block_lt_of_cell? c ⟨w.heap.size+2,0,none⟩ h.z0) ψ)).trans (h.fz q),h.gl⟩;have h6:=h.mr.set6 hi (tz M i)
 have e:(fun q=>if q=i then tz M i else if q<i then tz M q else noM)=fun q=>if q<i+1 then tz M q else noM:=by
  funext q
  by_cases e1:q=i
  ·subst e1;rw [if_pos rfl,if_pos γ]
  ·rw [if_neg e1];by_cases e2:q<i
   ·rw [if_pos e2,if_pos γ]
   ·rw [if_neg e2,if_neg γ]
 rw [e] at h6;exact h6
theorem onward_any (w:World) (p s x Q P pc:Nat) (n pa:Option Addr) (L:List T3) (kd:E4→Int) (M:Nat→M6) (hP:PileAt w n p s x Q P pa pc L kd M) (hs:Steps w) (h0:0<L.length) (hL:L.length≤300) (ag:∀ t∈L,(0≤t.1∧t.1≤8)∧(0≤t.2.1∧t.2.1≤8)∧(0≤t.2.2∧t.2.2≤3)) (ac:∀ i,i<L.length→MOk1 L M i) :
  Cl 32 #[.agg #[.slice n L.length p,.map (some s),.map (some x),.slice (Az Q) L.length P,.slice pa L.length pc],.agg #[I (-1),I 0,I 0,I 1,I 0,I 0]] w fun e w'=>(∃ z0 k0 d0 m1 m2 z3 k3 d3 z4 k4 d4,e=.returned (.tuple #[.agg #[.slice z0 k0 d0,.map m1,.map m2,.slice z3 k3 d3,.slice z4 k4 d4],.bool false])∧¬ MOk kd L (tz M)∧Bl w w')
   ∨ ∃ y cn j l,e=.returned (.tuple #[.agg #[.slice n L.length p,.map (some s),.map (some x),.slice (Az y) L.length cn,.slice j L.length l],.bool true])∧MOk kd L (tz M)∧PileAt w' n p s x y cn j l L kd (tz M)∧Bl w w':=by
 have G:Hid (PileAt w n p s x Q P pa pc L kd M∧Steps w∧(∀ t∈L,(0≤t.1∧t.1≤8)∧(0≤t.2.1∧t.2.1≤8)∧(0≤t.2.2∧t.2.2≤3))∧∀ i,i<L.length→MOk1 L M i):=⟨hP,hs,ag,ac⟩;obtain ⟨i6,hi,ai,aj,ak⟩:=info_parts inf59;have HI:=H4 hi ai aj ak;clear hP hs ag ac hi ai aj ak;go_enter Tryz.func32,Tryz.ntmps32;go_upto_region 1 with fail
 refine Qj (fun O hW0=>?_);have aa:=Hd hW0;have x3:At O w.heap.size 3 (.slice (Az Q) L.length P):=η
 have H:Hid (Bl w O∧O.heap.size=w.heap.size+3):=by
  rw [hW0];exact ⟨Qc β2,ν⟩
 have zb:=Bt x3;clear hW0;go_wp2_with (at_make;refine wpList_make_full _ rfl (.tmp 13) (.tmp 13) 27 rfl O.heap.size 48 i6 (.agg #[I 0,I 0,I 0,I 0,I 0,I 0]) 6 Tryz.underlying27 HI.out.1 HI.out.2.1 HI.out.2.2.1 .i64 .i64 _ _ L.length rfl rfl rfl rfl ?b2 ?b3 ?b4 ?mk)
 case b2 =>
  rw [HI.out.2.2.2];omega
 case b3 =>
  unfold maxLen;omega
 case b4=>exact Nr _
 case mk =>
  intro w2 ho hg;have f:Bl O w2:=(Below.refl _ _).grown hg (Nr _) (fun k h=>by cases h);obtain ⟨y,K⟩:∃ g,g=O.heap.size:=⟨_,rfl⟩
  have HO:Hid (Onw w w2 Q y L.length M 0 n pa p s x P pc):=by
   have Y:=maps_made ho
   have e0:(fun q:Nat=>if q<0 then tz M q else noM)=fun _=>noM:=by
    funext q
    rw [if_neg γ]
   have m:=aa.out;have k:∀ {b o:Nat} {u:Value},At O b o u→At w2 b o u:=fun hc=>Qa f hc;refine ⟨by rw [e0,K];exact Y,Qb H.out.1 f,k (by rw [m];simp [go_sem]),k (by rw [m];simp [go_sem]),k (by rw [m];simp [go_sem]),k (by rw [m];simp [go_sem]),k (by rw [m];simp [go_sem]),k (by rw [m];simp [go_sem]),k (by rw [m];simp [go_sem]),k (by rw [m];simp [go_sem]),k (by rw [m];simp [go_sem]),k (by rw [m];simp [go_sem]),k (by rw [m];simp [go_sem]),k (by rw [m];simp [go_sem]),k (by rw [m];simp [go_sem]),k (by rw [m];simp [go_sem]),fun q=>?_,by rw [K,H.out.2];exact Nr _⟩;refine (Fo (a:=⟨w.heap.size+2,q,none⟩) (f.block (w.heap.size+2) (by rw [H.out.2];omega))).trans ?_;have e9:w.heap.size+2=((w.alloc (.cells #[.slice n L.length p,.map (some s),.map (some x),.slice (Az Q) L.length P,.slice pa L.length pc] 67)).alloc (.cells #[I (-1),I 0,I 0,I 1,I 0,I 0] 48)).heap.size:=ν;rw [m,e9];exact fz_new _ _ _ q
  replace x3:=Qa f x3;replace zb:w.heap.size<w2.heap.size:=bk x3;rw [← K];clear ho hg f K aa H;go_wp2;go_loopg [18] L.length (fun gk aq wx=>∃ i:Nat,i≤L.length∧gk=L.length - i∧aq=I (i:Int)∧Onw w wx Q y L.length M i n pa p s x P pc)
  case atStart=>exact ⟨0,γ,rfl,rfl,HO.out⟩
  case round =>
   clear HO x3 zb;obtain ⟨i,hi,rfl,rfl,hS⟩:=hrel;have c:=Hd hS;clear hS;by_cases h1:i<L.length
   ·have i1:(i:Int)<(L.length:Int):=γ;have i0:(0:Int)≤(i:Int):=γ;obtain ⟨⟨y0,y1,y2,y3,y4,y5⟩,_⟩:=(G.out.1.mr.kept c.out.b) i h1;obtain ⟨A,B,C,D,E,F,Y⟩:∃ A B C D E F,M i=(A,B,C,D,E,F):=⟨_,_,_,_,_,_,rfl⟩;rw [Y] at y0 y1 y2 y3 y4 y5;dsimp only at y0 y1 y2 y3 y4 y5;have zg:=Bt y0;have W:mapM (A,B,C,D,E,F)=true:=by rw [← Y];exact (G.out.2.2.2 i h1).1
    have an:Hid (tz M i=(-A, -B,C,D, -E,F)):=by
     show tz M i=(-A, -B,C,D, -E,F)
     unfold tz;rw [Y];exact aft_mz A B C D E F
    have Z:Hid (∀ V:World,Rt 64 #[.agg #[I A,I B,I C,I D,I E,I F],.agg #[I (-1),I 0,I 0,I 1,I 0,I 0]] V (.tuple #[.agg #[I (-A),I (-B),I C,I D,I (-E),I F],I 0])):=fun V=>by
     have e9:=aft_mz A B C D E F;have h9:=map_mz W;rw [e9] at h9;simp only [aft,mz,Prod.mk.injEq] at e9;obtain ⟨f0,f1,f2,f3,f4,f5⟩:=e9;have:=Vc A B C D E F (-1) 0 0 1 0 0 V W τ (by rw [f0,f1,f2,f3,f4,f5];exact h9);rw [f0,f1,f2,f3,f4,f5] at this;exact this
    obtain ⟨d0,d1,d2,d3,d4,d5⟩:(At wr (w.heap.size+1) 0 (I (-1))∧At wr (w.heap.size+1) 1 (I 0)∧At wr (w.heap.size+1) 2 (I 0)∧At wr (w.heap.size+1) 3 (I 1)∧At wr (w.heap.size+1) 4 (I 0)∧At wr (w.heap.size+1) 5 (I 0)):=⟨c.out.d0,c.out.d1,c.out.d2,c.out.d3,c.out.d4,c.out.d5⟩;have zd:=Bt d0;clear Y W;go_upto_region 8 with (go_at_call 64;refine (Z.out _).mono ?_;rintro e w5 ⟨rfl,ae⟩;have ab:Hid _:=ae;clear ae)
    have a6:Hid (Bl wr w5):=by
     show Bl wr w5
     refine Qb ?_ ab.out;with_reducible repeat' (first | exact Qd _ | refine Qk ?_ ?_ | refine Qc ?_)
     all_goals (first | omega | (dsimp only;omega))
    clear ab;refine Qj (fun N U=>?_);obtain ⟨X,R⟩:∃ b,b=w5.heap.size:=⟨_,rfl⟩
    have am:Hid (Bl wr N):=by
     show Bl wr N
     rw [U];with_reducible repeat' (first | exact a6.out | refine Qk ?_ ?_ | refine Qc ?_)
     all_goals (have:=a6.out.size;first | omega | (dsimp only;omega))
    have X6:Hid (At N X 0 (I (-A))∧At N X 1 (I (-B))∧At N X 2 (I C)∧At N X 3 (I D)∧At N X 4 (I (-E))∧At N X 5 (I F)):=by
     rw [U,R];refine ⟨?_, ?_, ?_, ?_, ?_, ?_⟩ <;> simp [go_sem]
    rw [← R];clear U R d0 d1 d2 d3 d4 d5 zd y0 y1 y2 y3 y4 y5 zg;have a8:=Hd (c.out.kept am.out);obtain ⟨x0,x1,x2,x3,x4,x5⟩:=X6.out;have z9:=Bt x0;obtain ⟨⟨m0,m1,m2,m3,m4,m5⟩,f0,f1,f2,f3,f4,f5⟩:=a8.out.mr i h1;have zn:=Bt m0;have HN:=Hd (a8.out.put h1);rw [an.out] at HN;unfold set6 at HN;dsimp only at HN;go_wp2;go_roundg (L.length - (i+1))
    case measure=>omega
    case rel=>exact ⟨i+1,γ,rfl,σ,HN.out⟩
   ·have i1:¬ (i:Int)<(L.length:Int):=γ;obtain rfl:i=L.length:=γ
    have a7:Hid (MRow wr y L.length (tz M)):=fun q hq=>by
     have:=c.out.mr q hq;dsimp only at this;rw [if_pos hq] at this;exact this
    have a2:=Hd (Vj wr p s x y L.length n L kd (tz M) (G.out.2.1.kept c.out.b) (G.out.1.tr.kept c.out.b) (G.out.1.kl.kept c.out.b) hL G.out.2.2.1 a7.out);have c0:=c.out.c0;have c1:=c.out.c1;have c2:=c.out.c2;have zc:=Bt c0;by_cases hok:MOk kd L (tz M);rotate_left
    ·go_wp2_with (go_at_call 39;refine a2.out.mono ?_;rintro e w7 T;obtain ⟨z0,k0,d0,m1,m2,z3,k3,d3,z4,k4,d4,rfl,ao,d⟩:=T.resolve_right (fun q=>by obtain ⟨_,_,_,q,_⟩:=q;exact hok q);have z:Hid (¬ MOk kd L (tz M)∧Bl w w7):=⟨ao,Qb c.out.b d⟩;obtain ⟨_,_,_,_,_,_,_,_,_,_,_,q0,q1,q2,q3,q4,r,_⟩:=c.out.kept d;have zz:=Bt q0;have ar:=r 0;have au:=r 1;have av:=r 2;have aw:=r 3;have ax:=r 4;clear d r)
     refine bodyPost_ret (v:=.tuple #[.agg #[.slice z0 k0 d0,.map m1,.map m2,.slice z3 k3 d3,.slice z4 k4 d4],.bool false]) (by simp [results,Tryz.results32,go_sem, *]) rfl (Or.inl ⟨z0,k0,d0,m1,m2,z3,k3,d3,z4,k4,d4,rfl,z.out.1, ?_⟩);with_reducible repeat' (first | exact z.out.2 | refine Qk ?_ ?_)
     all_goals (first | omega | (dsimp only;omega))
    ·go_wp2_with (go_at_call 39;refine a2.out.mono ?_;rintro e w7 T;obtain ⟨j,l,rfl,ah,ap,d⟩:=T.resolve_left (fun q=>by obtain ⟨_,_,_,_,_,_,_,_,_,_,_,_,q,_⟩:=q;exact q hok);have z:=H4 ah ap (Qb c.out.b d) d;obtain ⟨_,_,_,_,_,_,_,_,_,_,_,q0,q1,q2,q3,q4,r,_⟩:=c.out.kept d;have zz:=Bt q0;have ar:=r 0;have au:=r 1;have av:=r 2;have aw:=r 3;have ax:=r 4;clear d r)
     refine bodyPost_ret (v:=.tuple #[.agg #[.slice n L.length p,.map (some s),.map (some x),.slice (Az y) L.length L.length,.slice j L.length l],.bool true]) (by simp [results,Tryz.results32,go_sem, *]) rfl (Or.inr ⟨y,L.length,j,l,rfl,z.out.1, ?_, ?_⟩)
     ·have J:PileAt w7 n p s x y L.length j l L kd (tz M):=⟨G.out.1.tr.kept z.out.2.2.1,G.out.1.kl.kept z.out.2.2.1,a7.out.kept z.out.2.2.2,z.out.2.1⟩;have hg:=set5_grown w7 (w.heap.size+2) (.slice n L.length p) (.map (some s)) (.map (some x)) (.slice (Az y) L.length L.length) (.slice j L.length l);have af:Bl w (set5 w7 (w.heap.size+2) (.slice n L.length p) (.map (some s)) (.map (some x)) (.slice (Az y) L.length L.length) (.slice j L.length l)):=z.out.2.2.1.grown hg z.out.2.2.1.size (fun q e=>by simp at e;omega);exact ⟨G.out.1.tr.kept af,G.out.1.kl.kept af,J.mr.grown hg (J.mr.not_at h0 q0),J.pl.grown hg (J.pl.not_at (by rw [Qu];exact h0) q0)⟩
     ·with_reducible repeat' (first | exact z.out.2.2.1 | refine Qk ?_ ?_)
      all_goals (first | omega | (dsimp only;omega))
def OnTo (kd:E4→Int) (L:List T3) (M:Nat→M6) (ad:Option Addr) (cc ra rk:Nat) (w w':World) (e:Ending):Prop:=(∃ z0 k0 d0 m1 m2 z3 k3 d3 z4 k4 d4,e=.returned (.tuple #[.agg #[.slice z0 k0 d0,.map m1,.map m2,.slice z3 k3 d3,.slice z4 k4 d4],.bool false])∧¬ MOk kd L (tz M)∧Bl w w')
   ∨ ∃ gn cn pa' pc',e=.returned (.tuple #[.agg #[.slice ad L.length cc,.map (some ra),.map (some rk),.slice (Az gn) L.length cn,.slice pa' L.length pc'],.bool true])∧MOk kd L (tz M)∧PileAt w' ad cc ra rk gn cn pa' pc' L kd (tz M)∧Bl w w'
theorem turn_ok (W H:Int) (a b mp sp:Option Addr) (zs:List Int) (ca n cb mn mc sl sc:Nat) (ks:List Int) (kd:E4→Int) (L:List T3) (M:Nat→M6) (h:Nat→Int) (w:World) (aa:Hid (∀ V:World,Bl w V→Cl 15 #[.agg #[I W,I H,.slice a zs.length ca,.slice b n cb,.slice mp mn mc,.slice sp sl sc]] V fun e w'=>∃ C k D E gm cm pa pc bf,e=.returned (.tuple #[.agg #[.slice C L.length k,.map (some D),.map (some E),.slice (some ⟨gm,0,none⟩) L.length cm,.slice pa L.length pc],ABv bf,.bool true])∧PileAt w' C k D E gm cm pa pc L kd M∧Hg w' bf L.length h∧Bl V w')) (hs:Steps w) (h0:0<L.length) (hL:L.length≤300) (am:∀ t∈L,(0≤t.1∧t.1≤8)∧(0≤t.2.1∧t.2.1≤8)∧(0≤t.2.2∧t.2.2≤3)) (ag:∀ i,i<L.length→MOk1 L M i) (hz:Row w a zs) (hk:Row w b ks) (hn:ks.length=n*5) (h1:zs.length≤17592186044416) (h2:n≤3518437208883) (ha:a=none∨∃ p off,a=some ⟨p,off,none⟩) (hb:b=none∨∃ p off,b=some ⟨p,off,none⟩)
  (X:∀ i j,i<L.length→j<L.length→(pls L (tz M) L.length).getD i (0,0,0)=(pls L (tz M) L.length).getD j (0,0,0)→i≠j→-h i≠-h j) (ao:MOk kd L (tz M)) :
  Cl 10 #[.agg #[I W,I H,.slice a zs.length ca,.slice b n cb,.slice mp mn mc,.slice sp sl sc]] w fun e w'=>∃ a' K b' N g c t u U,e=.returned (.tuple #[.agg #[I W,I H,.slice a' zs.length K,.slice b' n N,.slice (some ⟨g,0,none⟩) L.length c,.slice t (List.length U) u],I 0])∧RowF w' w.heap.size a' zs∧RowF w' w.heap.size b' ks∧MRow w' g L.length (tz M)∧w.heap.size≤g∧Heap L.length (plcA (pls L (tz M) L.length)) (fun i=>-h i) U∧SRowF w' w.heap.size t (U.map fun s=>(s.1,tgn L s.2))∧Bl w w':=by
 have HR:Hid (Steps w∧(∀ t∈L,(0≤t.1∧t.1≤8)∧(0≤t.2.1∧t.2.1≤8)∧(0≤t.2.2∧t.2.2≤3))∧∀ i,i<L.length→MOk1 L M i):=⟨hs,am,ag⟩;have HZ:Hid (Row w a zs∧Row w b ks∧(∀ i j,i<L.length→j<L.length→(pls L (tz M) L.length).getD i (0,0,0)=(pls L (tz M) L.length).getD j (0,0,0)→i≠j→-h i≠-h j)):=⟨hz,hk,X⟩;clear hs am ag hz hk X;unfold ABv at aa;go_enter Tryz.func10,Tryz.ntmps10;go_upto_region 2 with (go_at_call 15;refine (aa.out _ Ψ).mono ?_;rintro e w1 ⟨C,k,D,E,gm,cm,pa,pc,bf,rfl,hP,hH,hb⟩;have H1:Hid (PileAt w1 C k D E gm cm pa pc L kd M∧Hg w1 bf L.length h∧Bl w w1):=⟨hP,hH,Qb β2 hb⟩;have ac:Hid _:=hb;clear hP hH hb)
 refine Qj (fun f hW1=>?_);obtain ⟨B,a2⟩:∃ b,b=w1.heap.size:=⟨_,rfl⟩
 have z:Hid (Bl w1 f):=by
  show Bl w1 f
  (try simp only [At,I,Fn,Az,Ad]);rw [hW1]
  with_reducible repeat' (first | exact Qd _ | refine Qk ?_ ?_ | refine Qc ?_)
  all_goals (first | omega | (dsimp only;omega) | (simp;done) | (simp;omega))
 have X1:Hid ((f.cell? ⟨B,0,none⟩=some (.slice C L.length k)∧f.cell? ⟨B,1,none⟩=some (.map (some D))∧f.cell? ⟨B,2,none⟩=some (.map (some E))∧f.cell? ⟨B,3,none⟩=some (.slice (some ⟨gm,0,none⟩) L.length cm)∧f.cell? ⟨B,4,none⟩=some (.slice pa L.length pc))∧f.cell? ⟨B+1,0,none⟩=some (ABv bf)):=by
  (try simp only [At,I,Fn,Az,Ad]);rw [hW1,a2]
  unfold ABv;refine ⟨⟨?_, ?_, ?_, ?_, ?_⟩, ?_⟩ <;> simp [go_sem]
 have Y1:Hid ((f.cell? ⟨w.heap.size,0,none⟩=some (I W)∧f.cell? ⟨w.heap.size,1,none⟩=some (I H)∧f.cell? ⟨w.heap.size,2,none⟩=some (.slice a zs.length ca)∧f.cell? ⟨w.heap.size,3,none⟩=some (.slice b n cb))∧(f.cell? ⟨w.heap.size+1,0,none⟩=some (I 0)∧f.cell? ⟨w.heap.size+1,1,none⟩=some (I 0)∧f.cell? ⟨w.heap.size+1,2,none⟩=some SN∧f.cell? ⟨w.heap.size+1,3,none⟩=some SN∧f.cell? ⟨w.heap.size+1,4,none⟩=some SN∧f.cell? ⟨w.heap.size+1,5,none⟩=some SN)∧∀ q,f.frozen? ⟨w.heap.size+1,q,none⟩=false):=by
  have hk:=ac.out;have J:∀ {b9 o9:Nat} {u:Value},((w.alloc (.cells #[I W,I H,.slice a zs.length ca,.slice b n cb,.slice mp mn mc,.slice sp sl sc] 30)).alloc (.cells #[I 0,I 0,SN,SN,SN,SN] 30)).cell? ⟨b9,o9,none⟩=some u→f.cell? ⟨b9,o9,none⟩=some u:=fun hc=>Qa z.out (Qa hk hc);refine ⟨⟨J ζ,J ζ,J ζ,J ζ⟩,⟨J ζ,J ζ,J ζ,J ζ,J ζ,J ζ⟩,fun q=>?_⟩;have hz:w.heap.size+1<((w.alloc (.cells #[I W,I H,.slice a zs.length ca,.slice b n cb,.slice mp mn mc,.slice sp sl sc] 30)).alloc (.cells #[I 0,I 0,SN,SN,SN,SN] 30)).heap.size:=ν;have h8:=(Fo (a:=⟨w.heap.size+1,q,none⟩) (hk.block (w.heap.size+1) hz));have h9:=(Fo (a:=⟨w.heap.size+1,q,none⟩) (z.out.block (w.heap.size+1) (Nl hz hk.size)));show World.frozen? _ _=_
  (try simp only [At,I,Fn,Az,Ad]);rw [h9,h8]
  exact World.frozen?_alloc_at _ _ _ q ν
 (try simp only [At,I,Fn,Az,Ad]);rw [← a2]
 clear hW1 a2 ac;obtain ⟨⟨A,x1,x2,x3,R⟩,x5⟩:=X1.out;have zB:B<f.heap.size:=bk A
 have ap:Hid (∀ V:World,Rt 31 #[.agg #[I 0,I 0]] V (.tuple #[.agg #[I (-1),I 0,I 0,I 1,I 0,I 0],I 0])):=fun V=>by
  have:=Zf 0 0 V τ τ;exact this
 go_upto_region 5 with (go_at_call 31;refine (ap.out _).mono ?_;rintro e w2 ⟨rfl,x⟩;have ar:Hid (Bl f w2):=x;replace A:=Qa x A;replace x1:=Qa x x1;replace x2:=Qa x x2;replace x3:=Qa x x3;replace R:=Qa x R;replace zB:B<w2.heap.size:=bk A;clear x)
 refine Qj (fun y a7=>?_);obtain ⟨Z,G⟩:∃ b,b=w2.heap.size:=⟨_,rfl⟩
 have o:Hid (Bl f y):=by
  show Bl f y
  refine Qb ar.out ?_;(try simp only [At,I,Fn,Az,Ad]);rw [a7]
  with_reducible repeat' (first | exact Qd _ | refine Qk ?_ ?_ | refine Qc ?_)
  all_goals (first | omega | (dsimp only;omega) | (simp;done) | (simp;omega))
 have X3:Hid (y.cell? ⟨Z,0,none⟩=some (I (-1))∧y.cell? ⟨Z,1,none⟩=some (I 0)∧y.cell? ⟨Z,2,none⟩=some (I 0)∧y.cell? ⟨Z,3,none⟩=some (I 1)∧y.cell? ⟨Z,4,none⟩=some (I 0)∧y.cell? ⟨Z,5,none⟩=some (I 0)):=by
  (try simp only [I]);rw [a7,G]
  refine ⟨?_, ?_, ?_, ?_, ?_, ?_⟩ <;> simp [go_sem]
 (try simp only [At,I,Fn,Az,Ad]);rw [← G]
 clear a7 G A x1 x2 x3 R x5 zB;obtain ⟨⟨A,x1,x2,x3,R⟩,x5⟩:=X1.out;replace A:=Qa o.out A;replace x1:=Qa o.out x1;replace x2:=Qa o.out x2;replace x3:=Qa o.out x3;replace R:=Qa o.out R;have zB:B<y.heap.size:=bk A;obtain ⟨y0,y1,y2,y3,y4,y5⟩:=X3.out;have zC:Z<y.heap.size:=bk y0;have ab:Hid (Cl 32 #[.agg #[.slice C L.length k,.map (some D),.map (some E),.slice (some ⟨gm,0,none⟩) L.length cm,.slice pa L.length pc],.agg #[I (-1),I 0,I 0,I 1,I 0,I 0]] y fun e w'=>OnTo kd L M C k D E y w' e):=onward_any y k D E gm cm pc C pa L kd M ((H1.out.1.kept z.out).kept o.out) (HR.out.1.kept (Qb H1.out.2.2 (Qb z.out o.out))) h0 hL HR.out.2.1 HR.out.2.2;go_upto_region 6 with (go_at_call 32;refine ab.out.mono ?_;rintro e w5 au;obtain ⟨gn,cn,P,Q,rfl,_,ai,ak⟩:=au.resolve_left (fun q=>by obtain ⟨_,_,_,_,_,_,_,_,_,_,_,_,q,_⟩:=q;exact q ao);have H5:Hid (PileAt w5 C k D E gn cn P Q L kd (tz M)∧Bl y w5):=⟨ai,ak⟩;clear ai ak)
 refine Qj (fun l a8=>?_);obtain ⟨B9,a6⟩:∃ b,b=w5.heap.size:=⟨_,rfl⟩
 have F:Hid (Bl w5 l):=by
  show Bl w5 l
  (try simp only [At,I,Fn,Az,Ad]);rw [a8]
  with_reducible repeat' (first | exact Qd _ | refine Qk ?_ ?_ | refine Qc ?_)
  all_goals (first | omega | (dsimp only;omega) | (simp;done) | (simp;omega))
 have X6:Hid (l.cell? ⟨B9,0,none⟩=some (.slice C L.length k)∧l.cell? ⟨B9,1,none⟩=some (.map (some D))∧l.cell? ⟨B9,2,none⟩=some (.map (some E))∧l.cell? ⟨B9,3,none⟩=some (.slice (some ⟨gn,0,none⟩) L.length cn)∧l.cell? ⟨B9,4,none⟩=some (.slice P L.length Q)):=by
  (try simp only [At,I,Fn,Az,Ad]);rw [a8,a6]
  refine ⟨?_, ?_, ?_, ?_, ?_⟩ <;> simp [go_sem]
 (try simp only [At,I,Fn,Az,Ad]);rw [← a6]
 clear a8 a6 A x1 x2 x3 R x5 zB y0 y1 y2 y3 y4 y5 zC;have d:Hid (Bl f l∧Bl w l):=⟨Qb o.out (Qb H5.out.2 F.out),Qb H1.out.2.2 (Qb z.out (Qb o.out (Qb H5.out.2 F.out)))⟩;obtain ⟨A,x1,x2,x3,R⟩:=X6.out;have zB:B9<l.heap.size:=bk A;obtain ⟨⟨s0,s1,s2,s3⟩,_⟩:=Y1.out;replace s0:=Qa d.out.1 s0;replace s1:=Qa d.out.1 s1;replace s2:=Qa d.out.1 s2;replace s3:=Qa d.out.1 s3;have zS:w.heap.size<l.heap.size:=bk s0
 have aq:Hid (Cl 33 #[.agg #[.slice C L.length k,.map (some D),.map (some E),.slice (some ⟨gn,0,none⟩) L.length cn,.slice P L.length Q],.agg #[I W,I H,.slice a zs.length ca,.slice b n cb],.func (.func 34) #[] #[.pointer (some ⟨B+1,0,none⟩)]] l fun e w'=>StateTo l w' W H n L.length zs ks (tz M) L (plcA (pls L (tz M) L.length)) (fun i=>-h i) e) :=
  state_any l W H a b ca cb n zs ks C P k D E gn cn Q (tz M) L (pls L (tz M) L.length) (TBv (B+1)) (fun i=>-h i) (HZ.out.1.kept d.out.2) (HZ.out.2.1.kept d.out.2) hn h1 h2 ha hb (Qu _ _ _) (H5.out.1.kept F.out).tr.1 (H5.out.1.kept F.out).pl (H5.out.1.kept F.out).mr h0 hL
   (fun V hV=>turnSorts V (B+1) bf L.length h (Qa hV (Qa d.out.1 X1.out.2)) (((H1.out.2.1.kept z.out).kept d.out.1).kept hV) hL)
   (fun i j hi hj he av=>HZ.out.2.2 i j (by (try simp only [At,I,Fn,Az,Ad] at hi);rw [Qu] at hi;exact hi) (by (try simp only [At,I,Fn,Az,Ad] at hj);rw [Qu] at hj;exact hj) he av)
 go_wp2_with (go_at_call 33;refine aq.out.mono ?_;rintro e Y ⟨a',K,b',N,g,c,t,u,U,rfl,hA,ae,ah,an,af,aj,r⟩;have T:Hid (RowF Y l.heap.size a' zs∧RowF Y l.heap.size b' ks∧MRow Y g L.length (tz M)∧l.heap.size≤g∧Heap L.length (plcA (pls L (tz M) L.length)) (fun i=>-h i) U∧SRowF Y l.heap.size t (U.map fun s=>(s.1,tgn L s.2))∧Bl l Y):=⟨hA,ae,ah,an,af,aj,r⟩;obtain ⟨_,⟨r0,r1,r2,r3,r4,r5⟩,rf⟩:=Y1.out;have zr:w.heap.size+1<l.heap.size:=bk (Qa d.out.1 r0);replace r0:=Qa r (Qa d.out.1 r0);replace r1:=Qa r (Qa d.out.1 r1);replace r2:=Qa r (Qa d.out.1 r2);replace r3:=Qa r (Qa d.out.1 r3);replace r4:=Qa r (Qa d.out.1 r4);replace r5:=Qa r (Qa d.out.1 r5);replace rf:∀ q,Y.frozen? ⟨w.heap.size+1,q,none⟩=false:=(fun q=>by have z9:=bk Y1.out.2.1.1;dsimp only at z9;(try simp only [At,I,Fn,Az,Ad]);rw [Fo (a:=⟨w.heap.size+1,q,none⟩) (r.block (w.heap.size+1) zr),Fo (a:=⟨w.heap.size+1,q,none⟩) (d.out.1.block (w.heap.size+1) z9)];exact rf q);have rz:w.heap.size+1<Y.heap.size:=bk r0;clear hA ae ah an af aj r A x1 x2 x3 R zB s0 s1 s2 s3 zS)
 refine bodyPost_ret (v:=.tuple #[.agg #[I W,I H,.slice a' zs.length K,.slice b' n N,.slice (some ⟨g,0,none⟩) L.length c,.slice t (List.length U) u],I 0]) (by simp [results,Tryz.results10,go_sem, *]) rfl ?_;have O:w.heap.size≤l.heap.size:=d.out.2.size;have hp:∀ {q:Nat},(⟨w.heap.size+1,q,none⟩:Addr).block<l.heap.size:=fun {q}=>zr;have m:g≠w.heap.size+1:=by have:=T.out.2.2.2.1;omega
 refine ⟨a',K,b',N,g,c,t,u,U,rfl,RowF.low ?_ O,RowF.low ?_ O, ?_,Nt O T.out.2.2.2.1,T.out.2.2.2.2.1,SRowF.low ?_ O, ?_⟩
 ·exact ((((((T.out.1.set hp).set hp).set hp).set hp).set hp).set hp)
 ·exact ((((((T.out.2.1.set hp).set hp).set hp).set hp).set hp).set hp)
 ·exact ((((((T.out.2.2.1.set m).set m).set m).set m).set m).set m)
 ·exact ((((((T.out.2.2.2.2.2.1.set hp).set hp).set hp).set hp).set hp).set hp)
 ·have G:Bl w Y:=Qb d.out.2 T.out.2.2.2.2.2.2;with_reducible repeat' (first | exact G | refine Qk ?_ ?_ | refine Qc ?_)
  all_goals (first | omega | (dsimp only;omega) | (simp;done) | (simp;omega))
theorem nodup_at {l:List α} (h:l.Nodup) (hi:i<l.length) (a:j<l.length) (e:l[i]=l[j]):i=j:=by
 have hp:=List.pairwise_iff_getElem.1 h;rcases Nat.lt_trichotomy i j with q | q | q
 ·exact absurd e (hp i j hi a q)
 ·exact q
 ·exact absurd e.symm (hp j i a hi q)
theorem face_map (n:Cons kd L M) (g:L.Nodup) {t u:T3} (h:ReachC (fun e=>decide (kd e=0)) L t u):∀ i j (hi:i<L.length) (a:j<L.length),L[i]=t→L[j]=u→M i=M j:=by
 induction h using ReachC.ind with
 | here h =>
  intro i j hi a e1 e2;have:=nodup_at g hi a (e1.trans e2.symm);rw [this]
 | @step u v hr hv ha ih =>
  intro i j hi a e1 e2;obtain ⟨k,m,ek⟩:=List.getElem_of_mem hr.mem.2;have h1:=ih i k hi m e1 ek;obtain ⟨l,e,b,c,d⟩:=ha;have f:k≠j:=fun q=>l (by subst q;rw [← e2,ek]);have h2:=n.2 k j m a e f (by rw [ek];exact b) (by rw [e2];exact c);have o:kd e=0:=by simpa using d
  rw [h2,farM,if_pos o];exact h1
def lbs (part:Nat→Int) (n:Nat):List Nat:=(List.range n).map fun i=>(part i).toNat
theorem Gr (part:Nat→Int) (n:Nat):(lbs part n).length=n:=by simp [lbs]
theorem lbs_at {part:Nat→Int} (hi:i<n):(lbs part n).getD i 0=(part i).toNat:=by
 rw [List.getD_eq_getElem?_getD];simp [lbs,hi]
theorem faces_dis {part:Nat→Int} {hs:List Int} (l:Cons kd L M) (p:Joined L) (c:L.Nodup) (q:L.length≤300) (b:∀ t∈L,(0≤t.1∧t.1≤8)∧(0≤t.2.1∧t.2.1≤8)∧(0≤t.2.2∧t.2.2≤3)) (g:PartsOk (fun e=>decide (kd e=0)) L part) (d:∀ i,i<L.length→part i<hs.length) (s:hs.Nodup) :
  ∀ i j,i<(pls L M L.length).length→j<(pls L M L.length).length→(pls L M L.length).getD i (0,0,0)=(pls L M L.length).getD j (0,0,0)→i≠j→hgt hs (lbs part L.length) i≠hgt hs (lbs part L.length) j:=by
 intro i j hi a m h f;rw [Qu] at hi a;have u:=g.1 i hi;have v:=g.1 j a;have l1:=d i hi;have l2:=d j a
 have k:part i=part j:=by
  unfold hgt at f;rw [lbs_at hi,lbs_at a] at f;have n:(part i).toNat<hs.length:=γ;have o:(part j).toNat<hs.length:=γ;rw [List.getD_eq_getElem?_getD,List.getD_eq_getElem?_getD,List.getElem?_eq_getElem n,List.getElem?_eq_getElem o] at f;have:=nodup_at s n o (by simpa using f);omega
 have hr:=g.2.2.1 i j hi a k;have r:=face_map l c hr i j hi a rfl rfl;have hg:=cons_good p c q b l i hi
 have e1:(pls L M L.length).getD i (0,0,0)=mvt (M i) L[i]:=by
  rw [List.getD_eq_getElem?_getD];simp [pls,hi]
 have e2:(pls L M L.length).getD j (0,0,0)=mvt (M j) L[j]:=by
  rw [List.getD_eq_getElem?_getD];simp [pls,a]
 rw [e1,e2,← r] at m;have:=mvt_inj hg.1 (b L[i] (Lm hi)).2.2 (b L[j] (Lm a)).2.2 m;exact h (nodup_at c hi a this)
end Go.Proofs.YtbjmnlefkbhbdaaGreatDoor
namespace Go.Proofs.YtbjmnlefkbhbdaaGreatDoor
open Go.RowKit Go.Shelf Go.Lib
variable {part:Nat→Int} {n:Nat}
theorem lay_tear (w:World) (W H:Int) (a E M:Option Addr) (m D n d O N:Nat) (P:Hid (∀ V:World,Bl w V→Rt 68 #[.agg #[I W,I H,.slice a m D,.slice E n d]] V (.tuple #[.agg #[SN,.map none,.map none,SN,SN],I 8]))) :
  Rt 36 #[.agg #[I W,I H,.slice a m D,.slice E n d],.slice M O N] w (.tuple #[.agg #[I 0,I 0,SN,SN,SN,SN],I 8]):=by
 go_enter Tryz.func36,Tryz.ntmps36;go_upto_region 1 with fail
 refine Qj (fun c hW0=>?_);have f:Bl w c:=δ4;have q:At c w.heap.size 0 (I W):=η;have r:At c w.heap.size 1 (I H):=η;have s:At c w.heap.size 2 (.slice a m D):=η;have t:At c w.heap.size 3 (.slice E n d):=η;have u:At c (w.heap.size+1) 0 (.slice M O N):=η;have g:At c (w.heap.size+2) 0 (I 0):=η;have h:c.frozen? ⟨w.heap.size+2,0,none⟩=false:=η;have x:At c (w.heap.size+2) 1 (I 0):=η;have i:c.frozen? ⟨w.heap.size+2,1,none⟩=false:=η;have y:At c (w.heap.size+2) 2 SN:=η;have j:c.frozen? ⟨w.heap.size+2,2,none⟩=false:=η;have z:At c (w.heap.size+2) 3 SN:=η;have k:c.frozen? ⟨w.heap.size+2,3,none⟩=false:=η;have A:At c (w.heap.size+2) 4 SN:=η;have l:c.frozen? ⟨w.heap.size+2,4,none⟩=false:=η;have B:At c (w.heap.size+2) 5 SN:=η;have o:c.frozen? ⟨w.heap.size+2,5,none⟩=false:=η;have z0:=Bt g;clear hW0;go_upto_region 2 with (go_at_call 68;refine (P.out _ f).mono ?_;rintro e w1 ⟨rfl,b⟩)
 have F:=Qa b q;have G:=Qa b r;have J:=Qa b s;have K:=Qa b t;have L:=Qa b u;have X:=Qa b g;have Q:=(b.frozen (p:=⟨w.heap.size+2,0,none⟩) z0).trans h;have Y:=Qa b x;have R:=(b.frozen (p:=⟨w.heap.size+2,1,none⟩) z0).trans i;have Z:=Qa b y;have T:=(b.frozen (p:=⟨w.heap.size+2,2,none⟩) z0).trans j;have a2:=Qa b z;have U:=(b.frozen (p:=⟨w.heap.size+2,3,none⟩) z0).trans k;have a6:=Qa b A;have f14:=(b.frozen (p:=⟨w.heap.size+2,4,none⟩) z0).trans l;have a7:=Qa b B;have f15:=(b.frozen (p:=⟨w.heap.size+2,5,none⟩) z0).trans o;have z1:=Nl z0 b.size;clear q r s t u g h x i y j z k A l B o;have C:=Hd (Qb f b);clear b f F G J K L;go_wp2;refine bodyPost_ret (v:=.tuple #[.agg #[I 0,I 0,SN,SN,SN,SN],I 8]) (by simp [results,Tryz.results36,go_sem, *]) rfl ⟨rfl, ?_⟩;with_reducible repeat' (first | exact C.out | refine Qk ?_ ?_ | refine Qe ?_ | refine Qc ?_)
 all_goals (dsimp only;omega)
theorem foldl_max (l:List Int):∀ m:Int,(∀ x∈l,x≤l.foldl max m)∧m≤l.foldl max m∧(l.foldl max m=m∨l.foldl max m∈l):=by
 induction l with
 | nil=>intro m;simp
 | cons y r ih =>
  intro m;obtain ⟨h1,h2,h3⟩:=ih (max m y);rw [List.foldl_cons];refine ⟨fun x a=>?_,γ, ?_⟩
  ·rcases List.mem_cons.1 a with rfl | a
   ·omega
   ·exact h1 x a
  ·rcases h3 with h3 | h3
   ·rcases Int.le_total m y with q | q
    ·right
     have:max m y=y:=γ;rw [h3,this];simp
    ·left
     omega
   ·right
    simp [h3]
def topP (part:Nat→Int) (n:Nat):Int:=Lib.maxOf ((List.range n).map part)
theorem topP_le {i:Nat} (hi:i<n):part i≤topP part n:=by
 have a:part i∈(List.range n).map part:=List.mem_map.2 ⟨i,by simpa using hi,rfl⟩;unfold topP Lib.maxOf;exact (foldl_max _ _).1 _ a
theorem topP_at (h0:0<n):∃ i,i<n∧part i=topP part n:=by
 unfold topP Lib.maxOf;rcases (foldl_max ((List.range n).map part) (((List.range n).map part).headD 0)).2.2 with h | h
 ·refine ⟨0,h0, ?_⟩;rw [h]
  cases n with
  | zero=>omega
  | succ k=>simp [List.range_succ_eq_map]
 ·obtain ⟨i,hi,e⟩:=List.mem_map.1 h;exact ⟨i,by simpa using hi,e⟩
theorem parts_le {cr:E4→Bool} {L:List T3} (h:PartsOk cr L part):∀ a,a<L.length→part a≤(a:Int):=by
 intro a;induction a using Nat.strongRecOn with
 | ind a ih =>
  intro c;rcases Int.lt_or_le 0 (part a) with q | q
  ·obtain ⟨b,hb,e⟩:=h.2.2.2 a c (part a - 1) γ γ;have:=ih b hb γ;omega
  ·omega
theorem topP_bd {cr:E4→Bool} {L:List T3} (h:PartsOk cr L part) (h0:0<L.length) (a:L.length≤300):0≤topP part L.length∧topP part L.length≤299:=by
 obtain ⟨i,hi,e⟩:=topP_at (part:=part) h0;have h1:=h.1 i hi;have h2:=parts_le h i hi;omega
theorem zrow_nrow {w:World} {g:Nat} (h:ZRow w g n part) (h0:∀ i,i<n→0≤part i):NRow w g 0 (lbs part n):=fun i hi=>by
 have a:i<n:=by simpa [lbs] using hi
 have h1:=(h i a).1;have h2:=h0 i a;(try simp only [At,I]);rw [Nat.zero_add,h1]
 simp only [lbs,List.getElem_map,List.getElem_range];(try simp only [I]);rw [Int.toNat_of_nonneg h2]
theorem row_some {w:World} {a:Option Addr} {zs:List Int} (h:Row w a zs) (h0:0<zs.length):∃ g o,a=Ad g o:=by
 obtain ⟨b,off,e,_⟩:=h 0 h0;exact ⟨b,off,e⟩
def LaidTo (w w':World) (W H:Int) (n nn:Nat) (zs ks hs:List Int) (L:List T3) (kd:E4→Int) (e:Ending):Prop := ∃ M part,Cons kd L M∧PartsOk (fun e=>decide (kd e=0)) L part∧Bl w w'∧(((hs.length:Int)≠topP part nn+1∧e=.returned (.tuple #[.agg #[I 0,I 0,SN,SN,SN,SN],I 2]))∨((hs.length:Int)=topP part nn+1∧¬ hs.Nodup∧e=.returned (.tuple #[.agg #[I 0,I 0,SN,SN,SN,SN],I 6]))∨((hs.length:Int)=topP part nn+1∧hs.Nodup∧∃ v,e=.returned (.tuple #[v,I 0])∧StateOwn w w' W H n nn zs ks M L (plcA (pls L M nn)) (hgt hs (lbs part nn)) (.returned v)))
theorem lay_flat (w:World) (W H:Int) (a cb ah:Option Addr) (m ca n A hn hc q:Nat) (zs ks hs:List Int) (L:List T3) (kd:E4→Int) (CP:Hid (∀ V:World,Bl w V→Cl 68 #[.agg #[I W,I H,.slice a m ca,.slice cb n A]] V fun e w'=>∃ M ad cc ra rk gm cm pa pc,Cons kd L M∧e=.returned (.tuple #[.agg #[.slice ad q cc,.map (some ra),.map (some rk),.slice (Az gm) q cm,.slice pa q pc],I 0])∧PileAt w' ad cc ra rk gm cm pa pc L kd M∧Bl V w'))
  (hm:m=zs.length) (cx:q=L.length) (ct:hn=hs.length) (hz:Row w a zs) (hk:Row w cb ks) (hh:Row w ah hs) (cv:ks.length=n*5) (h1:zs.length≤17592186044416) (h2:n≤3518437208883) (ha:a=none∨∃ p off,a=Ad p off) (hb:cb=none∨∃ p off,cb=Ad p off) (cy:Steps w) (hJ:Joined L) (u:L.Nodup) (hL:L.length≤300) (cq:∀ t∈L,(0≤t.1∧t.1≤8)∧(0≤t.2.1∧t.2.1≤8)∧(0≤t.2.2∧t.2.2≤3)) :
  Cl 36 #[.agg #[I W,I H,.slice a m ca,.slice cb n A],.slice ah hn hc] w fun e w'=>LaidTo w w' W H n q zs ks hs L kd e:=by
 have HX:=H7 hm cx ct hz hk hh cv;have HY:=H4 h1 h2 ha hb;have C:Hid (Steps w∧Joined L∧L.Nodup∧L.length≤300∧∀ t∈L,(0≤t.1∧t.1≤8)∧(0≤t.2.1∧t.2.1≤8)∧(0≤t.2.2∧t.2.2≤3)):=⟨cy,hJ,u,hL,cq⟩;clear hm cx ct hz hk hh cv h1 h2 ha hb cy hJ u hL cq;go_enter Tryz.func36,Tryz.ntmps36;go_upto_region 1 with fail
 refine Qj (fun z hW0=>?_);have b6:Bl w z:=δ4;have dk:At z w.heap.size 0 (I W):=η;have dl:At z w.heap.size 1 (I H):=η;have dm:At z w.heap.size 2 (.slice a m ca):=η;have dn:At z w.heap.size 3 (.slice cb n A):=η;have dp:At z (w.heap.size+1) 0 (.slice ah hn hc):=η;have b9:At z (w.heap.size+2) 0 (I 0):=η;have bj:z.frozen? ⟨w.heap.size+2,0,none⟩=false:=η;have ei:At z (w.heap.size+2) 1 (I 0):=η;have bk:z.frozen? ⟨w.heap.size+2,1,none⟩=false:=η;have ej:At z (w.heap.size+2) 2 SN:=η;have bm:z.frozen? ⟨w.heap.size+2,2,none⟩=false:=η;have el:At z (w.heap.size+2) 3 SN:=η;have bn:z.frozen? ⟨w.heap.size+2,3,none⟩=false:=η;have en:At z (w.heap.size+2) 4 SN:=η;have bo:z.frozen? ⟨w.heap.size+2,4,none⟩=false:=η;have eo:At z (w.heap.size+2) 5 SN:=η;have bp:z.frozen? ⟨w.heap.size+2,5,none⟩=false:=η;have z0:=Bt b9;clear hW0;go_upto_region 2 with (go_at_call 68;refine (CP.out _ b6).mono ?_;rintro e w1 ⟨M,ad,cc,ra,rk,gm,cm,pa,pc,hC,rfl,cl,k⟩)
 have dq:=Qa k dk;have ds:=Qa k dl;have dt:=Qa k dm;have du:=Qa k dn;have dv:=Qa k dp;have ep:=Qa k b9;have bq:=(k.frozen (p:=⟨w.heap.size+2,0,none⟩) z0).trans bj;have er:=Qa k ei;have br:=(k.frozen (p:=⟨w.heap.size+2,1,none⟩) z0).trans bk;have es:=Qa k ej;have bs:=(k.frozen (p:=⟨w.heap.size+2,2,none⟩) z0).trans bm;have et:=Qa k el;have bt:=(k.frozen (p:=⟨w.heap.size+2,3,none⟩) z0).trans bn;have eu:=Qa k en;have f14:=(k.frozen (p:=⟨w.heap.size+2,4,none⟩) z0).trans bo;have ev:=Qa k eo;have f15:=(k.frozen (p:=⟨w.heap.size+2,5,none⟩) z0).trans bp;have z1:=Nl z0 k.size;clear dk dl dm dn dp b9 bj ei bk ej bm el bn en bo eo bp;have bh:=Hd (Qb b6 k);have HP:=H2 hC cl;clear k b6 hC cl CP;refine Qj (fun G B=>?_)
 have l:Bl w1 G:=by
  rw [B];with_reducible repeat' (first | exact Qd _ | refine Qk ?_ ?_ | refine Qc ?_)
  all_goals (dsimp only;omega)
 have b7:At G w1.heap.size 0 (.slice ad q cc):=by rw [B];simp [go_sem]
 have cz:At G w1.heap.size 1 (.map (some ra)):=by rw [B];simp [go_sem]
 have d6:At G w1.heap.size 2 (.map (some rk)):=by rw [B];simp [go_sem]
 have d7:At G w1.heap.size 3 (.slice (Az gm) q cm):=by rw [B];simp [go_sem]
 have d8:At G w1.heap.size 4 (.slice pa q pc):=by rw [B];simp [go_sem]
 have zp:=Bt b7;clear B;have dw:=Qa l dq;have dx:=Qa l ds;have dy:=Qa l dt;have dz:=Qa l du;have e3:=Qa l dv;have ew:=Qa l ep;have f20:=(l.frozen (p:=⟨w.heap.size+2,0,none⟩) z1).trans bq;have ex:=Qa l er;have f21:=(l.frozen (p:=⟨w.heap.size+2,1,none⟩) z1).trans br;have ey:=Qa l es;have f22:=(l.frozen (p:=⟨w.heap.size+2,2,none⟩) z1).trans bs;have ez:=Qa l et;have f23:=(l.frozen (p:=⟨w.heap.size+2,3,none⟩) z1).trans bt;have f5:=Qa l eu;have f24:=(l.frozen (p:=⟨w.heap.size+2,4,none⟩) z1).trans f14;have f7:=Qa l ev;have f25:=(l.frozen (p:=⟨w.heap.size+2,5,none⟩) z1).trans f15;have z2:=Nl z1 l.size;clear dq ds dt du dv ep bq er br es bs et bt eu f14 ev f15;have D:=Hd l;clear l
 have CF:Hid (Cl 69 #[.agg #[.slice ad q cc,.map (some ra),.map (some rk)]] G fun e w'=>∃ g part,e=.returned (.slice (Az g) q q)∧ZRow w' g q part∧PartsOk (fun e=>decide (kd e=0)) L part∧G.heap.size≤g∧Bl G w'):=by
  have:=pfaces_any G cc ra rk ad L kd (C.out.1.kept (Qb bh.out D.out)) (HP.out.2.tr.kept D.out) (HP.out.2.kl.kept D.out) C.out.2.2.2.1 C.out.2.2.1 C.out.2.2.2.2;rw [← HX.out.2.1] at this;exact this
 go_upto_region 5 with (go_at_call 69;refine CF.out.mono ?_;rintro e w3 ⟨g,part,rfl,hZ,co,hg,d⟩)
 have zf:G.heap.size≤w3.heap.size:=d.size;have e4:=Qa d dw;have e5:=Qa d dx;have e6:=Qa d dy;have e7:=Qa d dz;have e8:=Qa d e3;have f8:=Qa d ew;have bu:=(d.frozen (p:=⟨w.heap.size+2,0,none⟩) z2).trans f20;have f9:=Qa d ex;have bv:=(d.frozen (p:=⟨w.heap.size+2,1,none⟩) z2).trans f21;have fa:=Qa d ey;have bw:=(d.frozen (p:=⟨w.heap.size+2,2,none⟩) z2).trans f22;have fb:=Qa d ez;have bz:=(d.frozen (p:=⟨w.heap.size+2,3,none⟩) z2).trans f23;have fc:=Qa d f5;have c5:=(d.frozen (p:=⟨w.heap.size+2,4,none⟩) z2).trans f24;have fd:=Qa d f7;have c6:=(d.frozen (p:=⟨w.heap.size+2,5,none⟩) z2).trans f25;have z3:=Nl z2 d.size;clear dw dx dy dz e3 ew f20 ex f21 ey f22 ez f23 f5 f24 f7 f25;have d9:=Qa d b7;have da:=Qa d cz;have db:=Qa d d6;have dc:=Qa d d7;have dd:=Qa d d8;clear b7 cz d6 d7 d8;have F:=H4 hZ co (Qb (Qb bh.out D.out) d) (Qb D.out d);clear hZ co d CF hg D;refine Qj (fun W4 az=>?_)
 have f:Bl w3 W4:=by
  rw [az];with_reducible repeat' (first | exact Qd _ | refine Qk ?_ ?_ | refine Qc ?_)
  all_goals (dsimp only;omega)
 have b8:At W4 w3.heap.size 0 (.slice (Az g) q q):=by rw [az];simp [go_sem]
 have zq:=Bt b8;clear az;have e9:=Qa f e4;have ea:=Qa f e5;have eb:=Qa f e6;have ec:=Qa f e7;have ed:=Qa f e8;have fe:=Qa f f8;have c7:=(f.frozen (p:=⟨w.heap.size+2,0,none⟩) z3).trans bu;have ff:=Qa f f9;have c8:=(f.frozen (p:=⟨w.heap.size+2,1,none⟩) z3).trans bv;have fg:=Qa f fa;have c9:=(f.frozen (p:=⟨w.heap.size+2,2,none⟩) z3).trans bw;have fh:=Qa f fb;have cd:=(f.frozen (p:=⟨w.heap.size+2,3,none⟩) z3).trans bz;have fi:=Qa f fc;have ce:=(f.frozen (p:=⟨w.heap.size+2,4,none⟩) z3).trans c5;have fj:=Qa f fd;have cf:=(f.frozen (p:=⟨w.heap.size+2,5,none⟩) z3).trans c6;have z4:=Nl z3 f.size;clear e4 e5 e6 e7 e8 f8 bu f9 bv fa bw fb bz fc c5 fd c6;have de:=Qa f d9;have df:=Qa f da;have dg:=Qa f db;have dh:=Qa f dc;have di:=Qa f dd;clear d9 da db dc dd;have HB4:=Hd f;clear f;have h0:0<q:=by rw [HX.out.2.1];exact C.out.2.1.1
 obtain ⟨mx,a7⟩:∃ mx,mx=topP part q:=⟨_,rfl⟩;have Q:=Hd a7
 have CM:Hid (∀ V:World,Bl W4 V→Rt 70 #[.slice (Az g) q q] V (I mx)):=fun V hV=>by
  have ga:q≤300:=by rw [HX.out.2.1];exact C.out.2.2.2.1
  have:=Tryz.slices_Max_int g 0 q q ((List.range q).map part) V h0 ν γ (fun j hj=>by
     have cu:j<q:=by simpa using hj
     rw [Nat.zero_add,Qa (Qb HB4.out hV) (F.out.1 j cu).1];simp [cu])
  refine this.mono ?_;rintro e w' ⟨rfl,rfl⟩;rw [List.take_of_length_le ν];exact ⟨by rw [a7];rfl,Qd _⟩
 have fm:0≤mx∧mx≤299:=by
  have:=topP_bd F.out.2.1 (by rw [← HX.out.2.1];exact h0) C.out.2.2.2.1;rw [a7,HX.out.2.1];exact this
 clear a7;obtain ⟨fx,fy⟩:=fm;have zA:w.heap.size+1<W4.heap.size:=γ;obtain ⟨kc,kn⟩:=kcn W4;refine wk ?_;repeat (go_big_quiet_step ((go_at_call 70;exact Qm (CM.out _ (Kin.h _)))))
 refine wpQuiet_nil ?_;intro wq fo;obtain ⟨nq,ap⟩:=fo;have c:Bl W4 wq:=ap ▸ nq.h;clear ap nq kc kn CM;have af:=Qa c b8;clear b8;have J:=Qa c e9;have K:=Qa c ea;have N:=Qa c eb;have O:=Qa c ec;have P:=Qa c ed;have ai:=Qa c fe;have f50:=(c.frozen (p:=⟨w.heap.size+2,0,none⟩) z4).trans c7;have aj:=Qa c ff;have R:=(c.frozen (p:=⟨w.heap.size+2,1,none⟩) z4).trans c8;have ak:=Qa c fg;have T:=(c.frozen (p:=⟨w.heap.size+2,2,none⟩) z4).trans c9;have am:=Qa c fh;have U:=(c.frozen (p:=⟨w.heap.size+2,3,none⟩) z4).trans cd;have an:=Qa c fi;have X:=(c.frozen (p:=⟨w.heap.size+2,4,none⟩) z4).trans ce;have ao:=Qa c fj;have Y:=(c.frozen (p:=⟨w.heap.size+2,5,none⟩) z4).trans cf;have z5:=Nl z4 c.size;clear e9 ea eb ec ed fe c7 ff c8 fg c9 fh cd fi ce fj cf;have a8:=Qa c de;have aa:=Qa c df;have ab:=Qa c dg;have ac:=Qa c dh;have ae:=Qa c di;clear de df dg dh di;have E:=H3 (Qb F.out.2.2.1 (Qb HB4.out c)) (Qb F.out.2.2.2 (Qb HB4.out c)) (Qb HB4.out c);clear c;by_cases hlen:(hn:Int)=mx+1
 ·have HN:=Hd hlen
  have b5:0<hs.length∧hs.length≤300:=by
   have:=HX.out.2.2.1;omega
  obtain ⟨gh,oh,fk⟩:=row_some HX.out.2.2.2.2.2.1 b5.1;subst fk;have HH:=Hd b5;clear b5
  have CT:Hid (Rt 71 #[.slice (Ad gh oh) hn hc] wq (.bool (decide (¬ hs.Nodup)))):=by
   have:=twice_any wq (Ad gh oh) hc hs HH.out.1 HH.out.2 (HX.out.2.2.2.2.2.1.kept E.out.1);rw [← HX.out.2.2.1] at this;exact this
  by_cases u:hs.Nodup
  ·have e0:decide (¬ hs.Nodup)=false:=by simp [u]
   rw [e0] at CT;have HD:=Hd u;clear e0 u;go_upto_region 9 with (go_at_call 71;refine CT.out.mono ?_;rintro e w6 ⟨rfl,b⟩)
   have dj:=Qa b af;have ee:=Qa b J;have ef:=Qa b K;have eg:=Qa b N;have eh:=Qa b O;have ag:=Qa b P;have ba:=Qa b ai;have aq:=(b.frozen (p:=⟨w.heap.size+2,0,none⟩) z5).trans f50;have bb:=Qa b aj;have ar:=(b.frozen (p:=⟨w.heap.size+2,1,none⟩) z5).trans R;have bc:=Qa b ak;have au:=(b.frozen (p:=⟨w.heap.size+2,2,none⟩) z5).trans T;have be:=Qa b am;have av:=(b.frozen (p:=⟨w.heap.size+2,3,none⟩) z5).trans U;have bf:=Qa b an;have aw:=(b.frozen (p:=⟨w.heap.size+2,4,none⟩) z5).trans X;have bg:=Qa b ao;have ax:=(b.frozen (p:=⟨w.heap.size+2,5,none⟩) z5).trans Y;have z6:=Nl z5 b.size;clear J K N O P ai f50 aj R ak T am U an X ao Y;have gb:=Qa b a8;have gc:=Qa b aa;have ge:=Qa b ab;have gg:=Qa b ac;have gi:=Qa b ae;clear a8 aa ab ac ae;have r:=H3 (Qb E.out.1 b) (Qb E.out.2.1 b) (Qb E.out.2.2 b);have bi:=H2 dj ag;clear b CT af dj ag
   have CS:Hid (Cl 33 #[.agg #[.slice ad q cc,.map (some ra),.map (some rk),.slice (Az gm) q cm,.slice pa q pc],.agg #[I W,I H,.slice a m ca,.slice cb n A],.func (.func 72) #[] #[.pointer (Az (w.heap.size+1)),.pointer (Az w3.heap.size)]] w6 fun e w'=>StateOwn w6 w' W H n q zs ks M L (plcA (pls L M q)) (hgt hs (lbs part q)) e):=by
    have ay:=HP.out.2.kept r.out.2.1
    have cw:∀ i,i<L.length→part i<hs.length:=fun i hi=>by
     have e1:=topP_le (part:=part) hi;have e2:=HN.out;rw [Q.out,HX.out.2.1,HX.out.2.2.1] at e2;omega
    have fl:∀ j∈lbs part L.length,j<hs.length:=fun j hj=>by
     obtain ⟨i,hi,rfl⟩:=List.mem_map.1 hj;have e1:=cw i (by simpa using hi);have e2:=F.out.2.1.1 i (by simpa using hi);omega
    have:=state_own w6 W H a cb ca A n zs ks ad pa cc ra rk gm cm pc M L (pls L M L.length) (.func (.func 72) #[] #[.pointer (Az (w.heap.size+1)),.pointer (Az w3.heap.size)]) (hgt hs (lbs part L.length)) (HX.out.2.2.2.1.kept r.out.1) (HX.out.2.2.2.2.1.kept r.out.1) HX.out.2.2.2.2.2.2 HY.out.1 HY.out.2.1 HY.out.2.2.1 HY.out.2.2.2 (Qu _ _ _) ay.tr.1 ay.pl ay.mr C.out.2.1.1 C.out.2.2.2.1
     (fun V hV=>Zt V L.length _ (hgt hs (lbs part L.length)) (fun W' Z x y hx hy=>Ut W' (w.heap.size+1) w3.heap.size gh oh hc g 0 q x y hs (lbs part L.length) ⟨by rw [← HX.out.2.2.1];exact Qa (Qb hV Z) bi.out.2,by rw [Gr,← HX.out.2.1];exact Qa (Qb hV Z) bi.out.1,HX.out.2.2.2.2.2.1.kept (Qb r.out.1 (Qb hV Z)),(zrow_nrow (by rw [← HX.out.2.1];exact F.out.1) F.out.2.1.1).kept (Qb r.out.2.2 (Qb hV Z))⟩ (by rw [Gr];exact hx) (by rw [Gr];exact hy) fl (by rw [Gr];exact C.out.2.2.2.1) HH.out.2))
     (faces_dis HP.out.1 C.out.2.1 C.out.2.2.1 C.out.2.2.2.1 C.out.2.2.2.2 F.out.2.1 cw HD.out)
    rw [← HX.out.1,← HX.out.2.1] at this;exact this
   go_wp2_with (go_at_call 33;refine CS.out.mono ?_;rintro e w7 ⟨a1,k1,a2,k2,g1,c1,t1,u1,Hp,rfl,cg,ch,cj,a6,ci,cp,o⟩;have s:=H7 cg ch cj a6 ci cp o;have gj:=Qa o ba;have fp:=(o.frozen (p:=⟨w.heap.size+2,0,none⟩) z6).trans aq;have gk:=Qa o bb;have fq:=(o.frozen (p:=⟨w.heap.size+2,1,none⟩) z6).trans ar;have gn:=Qa o bc;have ft:=(o.frozen (p:=⟨w.heap.size+2,2,none⟩) z6).trans au;have gp:=Qa o be;have fu:=(o.frozen (p:=⟨w.heap.size+2,3,none⟩) z6).trans av;have gq:=Qa o bf;have fv:=(o.frozen (p:=⟨w.heap.size+2,4,none⟩) z6).trans aw;have gs:=Qa o bg;have fw:=(o.frozen (p:=⟨w.heap.size+2,5,none⟩) z6).trans ax;have z7:=Nl z6 o.size;clear  ba aq bb ar bc au be av bf aw bg ax;clear cg ch cj a6 ci cp o)
   refine bodyPost_ret (v:=.tuple #[.agg #[I W,I H,.slice a1 zs.length k1,.slice a2 n k2,.slice (Az g1) q c1,.slice t1 Hp.length u1],I 0]) (by simp [results,Tryz.results36,go_sem, *]) rfl ⟨M,part,HP.out.1,F.out.2.1, ?_,Or.inr (Or.inr ⟨?_,HD.out,_,rfl,a1,k1,a2,k2,g1,c1,t1,u1,Hp,rfl, ?_, ?_, ?_, ?_,s.out.2.2.2.2.1, ?_, ?_⟩)⟩
   ·with_reducible repeat' (first | exact Qb r.out.1 s.out.2.2.2.2.2.2 | refine Qk ?_ ?_ | refine Qe ?_ | refine Qc ?_)
    all_goals (dsimp only;omega)
   ·rw [← Q.out,← HX.out.2.2.1];exact HN.out
   ·refine Jo (b1:=w6.heap.size) ?_ γ;with_reducible repeat (refine Qx ?_ γ)
    exact s.out.1
   ·refine Jo (b1:=w6.heap.size) ?_ γ;with_reducible repeat (refine Qx ?_ γ)
    exact s.out.2.1
   ·have a6:=s.out.2.2.2.1;with_reducible repeat (refine MRow.set ?_ γ)
    exact s.out.2.2.1
   ·have a6:=s.out.2.2.2.1;omega
   ·refine SRowF.low (base:=w6.heap.size) ?_ γ;with_reducible repeat (refine SRowF.set ?_ θ)
    exact s.out.2.2.2.2.2.1
   ·with_reducible repeat' (first | exact Qb r.out.1 s.out.2.2.2.2.2.2 | refine Qk ?_ ?_ | refine Qe ?_ | refine Qc ?_)
    all_goals (dsimp only;omega)
  ·have e0:decide (¬ hs.Nodup)=true:=by simp [u]
   rw [e0] at CT;have HD:=Hd u;clear e0 u;go_upto_region 8 with (go_at_call 71;refine CT.out.mono ?_;rintro e w6 ⟨rfl,b⟩)
   have ee:=Qa b J;have ef:=Qa b K;have eg:=Qa b N;have eh:=Qa b O;have ag:=Qa b P;have ba:=Qa b ai;have aq:=(b.frozen (p:=⟨w.heap.size+2,0,none⟩) z5).trans f50;have bb:=Qa b aj;have ar:=(b.frozen (p:=⟨w.heap.size+2,1,none⟩) z5).trans R;have bc:=Qa b ak;have au:=(b.frozen (p:=⟨w.heap.size+2,2,none⟩) z5).trans T;have be:=Qa b am;have av:=(b.frozen (p:=⟨w.heap.size+2,3,none⟩) z5).trans U;have bf:=Qa b an;have aw:=(b.frozen (p:=⟨w.heap.size+2,4,none⟩) z5).trans X;have bg:=Qa b ao;have ax:=(b.frozen (p:=⟨w.heap.size+2,5,none⟩) z5).trans Y;have z6:=Nl z5 b.size;clear J K N O P ai f50 aj R ak T am U an X ao Y;have r:=Hd (Qb E.out.1 b);clear a8 aa ab ac ae ee ef eg eh ag af b CT;go_wp2;refine bodyPost_ret (v:=.tuple #[.agg #[I 0,I 0,SN,SN,SN,SN],I 6]) (by simp [results,Tryz.results36,go_sem, *]) rfl ⟨M,part,HP.out.1,F.out.2.1, ?_,Or.inr (Or.inl ⟨?_,HD.out,rfl⟩)⟩
   ·with_reducible repeat' (first | exact r.out | refine Qk ?_ ?_ | refine Qe ?_ | refine Qc ?_)
    all_goals (dsimp only;omega)
   ·rw [← Q.out,← HX.out.2.2.1];exact HN.out
 ·have HN:=Hd hlen;clear a8 aa ab ac ae J K N O P af;go_wp2;refine bodyPost_ret (v:=.tuple #[.agg #[I 0,I 0,SN,SN,SN,SN],I 2]) (by simp [results,Tryz.results36,go_sem, *]) rfl ⟨M,part,HP.out.1,F.out.2.1, ?_,Or.inl ⟨?_,rfl⟩⟩
  ·with_reducible repeat' (first | exact E.out.1 | refine Qk ?_ ?_ | refine Qe ?_ | refine Qc ?_)
   all_goals (dsimp only;omega)
  ·rw [← Q.out,← HX.out.2.2.1];exact HN.out
theorem lay_any (W H b off c n a j:Nat) (f o:Option Addr) (zs d hs:List Int) (w:World) (hr:Row w (Ad b off) zs) (q:1≤W∧W≤8) (r:1≤H∧H≤8) (hl:zs.length=W*H) (K:maskB zs=true) (C:Row w f d) (D:d.length=n*5) (l:n≤3518437208883) (s:f=none∨∃ p off,f=Ad p off) (m:Steps w) (z:Joined (ty zs W H)) (G:∀ i,i<n→CrOk (ty zs W H) d i) (J:Row w o hs) :
  Cl 36 #[.agg #[I (W:Int),I (H:Int),.slice (Ad b off) zs.length c,.slice f n a],.slice o hs.length j] w fun e w'=>LaidTo w w' W H n (ty zs W H).length zs d hs (ty zs W H) (kdn d n) e∨((¬ ∃ N,Cons (kdn d n) (ty zs W H) N)∧e=.returned (.tuple #[.agg #[I 0,I 0,SN,SN,SN,SN],I 8])∧Bl w w'):=by
 have A:∀ V:World,Bl w V→Cl 68 #[.agg #[I (W:Int),I (H:Int),.slice (Ad b off) zs.length c,.slice f n a]] V fun e w'=>PlacedTo (kdn d n) (ty zs W H) V w' e:=fun V g=>placed_yes W H b off c n a f zs d V (hr.kept g) q r hl K (C.kept g) D l (m.kept g) z G;have k:(ty zs W H).length≤300:=by have:=Vi zs W H q.2;omega
 have t:zs.length≤17592186044416:=by rw [hl];exact Nt (Nat.mul_le_mul q.2 r.2) τ
 by_cases hN:∃ N,Cons (kdn d n) (ty zs W H) N
 ·refine (lay_flat w W H (Ad b off) f o zs.length c n a hs.length j (ty zs W H).length zs d hs (ty zs W H) (kdn d n) (fun V g=>(A V g).mono ?_) rfl rfl rfl hr C J D t l (Or.inr ⟨b,off,rfl⟩) s m z (Yf zs W H) k (ty_bd (zs:=zs) q.2 r.2)).mono fun e w' h=>Or.inl h;rintro e w' ⟨hb,⟨M,u,v,E,F,y,x,pa,pc,j,B,hp⟩ | ⟨h1,_⟩⟩
  ·exact ⟨M,u,v,E,F,y,x,pa,pc,j,B,hp,hb⟩
  ·exact absurd hN h1
 ·refine (lay_tear w W H (Ad b off) f o zs.length c n a hs.length j (fun V g=>(A V g).mono ?_)).mono fun e w' h=>Or.inr ⟨hN,h⟩;rintro e w' ⟨hb,⟨M,u,v,E,F,y,x,pa,pc,j,B,hp⟩ | ⟨_,h1⟩⟩
  ·exact absurd ⟨M,j⟩ hN
  ·exact ⟨h1,hb⟩
end Go.Proofs.YtbjmnlefkbhbdaaGreatDoor
