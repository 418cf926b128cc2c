/- A part of it. -/
import Derived.Test.YtjkjpopghkeibaaGreatDoorQlay
set_option maxRecDepth 100000
set_option maxHeartbeats 40000000
namespace Go.Proofs.YtjkjpopghkeibaaGreatDoor
open Go.RowKit
variable {w w':World} {a b base c d e f g i m n pc:Nat} {pa:Option Addr}
theorem met_on (w:World) (base n cc ra rk gm cm pc:Nat) (ad pa a0 a1 L a3:Option Addr) (c0 c1 c2 c3:Nat) (p q r s A B C E:Int) (i j a6:Nat) (D:MD) (hO:Ow w base (.slice a0 D.a0.length c0) (.slice a1 D.b0.length c1) (.slice L D.a1.length c2) (.slice a3 D.b1.length c3) D) (hb:base≤w.heap.size) (hn:a6=0∨a6=1) (h1:D.a0.length≤100000000) (h2:D.a1.length≤100000000)
  (CS:Hid (∀ V:World,Bl w V→Rt 142 #[.agg #[.slice ad n cc,.map (some ra),.map (some rk),.slice (Az gm) n cm,.slice pa n pc],.agg #[I p,I q,I r,I s],I (i:Int)] V (I (a6:Int))))
  (CK:Hid (∀ V:World,Bl w V→Rt 48 #[.agg #[.slice ad n cc,.map (some ra),.map (some rk)],.agg #[I A,I B,I C,I E]] V (I 0))) :
  Cl 104 #[.agg #[.slice ad n cc,.map (some ra),.map (some rk),.slice (Az gm) n cm,.slice pa n pc],.agg #[.slice a0 D.a0.length c0,.slice a1 D.b0.length c1,.slice L D.a1.length c2,.slice a3 D.b1.length c3],.agg #[I p,I q,I r,I s],I (i:Int),.agg #[I A,I B,I C,I E,I (j:Int)]] w fun e w'=>MtTo w w' base (.slice a0 D.a0.length c0) (.slice a1 D.b0.length c1) (.slice L D.a1.length c2) (.slice a3 D.b1.length c3) (mtO D a6 i j) e:=by
 have G:=H2 hO hb;obtain ⟨i3,hi,be,bf,bg⟩:=info_parts inf3;have X:=H4 hi be bf bg;clear hO hb hi be bf bg;go_enter Tryz.func104,Tryz.ntmps104;go_upto_region 1 with fail
 refine Qi (fun x hW0=>?_)
 have az:Hid (Bl w x):=by
  rw [hW0];exact Qb β4
 have p0:At x w.heap.size 0 (.slice ad n cc):=ν;have p1:At x w.heap.size 1 (.map (some ra)):=ν;have p2:At x w.heap.size 2 (.map (some rk)):=ν;have p3:At x w.heap.size 3 (.slice (Az gm) n cm):=ν;have p4:At x w.heap.size 4 (.slice pa n pc):=ν;have m0:At x (w.heap.size+1) 0 (.slice a0 D.a0.length c0):=ν;have m1:At x (w.heap.size+1) 1 (.slice a1 D.b0.length c1):=ν;have m2:At x (w.heap.size+1) 2 (.slice L D.a1.length c2):=ν;have m3:At x (w.heap.size+1) 3 (.slice a3 D.b1.length c3):=ν;have jt:At x (w.heap.size+1+1+1) 4 (I (j:Int)):=ν;have r0:At x (w.heap.size+1+1+1+1) 0 SN:=ν;have r1:At x (w.heap.size+1+1+1+1) 1 SN:=ν;have r2:At x (w.heap.size+1+1+1+1) 2 SN:=ν;have r3:At x (w.heap.size+1+1+1+1) 3 SN:=ν;have f0:x.frozen? ⟨w.heap.size+1+1+1+1,0,none⟩=false:=ν;have g0:x.frozen? ⟨w.heap.size+1,0,none⟩=false:=ν;have f1:x.frozen? ⟨w.heap.size+1+1+1+1,1,none⟩=false:=ν;have g1:x.frozen? ⟨w.heap.size+1,1,none⟩=false:=ν;have f2:x.frozen? ⟨w.heap.size+1+1+1+1,2,none⟩=false:=ν;have g2:x.frozen? ⟨w.heap.size+1,2,none⟩=false:=ν;have f3:x.frozen? ⟨w.heap.size+1+1+1+1,3,none⟩=false:=ν;have g3:x.frozen? ⟨w.heap.size+1,3,none⟩=false:=ν;have q0:At x (w.heap.size+1+1) 0 (I p):=ν;have q1:At x (w.heap.size+1+1) 1 (I q):=ν;have q2:At x (w.heap.size+1+1) 2 (I r):=ν;have q3:At x (w.heap.size+1+1) 3 (I s):=ν;have j0:At x (w.heap.size+1+1+1) 0 (I A):=ν;have j1:At x (w.heap.size+1+1+1) 1 (I B):=ν;have j2:At x (w.heap.size+1+1+1) 2 (I C):=ν;have j3:At x (w.heap.size+1+1+1) 3 (I E):=ν;have z0:x.heap.size=w.heap.size+5:=by rw [hW0];simp
 clear hW0;have bc:Hid (∀ V:World,Bl x V→Rt 142 #[.agg #[.slice ad n cc,.map (some ra),.map (some rk),.slice (Az gm) n cm,.slice pa n pc],.agg #[I p,I q,I r,I s],I (i:Int)] V (I (a6:Int))):=fun V hV=>CS.out V (Qc az.out hV);have bb:Hid (∀ V:World,Bl x V→Rt 48 #[.agg #[.slice ad n cc,.map (some ra),.map (some rk)],.agg #[I A,I B,I C,I E]] V (I 0)):=fun V hV=>CK.out V (Qc az.out hV);obtain ⟨kc,kn⟩:=kcn x;have y0:w.heap.size<x.heap.size:=γ;have y1:w.heap.size+1+1<x.heap.size:=γ;have y2:w.heap.size+1+1+1<x.heap.size:=γ;refine wk ?_;repeat (go_big_quiet_step ((first | (go_at_call 142;exact Qf (bc.out _ (Kin.h _))) | (go_at_call 48;exact Qf (bb.out _ (Kin.h _))) | fail)))
 refine kq1 (fun y hq=>?_);clear kc kn bc bb CS CK q0 q1 q2 q3 j0 j1 j2 j3;replace p0:=Qa hq p0;replace p1:=Qa hq p1;replace p2:=Qa hq p2;replace p3:=Qa hq p3;replace p4:=Qa hq p4;replace m0:=Qa hq m0;replace m1:=Qa hq m1;replace m2:=Qa hq m2;replace m3:=Qa hq m3;replace jt:=Qa hq jt;replace r0:=Qa hq r0;replace r1:=Qa hq r1;replace r2:=Qa hq r2;replace r3:=Qa hq r3;replace f0:Fn y (w.heap.size+1+1+1+1) 0:=(hq.frozen θ).trans f0;replace g0:Fn y (w.heap.size+1) 0:=(hq.frozen θ).trans g0;replace f1:Fn y (w.heap.size+1+1+1+1) 1:=(hq.frozen θ).trans f1;replace g1:Fn y (w.heap.size+1) 1:=(hq.frozen θ).trans g1;replace f2:Fn y (w.heap.size+1+1+1+1) 2:=(hq.frozen θ).trans f2;replace g2:Fn y (w.heap.size+1) 2:=(hq.frozen θ).trans g2;replace f3:Fn y (w.heap.size+1+1+1+1) 3:=(hq.frozen θ).trans f3;replace g3:Fn y (w.heap.size+1) 3:=(hq.frozen θ).trans g3;have M:=Hd (Qc az.out hq);have zq:w.heap.size+5≤y.heap.size:=by have:=hq.size;omega
 have zb:w.heap.size+1<y.heap.size:=γ;have zc:w.heap.size+1<y.heap.size+1:=γ;clear hq az z0 y0 y1 y2;rcases hn with rfl | rfl
 ·have K:(y.alloc (.cells #[I (i:Int)] 3)).ownsRow base 3 1 (.slice a0 D.a0.length c0) D.a0.length (nV D.a0):=Qj G.out.1.o0 (Qb M.out);have Q:Hid ((y.alloc (.cells #[I (i:Int)] 3)).ownsRow base 3 1 (.slice a0 D.a0.length c0) D.a0.length (nV D.a0)∧base≤(y.alloc (.cells #[I (i:Int)] 3)).heap.size):=⟨K,by have:=(Qb (o:=.cells #[I (i:Int)] 3) M.out).size;have:=G.out.2;omega⟩
  have aj:∀ b,w.heap.size≤b→some b≠(Value.slice a0 D.a0.length c0).ownBlock:=fun b hb e=>by
   have:=(G.out.1.o0.lt b e.symm).2;omega
  have f:=Hd aj;clear K aj;go_upto_region 6 with (at_builtin;refine wpList_append_lies _ rfl (.tmp 44) (.tmp 46) 22 rfl base 3 i3 (I 0) 1 8 Tryz.underlying22 X.out.1 X.out.2.1 X.out.2.2.1 X.out.2.2.2 rfl ψ (.slice a0 D.a0.length c0) D.a0.length (nV D.a0) rfl Q.out.1 ⟨y.heap.size,0,none⟩ 1 1 [I (i:Int)] rfl rfl (Yd _ δ) (Xx _) ψ Ξ γ Q.out.2 (y.heap.size+1) ξ ?_;rintro g7 c7 w5 ak U ah ai;have HG:=H3 ak U ah;have b7:At w5 (w.heap.size+1) 0 (.slice a0 D.a0.length c0):=U.cell (Qk m0) (f.out _ θ);have bh:Fn w5 (w.heap.size+1) 0:=(Fo (U.block (w.heap.size+1) ω (f.out _ γ))).trans (((Qb (Qe y)).frozen θ).trans g0);have ez:=Bt b7;clear ak U ah)
  refine Qi (fun l c=>?_);have d:=HG.out.2.1;have x0:At l (w.heap.size+1) 0 (.slice (Az g7) (D.a0.length+1) c7):=by rw [c];exact Cs _ _ _ b7
  have x1:At l (w.heap.size+1) 1 (.slice a1 D.b0.length c1):=by rw [c];exact (Co _ _ _ _ ξ).trans (d.cell (Qk m1) (f.out _ θ))
  have x2:At l (w.heap.size+1) 2 (.slice L D.a1.length c2):=by rw [c];exact (Co _ _ _ _ ξ).trans (d.cell (Qk m2) (f.out _ θ))
  have x3:At l (w.heap.size+1) 3 (.slice a3 D.b1.length c3):=by rw [c];exact (Co _ _ _ _ ξ).trans (d.cell (Qk m3) (f.out _ θ))
  have xj:At l (w.heap.size+1+1+1) 4 (I (j:Int)):=by rw [c];exact (World.cell?_setCell_far _ _ _ _ θ).trans (d.cell (Qk jt) (f.out _ θ))
  have av:At l (w.heap.size+1+1+1+1) 0 SN:=by rw [c];exact (World.cell?_setCell_far _ _ _ _ θ).trans (d.cell (Qk r0) (f.out _ θ))
  have an:l.frozen? ⟨w.heap.size+1+1+1+1,0,none⟩=false:=by rw [c,Fz];exact (Fo (d.block (w.heap.size+1+1+1+1) ω (f.out _ γ))).trans (((Qb (Qe y)).frozen θ).trans f0)
  have aw:At l (w.heap.size+1+1+1+1) 1 SN:=by rw [c];exact (World.cell?_setCell_far _ _ _ _ θ).trans (d.cell (Qk r1) (f.out _ θ))
  have ao:l.frozen? ⟨w.heap.size+1+1+1+1,1,none⟩=false:=by rw [c,Fz];exact (Fo (d.block (w.heap.size+1+1+1+1) ω (f.out _ γ))).trans (((Qb (Qe y)).frozen θ).trans f1)
  have ax:At l (w.heap.size+1+1+1+1) 2 SN:=by rw [c];exact (World.cell?_setCell_far _ _ _ _ θ).trans (d.cell (Qk r2) (f.out _ θ))
  have ap:l.frozen? ⟨w.heap.size+1+1+1+1,2,none⟩=false:=by rw [c,Fz];exact (Fo (d.block (w.heap.size+1+1+1+1) ω (f.out _ γ))).trans (((Qb (Qe y)).frozen θ).trans f2)
  have ay:At l (w.heap.size+1+1+1+1) 3 SN:=by rw [c];exact (World.cell?_setCell_far _ _ _ _ θ).trans (d.cell (Qk r3) (f.out _ θ))
  have aq:l.frozen? ⟨w.heap.size+1+1+1+1,3,none⟩=false:=by rw [c,Fz];exact (Fo (d.block (w.heap.size+1+1+1+1) ω (f.out _ γ))).trans (((Qb (Qe y)).frozen θ).trans f3)
  have xg:l.frozen? ⟨w.heap.size+1,2,none⟩=false:=by rw [c,Fz];exact (Fo (d.block (w.heap.size+1) ω (f.out _ γ))).trans (((Qb (Qe y)).frozen θ).trans g2)
  have HX:Hid (Sam w5 l (fun k=>k=w.heap.size+1)):=by rw [c];exact Sam.set _ _ _ _
  have HY:Hid (Sam w w5 (fun k=>(Value.slice a0 D.a0.length c0).ownBlock=some k)):=(Sam.below (R:=fun k=>(Value.slice a0 D.a0.length c0).ownBlock=some k) (Qb M.out)).then (Sam.grown d) fun k _ h=>h;have b5:Hid (Below base w w5):=((Qb (o:=.cells #[I (i:Int)] 3) M.out).mono G.out.2).grown d Q.out.2 (Qw G.out.1.o0);have b6:Hid (Below base w l):=by rw [c];exact b5.out.setCell (p:=⟨w.heap.size+1,0,none⟩) (by have:=G.out.2;dsimp only;omega) _
  have z5:y.heap.size+1≤w5.heap.size:=by have:=d.size;simpa using this
  have bt:w5.heap.size≤l.heap.size:=HX.out.size;have bu:g7<w5.heap.size:=ai;have am:l.ownsRow base 3 1 (.slice L D.a1.length c2) D.a1.length (nV D.a1):=(HY.out.then HX.out fun k hk e=>by omega).own G.out.1.o2 fun g e q=>G.out.1.d0 g q e;have af:=Hd am
  have Y:∀ b,w.heap.size≤b→some b≠(Value.slice L D.a1.length c2).ownBlock:=fun b hb e=>by
   have:=(G.out.1.o2.lt b e.symm).2;omega
  have J:=Hd Y;clear d c am Y b7 bh p0 p1 p2 p3 p4 m0 m1 m2 m3 jt r0 r1 r2 r3 f0 g0 f1 g1 f2 g2 f3 g3 M Q f;have HS:Hid (∀ V:World,Bl l V→(fun w'=>At w' (w.heap.size+1) 0 (.slice (Az g7) (D.a0.length+1) c7)∧At w' (w.heap.size+1) 1 (.slice a1 D.b0.length c1)∧At w' (w.heap.size+1) 2 (.slice L D.a1.length c2)∧At w' (w.heap.size+1) 3 (.slice a3 D.b1.length c3)∧At w' (w.heap.size+1+1+1) 4 (I (j:Int))) V):=fun V hV=>⟨Qa hV x0,Qa hV x1,Qa hV x2,Qa hV x3,Qa hV xj⟩;refine Jz (S:=fun w'=>At w' (w.heap.size+1) 0 (.slice (Az g7) (D.a0.length+1) c7)∧At w' (w.heap.size+1) 1 (.slice a1 D.b0.length c1)∧At w' (w.heap.size+1) 2 (.slice L D.a1.length c2)∧At w' (w.heap.size+1) 3 (.slice a3 D.b1.length c3)∧At w' (w.heap.size+1+1+1) 4 (I (j:Int))) (late:=fun j=>decide (j=13)) η ?_;have t:=HS.out _ (Qg (Qe l));refine Lkd 0 (I 0) t ?_;refine Lkd 1 (I 1) t ?_;refine Lkd 2 (I 0) t ?_;refine Lkd 3 (I 1) t ?_;refine Lkd 4 (.pointer (Ad (w.heap.size+1) 2)) t ?_;refine Lkd 5 (.pointer (Ad (w.heap.size+1) 2)) t ?_;refine Lkd 6 (.slice L D.a1.length c2) t ?_;refine Lkd 7 (.pointer (Ad (w.heap.size+1+1+1) 4)) t ?_;refine Lkd 8 (I (j:Int)) t ?_;refine Lt.one (i:=9) η rfl rfl ?_;go_simp;refine ⟨HS.out (l.alloc (.cells #[I (j:Int)] 3)) β1, ?_⟩;have F:Bl l ((l.alloc (.cells #[I (j:Int)] 3)).drew):=Qg β1;obtain ⟨u8,W,hr,ab,H,ba,Z⟩:=run_append_own_at (P:=Tryz.prog) ((l.alloc (.cells #[I (j:Int)] 3)).drew) base 22 22 3 i3 (I 0) 1 8 Tryz.underlying22 X.out.1 X.out.2.1 X.out.2.2.1 X.out.2.2.2 rfl ψ (.slice L D.a1.length c2) D.a1.length (nV D.a1) (Qj af.out F) ⟨l.heap.size,0,none⟩ 1 1 [I (j:Int)] rfl (Yd _ δ) (Xx _) Ξ γ (by have:=F.size;have:=G.out.2;omega);obtain ⟨a8,c8,rfl,_⟩:=Xi ab;have N:∀ (a:Addr) (u:Value),w.heap.size≤a.block→l.cell? a=some u→W.cell? a=some u:=fun a u hl hc=>H.cell (w:=((l.alloc (.cells #[I (j:Int)] 3)).drew)) (Qq (Qk hc)) (J.out _ hl);have a7:=N _ _ θ x0;have ac:=N _ _ θ x1;have aa:=N _ _ θ x2;have ae:=N _ _ θ x3;have au:=N _ _ θ xj;have O:(fun w'=>At w' (w.heap.size+1) 0 (.slice (Az g7) (D.a0.length+1) c7)∧At w' (w.heap.size+1) 1 (.slice a1 D.b0.length c1)∧At w' (w.heap.size+1) 2 (.slice L D.a1.length c2)∧At w' (w.heap.size+1) 3 (.slice a3 D.b1.length c3)∧At w' (w.heap.size+1+1+1) 4 (I (j:Int))) W:=⟨a7,ac,aa,ae,au⟩;have fy:∀ b o,w.heap.size≤b→b<l.heap.size→Fn l b o→Fn W b o:=fun b o hl b9 hc=>(Fo (H.block b ω (J.out _ hl))).trans ((F.frozen (p:=⟨b,o,none⟩) b9).trans hc);have z8:l.heap.size+1≤W.heap.size:=by have:=H.size;simpa using this
  try simp only [Ap]
  refine Lt.one (i:=10) η rfl rfl ?_;refine Je (.tmp 56) (.tmp 59) 22 rfl _ _ (.slice a8 (D.a1.length+1) c8) W rfl rfl hr ?_;refine ⟨fun _=>O, ?_⟩;try simp only [Ap]
  refine Lkd 11 (.pointer (Ad (w.heap.size+1) 2)) O ?_;refine Lkd 12 (.pointer (Ad (w.heap.size+1) 2)) O ?_;have ar:=fy _ _ γ γ xg;refine Lt.one (i:=13) η rfl rfl ?_;refine Zw (w':=W.setCell ⟨w.heap.size+1,2,none⟩ (.slice a8 (D.a1.length+1) c8)) (by first | go_simp | simp [go_sem,aa,ar]) ?_;refine ⟨fun h=>absurd h ψ, ?_⟩;try simp only [Ap]
  refine Lt.done η ?_;go_upto_region 7 with fail
  refine Qi (fun z m=>?_);have v0:At z (w.heap.size+1) 0 (.slice (Az g7) (D.a0.length+1) c7):=by rw [m];exact (Co _ _ _ _ ξ).trans a7
  have v1:At z (w.heap.size+1) 1 (.slice a1 D.b0.length c1):=by rw [m];exact (Co _ _ _ _ ξ).trans ac
  have v2:At z (w.heap.size+1) 2 (.slice a8 (D.a1.length+1) c8):=by rw [m];exact Cs _ _ _ aa
  have v3:At z (w.heap.size+1) 3 (.slice a3 D.b1.length c3):=by rw [m];exact (Co _ _ _ _ ξ).trans ae
  have bp:At z (w.heap.size+1+1+1+1) 0 SN:=by rw [m];exact (World.cell?_setCell_far _ _ _ _ θ).trans (N _ _ θ av)
  have bk:z.frozen? ⟨w.heap.size+1+1+1+1,0,none⟩=false:=by rw [m,Fz];exact fy _ _ γ γ an
  have bq:At z (w.heap.size+1+1+1+1) 1 SN:=by rw [m];exact (World.cell?_setCell_far _ _ _ _ θ).trans (N _ _ θ aw)
  have bm:z.frozen? ⟨w.heap.size+1+1+1+1,1,none⟩=false:=by rw [m,Fz];exact fy _ _ γ γ ao
  have br:At z (w.heap.size+1+1+1+1) 2 SN:=by rw [m];exact (World.cell?_setCell_far _ _ _ _ θ).trans (N _ _ θ ax)
  have bn:z.frozen? ⟨w.heap.size+1+1+1+1,2,none⟩=false:=by rw [m,Fz];exact fy _ _ γ γ ap
  have bs:At z (w.heap.size+1+1+1+1) 3 SN:=by rw [m];exact (World.cell?_setCell_far _ _ _ _ θ).trans (N _ _ θ ay)
  have bo:z.frozen? ⟨w.heap.size+1+1+1+1,3,none⟩=false:=by rw [m,Fz];exact fy _ _ γ γ aq
  have ag:Hid (Sam W z (fun k=>k=w.heap.size+1)):=by rw [m];exact Sam.set _ _ _ _
  have T:Hid (Sam l W (fun k=>(Value.slice L D.a1.length c2).ownBlock=some k)∧W.ownsRow base 3 1 (.slice a8 (D.a1.length+1) c8) (D.a1.length+1) (nV D.a1 ++ [I (j:Int)])∧((Value.slice a8 (D.a1.length+1) c8).ownBlock=(Value.slice L D.a1.length c2).ownBlock∨(Value.slice a8 (D.a1.length+1) c8).ownBlock=some (l.heap.size+1))∧Below base w z):=⟨(Sam.below (R:=fun k=>(Value.slice L D.a1.length c2).ownBlock=some k) F).then (Sam.grown H) fun k _ h=>h,ab,by simpa using Z,by
   rw [m];exact ((b6.out.trans (F.mono (by have:=G.out.2;omega))).grown H (by have:=F.size;have:=G.out.2;omega) (Qw af.out)).setCell (p:=⟨w.heap.size+1,2,none⟩) (by have:=G.out.2;dsimp only;omega) _⟩
  have HM:Hid (mtO D 0 i j=⟨D.a0 ++ [i],D.b0,D.a1 ++ [j],D.b1⟩):=rfl;have zz:w.heap.size+5≤z.heap.size:=by have:=ag.out.size;omega
  have bj:=G.out.2;clear m x0 x1 x2 x3 xj a7 ac aa ae au N fy hr ab H ba Z F O t HS xg ar av an aw ao ax ap ay aq J X;go_wp2;refine bodyPost_ret (v:=.agg #[.slice (Az g7) (D.a0.length+1) c7,.slice a1 D.b0.length c1,.slice a8 (D.a1.length+1) c8,.slice a3 D.b1.length c3]) (by simp [results,Tryz.results104,go_sem, *]) rfl ?_;rw [HM.out];refine mt_on0 (N6:=w.heap.size+1) (Nt:=w.heap.size+1+1+1+1) (H1:=y.heap.size+1) (H2:=l.heap.size+1) G.out.1 HY.out HG.out.1 (fun g e=>?_) HX.out T.out.1 T.out.2.1 (fun g e=>?_) ag.out ((((Sam.set _ _ _ _).then (Sam.set _ _ _ _) fun _ _ h=>h).then (Sam.set _ _ _ _) fun _ _ h=>h).then (Sam.set _ _ _ _) fun _ _ h=>h) γ γ γ γ γ ((((T.out.2.2.2.setCell θ _).setCell θ _).setCell θ _).setCell θ _)
  ·simp only [Value.ownBlock,Option.some.injEq] at e;subst e;exact HG.out.2.2
  ·rcases T.out.2.2.1 with h | h
   ·exact Or.inl (h ▸ e)
   ·rw [h] at e;simp at e;exact Or.inr e.symm
 ·have K:(y.alloc (.cells #[I (i:Int)] 3)).ownsRow base 3 1 (.slice L D.a1.length c2) D.a1.length (nV D.a1):=Qj G.out.1.o2 (Qb M.out);have Q:Hid ((y.alloc (.cells #[I (i:Int)] 3)).ownsRow base 3 1 (.slice L D.a1.length c2) D.a1.length (nV D.a1)∧base≤(y.alloc (.cells #[I (i:Int)] 3)).heap.size):=⟨K,by have:=(Qb (o:=.cells #[I (i:Int)] 3) M.out).size;have:=G.out.2;omega⟩
  have aj:∀ b,w.heap.size≤b→some b≠(Value.slice L D.a1.length c2).ownBlock:=fun b hb e=>by
   have:=(G.out.1.o2.lt b e.symm).2;omega
  have f:=Hd aj;clear K aj;go_upto_region 6 with (at_builtin;refine wpList_append_lies _ rfl (.tmp 44) (.tmp 46) 22 rfl base 3 i3 (I 0) 1 8 Tryz.underlying22 X.out.1 X.out.2.1 X.out.2.2.1 X.out.2.2.2 rfl ψ (.slice L D.a1.length c2) D.a1.length (nV D.a1) rfl Q.out.1 ⟨y.heap.size,0,none⟩ 1 1 [I (i:Int)] rfl rfl (Yd _ δ) (Xx _) ψ Ξ γ Q.out.2 (y.heap.size+1) ξ ?_;rintro g7 c7 w5 ak U ah ai;have HG:=H3 ak U ah;have b8:At w5 (w.heap.size+1) 2 (.slice L D.a1.length c2):=U.cell (Qk m2) (f.out _ θ);have bi:Fn w5 (w.heap.size+1) 2:=(Fo (U.block (w.heap.size+1) ω (f.out _ γ))).trans (((Qb (Qe y)).frozen θ).trans g2);have ez:=Bt b8;clear ak U ah)
  refine Qi (fun l c=>?_);have d:=HG.out.2.1;have x0:At l (w.heap.size+1) 0 (.slice a0 D.a0.length c0):=by rw [c];exact (Co _ _ _ _ ξ).trans (d.cell (Qk m0) (f.out _ θ))
  have x1:At l (w.heap.size+1) 1 (.slice a1 D.b0.length c1):=by rw [c];exact (Co _ _ _ _ ξ).trans (d.cell (Qk m1) (f.out _ θ))
  have x2:At l (w.heap.size+1) 2 (.slice (Az g7) (D.a1.length+1) c7):=by rw [c];exact Cs _ _ _ b8
  have x3:At l (w.heap.size+1) 3 (.slice a3 D.b1.length c3):=by rw [c];exact (Co _ _ _ _ ξ).trans (d.cell (Qk m3) (f.out _ θ))
  have xj:At l (w.heap.size+1+1+1) 4 (I (j:Int)):=by rw [c];exact (World.cell?_setCell_far _ _ _ _ θ).trans (d.cell (Qk jt) (f.out _ θ))
  have av:At l (w.heap.size+1+1+1+1) 0 SN:=by rw [c];exact (World.cell?_setCell_far _ _ _ _ θ).trans (d.cell (Qk r0) (f.out _ θ))
  have an:l.frozen? ⟨w.heap.size+1+1+1+1,0,none⟩=false:=by rw [c,Fz];exact (Fo (d.block (w.heap.size+1+1+1+1) ω (f.out _ γ))).trans (((Qb (Qe y)).frozen θ).trans f0)
  have aw:At l (w.heap.size+1+1+1+1) 1 SN:=by rw [c];exact (World.cell?_setCell_far _ _ _ _ θ).trans (d.cell (Qk r1) (f.out _ θ))
  have ao:l.frozen? ⟨w.heap.size+1+1+1+1,1,none⟩=false:=by rw [c,Fz];exact (Fo (d.block (w.heap.size+1+1+1+1) ω (f.out _ γ))).trans (((Qb (Qe y)).frozen θ).trans f1)
  have ax:At l (w.heap.size+1+1+1+1) 2 SN:=by rw [c];exact (World.cell?_setCell_far _ _ _ _ θ).trans (d.cell (Qk r2) (f.out _ θ))
  have ap:l.frozen? ⟨w.heap.size+1+1+1+1,2,none⟩=false:=by rw [c,Fz];exact (Fo (d.block (w.heap.size+1+1+1+1) ω (f.out _ γ))).trans (((Qb (Qe y)).frozen θ).trans f2)
  have ay:At l (w.heap.size+1+1+1+1) 3 SN:=by rw [c];exact (World.cell?_setCell_far _ _ _ _ θ).trans (d.cell (Qk r3) (f.out _ θ))
  have aq:l.frozen? ⟨w.heap.size+1+1+1+1,3,none⟩=false:=by rw [c,Fz];exact (Fo (d.block (w.heap.size+1+1+1+1) ω (f.out _ γ))).trans (((Qb (Qe y)).frozen θ).trans f3)
  have xg:l.frozen? ⟨w.heap.size+1,0,none⟩=false:=by rw [c,Fz];exact (Fo (d.block (w.heap.size+1) ω (f.out _ γ))).trans (((Qb (Qe y)).frozen θ).trans g0)
  have HX:Hid (Sam w5 l (fun k=>k=w.heap.size+1)):=by rw [c];exact Sam.set _ _ _ _
  have HY:Hid (Sam w w5 (fun k=>(Value.slice L D.a1.length c2).ownBlock=some k)):=(Sam.below (R:=fun k=>(Value.slice L D.a1.length c2).ownBlock=some k) (Qb M.out)).then (Sam.grown d) fun k _ h=>h;have b5:Hid (Below base w w5):=((Qb (o:=.cells #[I (i:Int)] 3) M.out).mono G.out.2).grown d Q.out.2 (Qw G.out.1.o2);have b6:Hid (Below base w l):=by rw [c];exact b5.out.setCell (p:=⟨w.heap.size+1,2,none⟩) (by have:=G.out.2;dsimp only;omega) _
  have z5:y.heap.size+1≤w5.heap.size:=by have:=d.size;simpa using this
  have bt:w5.heap.size≤l.heap.size:=HX.out.size;have bu:g7<w5.heap.size:=ai;have am:l.ownsRow base 3 1 (.slice a0 D.a0.length c0) D.a0.length (nV D.a0):=(HY.out.then HX.out fun k hk e=>by omega).own G.out.1.o0 fun g e q=>G.out.1.d0 g e q;have af:=Hd am
  have Y:∀ b,w.heap.size≤b→some b≠(Value.slice a0 D.a0.length c0).ownBlock:=fun b hb e=>by
   have:=(G.out.1.o0.lt b e.symm).2;omega
  have J:=Hd Y;clear d c am Y b8 bi p0 p1 p2 p3 p4 m0 m1 m2 m3 jt r0 r1 r2 r3 f0 g0 f1 g1 f2 g2 f3 g3 M Q f;have HS:Hid (∀ V:World,Bl l V→(fun w'=>At w' (w.heap.size+1) 0 (.slice a0 D.a0.length c0)∧At w' (w.heap.size+1) 1 (.slice a1 D.b0.length c1)∧At w' (w.heap.size+1) 2 (.slice (Az g7) (D.a1.length+1) c7)∧At w' (w.heap.size+1) 3 (.slice a3 D.b1.length c3)∧At w' (w.heap.size+1+1+1) 4 (I (j:Int))) V):=fun V hV=>⟨Qa hV x0,Qa hV x1,Qa hV x2,Qa hV x3,Qa hV xj⟩;refine Jz (S:=fun w'=>At w' (w.heap.size+1) 0 (.slice a0 D.a0.length c0)∧At w' (w.heap.size+1) 1 (.slice a1 D.b0.length c1)∧At w' (w.heap.size+1) 2 (.slice (Az g7) (D.a1.length+1) c7)∧At w' (w.heap.size+1) 3 (.slice a3 D.b1.length c3)∧At w' (w.heap.size+1+1+1) 4 (I (j:Int))) (late:=fun j=>decide (j=13)) η ?_;have t:=HS.out _ (Qg (Qe l));refine Lkd 0 (I 1) t ?_;refine Lkd 1 (I 0) t ?_;refine Lkd 2 (I 1) t ?_;refine Lkd 3 (I 0) t ?_;refine Lkd 4 (.pointer (Az (w.heap.size+1))) t ?_;refine Lkd 5 (.pointer (Az (w.heap.size+1))) t ?_;refine Lkd 6 (.slice a0 D.a0.length c0) t ?_;refine Lkd 7 (.pointer (Ad (w.heap.size+1+1+1) 4)) t ?_;refine Lkd 8 (I (j:Int)) t ?_;refine Lt.one (i:=9) η rfl rfl ?_;go_simp;refine ⟨HS.out (l.alloc (.cells #[I (j:Int)] 3)) β1, ?_⟩;have F:Bl l ((l.alloc (.cells #[I (j:Int)] 3)).drew):=Qg β1;obtain ⟨u8,W,hr,ab,H,ba,Z⟩:=run_append_own_at (P:=Tryz.prog) ((l.alloc (.cells #[I (j:Int)] 3)).drew) base 22 22 3 i3 (I 0) 1 8 Tryz.underlying22 X.out.1 X.out.2.1 X.out.2.2.1 X.out.2.2.2 rfl ψ (.slice a0 D.a0.length c0) D.a0.length (nV D.a0) (Qj af.out F) ⟨l.heap.size,0,none⟩ 1 1 [I (j:Int)] rfl (Yd _ δ) (Xx _) Ξ γ (by have:=F.size;have:=G.out.2;omega);obtain ⟨a8,c8,rfl,_⟩:=Xi ab;have N:∀ (a:Addr) (u:Value),w.heap.size≤a.block→l.cell? a=some u→W.cell? a=some u:=fun a u hl hc=>H.cell (w:=((l.alloc (.cells #[I (j:Int)] 3)).drew)) (Qq (Qk hc)) (J.out _ hl);have a7:=N _ _ θ x0;have ac:=N _ _ θ x1;have aa:=N _ _ θ x2;have ae:=N _ _ θ x3;have au:=N _ _ θ xj;have O:(fun w'=>At w' (w.heap.size+1) 0 (.slice a0 D.a0.length c0)∧At w' (w.heap.size+1) 1 (.slice a1 D.b0.length c1)∧At w' (w.heap.size+1) 2 (.slice (Az g7) (D.a1.length+1) c7)∧At w' (w.heap.size+1) 3 (.slice a3 D.b1.length c3)∧At w' (w.heap.size+1+1+1) 4 (I (j:Int))) W:=⟨a7,ac,aa,ae,au⟩;have fy:∀ b o,w.heap.size≤b→b<l.heap.size→Fn l b o→Fn W b o:=fun b o hl b9 hc=>(Fo (H.block b ω (J.out _ hl))).trans ((F.frozen (p:=⟨b,o,none⟩) b9).trans hc);have z8:l.heap.size+1≤W.heap.size:=by have:=H.size;simpa using this
  try simp only [Ap]
  refine Lt.one (i:=10) η rfl rfl ?_;refine Je (.tmp 56) (.tmp 59) 22 rfl _ _ (.slice a8 (D.a0.length+1) c8) W rfl rfl hr ?_;refine ⟨fun _=>O, ?_⟩;try simp only [Ap]
  refine Lkd 11 (.pointer (Az (w.heap.size+1))) O ?_;refine Lkd 12 (.pointer (Az (w.heap.size+1))) O ?_;have ar:=fy _ _ γ γ xg;refine Lt.one (i:=13) η rfl rfl ?_;refine Zw (w':=W.setCell ⟨w.heap.size+1,0,none⟩ (.slice a8 (D.a0.length+1) c8)) (by first | go_simp | simp [go_sem,a7,ar]) ?_;refine ⟨fun h=>absurd h ψ, ?_⟩;try simp only [Ap]
  refine Lt.done η ?_;go_upto_region 7 with fail
  refine Qi (fun z m=>?_);have v0:At z (w.heap.size+1) 0 (.slice a8 (D.a0.length+1) c8):=by rw [m];exact Cs _ _ _ a7
  have v1:At z (w.heap.size+1) 1 (.slice a1 D.b0.length c1):=by rw [m];exact (Co _ _ _ _ ξ).trans ac
  have v2:At z (w.heap.size+1) 2 (.slice (Az g7) (D.a1.length+1) c7):=by rw [m];exact (Co _ _ _ _ ξ).trans aa
  have v3:At z (w.heap.size+1) 3 (.slice a3 D.b1.length c3):=by rw [m];exact (Co _ _ _ _ ξ).trans ae
  have bp:At z (w.heap.size+1+1+1+1) 0 SN:=by rw [m];exact (World.cell?_setCell_far _ _ _ _ θ).trans (N _ _ θ av)
  have bk:z.frozen? ⟨w.heap.size+1+1+1+1,0,none⟩=false:=by rw [m,Fz];exact fy _ _ γ γ an
  have bq:At z (w.heap.size+1+1+1+1) 1 SN:=by rw [m];exact (World.cell?_setCell_far _ _ _ _ θ).trans (N _ _ θ aw)
  have bm:z.frozen? ⟨w.heap.size+1+1+1+1,1,none⟩=false:=by rw [m,Fz];exact fy _ _ γ γ ao
  have br:At z (w.heap.size+1+1+1+1) 2 SN:=by rw [m];exact (World.cell?_setCell_far _ _ _ _ θ).trans (N _ _ θ ax)
  have bn:z.frozen? ⟨w.heap.size+1+1+1+1,2,none⟩=false:=by rw [m,Fz];exact fy _ _ γ γ ap
  have bs:At z (w.heap.size+1+1+1+1) 3 SN:=by rw [m];exact (World.cell?_setCell_far _ _ _ _ θ).trans (N _ _ θ ay)
  have bo:z.frozen? ⟨w.heap.size+1+1+1+1,3,none⟩=false:=by rw [m,Fz];exact fy _ _ γ γ aq
  have ag:Hid (Sam W z (fun k=>k=w.heap.size+1)):=by rw [m];exact Sam.set _ _ _ _
  have T:Hid (Sam l W (fun k=>(Value.slice a0 D.a0.length c0).ownBlock=some k)∧W.ownsRow base 3 1 (.slice a8 (D.a0.length+1) c8) (D.a0.length+1) (nV D.a0 ++ [I (j:Int)])∧((Value.slice a8 (D.a0.length+1) c8).ownBlock=(Value.slice a0 D.a0.length c0).ownBlock∨(Value.slice a8 (D.a0.length+1) c8).ownBlock=some (l.heap.size+1))∧Below base w z):=⟨(Sam.below (R:=fun k=>(Value.slice a0 D.a0.length c0).ownBlock=some k) F).then (Sam.grown H) fun k _ h=>h,ab,by simpa using Z,by
   rw [m];exact ((b6.out.trans (F.mono (by have:=G.out.2;omega))).grown H (by have:=F.size;have:=G.out.2;omega) (Qw af.out)).setCell (p:=⟨w.heap.size+1,0,none⟩) (by have:=G.out.2;dsimp only;omega) _⟩
  have HM:Hid (mtO D 1 i j=⟨D.a0 ++ [j],D.b0,D.a1 ++ [i],D.b1⟩):=rfl;have zz:w.heap.size+5≤z.heap.size:=by have:=ag.out.size;omega
  have bj:=G.out.2;clear m x0 x1 x2 x3 xj a7 ac aa ae au N fy hr ab H ba Z F O t HS xg ar av an aw ao ax ap ay aq J X;go_wp2;refine bodyPost_ret (v:=.agg #[.slice a8 (D.a0.length+1) c8,.slice a1 D.b0.length c1,.slice (Az g7) (D.a1.length+1) c7,.slice a3 D.b1.length c3]) (by simp [results,Tryz.results104,go_sem, *]) rfl ?_;rw [HM.out];refine mt_on2 (N6:=w.heap.size+1) (Nt:=w.heap.size+1+1+1+1) (H1:=y.heap.size+1) (H2:=l.heap.size+1) G.out.1 HY.out HG.out.1 (fun g e=>?_) HX.out T.out.1 T.out.2.1 (fun g e=>?_) ag.out ((((Sam.set _ _ _ _).then (Sam.set _ _ _ _) fun _ _ h=>h).then (Sam.set _ _ _ _) fun _ _ h=>h).then (Sam.set _ _ _ _) fun _ _ h=>h) γ γ γ γ γ ((((T.out.2.2.2.setCell θ _).setCell θ _).setCell θ _).setCell θ _)
  ·simp only [Value.ownBlock,Option.some.injEq] at e;subst e;exact HG.out.2.2
  ·rcases T.out.2.2.1 with h | h
   ·exact Or.inl (h ▸ e)
   ·rw [h] at e;simp at e;exact Or.inr e.symm
open Go.ChangeMaps
theorem zero114 (w:World):(zeroValue 122).run Tryz.prog w=.ok (.agg #[SN,SN,SN,SN]) w:=η
def vB (v:Value) (k:Nat):Prop := ∃ s0 s1 s2 s3,v=.agg #[s0,s1,s2,s3]∧mtB s0 s1 s2 s3 k
theorem vB_is {a b c d:Value} {k:Nat}:vB (.agg #[a,b,c,d]) k↔mtB a b c d k:=by
 constructor
 ·rintro ⟨t0,f,g,t3,e,h⟩;simp only [Value.agg.injEq,Array.mk.injEq,List.cons.injEq,and_true] at e;obtain ⟨rfl,rfl,rfl,rfl⟩:=e;exact h
 ·exact fun h=>⟨_,_,_,_,rfl,h⟩
def MGP (w:World) (base ra:Nat) (G:E4→MD) (m:Nat) (X:Nat→Prop):Prop := ∃ ls c,EM w ra ls c∧Good ls c∧ls.length≤m∧(∀ e,lk ls e=none→G e=mdZ)∧(∀ e v,lk ls e=some v→G e≠mdZ∧∃ s0 s1 s2 s3,v=.agg #[s0,s1,s2,s3]∧Ow w base s0 s1 s2 s3 (G e))∧(∀ e e' v v',e≠e'→lk ls e=some v→lk ls e'=some v'→∀ k,vB v k→¬ vB v' k)∧∀ e v,lk ls e=some v→∀ k,vB v k→¬ X k
theorem MGP.kept {G:E4→MD} {X:Nat→Prop} (h:MGP w base b G m X) (a:Bl w w'):MGP w' base b G m X:=by
 obtain ⟨ls,c,h1,h2,h3,h4,h5,h6⟩:=h;refine ⟨ls,c,(Sam.below (R:=fun _=>False) a).em h1 id,h2,h3,h4,fun e v d=>?_,h6⟩;obtain ⟨a1,g,i,j,k,rfl,f⟩:=h5 e v d;exact ⟨a1,g,i,j,k,rfl,f.sam (Sam.below (R:=fun _=>False) a) fun _ _=>id⟩
theorem MGP.made (w:World) (base:Nat):MGP (w.alloc (.map #[] 0)) base w.heap.size (fun _=>mdZ) 0 (fun _=>False) :=
 ⟨[],0,Qbp w,Ga,Nr _,fun _ _=>rfl,(fun e v h=>by cases h),(fun e a v v' _ h=>by cases h),(fun e v h=>by cases h)⟩
theorem MGP.avoid {G:E4→MD} {X Y:Nat→Prop} (h:MGP w base a G m X) (b:∀ k,Y k→w.heap.size≤k):MGP w base a G m Y:=by
 obtain ⟨ls,c,h1,h2,h3,h4,h5,h6,j⟩:=h;refine ⟨ls,c,h1,h2,h3,h4,h5,h6,fun e v d k f i=>?_⟩;obtain ⟨_,l,n,o,p,rfl,g⟩:=h5 e v d;have:=(g.low (vB_is.1 f)).2;have:=b k i;omega
theorem MGP.less {G:E4→MD} {X Y:Nat→Prop} (h:MGP w base a G m X) (d:∀ k,Y k→X k):MGP w base a G m Y:=by
 obtain ⟨ls,c,h1,h2,h3,h4,h5,h6,b⟩:=h;exact ⟨ls,c,h1,h2,h3,h4,h5,h6,fun e v f k g i=>b e v f k g (d k i)⟩
theorem MGP.step {G:E4→MD} {X:Nat→Prop} (h:MGP w base f G m X) (ad:f<base) (e:E4) :
  ∃ l n o p,(∀ W:World,W.heap[f]?=w.heap[f]?→(Instr.lookup 116 (.map (some f)) (ek e) false).run Tryz.prog W=.ok (.agg #[l,n,o,p]) W)∧Ow w base l n o p (G e)∧f<w.heap.size∧(∀ k,mtB l n o p k→¬ X k) ∧
   ∀ (W w':World) (t0 E F t3:Value) (D:MD),Bl w W→Ow w' base t0 E F t3 D→Sam W w' (mtB l n o p)→(∀ k,mtB t0 E F t3 k→mtB l n o p k∨W.heap.size≤k)→(∀ k,X k→k<W.heap.size)→D≠mdZ →
    ∃ W4,(Instr.mapUpdate 116 (.map (some f)) (ek e) (.agg #[t0,E,F,t3])).run Tryz.prog w'=.ok () W4∧MGP W4 base f (fun j=>if j=e then D else G j) (m+1) X∧w'.grownBy W4 (some f):=by
 obtain ⟨ls,c,h1,h2,h3,h4,h5,h6,h7⟩:=h;have x:∀ W:World,W.heap[f]?=w.heap[f]?→(Instr.lookup 116 (.map (some f)) (ek e) false).run Tryz.prog W=.ok ((lk ls e).getD (.agg #[SN,SN,SN,SN])) W:=fun W T=>lookup27 Tryz.underlying116 zero114 (show EM W f ls c from T.trans h1) h2 e
 have B:∃ l n o p,(lk ls e).getD (.agg #[SN,SN,SN,SN])=.agg #[l,n,o,p]∧Ow w base l n o p (G e)∧∀ k,mtB l n o p k→∃ v,lk ls e=some v∧vB v k:=by
  cases hl:lk ls e with
  | none =>
   rw [h4 e hl];exact ⟨_,_,_,_,rfl,ow_zero w base,fun k b=>by rcases b with q | q | q | q <;> cases q⟩
  | some v =>
   obtain ⟨_,l,n,o,p,rfl,U⟩:=h5 e v hl;exact ⟨l,n,o,p,rfl,U,fun k b=>⟨_,rfl,vB_is.2 b⟩⟩
 obtain ⟨l,n,o,p,hs,U,hv⟩:=B;rw [hs] at x;refine ⟨l,n,o,p,x,U,(Array.getElem?_eq_some_iff.1 h1).1,(fun k b P=>by obtain ⟨v,ac,g⟩:=hv k b;exact h7 e v ac k g P),fun W w' t0 E F t3 D T hD H M a2 aa=>?_⟩;have hS:Sam w w' (mtB l n o p):=(Sam.below (R:=mtB l n o p) T).then H fun k _ h=>h;have y:EM w' f ls c:=hS.em h1 fun b=>by have:=(U.low b).1;omega
 obtain ⟨C,Z,N,a6,t,L⟩:=update27 Tryz.underlying116 y h2 e (.agg #[t0,E,F,t3]);have J:=Yf y (.map (C.map toE).toArray Z);have O:Sam w' (setBlock w' f (.map (C.map toE).toArray Z)) (fun k=>k=f):=(Sam.grown J).mono fun k _ q=>by simpa using q.symm
 refine ⟨_,N,⟨C,Z,heap_setBlock_same y _,a6,by rw [L];split <;> omega,fun j a=>?_,fun j v a=>?_,fun j Y v v' z a d k b A=>?_,fun j v a k b P=>?_⟩,J⟩
 ·rw [t j] at a;by_cases e1:j=e
  ·rw [if_pos e1] at a
   cases a
  ·rw [if_neg e1] at a;dsimp only;rw [if_neg e1];exact h4 j a
 ·rw [t j] at a;by_cases e1:j=e
  ·rw [if_pos e1] at a;dsimp only;rw [if_pos e1];simp only [Option.some.injEq] at a;subst a;exact ⟨aa,t0,E,F,t3,rfl,hD.sam O fun k b q=>by have:=(hD.low b).1;omega⟩
  ·rw [if_neg e1] at a;dsimp only;rw [if_neg e1];obtain ⟨a1,u0,u1,u2,u3,rfl,V⟩:=h5 j v a;refine ⟨a1,u0,u1,u2,u3,rfl, ?_⟩
   have b1:=V.sam hS fun k b a7=>by
    obtain ⟨Q,g,s⟩:=hv k a7;exact h6 j e _ Q e1 a g k (vB_is.2 b) s
   exact b1.sam O fun k b q=>by have:=(b1.low b).1;omega
 ·have r:∀ i u,i≠e→lk ls i=some u→∀ k,vB u k→¬ mtB t0 E F t3 k:=fun i u hi V k K a8=>by
   rcases M k a8 with q | q
   ·obtain ⟨Q,g,s⟩:=hv k q;exact h6 i e u Q hi V g k K s
   ·obtain ⟨_,u0,u1,u2,u3,rfl,ab⟩:=h5 i u V;have:=(ab.low (vB_is.1 K)).2;have:=T.size;omega
  rw [t j] at a;rw [t Y] at d;by_cases e1:j=e
  ·rw [if_pos e1] at a;rw [if_neg (fun e2=>z (e1.trans e2.symm))] at d;simp only [Option.some.injEq] at a;subst a;exact r Y v' (fun e3=>z (e1.trans e3.symm)) d k A (vB_is.1 b)
  ·rw [if_neg e1] at a;by_cases e3:Y=e
   ·rw [if_pos e3] at d;simp only [Option.some.injEq] at d;subst d;exact r j v e1 a k b (vB_is.1 A)
   ·rw [if_neg e3] at d;exact h6 j Y v v' z a d k b A
 ·rw [t j] at a;by_cases e1:j=e
  ·rw [if_pos e1] at a;simp only [Option.some.injEq] at a;subst a;rcases M k (vB_is.1 b) with q | q
   ·obtain ⟨Q,g,s⟩:=hv k q;exact h7 e Q g k s P
   ·have:=a2 k P;omega
  ·rw [if_neg e1] at a;exact h7 j v a k b P
theorem met_any (w:World) (base n c f g k h m:Nat) (b pa:Option Addr) (o t u v:Value) (p q r s A B C E:Int) (i j a:Nat) (kd:Int) (tv:Bool) (D:MD) (d:Ow w base o t u v D) (z:base≤w.heap.size) (G:a≤1) (h0:D.a0.length≤100000000) (h1:D.b0.length≤100000000) (h2:D.a1.length≤100000000) (h3:D.b1.length≤100000000)
  (CS:Hid (∀ V:World,Bl w V→Rt 142 #[.agg #[.slice b n c,.map (some f),.map (some g),.slice (Az k) n h,.slice pa n m],.agg #[I p,I q,I r,I s],I (i:Int)] V (I (a:Int))))
  (x:Hid (∀ V:World,Bl w V→Rt 48 #[.agg #[.slice b n c,.map (some f),.map (some g)],.agg #[I A,I B,I C,I E]] V (I kd)))
  (F:Hid (∀ V:World,Bl w V→Rt 143 #[.agg #[.slice b n c,.map (some f),.map (some g),.slice (Az k) n h,.slice pa n m],I kd,I (i:Int),I (j:Int)] V (.agg #[I ((fdT kd tv i j).1:Int),I ((fdT kd tv i j).2:Int)]))) :
  Cl 104 #[.agg #[.slice b n c,.map (some f),.map (some g),.slice (Az k) n h,.slice pa n m],.agg #[o,t,u,v],.agg #[I p,I q,I r,I s],I (i:Int),.agg #[I A,I B,I C,I E,I (j:Int)]] w fun e w'=>MtTo w w' base o t u v (mt D kd tv a i j) e:=by
 obtain ⟨a0,c0,rfl,_⟩:=Xi d.o0;obtain ⟨a1,c1,rfl,_⟩:=Xi d.o1;obtain ⟨y,c2,rfl,_⟩:=Xi d.o2;obtain ⟨a3,c3,rfl,_⟩:=Xi d.o3;have l:a=0∨a=1:=γ;by_cases hk:kd=0
 ·subst hk;have e:mt D 0 tv a i j=mtO D a i j:=if_pos rfl;rw [e];exact met_on w base n c f g k h m b pa a0 a1 y a3 c0 c1 c2 c3 p q r s A B C E i j a D d z l h0 h2 CS x
 ·have e:mt D kd tv a i j=mtF D a (fdT kd tv i j):=if_neg hk;rw [e];exact met_fold w base n c f g k h m b pa a0 a1 y a3 c0 c1 c2 c3 p q r s A B C E i j a _ _ kd D d z l hk h1 h3 CS x F
def stJ (kd:E4→Int) (M:Nat→M6) (pl:List T3) (i:Nat) (G:E4→MD) (q:E4×Int):E4→MD :=
 if (i:Int)<q.2 then fun e=>if e=bro (M i) q.1 then mt (G (bro (M i) q.1)) (kd q.1) (tov (M i)) (sd (bro (M i) q.1) (pl.getD i (0,0,0))) i q.2.toNat else G e else G
def gJ (kd:E4→Int) (M:Nat→M6) (pl:List T3) (i:Nat) (G:E4→MD) (l:List (E4×Int)):E4→MD:=l.foldl (stJ kd M pl i) G
def gA (kd:E4→Int) (L:List T3) (M:Nat→M6) (pl:List T3):Nat→E4→MD
 | 0=>fun _=>mdZ
 | i+1=>gJ kd M pl i (gA kd L M pl i) (jl L (L.getD i (0,0,0)) i 3)
theorem gJ_succ (kd:E4→Int) (M:Nat→M6) (pl:List T3) (i:Nat) (G:E4→MD) (l:List (E4×Int)) {k:Nat} (a:k<l.length):gJ kd M pl i G (l.take (k+1))=stJ kd M pl i (gJ kd M pl i G (l.take k)) l[k]:=by
 unfold gJ;rw [List.take_succ_eq_append_getElem a,List.foldl_append];rfl
def MdLe (G:E4→MD) (c:Nat):Prop := ∀ e,(G e).a0.length≤c∧(G e).b0.length≤c∧(G e).a1.length≤c∧(G e).b1.length≤c
theorem mt_le {D:MD} (h:D.a0.length≤c∧D.b0.length≤c∧D.a1.length≤c∧D.b1.length≤c) (kd:Int) (tv:Bool) (a i j:Nat):(mt D kd tv a i j).a0.length≤c+1∧(mt D kd tv a i j).b0.length≤c+1∧(mt D kd tv a i j).a1.length≤c+1∧(mt D kd tv a i j).b1.length≤c+1:=by
 unfold mt mtO mtF;split <;> split <;> simp <;> omega
theorem MdLe.step {kd:E4→Int} {M:Nat→M6} {pl:List T3} {G:E4→MD} (h:MdLe G c) (q:E4×Int):MdLe (stJ kd M pl i G q) (c+1):=fun e=>by
 unfold stJ;split
 ·dsimp only;split
  ·exact mt_le (h _) _ _ _ _ _
  ·have:=h e;omega
 ·have:=h e;omega
theorem mt_ne (D:MD) (kd:Int) (tv:Bool) (a i j:Nat):mt D kd tv a i j≠mdZ:=by
 unfold mt mtO mtF mdZ;split <;> split <;> simp
structure PBx (w:World) (b n cc ra0 rk gm cm pc:Nat) (ad pa:Option Addr):Prop where
 c0:At w b 0 (.slice ad n cc)
 c1:At w b 1 (.map (some ra0))
 c2:At w b 2 (.map (some rk))
 c3:At w b 3 (.slice (Az gm) n cm)
 c4:At w b 4 (.slice pa n pc)
theorem PBx.kept {c:Option Addr} (h:PBx w b n d a g f e pc c pa) (hb:Bl w w'):PBx w' b n d a g f e pc c pa:=⟨Qa hb h.c0,Qa hb h.c1,Qa hb h.c2,Qa hb h.c3,Qa hb h.c4⟩
theorem PBx.sam {R:Nat→Prop} {d:Option Addr} (h:PBx w b n e c i g f pc d pa) (hs:Sam w w' R) (a:¬ R b):PBx w' b n e c i g f pc d pa:=⟨hs.cell h.c0 a,hs.cell h.c1 a,hs.cell h.c2 a,hs.cell h.c3 a,hs.cell h.c4 a⟩
structure MtI (w wx:World) (n cc ra0 rk gm cm pc:Nat) (ad pa:Option Addr) (G:E4→MD) (c:Nat) (X:Nat→Prop):Prop where
 m:MGP wx (w.heap.size+2) (w.heap.size+1) G c X
 le:MdLe G c
 bx:PBx wx w.heap.size n cc ra0 rk gm cm pc ad pa
 bl:Bl w wx
 sz:w.heap.size+2≤wx.heap.size
theorem MtI.kept {i:World} {b:Option Addr} {G:E4→MD} {X:Nat→Prop} (h:MtI w i n d a g f e pc b pa G c X) (hb:Bl i w'):MtI w w' n d a g f e pc b pa G c X :=
 ⟨h.m.kept hb,h.le,h.bx.kept hb,Qc h.bl hb,Nt h.sz hb.size⟩
theorem MtI.mono {l:World} {j:Nat} {b:Option Addr} {G:E4→MD} {X:Nat→Prop} (h:MtI w l n f a j i g pc b pa G c X) (o:c≤d):MtI w l n f a j i g pc b pa G d X:=by
 refine ⟨?_,fun e=>by have:=h.le e;omega,h.bx,h.bl,h.sz⟩;obtain ⟨ls,k,h1,h2,h3,h4⟩:=h.m;exact ⟨ls,k,h1,h2,γ,h4⟩
theorem JRow.sam {R:Nat→Prop} {a:Option Addr} {l:List (E4×Int)} (h:JRow w a l) (hs:Sam w w' R) (b:∀ g,a=Az g→¬ R g):JRow w' a l:=fun i hi=>by
 obtain ⟨g,e,h0,h1,h2,h3,h4⟩:=h i hi;have hg:=b g e;exact ⟨g,e,hs.cell h0 hg,hs.cell h1 hg,hs.cell h2 hg,hs.cell h3 hg,hs.cell h4 hg⟩
theorem edge_bdM {x y k p q r s:Int} (hb:(0≤x∧x≤8)∧(0≤y∧y≤8)∧(0≤k∧k≤3)) (h:hasT (x,y,k) (p,q,r,s)=true):(0≤p∧p≤20)∧(0≤q∧q≤20)∧(0≤r∧r≤20)∧(0≤s∧s≤20):=by
 unfold hasT at h;rw [Qx] at h;dsimp only at h;rcases Xm hb.2.2 with rfl | rfl | rfl | rfl <;> simp only [Zt,Zs,Zp,Zo,Zn,Zm,Zl,Zk,Zj,Zi,Zh,Zg] at h <;> omega
theorem map_smM {a b c d u v:Int} (h:mapM (a,b,c,d,u,v)=true):Sm a b c d∧(-1000000≤u∧u≤1000000)∧(-1000000≤v∧v≤1000000):=by
 have h:mapB a b c d u v=true:=h;have h2:=Xz h;simp only [mapB,evenB,Bool.and_eq_true,decide_eq_true_eq] at h;unfold Sm;omega
def Eb4 (w:World) (b:Nat) (p q r s:Int):Prop:=At w b 0 (I p)∧At w b 1 (I q)∧At w b 2 (I r)∧At w b 3 (I s)
def MtsTo (w w':World) (G:E4→MD) (e:Ending):Prop := ∃ ra base m,e=.returned (.map (some ra))∧MGP w' base ra G m (fun _=>False)∧w.heap.size≤ra∧ra<base∧m≤300000∧Bl w w'
theorem meetings_any (w:World) (n O o T u H pc:Nat) (N pa:Option Addr) (L:List T3) (kd:E4→Int) (M:Nat→M6) (hP:PileAt w N O o T u H pa pc L kd M) (hn:n=L.length) (hL:n≤300) (bm:∀ t∈L,(0≤t.1∧t.1≤8)∧(0≤t.2.1∧t.2.1≤8)∧(0≤t.2.2∧t.2.2≤3)) (be:∀ i,i<L.length→MOk1 L M i) (hs:Steps w) :
  Cl 55 #[.agg #[.slice N n O,.map (some o),.map (some T),.slice (Az u) n H,.slice pa n pc]] w fun e w'=>MtsTo w w' (gA kd L M (pls L M L.length) n) e:=by
 have HR:Hid (PileAt w N O o T u H pa pc L kd M∧n=L.length∧(∀ t∈L,(0≤t.1∧t.1≤8)∧(0≤t.2.1∧t.2.1≤8)∧(0≤t.2.2∧t.2.2≤3))∧(∀ i,i<L.length→MOk1 L M i)∧Steps w):=⟨hP,hn,bm,be,hs⟩;clear hP hn bm be hs;have ci:=@run_makeMap Tryz.prog;go_enter Tryz.func55,Tryz.ntmps55;go_wp2;go_loopg [13] n (fun gk cb wx=>∃ i:Nat,i≤n∧gk=n - i∧cb=I (i:Int)∧MtI w wx n O o T u H pc N pa (gA kd L M (pls L M L.length) i) (i*900) (fun _=>False))
 case atStart =>
  refine ⟨0,γ,rfl,rfl, ?_⟩;refine ⟨?_,fun e=>by simp [gA,mdZ], ?_, ?_, ?_⟩
  ·have:=MGP.made (w.alloc (.cells #[.slice N n O,.map (some o),.map (some T),.slice (Az u) n H,.slice pa n pc] 61)) (w.heap.size+2);rw [World.size_alloc] at this;simpa [gA] using this
  ·constructor <;> simp [go_sem]
  ·exact Qb β1
  ·simp
 case round =>
  obtain ⟨i,hi,rfl,rfl,hI⟩:=hrel;have HI:Hid (MtI w wr n O o T u H pc N pa (gA kd L M (pls L M L.length) i) (i*900) (fun _=>False)):=hI;clear hI;by_cases h1:i<n
  ·have i1:(i:Int)<(n:Int):=γ;have i0:(0:Int)≤(i:Int):=γ;have Q:i<L.length:=HR.out.2.1 ▸ h1;obtain ⟨x,y,z,hx⟩:∃ x y z,L[i]=(x,y,z):=⟨_,_,_,rfl⟩;obtain ⟨l,hl⟩:∃ l,l=jl L (x,y,z) i 3:=⟨_,rfl⟩;have HL:Hid (L.getD i (0,0,0)=(x,y,z)∧l=jl L (x,y,z) i 3∧l.length≤900):=⟨by rw [Qz L i Q,hx],hl,by rw [hl];have:=jl_len L (x,y,z) i 3;have:=HR.out.2.1;omega⟩
   have CJ:Hid (∀ V:World,Bl wr V→Cl 102 #[.agg #[.slice N n O,.map (some o),.map (some T)],I (i:Int)] V fun e w'=>∃ v,e=.returned v∧w'.ownsRow (V.heap.size+1) 105 5 v l.length (flatJ l)∧Bl V w'):=fun V hV=>by
    have hB:=Qc HI.out.bl hV;have:=Uv V O o T i N L x y z (HR.out.2.2.2.2.kept hB) (HR.out.1.kept hB).tr Q hx.symm (by have:=HR.out.2.1;omega) (by have:=HR.out.2.2.1 _ (Lm Q);rw [hx] at this;exact this);rw [← hl,← HR.out.2.1] at this;exact this
   clear hx hl;have b0:=HI.out.bx.c0;have b1:=HI.out.bx.c1;have b2:=HI.out.bx.c2;go_wp2_with (go_at_call 102;(with_reducible refine (CJ.out _ (Qe _)).mono ?_);rintro e w2 ⟨v,rfl,ho,bi⟩;obtain ⟨ja,jc,rfl,hJ⟩:=own_joints ho;have HJ:Hid (JRow w2 ja l∧(∀ g,ja=Az g→g<w2.heap.size∧w.heap.size+2≤g∧wr.heap.size≤g)∧Bl wr w2):=⟨hJ,fun g e=>by have:=ho.lt g (by rw [e];rfl);have:=HI.out.sz;omega,bi⟩;clear hJ ho bi)
   go_loopg [21] l.length (fun gk cd wx=>∃ k:Nat,k≤l.length∧gk=l.length - k∧cd=I (k:Int)∧MtI w wx n O o T u H pc N pa (gJ kd M (pls L M L.length) i (gA kd L M (pls L M L.length) i) (l.take k)) (i*900+k) (fun b=>ja=Az b)∧JRow wx ja l∧(∀ g,ja=Az g→g<wx.heap.size∧w.heap.size+2≤g))
   case atStart =>
    refine ⟨0,γ,rfl,rfl, ?_,HJ.out.1,fun g e=>⟨(HJ.out.2.1 g e).1,(HJ.out.2.1 g e).2.1⟩⟩;have:=HI.out;exact (⟨this.m.avoid fun b hb=>(HJ.out.2.1 b hb).2.2,this.le,this.bx,this.bl,this.sz⟩:MtI w wr n O o T u H pc N pa _ _ _).kept HJ.out.2.2
   case round =>
    clear HJ CJ b0 b1 b2;obtain ⟨k,hk,rfl,rfl,hM,hJ,hg⟩:=hrel;have HM:Hid (MtI w wr n O o T u H pc N pa (gJ kd M (pls L M L.length) i (gA kd L M (pls L M L.length) i) (l.take k)) (i*900+k) (fun b=>ja=Az b)):=hM;have HJ:Hid (JRow wr ja l∧∀ g,ja=Az g→g<wr.heap.size∧w.heap.size+2≤g):=⟨hJ,hg⟩;clear hM hJ hg;by_cases hk1:k<l.length
    ·have k1:(k:Int)<(l.length:Int):=γ;have k0:(0:Int)≤(k:Int):=γ;obtain ⟨gj,rfl,e0,e1,e2,e3,e4⟩:=HJ.out.1 k hk1;obtain ⟨A,B,C,E,To,hq⟩:∃ A B C E To,l[k]=((A,B,C,E),To):=⟨_,_,_,_,_,rfl⟩;rw [hq] at e0 e1 e2 e3 e4;dsimp only at e0 e1 e2 e3 e4;have ap:((A,B,C,E),To)∈jl L (x,y,z) i 3:=by rw [← HL.out.2.1,← hq];exact Lm hk1
     obtain ⟨m,bz,bo,j,bt,rfl,bv,bu⟩:=Yz.1 ap;have HQ:Hid (l[k]=((A,B,C,E),(j:Int))∧hasT (x,y,z) (A,B,C,E)=true∧j<L.length):=⟨hq,by rw [bo];exact Jc _ _,bt⟩;clear hq ap bo bz bu bv;have h9:=HL.out.2.2;have zj:=Bt e0;have zb:w.heap.size<wr.heap.size:=by have:=HM.out.sz;omega
     by_cases hij:(i:Int)<(j:Int)
     ·go_upto_region 9 with fail
      refine Qi (fun F a6=>?_)
      have ab:Hid (Bl wr F∧Bl w F∧F.heap.size=wr.heap.size+1):=by
       rw [a6];exact ⟨Qb (Qe _),Qb HM.out.bl,ξ⟩
      have q0:At F wr.heap.size 0 (I A):=by rw [a6];simp [go_sem]
      have q1:At F wr.heap.size 1 (I B):=by rw [a6];simp [go_sem]
      have q2:At F wr.heap.size 2 (I C):=by rw [a6];simp [go_sem]
      have q3:At F wr.heap.size 3 (I E):=by rw [a6];simp [go_sem]
      have q4:At F wr.heap.size 4 (I (j:Int)):=by rw [a6];simp [go_sem]
      clear a6 e0 e1 e2 e3 e4;have bx:=HM.out.bx.kept ab.out.1;have c0:=bx.c0;have c1:=bx.c1;have c2:=bx.c2;have c3:=bx.c3;have c4:=bx.c4;have ca:=((HR.out.1.mr.kept ab.out.2.1) i Q).1;have aj:=(HR.out.2.2.2.1 i Q);obtain ⟨mA,mB,mC,mD,mU,mV,af⟩:∃ a b c d e f,M i=(a,b,c,d,e,f):=⟨_,_,_,_,_,_,rfl⟩;obtain ⟨p,q,r,s,aw⟩:∃ p q r s,bro (M i) (A,B,C,E)=(p,q,r,s):=⟨_,_,_,_,rfl⟩;have b6:Hid (bro (M i) (A,B,C,E)=(p,q,r,s)∧M i=(mA,mB,mC,mD,mU,mV)):=⟨aw,af⟩;obtain ⟨y0,y1,y2,y3,y4,y5⟩:=ca;rw [af] at y0 y1 y2 y3 y4 y5;dsimp only at y0 y1 y2 y3 y4 y5
      have b9:Hid ((0≤x∧x≤8)∧(0≤y∧y≤8)∧(0≤z∧z≤3)):=by
       have:=HR.out.2.2.1 _ (Lm Q);have e:L[i]=(x,y,z):=by rw [← Qz L i Q (d:=(0,0,0))];exact HL.out.1
       rw [e] at this;exact this
      have CB:Hid (∀ V:World,Rt 103 #[.agg #[I A,I B,I C,I E],.agg #[I mA,I mB,I mC,I mD,I mU,I mV]] V (.agg #[I p,I q,I r,I s])):=fun V=>by
       have ay:=map_smM (by have:=aj.1;rw [af] at this;exact this);have cf:=edge_bdM b9.out HQ.out.2.1;have:=brought_any A B C E mA mB mC mD mU mV V ay.1 ay.2.1 ay.2.2 γ γ γ γ;rw [← af,aw] at this;exact this
      clear af aw;have zg:=Bt y0;have z8:wr.heap.size<F.heap.size:=by have:=ab.out.2.2;omega
      have z9:w.heap.size<F.heap.size:=γ;have iw:(i:Int)<(n:Int):=i1;have Z:Hid (∀ V:World,Bl F V→(fun w'=>At w' wr.heap.size 0 (I A)∧At w' wr.heap.size 1 (I B)∧At w' wr.heap.size 2 (I C)∧At w' wr.heap.size 3 (I E)∧At w' w.heap.size 3 (.slice (Az u) n H)∧At w' u (i*6) (I mA)∧At w' u (i*6+1) (I mB)∧At w' u (i*6+2) (I mC)∧At w' u (i*6+3) (I mD)∧At w' u (i*6+4) (I mU)∧At w' u (i*6+5) (I mV)) V):=fun V hV=>⟨Qa hV q0,Qa hV q1,Qa hV q2,Qa hV q3,Qa hV c3,Qa hV y0,Qa hV y1,Qa hV y2,Qa hV y3,Qa hV y4,Qa hV y5⟩;go_cut [7] (fun s7 wx=>∃ X:Nat,s7=.pointer (Az X)∧Eb4 wx X p q r s∧Bl F wx∧F.heap.size≤X)
      case first =>
       refine wp_region_held_drew (S:=fun w'=>At w' wr.heap.size 0 (I A)∧At w' wr.heap.size 1 (I B)∧At w' wr.heap.size 2 (I C)∧At w' wr.heap.size 3 (I E)∧At w' w.heap.size 3 (.slice (Az u) n H)∧At w' u (i*6) (I mA)∧At w' u (i*6+1) (I mB)∧At w' u (i*6+2) (I mC)∧At w' u (i*6+3) (I mD)∧At w' u (i*6+4) (I mU)∧At w' u (i*6+5) (I mV)) η (Z.out _ (Qg (Qe _))) (fun bs=>?_);refine Tk 0 (.pointer (Az wr.heap.size)) ?_;refine Tk 1 (.agg #[I A,I B,I C,I E]) ?_;refine Tk 2 (.pointer (Ad w.heap.size 3)) ?_;refine Tk 3 (.slice (Az u) n H) ?_;refine Tk 4 (I (i:Int)) ?_;refine Tk 5 (.pointer (Ad u (i*6))) ?_;refine Tk 6 (.agg #[I mA,I mB,I mC,I mD,I mU,I mV]) ?_;refine wpAnyH_ready (rs:=[7,8]) η ξ ?_;refine AllReadyH.cons rfl (fun K hK=>?_) (AllReadyH.cons rfl (fun K hK=>?_) AllReadyH.nil)
       ·refine Qp Ω 103 #[.agg #[I A,I B,I C,I E],.agg #[I mA,I mB,I mC,I mD,I mU,I mV]] η (CB.out _) ?_;rintro e w5 ⟨rfl,bj⟩;refine ⟨_,rfl, ?_⟩;have aa:Hid (Bl F w5):=Qc (Qg (Qe _)) bj;clear bj;refine hK.out _ _ (Z.out _ aa.out) (fun ac=>?_);clear hK K;try simp only [Ap]
        refine Rd 8 rfl (fun K hK=>?_);go_simp;refine hK.out _ _ (Z.out _ (Qb aa.out)) (fun ac=>?_);clear hK K;try simp only [Ap]
        refine Rd 9 rfl (fun K hK=>?_);go_simp;refine hK.out _ _ (Z.out (w5.alloc (.cells #[I p,I q,I r,I s] 47)) (Qb aa.out)) (fun ac=>?_);clear hK K;try simp only [Ap]
        refine wpAnyH_done η ?_ _;go_wp2;go_meet
        case rel=>exact ⟨_,rfl,⟨δ,δ,δ,δ⟩,Qb aa.out,aa.out.size⟩
       ·go_simp;refine hK.out _ _ (Z.out (F.alloc (.cells #[I 0,I 0,I 0,I 0] 47)) β1) (fun ac=>?_);clear hK K;try simp only [Ap]
        refine Rd 7 rfl (fun K hK=>?_);refine Qp Ω 103 #[.agg #[I A,I B,I C,I E],.agg #[I mA,I mB,I mC,I mD,I mU,I mV]] η (CB.out _) ?_;rintro e w6 ⟨rfl,P⟩;refine ⟨_,rfl, ?_⟩;have az:Hid (Bl F w6):=Qc (Qg β1) P;have t0:At w6 F.heap.size 0 (I 0):=Qa P δ;have u0:Fn w6 F.heap.size 0:=(P.frozen ξ).trans δ;have t1:At w6 F.heap.size 1 (I 0):=Qa P δ;have u1:Fn w6 F.heap.size 1:=(P.frozen ξ).trans δ;have t2:At w6 F.heap.size 2 (I 0):=Qa P δ;have u2:Fn w6 F.heap.size 2:=(P.frozen ξ).trans δ;have t3:At w6 F.heap.size 3 (I 0):=Qa P δ;have u3:Fn w6 F.heap.size 3:=(P.frozen ξ).trans δ;clear P;refine hK.out _ _ (Z.out _ az.out) (fun ac=>?_);clear hK K;try simp only [Ap]
        have b5:Hid (Bl F ((((w6.setCell ⟨F.heap.size,0,none⟩ (I p)).setCell ⟨F.heap.size,1,none⟩ (I q)).setCell ⟨F.heap.size,2,none⟩ (I r)).setCell ⟨F.heap.size,3,none⟩ (I s))):=Qh (Qh (Qh (Qh az.out (Nr _)) (Nr _)) (Nr _)) (Nr _);refine Rd 9 rfl (fun K hK=>?_);go_simp;refine hK.out _ _ (Z.out ((((w6.setCell ⟨F.heap.size,0,none⟩ (I p)).setCell ⟨F.heap.size,1,none⟩ (I q)).setCell ⟨F.heap.size,2,none⟩ (I r)).setCell ⟨F.heap.size,3,none⟩ (I s)) b5.out) (fun ac=>?_);clear hK K;try simp only [Ap]
        refine wpAnyH_done η ?_ _;go_wp2;go_meet
        case rel=>exact ⟨_,rfl,⟨by simp [go_sem,t0],by simp [go_sem,t1],by simp [go_sem,t2],by simp [go_sem,t3]⟩,b5.out,Nr _⟩
      case rest =>
       obtain ⟨X,rfl,hE,G,ce⟩:=hcut;have Y:Hid (Bl F wc∧Bl wr wc∧Bl w wc):=⟨G,Qc ab.out.1 G,Qc ab.out.2.1 G⟩;have b8:=HM.out.kept Y.out.2.1;obtain ⟨s0,s1,s2,s3,ae,bg,ar,bh,aq⟩:=HM.out.m.step γ (p,q,r,s);have a8:Hid (Ow wr (w.heap.size+2) s0 s1 s2 s3 (gJ kd M (pls L M L.length) i (gA kd L M (pls L M L.length) i) (l.take k) (p,q,r,s))∧(∀ W:World,W.heap[w.heap.size+1]?=wr.heap[w.heap.size+1]?→(Instr.lookup 116 (.map (some (w.heap.size+1))) (.agg #[I p,I q,I r,I s]) false).run Tryz.prog W=.ok (.agg #[s0,s1,s2,s3]) W)∧(∀ k,mtB s0 s1 s2 s3 k→¬ (some (⟨gj,0,none⟩:Addr)=Az k))):=⟨bg,ae,bh⟩;have am:Hid (∀ (W w':World) (t0 t1 t2 t3:Value) (D:MD),Bl wr W→Ow w' (w.heap.size+2) t0 t1 t2 t3 D→Sam W w' (mtB s0 s1 s2 s3)→(∀ k,mtB t0 t1 t2 t3 k→mtB s0 s1 s2 s3 k∨W.heap.size≤k)→(∀ k,some (⟨gj,0,none⟩:Addr)=Az k→k<W.heap.size)→D≠mdZ→∃ W4,(Instr.mapUpdate 116 (.map (some (w.heap.size+1))) (.agg #[I p,I q,I r,I s]) (.agg #[t0,t1,t2,t3])).run Tryz.prog w'=.ok () W4∧MGP W4 (w.heap.size+2) (w.heap.size+1) (fun j=>if j=(p,q,r,s) then D else gJ kd M (pls L M L.length) i (gA kd L M (pls L M L.length) i) (l.take k) j) (i*900+k+1) (fun b=>some (⟨gj,0,none⟩:Addr)=Az b)∧w'.grownBy W4 (some (w.heap.size+1))):=aq;have ai:Hid (MtI w wc n O o T u H pc N pa (gJ kd M (pls L M L.length) i (gA kd L M (pls L M L.length) i) (l.take k)) (i*900+k) (fun b=>some (⟨gj,0,none⟩:Addr)=Az b)):=b8
       have ah:(pls L M L.length).getD i (0,0,0)=mvt (M i) (x,y,z):=by
        have e:L[i]=(x,y,z):=by rw [← Qz L i Q (d:=(0,0,0))];exact HL.out.1
        have:=plF_pls (L:=L) (M:=M) Q;rw [e] at this;exact this
       have ag:mapM (M i)=true:=aj.1;have bw:Kd (x,y,z):=b9.out.2.2
       have ao:hasT ((pls L M L.length).getD i (0,0,0)) (p,q,r,s)=true:=by
        rw [ah,← b6.out.1];exact Qbs ag bw HQ.out.2.1
       have au:triT ((pls L M L.length).getD i (0,0,0))=true:=by
        rw [ah];have:=aj.2;rw [HL.out.1] at this;exact this
       have CM:Hid (∀ V:World,Bl wc V→Cl 104 #[.agg #[.slice N n O,.map (some o),.map (some T),.slice (Az u) n H,.slice pa n pc],.agg #[s0,s1,s2,s3],.agg #[I p,I q,I r,I s],I (i:Int),.agg #[I A,I B,I C,I E,I (j:Int)]] V fun e w'=>MtTo V w' (w.heap.size+2) s0 s1 s2 s3 (mt (gJ kd M (pls L M L.length) i (gA kd L M (pls L M L.length) i) (l.take k) (p,q,r,s)) (kd (A,B,C,E)) (tov (M i)) (sd (p,q,r,s) ((pls L M L.length).getD i (0,0,0))) i j) e):=fun V hV=>by
        have bb:Bl w V:=Qc Y.out.2.2 hV;have cg:=ai.out.le (p,q,r,s);have av:=HR.out.1.kept bb;refine met_any V (w.heap.size+2) n O o T u H pc N pa s0 s1 s2 s3 p q r s A B C E i j (sd (p,q,r,s) ((pls L M L.length).getD i (0,0,0))) (kd (A,B,C,E)) (tov (M i)) _ (a8.out.1.sam (Sam.below (R:=fun _=>False) (Qc Y.out.2.1 hV)) fun _ _=>id) (by have:=hV.size;have:=ai.out.sz;omega) (sd_le _ _) γ γ γ γ (fun U hU=>?_) (fun U hU=>?_) (fun U hU=>?_)
        ·exact side_any U _ _ _ _ pa n pc i (pls L M L.length) p q r s (av.kept hU).pl (by rw [Yj];exact Q) (by rw [Yj];exact HR.out.2.1) au ao (HR.out.2.2.2.2.kept (Qc bb hU))
        ·exact kind_any U N n O o T kd A B C E (av.kept hU).kl
        ·exact foldedP_any U _ _ _ _ u n H i j (kd (A,B,C,E)) M (by have:=(av.kept hU).mr;rw [← HR.out.2.1] at this;exact this) h1 hL ag
       obtain ⟨x0,x1,x2,x3⟩:=hE;replace bx:=bx.kept G;replace q0:=Qa G q0;replace q1:=Qa G q1;replace q2:=Qa G q2;replace q3:=Qa G q3;replace q4:=Qa G q4;replace c0:=Qa G c0;replace c1:=Qa G c1;replace c2:=Qa G c2;replace c3:=Qa G c3;replace c4:=Qa G c4;have J:(fun w'=>At w' w.heap.size 0 (.slice N n O)∧At w' w.heap.size 1 (.map (some o))∧At w' w.heap.size 2 (.map (some T))∧At w' w.heap.size 3 (.slice (Az u) n H)∧At w' w.heap.size 4 (.slice pa n pc)∧At w' wr.heap.size 0 (I A)∧At w' wr.heap.size 1 (I B)∧At w' wr.heap.size 2 (I C)∧At w' wr.heap.size 3 (I E)∧At w' wr.heap.size 4 (I (j:Int))∧At w' X 0 (I p)∧At w' X 1 (I q)∧At w' X 2 (I r)∧At w' X 3 (I s)∧(Instr.lookup 116 (.map (some (w.heap.size+1))) (.agg #[I p,I q,I r,I s]) false).run Tryz.prog w'=.ok (.agg #[s0,s1,s2,s3]) w') wc.drew:=⟨c0,c1,c2,c3,c4,q0,q1,q2,q3,q4,x0,x1,x2,x3,a8.out.2.1 _ (Y.out.2.1.block _ ar)⟩;have HZ:Hid (wr.heap.size<wc.heap.size∧X<wc.heap.size∧wr.heap.size≤X):=⟨bk q0,bk x0,γ⟩;have a7:Hid ((∀ k,mtB s0 s1 s2 s3 k→w.heap.size+2≤k∧k<wr.heap.size)∧w.heap.size+1<wr.heap.size):=⟨fun k hk=>a8.out.1.low hk,ar⟩;clear y0 y1 y2 y3 y4 y5 aq ae bg bh ah ao au b8 G Z CB aj ag;go_upto_region 10 with fail
       refine Jz (S:=fun w'=>At w' w.heap.size 0 (.slice N n O)∧At w' w.heap.size 1 (.map (some o))∧At w' w.heap.size 2 (.map (some T))∧At w' w.heap.size 3 (.slice (Az u) n H)∧At w' w.heap.size 4 (.slice pa n pc)∧At w' wr.heap.size 0 (I A)∧At w' wr.heap.size 1 (I B)∧At w' wr.heap.size 2 (I C)∧At w' wr.heap.size 3 (I E)∧At w' wr.heap.size 4 (I (j:Int))∧At w' X 0 (I p)∧At w' X 1 (I q)∧At w' X 2 (I r)∧At w' X 3 (I s)∧(Instr.lookup 116 (.map (some (w.heap.size+1))) (.agg #[I p,I q,I r,I s]) false).run Tryz.prog w'=.ok (.agg #[s0,s1,s2,s3]) w') (late:=fun j=>decide (j=10)) η ?_;refine Lk 0 (.map (some (w.heap.size+1))) J ?_;refine Lk 1 (.agg #[I p,I q,I r,I s]) J ?_;refine Lk 2 (.agg #[.slice N n O,.map (some o),.map (some T),.slice (Az u) n H,.slice pa n pc]) J ?_;refine Lk 3 (.map (some (w.heap.size+1))) J ?_;refine Lk 4 (.agg #[I p,I q,I r,I s]) J ?_;refine Lk 5 (.agg #[s0,s1,s2,s3]) J ?_;refine Lk 6 (.agg #[I p,I q,I r,I s]) J ?_;refine Lk 7 (I (i:Int)) J ?_;refine Lk 8 (.agg #[I A,I B,I C,I E,I (j:Int)]) J ?_;refine Lt.one (i:=9) η rfl rfl ?_;refine Qag 104 #[.agg #[.slice N n O,.map (some o),.map (some T),.slice (Az u) n H,.slice pa n pc],.agg #[s0,s1,s2,s3],.agg #[I p,I q,I r,I s],I (i:Int),.agg #[I A,I B,I C,I E,I (j:Int)]] η (CM.out _ (Qg (Qe _))) ?_;rintro e w9 ⟨t0,t1,t2,t3,rfl,bf,a2,bp,ba⟩;have hd:∀ (a:Addr) (v:Value),(a.block=w.heap.size∨wr.heap.size≤a.block)→wc.cell? a=some v→w9.cell? a=some v:=fun a v hl hc=>a2.cell (w:=wc.drew) hc fun hk=>by have:=a7.out.1 _ hk;omega
       have bq:w9.heap[w.heap.size+1]?=wr.heap[w.heap.size+1]?:=(a2.blk _ (by have:=a7.out.2;have:=HZ.out;show _<wc.heap.size;omega) fun hk=>by have:=a7.out.1 _ hk;omega).trans (Y.out.2.1.block _ a7.out.2);have an:(fun w'=>At w' w.heap.size 0 (.slice N n O)∧At w' w.heap.size 1 (.map (some o))∧At w' w.heap.size 2 (.map (some T))∧At w' w.heap.size 3 (.slice (Az u) n H)∧At w' w.heap.size 4 (.slice pa n pc)∧At w' wr.heap.size 0 (I A)∧At w' wr.heap.size 1 (I B)∧At w' wr.heap.size 2 (I C)∧At w' wr.heap.size 3 (I E)∧At w' wr.heap.size 4 (I (j:Int))∧At w' X 0 (I p)∧At w' X 1 (I q)∧At w' X 2 (I r)∧At w' X 3 (I s)∧(Instr.lookup 116 (.map (some (w.heap.size+1))) (.agg #[I p,I q,I r,I s]) false).run Tryz.prog w'=.ok (.agg #[s0,s1,s2,s3]) w') w9:=⟨hd _ _ (Or.inl rfl) c0,hd _ _ (Or.inl rfl) c1,hd _ _ (Or.inl rfl) c2,hd _ _ (Or.inl rfl) c3,hd _ _ (Or.inl rfl) c4,hd _ _ (Or.inr (Nr _)) q0,hd _ _ (Or.inr (Nr _)) q1,hd _ _ (Or.inr (Nr _)) q2,hd _ _ (Or.inr (Nr _)) q3,hd _ _ (Or.inr (Nr _)) q4,hd _ _ (Or.inr HZ.out.2.2) x0,hd _ _ (Or.inr HZ.out.2.2) x1,hd _ _ (Or.inr HZ.out.2.2) x2,hd _ _ (Or.inr HZ.out.2.2) x3,a8.out.2.1 _ bq⟩;refine ⟨_,rfl,fun _=>an, ?_⟩;try simp only [Ap]
       obtain ⟨W4,br,bc,ax⟩:=am.out wc.drew w9 t0 t1 t2 t3 _ (Qg Y.out.2.1) bf a2 bp (fun b e=>by simp only [Option.some.injEq,Addr.mk.injEq,and_true] at e;have:=(HJ.out.2 gj rfl).1;have:=HZ.out;show b<wc.heap.size;omega) (mt_ne _ _ _ _ _ _);refine Lt.one (i:=10) η rfl rfl ?_;refine Zw (w':=W4) (by first | go_simp | simp [go_sem,br]) ?_;refine ⟨fun h=>absurd h ψ, ?_⟩;try simp only [Ap]
       refine Lt.done η ?_;have ak:Sam w9 W4 (fun b=>b=w.heap.size+1):=(Sam.grown ax).mono fun b _ h=>by simpa using h.symm
       have HT:Hid (gJ kd M (pls L M L.length) i (gA kd L M (pls L M L.length) i) (l.take (k+1))=fun j'=>if j'=(p,q,r,s) then (mt (gJ kd M (pls L M L.length) i (gA kd L M (pls L M L.length) i) (l.take k) (p,q,r,s)) (kd (A,B,C,E)) (tov (M i)) (sd (p,q,r,s) ((pls L M L.length).getD i (0,0,0))) i j) else gJ kd M (pls L M L.length) i (gA kd L M (pls L M L.length) i) (l.take k) j'):=by
        have:=gJ_succ kd M (pls L M L.length) i (gA kd L M (pls L M L.length) i) l hk1;rw [HQ.out.1] at this;rw [this];unfold stJ;rw [if_pos hij,b6.out.1];rfl
       have HF:Hid (MtI w W4 n O o T u H pc N pa (gJ kd M (pls L M L.length) i (gA kd L M (pls L M L.length) i) (l.take (k+1))) (i*900+(k+1)) (fun b=>some (⟨gj,0,none⟩:Addr)=Az b)∧JRow W4 (Az gj) l∧∀ g,some (⟨gj,0,none⟩:Addr)=Az g→g<W4.heap.size∧w.heap.size+2≤g):=by
        have bn:Bl w w9:=(Qg Y.out.2.2).trans (ba.mono γ);have cj:wc.heap.size≤w9.heap.size:=a2.size;have co:=ak.size;have cp:=HZ.out;have ch:=a7.out.2;refine ⟨⟨?_, ?_, ?_, ?_, ?_⟩, ?_,fun g e=>?_⟩
        ·rw [HT.out];exact bc
        ·have:=gJ_succ kd M (pls L M L.length) i (gA kd L M (pls L M L.length) i) l hk1;rw [this];exact MdLe.step ai.out.le _
        ·exact (PBx.sam (w:=wc.drew) (w':=w9) ⟨c0,c1,c2,c3,c4⟩ a2 (fun hk=>by have:=a7.out.1 _ hk;omega)).sam ak γ
        ·exact bn.grown ax bn.size (fun b e=>by simp at e;omega)
        ·omega
        ·exact ((HJ.out.1.kept Y.out.2.1).sam (⟨a2.size,a2.blk⟩:Sam wc w9 (mtB s0 s1 s2 s3)) (fun g e hk=>a8.out.2.2 g hk e)).sam ak (fun g e=>by have:=(HJ.out.2 g e).2;omega)
        ·have:=HJ.out.2 g e;exact ⟨γ,this.2⟩
       clear br bc ax ak HT bf a2 bp ba hd bq an J CM am a8 ai bx c0 c1 c2 c3 c4 q0 q1 q2 q3 q4 x0 x1 x2 x3;go_wp2;go_roundg (l.length - (k+1))
       case measure=>omega
       case rel=>exact ⟨k+1,γ,rfl,σ,HF.out.1,HF.out.2.1,HF.out.2.2⟩
     ·have HT:Hid (gJ kd M (pls L M L.length) i (gA kd L M (pls L M L.length) i) (l.take (k+1))=gJ kd M (pls L M L.length) i (gA kd L M (pls L M L.length) i) (l.take k)):=by
       have:=gJ_succ kd M (pls L M L.length) i (gA kd L M (pls L M L.length) i) l hk1;rw [HQ.out.1] at this;rw [this];exact if_neg hij
      go_wp2;go_roundg (l.length - (k+1))
      case measure=>omega
      case rel =>
       refine ⟨k+1,γ,rfl,σ, ?_,fun i hi=>?_,fun g e=>?_⟩
       ·rw [HT.out];exact (HM.out.kept β1).mono γ
       ·exact (HJ.out.1.kept β1) i hi
       ·have:=HJ.out.2 g e;exact ⟨ω,this.2⟩
    ·have k1:¬ (k:Int)<(l.length:Int):=γ
     have HE:Hid (gJ kd M (pls L M L.length) i (gA kd L M (pls L M L.length) i) (l.take k)=gA kd L M (pls L M L.length) (i+1)):=by
      have e:k=l.length:=γ;rw [e,List.take_length,HL.out.2.1,← HL.out.1];rfl
     have h9:=HL.out.2.2;go_wp2;go_roundg (n - (i+1))
     case measure=>omega
     case rel =>
      refine ⟨i+1,γ,rfl,σ, ?_⟩;rw [← HE.out];have:=HM.out.mono (d:=(i+1)*900) γ;exact ⟨this.m.less (fun _ h=>h.elim),this.le,this.bx,this.bl,this.sz⟩
  ·have i1:¬ (i:Int)<(n:Int):=γ
   have HE:Hid (i=n):=by
    have:i=n:=γ;exact this
   go_wp2;go_ret;rw [← HE.out];have:=HI.out.sz;exact ⟨_,_,_,rfl,HI.out.m,γ,γ,γ,HI.out.bl⟩
theorem pieIn_any (w:World) (d j f N lo hi i:Nat) (h:Nat→Int) (n:Hg w f N h) (g:At w d 0 (I (lo:Int))) (p:At w d 1 (I (hi:Int))) (k:At w j 0 (ABv f)) (h0:lo<N) (h1:hi<N) (h2:i<N) (l:N≤300) :
  Rt 147 #[I (i:Int),.pointer (Az d),.pointer (Az j)] w (.bool (arB h (lo,hi) i)):=by
 have c:=Hd (fun (V:World) hV=>Kc V f N lo hi i h (n.kept hV) h0 h1 h2 l);obtain ⟨b1,a⟩:∃ b,b=arB h (lo,hi) i:=⟨_,rfl⟩;rw [← a] at c ⊢;have q:=Bt k;have r:=Bt g;clear a n h0 h1 h2 l;unfold ABv at k c;go_enter Tryz.func147,Tryz.ntmps147;go_wp2_with (go_at_call 148;(with_reducible refine (c.out _ (by with_reducible exact Qe _)).mono ?_);rintro e w1 ⟨rfl,m⟩;have o:=Hd m;clear m)
 go_ret;exact ⟨rfl,o.out⟩
theorem pieCl_any (w:World) (r d k N lo hi m c:Nat) (a:Option Addr) (l:List Nat) (h:Nat→Int) (x:Hg w k N h) (B:At w r 0 (.slice a m c)) (y:IRow w a l) (z:m=l.length) (j:m≤100000000) (s:At w d 0 (ABv k)) (h0:lo<N) (h1:hi<N) (h2:∀ i∈l,i<N) (u:N≤300) :
  Rt 146 #[.agg #[I (lo:Int),I (hi:Int)],.pointer (Az r),.pointer (Az d)] w (.bool (l.any (arB h (lo,hi)))):=by
 have q:Hid (∀ V:World,Below (w.alloc (.cells #[I (lo:Int),I (hi:Int)] 216)).heap.size (w.alloc (.cells #[I (lo:Int),I (hi:Int)] 216)) V→Rt 35 #[.slice a m c,.func (.func 147) #[] #[.pointer (Az w.heap.size),.pointer (Az d)]] V (.bool (l.any (arB h (lo,hi))))):=fun V o=>by
  have t:Bl w V:=Qc β1 o;refine Qbf V a m c w.heap.size d l (arB h (lo,hi)) (y.kept t) z j (fun U p n hp=>?_);have f:=Qc t n;exact pieIn_any U w.heap.size d k N lo hi p h (x.kept f) (Qa (Qc o n) δ) (Qa (Qc o n) δ) (Qa f s) h0 h1 (h2 p hp) u
 obtain ⟨b1,g⟩:∃ b,b=l.any (arB h (lo,hi)):=⟨_,rfl⟩;rw [← g] at q ⊢;have D:=Bt B;clear g x h0 h1 h2 u y s z j;have C:=Jf;go_enter Tryz.func146,Tryz.ntmps146;go_wp2_with (go_at_call 35;(with_reducible refine (q.out _ (Qe _)).mono ?_);rintro e w1 ⟨rfl,v⟩;have A:=Hd (Qc β1 v);clear v)
 go_ret;exact ⟨rfl,A.out⟩
def tgB (h:Nat→Int) (a b:Nat×Nat):Bool:=arB h a b.1 != arB h a b.2
theorem tanCl_any (w:World) (k s f N lo hi p q:Nat) (h:Nat→Int) (n:Hg w f N h) (c:At w k 0 (I (lo:Int))) (g:At w k 1 (I (hi:Int))) (j:At w s 0 (ABv f)) (h0:lo<N) (h1:hi<N) (h2:p<N) (h3:q<N) (l:N≤300) :
  Rt 149 #[.agg #[I (p:Int),I (q:Int)],.pointer (Az k),.pointer (Az s)] w (.bool (tgB h (lo,hi) (p,q))):=by
 obtain ⟨b1,d⟩:∃ b,b=arB h (lo,hi) p:=⟨_,rfl⟩;obtain ⟨b2,e⟩:∃ b,b=arB h (lo,hi) q:=⟨_,rfl⟩;have o:Hid (∀ V:World,Bl w V→Rt 148 #[.agg #[I (lo:Int),I (hi:Int)],I (p:Int),ABv f] V (.bool b1)):=fun V m=>by rw [d];exact Kc V f N lo hi p h (n.kept m) h0 h1 h2 l
 have r:Hid (∀ V:World,Bl w V→Rt 148 #[.agg #[I (lo:Int),I (hi:Int)],I (q:Int),ABv f] V (.bool b2)):=fun V m=>by rw [e];exact Kc V f N lo hi q h (n.kept m) h0 h1 h3 l
 have t:Hid (tgB h (lo,hi) (p,q)=(b1 != b2)):=by rw [d,e];rfl
 clear d e h0 h1 h2 h3 l n;unfold ABv at j o r;go_enter Tryz.func149,Tryz.ntmps149;go_upto_region 1 with fail
 refine Qi (fun i hW0=>?_);have a:Hid (Bl w i):=γ4;have x:At i w.heap.size 0 (I (p:Int)):=ν;have y:At i w.heap.size 1 (I (q:Int)):=ν;have z0:=Bt x;clear hW0;replace c:=Qa a.out c;replace g:=Qa a.out g;replace j:=Qa a.out j;have z1:=Bt c;have z2:=Bt j;obtain ⟨u,v⟩:=kcn i;refine wk ?_;repeat (go_big_quiet_step ((first | (go_at_call 148;(with_reducible exact Qf (o.out _ (Qc a.out (Kin.h _))))) | (go_at_call 148;(with_reducible exact Qf (r.out _ (Qc a.out (Kin.h _))))) | fail)))
 refine kq1 (fun z hq=>?_);clear u v;go_wp2;go_ret;exact ⟨Qv (by rw [t.out];cases b1 <;> cases b2 <;> rfl),Qc a.out hq⟩
theorem Uj (w:World) (f N k c0 m c:Nat) (a0 a:Option Addr) (l:List (Nat×Nat)) (h:Nat→Int) (s:Hg w f N h) (t:FRow w a l) (u:m=l.length) (i:m≤100000000) (d:∀ p∈l,p.1<N∧p.2<N) (o:N≤300) :
  Rt 109 #[.agg #[.slice a0 k c0,.slice a m c],ABv f] w (.bool (l.any fun p=>decide (h p.2<h p.1))):=by
 have j:Hid (∀ V:World,Below ((w.alloc (.cells #[.slice a0 k c0,.slice a m c] 120)).alloc (.cells #[ABv f] 63)).heap.size ((w.alloc (.cells #[.slice a0 k c0,.slice a m c] 120)).alloc (.cells #[ABv f] 63)) V→Rt 145 #[.slice a m c,.func (.func 150) #[] #[.pointer (Az (w.heap.size+1))]] V (.bool (l.any fun p=>decide (h p.2<h p.1)))):=fun V r=>by
  have n:Bl w V:=Qc β2 r;refine Qbe V a m c (w.heap.size+1) l _ (t.kept n) u i (fun U p q hp=>?_);exact misCl_any U f (w.heap.size+1) N p.1 p.2 h (s.kept (Qc n q)) (Qa (Qc r q) δ) (d p hp).1 (d p hp).2 o
 obtain ⟨b1,g⟩:∃ b,b=l.any fun p=>decide (h p.2<h p.1):=⟨_,rfl⟩;rw [← g] at j ⊢;clear g s d o t u i;have x:=Jf;unfold ABv at j ⊢;go_enter Tryz.func109,Tryz.ntmps109;go_wp2_with (go_at_call 145;(with_reducible refine (j.out _ (Qe _)).mono ?_);rintro e w1 ⟨rfl,d⟩;have v:=Hd (Qc β2 d);clear d)
 go_ret;exact ⟨rfl,v.out⟩
theorem Qao (w:World) (j N g c0 m c:Nat) (a0 a:Option Addr) (l0:List Nat) (l:List (Nat×Nat)) (h:Nat→Int) (y:Hg w j N h) (o:IRow w a0 l0) (q:g=l0.length) (d:g≤100000000) (z:FRow w a l) (A:m=l.length) (r:m≤100000000) (k:∀ i∈l0,i<N) (f:∀ p∈l,p.1<N∧p.2<N) (x:N≤300) :
  Rt 107 #[.agg #[.slice a0 g c0,.slice a m c],ABv j] w (.bool (l.any fun p=>l0.any (arB h p))):=by
 have t:Hid (∀ V:World,Below ((w.alloc (.cells #[.slice a0 g c0,.slice a m c] 120)).alloc (.cells #[ABv j] 63)).heap.size ((w.alloc (.cells #[.slice a0 g c0,.slice a m c] 120)).alloc (.cells #[ABv j] 63)) V→Rt 145 #[.slice a m c,.func (.func 146) #[] #[.pointer (Az w.heap.size),.pointer (Az (w.heap.size+1))]] V (.bool (l.any fun p=>l0.any (arB h p)))):=fun V v=>by
  have u:Bl w V:=Qc β2 v;refine Qbd V a m c w.heap.size (w.heap.size+1) l _ (z.kept u) A r (fun U p s hp=>?_);exact pieCl_any U w.heap.size (w.heap.size+1) j N p.1 p.2 g c0 a0 l0 h (y.kept (Qc u s)) (Qa (Qc v s) δ) (o.kept (Qc u s)) q d (Qa (Qc v s) δ) (f p hp).1 (f p hp).2 k x
 obtain ⟨b1,n⟩:∃ b,b=l.any fun p=>l0.any (arB h p):=⟨_,rfl⟩;rw [← n] at t ⊢;clear n y f k x z o A q r d;have C:=Jf;unfold ABv at t ⊢;go_enter Tryz.func107,Tryz.ntmps107;go_wp2_with (go_at_call 145;(with_reducible refine (t.out _ (Qe _)).mono ?_);rintro e w1 ⟨rfl,f⟩;have B:=Hd (Qc β2 f);clear f)
 go_ret;exact ⟨rfl,B.out⟩
def tnP (h:Nat→Int) (l:List (Nat×Nat)) (n:Nat):Bool:=(l.take n).any (tgB h (l.getD n (0,0)))
def tnB (h:Nat→Int) (l:List (Nat×Nat)):Bool:=(List.range l.length).any (tnP h l)
theorem Vp {f:Nat→Bool} (h:∀ j,j<n→f j=false):(List.range n).any f=false:=by
 rw [List.any_eq_false];intro j a;rw [h j (List.mem_range.1 a)];simp
theorem Xv {f:Nat→Bool} (hi:i<n) (h:f i=true):(List.range n).any f=true:=List.any_eq_true.2 ⟨i,List.mem_range.2 hi,h⟩
theorem Qal (w:World) (o N A c0 m c:Nat) (a0 a:Option Addr) (l:List (Nat×Nat)) (h:Nat→Int) (J:Hg w o N h) (K:FRow w a l) (L:m=l.length) (T:m≤100000000) (X:m≤c) (H:∀ p∈l,p.1<N∧p.2<N) (G:N≤300) :
  Rt 108 #[.agg #[.slice a0 A c0,.slice a m c],ABv o] w (.bool (tnB h l)):=by
 have n:=H5 K L J H G;clear K L J H G;obtain ⟨R,C⟩:∃ R,R=tnB h l:=⟨_,rfl⟩;rw [← C];have F:=Hd C;clear C;have Y:=Jf;obtain ⟨u,hW1⟩:∃ W,W=((w.alloc (.cells #[.slice a0 A c0,.slice a m c] 120)).alloc (.cells #[ABv o] 63)):=⟨_,rfl⟩;have t:=Hd hW1;clear hW1;have M:((w.alloc (.cells #[.slice a0 A c0,.slice a m c] 120)).alloc (.cells #[ABv o] 63)).cell? ⟨w.heap.size,1,none⟩=some (.slice a m c):=δ;have x1:((w.alloc (.cells #[.slice a0 A c0,.slice a m c] 120)).alloc (.cells #[ABv o] 63)).cell? ⟨w.heap.size+1,0,none⟩=some (ABv o):=δ
 have HX:Hid (At u w.heap.size 1 (.slice a m c)∧At u (w.heap.size+1) 0 (ABv o)∧Bl w u∧u.heap.size=w.heap.size+1+1):=by
  rw [t.out];exact ⟨M,x1,Qb β1,ξ⟩
 clear M x1;go_enter Tryz.func108,Tryz.ntmps108;go_wp2;go_loopg [10] m (fun P E wx=>∃ i:Nat,i≤m∧P=m - i∧E=I (i:Int)∧Hid (∀ j,j<i→tnP h l j=false)∧Bl u wx)
 case atStart=>exact ⟨0,γ,rfl,rfl,fun j h=>by omega,by rw [t.out];exact Qe _⟩
 case round =>
  obtain ⟨i,hi,rfl,rfl,x,s⟩:=hrel;have q:=H2 s (Qc HX.out.2.2.1 s);clear s;by_cases h1:i<m
  ·have Z:(i:Int)<(m:Int):=γ;have i0:(0:Int)≤(i:Int):=γ;have i2:(i:Int)≤(c:Int):=γ;have f:i<l.length:=n.out.2.1 ▸ h1;obtain ⟨g,rfl,d0,d1⟩:=(n.out.1.kept q.out.2) i f;obtain ⟨lo,d,hp⟩:∃ lo hi,l[i]=(lo,hi):=⟨_,_,rfl⟩;rw [hp] at d0 d1;dsimp only at d0 d1;have e1:=Qa q.out.1 HX.out.1;have e2:=Qa q.out.1 HX.out.2.1;have z1:=Bt e1;have z2:=Bt e2;have k:=n.out.2.2.2.1 _ (Lm f);rw [hp] at k;have O:Hid (l[i]=(lo,d)∧tnP h l i=(l.take i).any (tgB h (lo,d))):=⟨hp,by unfold tnP;rw [Qz l i f,hp]⟩;clear hp
   have y:Hid (∀ V:World,Below (wr.alloc (.cells #[I (lo:Int),I (d:Int)] 216)).heap.size (wr.alloc (.cells #[I (lo:Int),I (d:Int)] 216)) V→Rt 145 #[.slice (Az g) i c,.func (.func 149) #[] #[.pointer (Az wr.heap.size),.pointer (Az (w.heap.size+1))]] V (.bool (tnP h l i))):=fun V D=>by
    have s:Bl wr V:=Qc β1 D;have v:=Qc q.out.2 s;rw [O.out.2];refine Qbc V (Az g) i c wr.heap.size (w.heap.size+1) (l.take i) _ ((n.out.1.kept v).take i) γ6 γ (fun U p z hp=>?_);have hq:=n.out.2.2.2.1 p (List.mem_of_mem_take hp);exact tanCl_any U wr.heap.size (w.heap.size+1) o N lo d p.1 p.2 h (n.out.2.2.1.kept (Qc v z)) (Qa (Qc D z) δ) (Qa (Qc D z) δ) (Qa (Qc s z) e2) k.1 k.2 hq.1 hq.2 n.out.2.2.2.2
   clear k
   cases hb2:tnP h l i
   ·rw [hb2] at y;go_wp2_with (go_at_call 145;(with_reducible refine (y.out _ (Qe _)).mono ?_);rintro e w1 ⟨rfl,b⟩;have r:=Hd (Qc q.out.1 (Qc β1 b));clear b)
    go_roundg (m - (i+1))
    case measure=>omega
    case rel =>
     refine ⟨i+1,γ,rfl,σ,fun j Q=>?_,r.out⟩;by_cases e:j=i
     ·subst e;exact hb2
     ·exact x.out j γ
   ·rw [hb2] at y;have B:Hid (R=true):=by rw [F.out];exact Xv f hb2
    go_wp2_with (go_at_call 145;(with_reducible refine (y.out _ (Qe _)).mono ?_);rintro e w1 ⟨rfl,b⟩;have r:=Hd (Qc q.out.1 (Qc β1 b));clear b)
    try rw [Exit.noGoto_ret]
    go_ret;exact ⟨Qv B.out.symm,Qc HX.out.2.2.1 r.out⟩
  ·have Z:¬ (i:Int)<(m:Int):=γ;have B:Hid (R=false):=by rw [F.out];exact Vp (fun j hj=>x.out j (by have:=n.out.2.1;omega))
   go_wp2;go_ret;exact ⟨Qv B.out.symm,q.out.2⟩
def twQ (h:Nat→Int) (l0 l2:List Nat) (i j:Nat):Bool:=decide (h (l0.getD j 0)<h (l0.getD i 0)) != decide (h (l2.getD j 0)<h (l2.getD i 0))
def twP (h:Nat→Int) (l0 l2:List Nat) (i:Nat):Bool:=(List.range i).any (twQ h l0 l2 i)
def twB (h:Nat→Int) (l0 l2:List Nat):Bool:=(List.range l0.length).any (twP h l0 l2)
theorem twisted_any (w:World) (s N m c0 c2 m1 c1 m3 c3:Nat) (a0 a1 X a3:Option Addr) (l0 l2:List Nat) (h:Nat→Int) (hh:Hg w s N h) (K:IRow w a0 l0) (L:IRow w X l2) (hm:m=l0.length) (M:m=l2.length) (ab:m≤100000000) (F:∀ i∈l0,i<N) (G:∀ i∈l2,i<N) (hN:N≤300) :
  Rt 105 #[.agg #[.slice a0 m c0,.slice a1 m1 c1,.slice X m c2,.slice a3 m3 c3],ABv s] w (.bool (twB h l0 l2)):=by
 have a:=H8 K L hm M hh F G hN;clear K L hm M hh F G hN;obtain ⟨R,Z⟩:∃ R,R=twB h l0 l2:=⟨_,rfl⟩;rw [← Z];have W:=Hd Z;clear Z;unfold ABv;go_enter Tryz.func105,Tryz.ntmps105;go_upto_region 1 with fail
 refine Qi (fun z hW0=>?_);have t:Hid (Bl w z):=γ4;have p0:At z w.heap.size 0 (.slice a0 m c0):=ν;have p2:At z w.heap.size 2 (.slice X m c2):=ν;have z0:=Bt p0;clear hW0;obtain ⟨kc,kn⟩:=kcn z;refine wk ?_;repeat (go_big_quiet_step (fail))
 refine wpQuiet_nil ?_;intro wq r;obtain ⟨Q,b⟩:=r;have hq:Bl z wq:=b ▸ Q.h;have u:=Hd (Qc t.out hq);clear b Q kc kn hq t p0 p2 z0;go_wp2;go_loopg [17] m (fun Y a6 wx=>∃ i:Nat,i≤m∧Y=m - i∧a6=I (i:Int)∧Hid (∀ j,j<i→twP h l0 l2 j=false)∧Bl w wx)
 case atStart=>exact ⟨0,γ,rfl,rfl,fun j h=>by omega,u.out⟩
 case round =>
  clear u;obtain ⟨i,hi,rfl,rfl,O,E⟩:=hrel;have f:=Hd E;have x:=Hd O.out;clear E O;by_cases h1:i<m
  ·have i1:(i:Int)<(m:Int):=γ;have i0:(0:Int)≤(i:Int):=γ;go_wp2;go_loopg [21] i (fun Y a7 wx=>∃ j:Nat,j≤i∧Y=i - j∧a7=I (j:Int)∧Hid (∀ k,k<j→twQ h l0 l2 i k=false)∧Bl w wx)
   case atStart=>exact ⟨0,γ,rfl,rfl,fun j h=>by omega,f.out⟩
   case round =>
    clear f;obtain ⟨j,hj,rfl,rfl,P,E⟩:=hrel;have f:=Hd E;have n:=Hd P.out;clear E P;by_cases h2:j<i
    ·have j1:(j:Int)<(i:Int):=γ;have j0:(0:Int)≤(j:Int):=γ;have j2:(j:Int)<(m:Int):=γ;obtain ⟨g0,rfl,u0⟩:=(a.out.1.kept f.out) i (by have:=a.out.2.2.1;omega);obtain ⟨a8,H,u1⟩:=(a.out.1.kept f.out) j (by have:=a.out.2.2.1;omega);obtain ⟨g2,rfl,v0⟩:=(a.out.2.1.kept f.out) i (by have:=a.out.2.2.2.1;omega);obtain ⟨aa,J,v1⟩:=(a.out.2.1.kept f.out) j (by have:=a.out.2.2.2.1;omega);simp only [Option.some.injEq,Addr.mk.injEq,and_true] at H J;subst H J;have b0:=a.out.2.2.2.2.2.1 _ (Lm (show i<l0.length by have:=a.out.2.2.1;omega));have b1:=a.out.2.2.2.2.2.1 _ (Lm (show j<l0.length by have:=a.out.2.2.1;omega));have b2:=a.out.2.2.2.2.2.2.1 _ (Lm (show i<l2.length by have:=a.out.2.2.2.1;omega));have b3:=a.out.2.2.2.2.2.2.1 _ (Lm (show j<l2.length by have:=a.out.2.2.2.1;omega))
     have d:twQ h l0 l2 i j=(decide (h (l0[j]'(by have:=a.out.2.2.1;omega))<h (l0[i]'(by have:=a.out.2.2.1;omega))) != decide (h (l2[j]'(by have:=a.out.2.2.2.1;omega))<h (l2[i]'(by have:=a.out.2.2.2.1;omega)))):=by
      unfold twQ;rw [Qz l0 i (by have:=a.out.2.2.1;omega),Qz l0 j (by have:=a.out.2.2.1;omega),Qz l2 i (by have:=a.out.2.2.2.1;omega),Qz l2 j (by have:=a.out.2.2.2.1;omega)]
     generalize l0[i]'(by have:=a.out.2.2.1;omega)=A at u0 b0 d;generalize l0[j]'(by have:=a.out.2.2.1;omega)=B at u1 b1 d;generalize l2[i]'(by have:=a.out.2.2.2.1;omega)=C at v0 b2 d;generalize l2[j]'(by have:=a.out.2.2.2.1;omega)=D at v1 b3 d;obtain ⟨q1,o⟩:∃ q,q=decide (h B<h A):=⟨_,rfl⟩;obtain ⟨T,p⟩:∃ q,q=decide (h D<h C):=⟨_,rfl⟩;have C1:Hid (∀ V:World,Bl wr V→Rt 90 #[I (A:Int),I (B:Int),.pointer (Az s)] V (.bool q1)):=fun V hV=>by rw [o];exact Gj V s N A B h (a.out.2.2.2.2.1.kept (Qc f.out hV)) b0 b1 a.out.2.2.2.2.2.2.2
     have C2:Hid (∀ V:World,Bl wr V→Rt 90 #[I (C:Int),I (D:Int),.pointer (Az s)] V (.bool T)):=fun V hV=>by rw [p];exact Gj V s N C D h (a.out.2.2.2.2.1.kept (Qc f.out hV)) b2 b3 a.out.2.2.2.2.2.2.2
     have l:twQ h l0 l2 i j=(q1 != T):=by rw [d,o,p]
     have c:=Hd l;clear l o p d b0 b1 b2 b3;have y0:=Bt u0;have y2:=Bt v0;have v:Hid (i<l0.length):=by have:=a.out.2.2.1;exact (show i<l0.length by omega)
     go_upto_region 8 with fail
     obtain ⟨kc,kn⟩:=kcn wr;refine wk ?_;repeat (go_big_quiet_step ((first | (go_at_call 90;(with_reducible exact Qf (C1.out _ (Kin.h _)))) | (go_at_call 90;(with_reducible exact Qf (C2.out _ (Kin.h _)))) | fail)))
     refine wpQuiet_nil ?_;intro wz r;obtain ⟨Q,b⟩:=r;have hq:Bl wr wz:=b ▸ Q.h;have g:=Hd (Qc f.out hq);clear b Q kc kn hq C1 C2 u0 u1 v0 v1
     cases q1
     ·cases T
      ·have U:=Hd c.out;go_wp2;go_roundg (i - (j+1))
       case measure=>omega
       case rel =>
        refine ⟨j+1,γ,rfl,σ,fun k hk=>?_,g.out⟩;by_cases e:k=j
        ·subst e;exact U.out
        ·exact n.out k γ
      ·have y:Hid (R=true):=by
        have:R=true:=W.out.trans (Xv v.out (Xv h2 c.out));exact this
       go_wp2;try rw [Exit.noGoto_ret]
       try rw [Exit.noGoto_ret]
       go_ret;exact ⟨Qv y.out.symm,g.out⟩
     ·cases T
      ·have y:Hid (R=true):=by
        have:R=true:=W.out.trans (Xv v.out (Xv h2 c.out));exact this
       go_wp2;try rw [Exit.noGoto_ret]
       try rw [Exit.noGoto_ret]
       go_ret;exact ⟨Qv y.out.symm,g.out⟩
      ·have U:=Hd c.out;go_wp2;go_roundg (i - (j+1))
       case measure=>omega
       case rel =>
        refine ⟨j+1,γ,rfl,σ,fun k hk=>?_,g.out⟩;by_cases e:k=j
        ·subst e;exact U.out
        ·exact n.out k γ
    ·have j1:¬ (j:Int)<(i:Int):=γ;go_wp2;go_roundg (m - (i+1))
     case measure=>omega
     case rel =>
      refine ⟨i+1,γ,rfl,σ,fun k hk=>?_,f.out⟩;by_cases e:k=i
      ·subst e;exact Vp (fun q hq=>n.out q γ)
      ·exact x.out k γ
  ·have i1:¬ (i:Int)<(m:Int):=γ;have y:Hid (R=false):=by rw [W.out];exact Vp (fun j hj=>x.out j (by have:=a.out.2.2.1;omega))
   go_wp2;go_ret;exact ⟨Qv y.out.symm,f.out⟩
def MBx (w:World) (b:Nat) (a0 a1 a2 a3:Option Addr) (m0 c0 m1 c1 m2 c2 m3 c3:Nat):Prop:=At w b 0 (.slice a0 m0 c0)∧At w b 1 (.slice a1 m1 c1)∧At w b 2 (.slice a2 m2 c2)∧At w b 3 (.slice a3 m3 c3)
theorem either104_any (w:World) (i h d:Nat) (a0 a1 g a3:Option Addr) (k c0 l c1 m c2 n c3:Nat) (r0 r1:Bool) (j:At w i 0 (.func (.func 107) #[] #[])) (p:MBx w h a0 a1 g a3 k c0 l c1 m c2 n c3)
  (b:Hid (∀ V:World,Bl w V→Rt 107 #[.agg #[.slice a0 k c0,.slice a1 l c1],ABv d] V (.bool r0)))
  (f:Hid (∀ V:World,Bl w V→Rt 107 #[.agg #[.slice g m c2,.slice a3 n c3],ABv d] V (.bool r1))) :
  Rt 144 #[ABv d,.pointer (Az i),.pointer (Az h)] w (.bool (r0 || r1)):=by
 obtain ⟨o,x1,x2,x3⟩:=p;have zW:=Bt j;have t:=Bt o;unfold ABv at b f ⊢
 cases r0
 ·go_enter Tryz.func144,Tryz.ntmps144;go_wp2_with (first | (go_at_call 107;(with_reducible refine (b.out _ (Qe _)).mono ?_);rintro e w1 ⟨rfl,hb⟩;have r:=Qa hb x2;have y1:=Qa hb x3;have s:=Qa hb j;have a:=Hd hb;clear hb o x1) | (go_at_call 107;(with_reducible refine (f.out _ a.out).mono ?_);rintro e q ⟨rfl,hb⟩;have c:=Hd (Qc a.out hb);clear hb) | fail)
  go_ret;exact ⟨Qv ξ,c.out⟩
 ·go_enter Tryz.func144,Tryz.ntmps144;go_wp2_with (first | (go_at_call 107;(with_reducible refine (b.out _ (Qe _)).mono ?_);rintro e w1 ⟨rfl,hb⟩;have a:=Hd hb;clear hb) | fail)
  go_ret;exact ⟨Qv ξ,a.out⟩
theorem Qay (w:World) (a0 a1 a a3:Option Addr) (b c0 c c1 d c2 f c3:Nat) :
  Cl 106 #[.agg #[.slice a0 b c0,.slice a1 c c1,.slice a d c2,.slice a3 f c3],.func (.func 107) #[] #[]] w fun e w'=>e=.returned (.func (.func 144) #[] #[.pointer (Az (w.heap.size+1)),.pointer (Az w.heap.size)])∧w'=(w.alloc (.cells #[.slice a0 b c0,.slice a1 c c1,.slice a d c2,.slice a3 f c3] 122)).alloc (.cells #[.func (.func 107) #[] #[]] 172):=by
 have g:=Jf;go_enter Tryz.func106,Tryz.ntmps106;go_wp2;go_ret;exact ⟨rfl,rfl⟩
theorem either105_any (w:World) (i h d:Nat) (a0 a1 g a3:Option Addr) (k c0 l c1 m c2 n c3:Nat) (r0 r1:Bool) (j:At w i 0 (.func (.func 108) #[] #[])) (p:MBx w h a0 a1 g a3 k c0 l c1 m c2 n c3)
  (b:Hid (∀ V:World,Bl w V→Rt 108 #[.agg #[.slice a0 k c0,.slice a1 l c1],ABv d] V (.bool r0)))
  (f:Hid (∀ V:World,Bl w V→Rt 108 #[.agg #[.slice g m c2,.slice a3 n c3],ABv d] V (.bool r1))) :
  Rt 144 #[ABv d,.pointer (Az i),.pointer (Az h)] w (.bool (r0 || r1)):=by
 obtain ⟨o,x1,x2,x3⟩:=p;have zW:=Bt j;have t:=Bt o;unfold ABv at b f ⊢
 cases r0
 ·go_enter Tryz.func144,Tryz.ntmps144;go_wp2_with (first | (go_at_call 108;(with_reducible refine (b.out _ (Qe _)).mono ?_);rintro e w1 ⟨rfl,hb⟩;have r:=Qa hb x2;have y1:=Qa hb x3;have s:=Qa hb j;have a:=Hd hb;clear hb o x1) | (go_at_call 108;(with_reducible refine (f.out _ a.out).mono ?_);rintro e q ⟨rfl,hb⟩;have c:=Hd (Qc a.out hb);clear hb) | fail)
  go_ret;exact ⟨Qv ξ,c.out⟩
 ·go_enter Tryz.func144,Tryz.ntmps144;go_wp2_with (first | (go_at_call 108;(with_reducible refine (b.out _ (Qe _)).mono ?_);rintro e w1 ⟨rfl,hb⟩;have a:=Hd hb;clear hb) | fail)
  go_ret;exact ⟨Qv ξ,a.out⟩
theorem Qax (w:World) (a0 a1 a a3:Option Addr) (b c0 c c1 d c2 f c3:Nat) :
  Cl 106 #[.agg #[.slice a0 b c0,.slice a1 c c1,.slice a d c2,.slice a3 f c3],.func (.func 108) #[] #[]] w fun e w'=>e=.returned (.func (.func 144) #[] #[.pointer (Az (w.heap.size+1)),.pointer (Az w.heap.size)])∧w'=(w.alloc (.cells #[.slice a0 b c0,.slice a1 c c1,.slice a d c2,.slice a3 f c3] 122)).alloc (.cells #[.func (.func 108) #[] #[]] 172):=by
 have g:=Jf;go_enter Tryz.func106,Tryz.ntmps106;go_wp2;go_ret;exact ⟨rfl,rfl⟩
theorem either106_any (w:World) (i h d:Nat) (a0 a1 g a3:Option Addr) (k c0 l c1 m c2 n c3:Nat) (r0 r1:Bool) (j:At w i 0 (.func (.func 109) #[] #[])) (p:MBx w h a0 a1 g a3 k c0 l c1 m c2 n c3)
  (b:Hid (∀ V:World,Bl w V→Rt 109 #[.agg #[.slice a0 k c0,.slice a1 l c1],ABv d] V (.bool r0)))
  (f:Hid (∀ V:World,Bl w V→Rt 109 #[.agg #[.slice g m c2,.slice a3 n c3],ABv d] V (.bool r1))) :
  Rt 144 #[ABv d,.pointer (Az i),.pointer (Az h)] w (.bool (r0 || r1)):=by
 obtain ⟨o,x1,x2,x3⟩:=p;have zW:=Bt j;have t:=Bt o;unfold ABv at b f ⊢
 cases r0
 ·go_enter Tryz.func144,Tryz.ntmps144;go_wp2_with (first | (go_at_call 109;(with_reducible refine (b.out _ (Qe _)).mono ?_);rintro e w1 ⟨rfl,hb⟩;have r:=Qa hb x2;have y1:=Qa hb x3;have s:=Qa hb j;have a:=Hd hb;clear hb o x1) | (go_at_call 109;(with_reducible refine (f.out _ a.out).mono ?_);rintro e q ⟨rfl,hb⟩;have c:=Hd (Qc a.out hb);clear hb) | fail)
  go_ret;exact ⟨Qv ξ,c.out⟩
 ·go_enter Tryz.func144,Tryz.ntmps144;go_wp2_with (first | (go_at_call 109;(with_reducible refine (b.out _ (Qe _)).mono ?_);rintro e w1 ⟨rfl,hb⟩;have a:=Hd hb;clear hb) | fail)
  go_ret;exact ⟨Qv ξ,a.out⟩
theorem Qaw (w:World) (a0 a1 a a3:Option Addr) (b c0 c c1 d c2 f c3:Nat) :
  Cl 106 #[.agg #[.slice a0 b c0,.slice a1 c c1,.slice a d c2,.slice a3 f c3],.func (.func 109) #[] #[]] w fun e w'=>e=.returned (.func (.func 144) #[] #[.pointer (Az (w.heap.size+1)),.pointer (Az w.heap.size)])∧w'=(w.alloc (.cells #[.slice a0 b c0,.slice a1 c c1,.slice a d c2,.slice a3 f c3] 122)).alloc (.cells #[.func (.func 109) #[] #[]] 172):=by
 have g:=Jf;go_enter Tryz.func106,Tryz.ntmps106;go_wp2;go_ret;exact ⟨rfl,rfl⟩
end Go.Proofs.YtjkjpopghkeibaaGreatDoor
