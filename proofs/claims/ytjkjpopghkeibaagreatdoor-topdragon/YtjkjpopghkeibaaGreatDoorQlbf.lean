/- A part of it. -/
import Derived.Test.YtjkjpopghkeibaaGreatDoorQlax
set_option maxRecDepth 100000
set_option maxHeartbeats 40000000
namespace Go.Proofs.YtjkjpopghkeibaaGreatDoor
open Go.RowKit Go.ChangeMaps
variable {w:World} {b:Nat} {c d e f g:Value}
def BX5 (w:World) (b:Nat) (u0 u1 u2 u3 u4:Value):Prop:=(At w b 0 (u0)∧At w b 1 (u1)∧At w b 2 (u2)∧At w b 3 (u3)∧At w b 4 (u4))∧(Fn w b 0∧Fn w b 1∧Fn w b 2∧Fn w b 3∧Fn w b 4)
theorem BX5.kept {w':World} {a:Value} (h:BX5 w b a c d e f) (hb:Bl w w'):BX5 w' b a c d e f:=by
 obtain ⟨⟨h0,h1,h2,h3,h4⟩,k0,k1,k2,k3,g⟩:=h;exact ⟨⟨Qa hb h0,Qa hb h1,Qa hb h2,Qa hb h3,Qa hb h4⟩,frozen_kept hb h0 k0,frozen_kept hb h1 k1,frozen_kept hb h2 k2,frozen_kept hb h3 k3,frozen_kept hb h4 g⟩
def setBX5 (w:World) (b:Nat) (u0 u1 u2 u3 u4:Value):World:=((((w.setCell ⟨b,0,none⟩ u0).setCell ⟨b,1,none⟩ u1).setCell ⟨b,2,none⟩ u2).setCell ⟨b,3,none⟩ u3).setCell ⟨b,4,none⟩ u4
theorem setBX5_grown (w:World) (b:Nat) (a c d e f:Value):w.grownBy (setBX5 w b a c d e f) (some b):=by
 unfold setBX5;exact grown_then (grown_then (grown_then (grown_then (Ql _ _ _ _) (Ql _ _ _ _)) (Ql _ _ _ _)) (Ql _ _ _ _)) (Ql _ _ _ _)
theorem BX5.put {g0 g1 g2 g3 g4:Value} (h:BX5 w b c d e f g):BX5 (setBX5 w b g0 g1 g2 g3 g4) b g0 g1 g2 g3 g4:=by
 obtain ⟨⟨h0,h1,h2,h3,h4⟩,k0,k1,k2,k3,a⟩:=h;unfold setBX5;refine ⟨⟨?_, ?_, ?_, ?_, ?_⟩, ?_, ?_, ?_, ?_, ?_⟩
 ·simp [go_sem,h0]
 ·simp [go_sem,h1]
 ·simp [go_sem,h2]
 ·simp [go_sem,h3]
 ·simp [go_sem,h4]
 ·simp [k0]
 ·simp [k1]
 ·simp [k2]
 ·simp [k3]
 ·simp [a]
def BX6 (w:World) (b:Nat) (u0 u1 u2 u3 u4 u5:Value):Prop:=(At w b 0 (u0)∧At w b 1 (u1)∧At w b 2 (u2)∧At w b 3 (u3)∧At w b 4 (u4)∧At w b 5 (u5))∧(Fn w b 0∧Fn w b 1∧Fn w b 2∧Fn w b 3∧Fn w b 4∧Fn w b 5)
theorem BX6.kept {w':World} {a:Value} (h:BX6 w b a c d e f g) (hb:Bl w w'):BX6 w' b a c d e f g:=by
 obtain ⟨⟨h0,h1,h2,h3,h4,h5⟩,k0,k1,k2,k3,i,j⟩:=h;exact ⟨⟨Qa hb h0,Qa hb h1,Qa hb h2,Qa hb h3,Qa hb h4,Qa hb h5⟩,frozen_kept hb h0 k0,frozen_kept hb h1 k1,frozen_kept hb h2 k2,frozen_kept hb h3 k3,frozen_kept hb h4 i,frozen_kept hb h5 j⟩
def setBX6 (w:World) (b:Nat) (u0 u1 u2 u3 u4 u5:Value):World:=(((((w.setCell ⟨b,0,none⟩ u0).setCell ⟨b,1,none⟩ u1).setCell ⟨b,2,none⟩ u2).setCell ⟨b,3,none⟩ u3).setCell ⟨b,4,none⟩ u4).setCell ⟨b,5,none⟩ u5
theorem setBX6_grown (w:World) (b:Nat) (a c d e f g:Value):w.grownBy (setBX6 w b a c d e f g) (some b):=by
 unfold setBX6;exact grown_then (grown_then (grown_then (grown_then (grown_then (Ql _ _ _ _) (Ql _ _ _ _)) (Ql _ _ _ _)) (Ql _ _ _ _)) (Ql _ _ _ _)) (Ql _ _ _ _)
theorem BX6.put {i j g0 g1 g2 g3 g4 g5:Value} (h:BX6 w b d e f g i j):BX6 (setBX6 w b g0 g1 g2 g3 g4 g5) b g0 g1 g2 g3 g4 g5:=by
 obtain ⟨⟨h0,h1,h2,h3,h4,h5⟩,k0,k1,k2,k3,a,c⟩:=h;unfold setBX6;refine ⟨⟨?_, ?_, ?_, ?_, ?_, ?_⟩, ?_, ?_, ?_, ?_, ?_, ?_⟩
 ·simp [go_sem,h0]
 ·simp [go_sem,h1]
 ·simp [go_sem,h2]
 ·simp [go_sem,h3]
 ·simp [go_sem,h4]
 ·simp [go_sem,h5]
 ·simp [k0]
 ·simp [k1]
 ·simp [k2]
 ·simp [k3]
 ·simp [a]
 ·simp [c]
section
variable {P:Program} {ops:Array Oper} {Q:Exit→Act→World→Prop} {S:World→Prop} {late:Nat→Bool}
theorem Lt.two {i j:Nat} {c d:Oper} {n:Nat} {L:Array Bool} {a:Act} (hr:Region.ready .any ops L=[i,j]) (hi:ops[i]?=some c) (g:ops[j]?=some d) (e:c.guard=none) (f:d.guard=none)
  (h1:Oper.wp P c a w (fun b w'=>(late i=false→S w')∧Lt P ops Q S late n (L.setIfInBounds i true) b w') Q)
  (h2:Oper.wp P d a w (fun b w'=>(late j=false→S w')∧Lt P ops Q S late n (L.setIfInBounds j true) b w') Q):Lt P ops Q S late (n+1) L a w:=by
 refine ⟨fun h=>(by rw [hr] at h;cases h),fun q hq=>?_⟩;rw [hr] at hq;simp at hq;rcases hq with rfl | rfl
 ·unfold wpOp;simp only [hi];rw [if_pos (by simp [Region.wanted,e])];exact Or.inl h1
 ·unfold wpOp;simp only [g];rw [if_pos (by simp [Region.wanted,f])];exact Or.inl h2
end
def LayTo (w w':World) (W H:Int) (zl n2 N sn:Nat) (S5:Nat→Option Addr→Nat→Option Addr→Nat→Option Addr→Nat→Option Addr→Nat→World→Prop) (e:Ending):Prop := ∃ base a1 c1 b1 c2 m1 c3 p1 c4,e=.returned (.tuple #[.agg #[I W,I H,.slice a1 zl c1,.slice b1 n2 c2,.slice m1 N c3,.slice p1 sn c4],I 0])∧S5 base a1 c1 b1 c2 m1 c3 p1 c4 w'∧w.heap.size≤base∧Bl w w'
theorem layF_ok (f0 f1 f2 f3 f4 f5 f6 f7 f8 f9 f10 f11 f12 f13 f14:Value) (W H:Int) (a0 c0:Option Addr) (x ca n cc n2 N K:Nat) (M:Nat→M6) (PS:List T3) (w:World) (hN:0<N) (bn:0<PS.length)
  (S1:Option Addr→Nat→Option Addr→Nat→World→Prop) (S2:Option Addr→Nat→Nat→Nat→World→Prop) (R:Nat→Option Addr→Nat→Option Addr→Nat→Option Addr→Nat→Option Addr→Nat→World→Prop)
  (k1:∀ (V P:World) (B:Option Addr) (D:Nat) (C:Option Addr) (E:Nat),S1 B D C E V→Bl V P→S1 B D C E P)
  (k2:∀ (V P:World) (a:Option Addr) (k c d:Nat),S2 a k c d V→Bl V P→S2 a k c d P)
  (k5:∀ (V P:World) (base:Nat) (a1:Option Addr) (c1:Nat) (b1:Option Addr) (c2:Nat) (m:Option Addr) (c3:Nat) (l:Option Addr) (c4:Nat),R base a1 c1 b1 c2 m c3 l c4 V→Bl V P→R base a1 c1 b1 c2 m c3 l c4 P)
  (k6:∀ (V P:World) (base b:Nat) (a1:Option Addr) (c1:Nat) (b1:Option Addr) (c2:Nat) (m:Option Addr) (c3:Nat) (l:Option Addr) (c4:Nat),R base a1 c1 b1 c2 m c3 l c4 V→V.grownBy P (some b)→b<base→R base a1 c1 b1 c2 m c3 l c4 P)
  (bh:∀ V:World,Bl w V→Cl 31 #[.agg #[f0,f1,f2,f3,f4,f5,f6,f7,f8,f9,f10,f11,f12,f13,f14],.agg #[I W,I H,.slice a0 x ca,.slice c0 n cc]] V fun e w'=>∃ B D C E,e=.returned (.agg #[I W,I H,.slice B x D,.slice C n2 E])∧S1 B D C E w'∧Bl V w')
  (be:∀ (V:World) (B:Option Addr) (D:Nat) (C:Option Addr) (E:Nat),Bl w V→S1 B D C E V→Cl 17 #[.agg #[I W,I H,.slice B x D,.slice C n2 E]] V fun e w'=>∃ a k c d,e=.returned (.tuple #[.agg #[.slice a N k,.map (some c),.map (some d)],.bool true])∧S2 a k c d w'∧Bl V w')
  (bj:∀ V:World,Bl w V→Cl 33 #[.agg #[f0,f1,f2,f3,f4,f5,f6,f7,f8,f9,f10,f11,f12,f13,f14]] V fun e w'=>∃ g o,e=.returned (.slice (Az g) N o)∧MRow w' g N M∧Bl V w')
  (bi:∀ (V:World) (a:Option Addr) (k c d g o:Nat),Bl w V→S2 a k c d V→MRow V g N M→Cl 32 #[.agg #[.slice a N k,.map (some c),.map (some d)],.slice (Az g) N o] V fun e w'=>∃ pa pc,e=.returned (.tuple #[.agg #[.slice a N k,.map (some c),.map (some d),.slice (Az g) N o,.slice pa N pc],.bool true])∧TRow w' pa PS∧Bl V w')
  (bm:∀ V:World,Cl 34 #[.agg #[f0,f1,f2,f3,f4,f5,f6,f7,f8,f9,f10,f11,f12,f13,f14]] V fun e w'=>∃ bx,e=.returned (.func (.func 83) #[] #[.pointer (Az bx)])∧HB15 w' bx f0 f1 f2 f3 f4 f5 f6 f7 f8 f9 f10 f11 f12 f13 f14∧Bl V w')
  (bf:∀ (V:World) (B:Option Addr) (D:Nat) (C:Option Addr) (E:Nat) (a:Option Addr) (k c d g o:Nat) (pa:Option Addr) (pc bx:Nat),Bl w V→S1 B D C E V→S2 a k c d V→MRow V g N M→TRow V pa PS→HB15 V bx f0 f1 f2 f3 f4 f5 f6 f7 f8 f9 f10 f11 f12 f13 f14→Cl 23 #[.agg #[.slice a N k,.map (some c),.map (some d),.slice (Az g) N o,.slice pa N pc],.agg #[I W,I H,.slice B x D,.slice C n2 E],.func (.func 83) #[] #[.pointer (Az bx)]] V fun e w'=>∃ a1 c1 b1 c2 m c3 l c4,e=.returned (.agg #[I W,I H,.slice a1 x c1,.slice b1 n2 c2,.slice m N c3,.slice l K c4])∧R V.heap.size a1 c1 b1 c2 m c3 l c4 w'∧Bl V w')
  (bg:∀ (V:World) (base:Nat) (a1:Option Addr) (c1:Nat) (b1:Option Addr) (c2:Nat) (m:Option Addr) (c3:Nat) (l:Option Addr) (c4:Nat),Bl w V→R base a1 c1 b1 c2 m c3 l c4 V→Cl 24 #[.agg #[I W,I H,.slice a1 x c1,.slice b1 n2 c2,.slice m N c3,.slice l K c4]] V fun e w'=>∃ q qc,e=.returned (.tuple #[.slice q 0 qc,I 0])∧Bl V w') :
  Cl 13 #[.agg #[f0,f1,f2,f3,f4,f5,f6,f7,f8,f9,f10,f11,f12,f13,f14],.agg #[I W,I H,.slice a0 x ca,.slice c0 n cc]] w fun e w'=>LayTo w w' W H x n2 N K R e:=by
 have C1:Hid (∀ (V P:World) (B:Option Addr) (D:Nat) (C:Option Addr) (E:Nat),S1 B D C E V→Bl V P→S1 B D C E P):=k1;have C2:Hid (∀ (V P:World) (a:Option Addr) (k c d:Nat),S2 a k c d V→Bl V P→S2 a k c d P):=k2;have C5:Hid (∀ (V P:World) (base:Nat) (a1:Option Addr) (c1:Nat) (b1:Option Addr) (c2:Nat) (m:Option Addr) (c3:Nat) (l:Option Addr) (c4:Nat),R base a1 c1 b1 c2 m c3 l c4 V→Bl V P→R base a1 c1 b1 c2 m c3 l c4 P):=k5;have C6:Hid (∀ (V P:World) (base b:Nat) (a1:Option Addr) (c1:Nat) (b1:Option Addr) (c2:Nat) (m:Option Addr) (c3:Nat) (l:Option Addr) (c4:Nat),R base a1 c1 b1 c2 m c3 l c4 V→V.grownBy P (some b)→b<base→R base a1 c1 b1 c2 m c3 l c4 P):=k6;have bs:Hid (∀ V:World,Bl w V→Cl 31 #[.agg #[f0,f1,f2,f3,f4,f5,f6,f7,f8,f9,f10,f11,f12,f13,f14],.agg #[I W,I H,.slice a0 x ca,.slice c0 n cc]] V fun e w'=>∃ B D C E,e=.returned (.agg #[I W,I H,.slice B x D,.slice C n2 E])∧S1 B D C E w'∧Bl V w'):=bh;have bq:Hid (∀ (V:World) (B:Option Addr) (D:Nat) (C:Option Addr) (E:Nat),Bl w V→S1 B D C E V→Cl 17 #[.agg #[I W,I H,.slice B x D,.slice C n2 E]] V fun e w'=>∃ a k c d,e=.returned (.tuple #[.agg #[.slice a N k,.map (some c),.map (some d)],.bool true])∧S2 a k c d w'∧Bl V w'):=be;have b8:Hid (∀ V:World,Bl w V→Cl 33 #[.agg #[f0,f1,f2,f3,f4,f5,f6,f7,f8,f9,f10,f11,f12,f13,f14]] V fun e w'=>∃ g o,e=.returned (.slice (Az g) N o)∧MRow w' g N M∧Bl V w'):=bj;have ap:Hid (∀ (V:World) (a:Option Addr) (k c d:Nat) (g o:Nat),Bl w V→S2 a k c d V→MRow V g N M→Cl 32 #[.agg #[.slice a N k,.map (some c),.map (some d)],.slice (Az g) N o] V fun e w'=>∃ pa pc,e=.returned (.tuple #[.agg #[.slice a N k,.map (some c),.map (some d),.slice (Az g) N o,.slice pa N pc],.bool true])∧TRow w' pa PS∧Bl V w'):=bi;have b9:Hid (∀ V:World,Cl 34 #[.agg #[f0,f1,f2,f3,f4,f5,f6,f7,f8,f9,f10,f11,f12,f13,f14]] V fun e w'=>∃ bx,e=.returned (.func (.func 83) #[] #[.pointer (Az bx)])∧HB15 w' bx f0 f1 f2 f3 f4 f5 f6 f7 f8 f9 f10 f11 f12 f13 f14∧Bl V w'):=bm;have ao:Hid (∀ (V:World) (B:Option Addr) (D:Nat) (C:Option Addr) (E:Nat) (a:Option Addr) (k c d:Nat) (g o:Nat) (pa:Option Addr) (pc:Nat) (bx:Nat),Bl w V→S1 B D C E V→S2 a k c d V→MRow V g N M→TRow V pa PS→HB15 V bx f0 f1 f2 f3 f4 f5 f6 f7 f8 f9 f10 f11 f12 f13 f14→Cl 23 #[.agg #[.slice a N k,.map (some c),.map (some d),.slice (Az g) N o,.slice pa N pc],.agg #[I W,I H,.slice B x D,.slice C n2 E],.func (.func 83) #[] #[.pointer (Az bx)]] V fun e w'=>∃ a1 c1 b1 c2 m c3 l c4,e=.returned (.agg #[I W,I H,.slice a1 x c1,.slice b1 n2 c2,.slice m N c3,.slice l K c4])∧R V.heap.size a1 c1 b1 c2 m c3 l c4 w'∧Bl V w'):=bf;have br:Hid (∀ (V:World) (base:Nat) (a1:Option Addr) (c1:Nat) (b1:Option Addr) (c2:Nat) (m:Option Addr) (c3:Nat) (l:Option Addr) (c4:Nat),Bl w V→R base a1 c1 b1 c2 m c3 l c4 V→Cl 24 #[.agg #[I W,I H,.slice a1 x c1,.slice b1 n2 c2,.slice m N c3,.slice l K c4]] V fun e w'=>∃ q qc,e=.returned (.tuple #[.slice q 0 qc,I 0])∧Bl V w'):=bg;have HN:Hid (0<N∧0<PS.length):=⟨hN,bn⟩;clear k1 k2 k5 k6 bh be bj bi bm bf bg hN bn;go_enter Tryz.func13,Tryz.ntmps13;go_upto_region 1 with fail
 refine Qi (fun W0 hW0=>?_)
 have a8:Hid ((HB15 W0 w.heap.size f0 f1 f2 f3 f4 f5 f6 f7 f8 f9 f10 f11 f12 f13 f14∧BX6 W0 (w.heap.size+1+1) (I 0) (I 0) SN SN SN SN∧Bl w W0)∧(At W0 (w.heap.size+1) 0 (I W)∧At W0 (w.heap.size+1) 1 (I H)∧At W0 (w.heap.size+1) 2 (.slice a0 x ca)∧At W0 (w.heap.size+1) 3 (.slice c0 n cc))):=by
  rw [hW0];refine ⟨⟨?_, ?_, ?_⟩, ?_⟩
  ·simp [HB15,go_sem]
  ·simp [BX6,go_sem]
  ·with_reducible repeat' (first | exact Qe _ | refine Qb ?_ | refine Qg ?_)
  ·simp [go_sem]
 clear hW0;obtain ⟨k0,k1,k2,k3⟩:=a8.out.2;obtain ⟨x0,x1,x2,x3,x4,x5,x6,x7,x8,x9,bv,bw,bz,cb,cd⟩:=a8.out.1.1;have xz:=bk x0;dsimp only at xz;go_upto_region 2 with (go_at_call 31;refine (bs.out _ a8.out.1.2.2).mono ?_;rintro e w1 ⟨B,D,C,E,rfl,h1,hb⟩;have ah:Hid ((HB15 w1 w.heap.size f0 f1 f2 f3 f4 f5 f6 f7 f8 f9 f10 f11 f12 f13 f14∧BX6 w1 (w.heap.size+1+1) (I 0) (I 0) SN SN SN SN∧Bl w w1)∧S1 B D C E w1):=⟨⟨a8.out.1.1.kept hb,a8.out.1.2.1.kept hb,Qc a8.out.1.2.2 hb⟩,h1⟩;clear hb h1 x0 x1 x2 x3 x4 x5 x6 x7 x8 x9 bv bw bz cb cd xz k0 k1 k2 k3)
 refine Qi (fun W2 ay=>?_);obtain ⟨T,A⟩:∃ b,b=w1.heap.size:=⟨_,rfl⟩
 have X:Hid ((HB15 W2 w.heap.size f0 f1 f2 f3 f4 f5 f6 f7 f8 f9 f10 f11 f12 f13 f14∧BX6 W2 (w.heap.size+1+1) (I 0) (I 0) SN SN SN SN∧Bl w W2)∧S1 B D C E W2∧(At W2 T 0 (I W)∧At W2 T 1 (I H)∧At W2 T 2 (.slice B x D)∧At W2 T 3 (.slice C n2 E))):=by
  have hb:Bl w1 W2:=by
   rw [ay];with_reducible repeat' (first | exact Qe _ | refine Qb ?_ | refine Qg ?_)
  refine ⟨⟨ah.out.1.1.kept hb,ah.out.1.2.1.kept hb,Qc ah.out.1.2.2 hb⟩,C1.out _ _ _ _ _ _ ah.out.2 hb, ?_⟩;rw [ay,A];simp [go_sem]
 rw [← A];clear ay ah a8 A;obtain ⟨k0,k1,k2,k3⟩:=X.out.2.2;go_upto_region 3 with (go_at_call 17;refine (bq.out _ B D C E X.out.1.2.2 X.out.2.1).mono ?_;rintro e w3 ⟨a,k,c,d,rfl,h2,hb⟩;have av:Hid (Bl W2 w3∧S2 a k c d w3):=⟨hb,h2⟩;clear hb h2 k0 k1 k2 k3)
 refine Qi (fun y az=>?_);obtain ⟨b7,b5⟩:∃ b,b=w3.heap.size:=⟨_,rfl⟩
 have L:Hid ((HB15 y w.heap.size f0 f1 f2 f3 f4 f5 f6 f7 f8 f9 f10 f11 f12 f13 f14∧BX6 y (w.heap.size+1+1) (I 0) (I 0) SN SN SN SN∧Bl w y)∧S1 B D C E y∧(At y T 0 (I W)∧At y T 1 (I H)∧At y T 2 (.slice B x D)∧At y T 3 (.slice C n2 E))∧S2 a k c d y∧(At y b7 0 (.slice a N k)∧At y b7 1 (.map (some c))∧At y b7 2 (.map (some d)))):=by
  have hb:Bl w3 y:=by
   rw [az];with_reducible repeat' (first | exact Qe _ | refine Qb ?_ | refine Qg ?_)
  have Z:=Qc av.out.1 hb;obtain ⟨k0,k1,k2,k3⟩:=X.out.2.2;refine ⟨⟨X.out.1.1.kept Z,X.out.1.2.1.kept Z,Qc X.out.1.2.2 Z⟩,C1.out _ _ _ _ _ _ X.out.2.1 Z,⟨Qa Z k0,Qa Z k1,Qa Z k2,Qa Z k3⟩,C2.out _ _ _ _ _ _ av.out.2 hb, ?_⟩;rw [az,b5];simp [go_sem]
 rw [← b5];clear az av X b5;go_cut [9,10] (fun s9 bt wx=>∃ g o pa pc bN,s9=.pointer (Az bN)∧bt=.bool true∧BX5 wx bN (.slice a N k) (.map (some c)) (.map (some d)) (.slice (Az g) N o) (.slice pa N pc)∧MRow wx g N M∧TRow wx pa PS∧Bl y wx)
 case first =>
  obtain ⟨p0,l,p2⟩:=L.out.2.2.2.2;have F:Hid (∀ V:World,Bl y V→(fun w'=>At w' b7 0 (.slice a N k)∧At w' b7 1 (.map (some c))∧At w' b7 2 (.map (some d))∧HB15 w' w.heap.size f0 f1 f2 f3 f4 f5 f6 f7 f8 f9 f10 f11 f12 f13 f14) V):=fun V hV=>⟨Qa hV p0,Qa hV l,Qa hV p2,L.out.1.1.kept hV⟩;have O:Hid (Bl w y):=L.out.1.2.2;have HZ:Hid (w.heap.size<y.heap.size∧b7<y.heap.size):=⟨bk L.out.1.1.1,bk p0⟩;clear p0 l p2;refine Jz (S:=fun w'=>At w' b7 0 (.slice a N k)∧At w' b7 1 (.map (some c))∧At w' b7 2 (.map (some d))∧HB15 w' w.heap.size f0 f1 f2 f3 f4 f5 f6 f7 f8 f9 f10 f11 f12 f13 f14) (late:=fun _=>false) η ?_;have p:=F.out _ (Qg (Qe y));refine Lt.take (i:=0) (v:=.agg #[.slice a N k,.map (some c),.map (some d)]) rfl η η η rfl η η (fun _ _ _ h=>h) (Or.inl ⟨Ω, ?hyy⟩) p ?_
  case hyy=>(intro w' u;(try dsimp only [HB15] at u);go_simp)
  try simp only [Ap]
  refine Lt.take (i:=1) (v:=.agg #[f0,f1,f2,f3,f4,f5,f6,f7,f8,f9,f10,f11,f12,f13,f14]) rfl η η η rfl η η (fun _ _ _ h=>h) (Or.inl ⟨Ω, ?hyy⟩) p ?_
  case hyy=>(intro w' u;(try dsimp only [HB15] at u);go_simp)
  try simp only [Ap]
  refine Lt.two (i:=2) (j:=7) η rfl rfl rfl rfl ?pa ?pb
  case pa =>
   refine Qag 33 #[.agg #[f0,f1,f2,f3,f4,f5,f6,f7,f8,f9,f10,f11,f12,f13,f14]] η (b8.out _ (Qc O.out (Qg (Qe y)))) ?_;rintro e s ⟨g,o,rfl,ax,Q⟩;have f:Hid (Bl y s):=Qc (Qg (Qe y)) Q;have a6:Hid (MRow s g N M):=ax;refine ⟨_,rfl,fun _=>F.out _ f.out, ?_⟩;try simp only [Ap]
   replace p:=F.out _ f.out;refine Lt.two (i:=3) (j:=7) η rfl rfl rfl rfl ?pc ?pd
   case pc =>
    refine Qag 32 #[.agg #[.slice a N k,.map (some c),.map (some d)],.slice (Az g) N o] η (ap.out _ a k c d g o (Qc O.out f.out) (C2.out _ _ _ _ _ _ L.out.2.2.2.1 f.out) a6.out) ?_;rintro e r ⟨pa,pc,rfl,aj,A⟩;have t:Hid (Bl y r):=Qc f.out A;refine ⟨_,rfl,fun _=>F.out _ t.out, ?_⟩;try simp only [Ap]
    replace p:=F.out _ t.out;refine Lt.take (i:=4) (v:=.tuple #[.agg #[.slice a N k,.map (some c),.map (some d),.slice (Az g) N o,.slice pa N pc],.bool true]) rfl η η η rfl η η (fun _ _ _ h=>h) (Or.inl ⟨Ω, ?hyy⟩) p ?_
    case hyy=>(intro w' u;(try dsimp only [HB15] at u);go_simp)
    try simp only [Ap]
    refine Lt.take (i:=5) (v:=.agg #[.slice a N k,.map (some c),.map (some d),.slice (Az g) N o,.slice pa N pc]) rfl η η η rfl η η (fun _ _ _ h=>h) (Or.inl ⟨Ω, ?hyy⟩) p ?_
    case hyy=>(intro w' u;(try dsimp only [HB15] at u);go_simp)
    try simp only [Ap]
    refine Lt.take (i:=6) (v:=.bool true) rfl η η η rfl η η (fun _ _ _ h=>h) (Or.inl ⟨Ω, ?hyy⟩) p ?_
    case hyy=>(intro w' u;(try dsimp only [HB15] at u);go_simp)
    try simp only [Ap]
    refine Lt.one (i:=7) η rfl rfl ?_;go_simp;have U:Hid (Bl y (r.alloc (.cells #[SN,.map none,.map none,SN,SN] 61))):=Qb t.out;refine ⟨F.out _ U.out, ?_⟩;try simp only [Ap]
    have J:Hid (BX5 (r.alloc (.cells #[.slice a N k,.map (some c),.map (some d),.slice (Az g) N o,.slice pa N pc] 61)) r.heap.size (.slice a N k) (.map (some c)) (.map (some d)) (.slice (Az g) N o) (.slice pa N pc)∧MRow (r.alloc (.cells #[.slice a N k,.map (some c),.map (some d),.slice (Az g) N o,.slice pa N pc] 61)) g N M∧TRow (r.alloc (.cells #[.slice a N k,.map (some c),.map (some d),.slice (Az g) N o,.slice pa N pc] 61)) pa PS∧Bl y (r.alloc (.cells #[.slice a N k,.map (some c),.map (some d),.slice (Az g) N o,.slice pa N pc] 61))):=⟨(by simp [BX5,go_sem]),(a6.out.kept A).kept β1,aj.kept β1,Qb t.out⟩;have G:=F.out (r.alloc (.cells #[.slice a N k,.map (some c),.map (some d),.slice (Az g) N o,.slice pa N pc] 61)) J.out.2.2.2;refine Lt.one (i:=8) η rfl rfl ?_;go_simp;try refine ⟨G, ?_⟩
    try simp only [Ap]
    refine Lt.one (i:=9) η rfl rfl ?_;go_simp;try refine ⟨G, ?_⟩
    try simp only [Ap]
    refine Lt.done η ?_;go_wp2;go_meet
    case rel=>exact ⟨g,o,pa,pc,r.heap.size,rfl,rfl,J.out⟩
   case pd =>
    go_simp;have z:Hid (Bl y (s.alloc (.cells #[SN,.map none,.map none,SN,SN] 61))):=Qb f.out;refine ⟨F.out _ z.out, ?_⟩;try simp only [Ap]
    replace p:=F.out _ z.out;refine Lt.one (i:=3) η rfl rfl ?_;refine Qag 32 #[.agg #[.slice a N k,.map (some c),.map (some d)],.slice (Az g) N o] η (ap.out _ a k c d g o (Qc O.out z.out) (C2.out _ _ _ _ _ _ L.out.2.2.2.1 z.out) (a6.out.kept β1)) ?_;rintro e r ⟨pa,pc,rfl,aj,A⟩;have t:Hid (Bl y r):=Qc z.out A;refine ⟨_,rfl,fun _=>F.out _ t.out, ?_⟩;try simp only [Ap]
    replace p:=F.out _ t.out;refine Lt.take (i:=4) (v:=.tuple #[.agg #[.slice a N k,.map (some c),.map (some d),.slice (Az g) N o,.slice pa N pc],.bool true]) rfl η η η rfl η η (fun _ _ _ h=>h) (Or.inl ⟨Ω, ?hyy⟩) p ?_
    case hyy=>(intro w' u;(try dsimp only [HB15] at u);go_simp)
    try simp only [Ap]
    refine Lt.take (i:=5) (v:=.agg #[.slice a N k,.map (some c),.map (some d),.slice (Az g) N o,.slice pa N pc]) rfl η η η rfl η η (fun _ _ _ h=>h) (Or.inl ⟨Ω, ?hyy⟩) p ?_
    case hyy=>(intro w' u;(try dsimp only [HB15] at u);go_simp)
    try simp only [Ap]
    refine Lt.take (i:=6) (v:=.bool true) rfl η η η rfl η η (fun _ _ _ h=>h) (Or.inl ⟨Ω, ?hyy⟩) p ?_
    case hyy=>(intro w' u;(try dsimp only [HB15] at u);go_simp)
    try simp only [Ap]
    have a7:BX5 (s.alloc (.cells #[SN,.map none,.map none,SN,SN] 61)) s.heap.size SN (.map none) (.map none) SN SN:=by simp [BX5,go_sem]
    have HX:Hid (BX5 r s.heap.size SN (.map none) (.map none) SN SN):=a7.kept A;have ae:Hid (MRow r g N M):=(a6.out.kept β1).kept A;have af:Hid (TRow r pa PS):=aj;have U:Hid (Bl y r):=t.out;have aq:Hid (y.heap.size≤s.heap.size):=f.out.size;obtain ⟨⟨z0,z1,z2,z3,z4⟩,y0,y1,y2,y3,y4⟩:=HX.out;have zz:=bk z0;dsimp only at zz
    have J:Hid (BX5 (setBX5 r s.heap.size (.slice a N k) (.map (some c)) (.map (some d)) (.slice (Az g) N o) (.slice pa N pc)) s.heap.size (.slice a N k) (.map (some c)) (.map (some d)) (.slice (Az g) N o) (.slice pa N pc)∧MRow (setBX5 r s.heap.size (.slice a N k) (.map (some c)) (.map (some d)) (.slice (Az g) N o) (.slice pa N pc)) g N M∧TRow (setBX5 r s.heap.size (.slice a N k) (.map (some c)) (.map (some d)) (.slice (Az g) N o) (.slice pa N pc)) pa PS∧Bl y (setBX5 r s.heap.size (.slice a N k) (.map (some c)) (.map (some d)) (.slice (Az g) N o) (.slice pa N pc))):=by
     have hg:=setBX5_grown r s.heap.size (.slice a N k) (.map (some c)) (.map (some d)) (.slice (Az g) N o) (.slice pa N pc);exact ⟨HX.out.put,ae.out.grown hg (ae.out.not_at HN.out.1 z0),af.out.grown hg (af.out.not_at HN.out.2 z0),U.out.grown hg U.out.size (fun k h=>by cases h;exact aq.out)⟩
    have G:=F.out (setBX5 r s.heap.size (.slice a N k) (.map (some c)) (.map (some d)) (.slice (Az g) N o) (.slice pa N pc)) J.out.2.2.2;dsimp only [setBX5] at G;refine Lt.one (i:=8) η rfl rfl ?_;go_simp;try refine ⟨G, ?_⟩
    try simp only [Ap]
    refine Lt.one (i:=9) η rfl rfl ?_;go_simp;try refine ⟨G, ?_⟩
    try simp only [Ap]
    refine Lt.done η ?_;go_wp2;go_meet
    case rel=>exact ⟨g,o,pa,pc,s.heap.size,rfl,rfl,J.out⟩
  case pb =>
   go_simp;have z:Hid (Bl y (y.alloc (.cells #[SN,.map none,.map none,SN,SN] 61)).drew):=Qg β1;refine ⟨F.out (y.alloc (.cells #[SN,.map none,.map none,SN,SN] 61)) β1, ?_⟩;try simp only [Ap]
   replace p:=F.out _ z.out;refine Lt.one (i:=2) η rfl rfl ?_;refine Qag 33 #[.agg #[f0,f1,f2,f3,f4,f5,f6,f7,f8,f9,f10,f11,f12,f13,f14]] η (b8.out _ (Qc O.out z.out)) ?_;rintro e s ⟨g,o,rfl,ax,Q⟩;have f:Hid (Bl y s):=Qc z.out Q;have a6:Hid (MRow s g N M):=ax;refine ⟨_,rfl,fun _=>F.out _ f.out, ?_⟩;try simp only [Ap]
   replace p:=F.out _ f.out;refine Lt.one (i:=3) η rfl rfl ?_;refine Qag 32 #[.agg #[.slice a N k,.map (some c),.map (some d)],.slice (Az g) N o] η (ap.out _ a k c d g o (Qc O.out f.out) (C2.out _ _ _ _ _ _ L.out.2.2.2.1 f.out) a6.out) ?_;rintro e r ⟨pa,pc,rfl,aj,A⟩;have t:Hid (Bl y r):=Qc f.out A;refine ⟨_,rfl,fun _=>F.out _ t.out, ?_⟩;try simp only [Ap]
   replace p:=F.out _ t.out;refine Lt.take (i:=4) (v:=.tuple #[.agg #[.slice a N k,.map (some c),.map (some d),.slice (Az g) N o,.slice pa N pc],.bool true]) rfl η η η rfl η η (fun _ _ _ h=>h) (Or.inl ⟨Ω, ?hyy⟩) p ?_
   case hyy=>(intro w' u;(try dsimp only [HB15] at u);go_simp)
   try simp only [Ap]
   refine Lt.take (i:=5) (v:=.agg #[.slice a N k,.map (some c),.map (some d),.slice (Az g) N o,.slice pa N pc]) rfl η η η rfl η η (fun _ _ _ h=>h) (Or.inl ⟨Ω, ?hyy⟩) p ?_
   case hyy=>(intro w' u;(try dsimp only [HB15] at u);go_simp)
   try simp only [Ap]
   refine Lt.take (i:=6) (v:=.bool true) rfl η η η rfl η η (fun _ _ _ h=>h) (Or.inl ⟨Ω, ?hyy⟩) p ?_
   case hyy=>(intro w' u;(try dsimp only [HB15] at u);go_simp)
   try simp only [Ap]
   have a7:BX5 (y.alloc (.cells #[SN,.map none,.map none,SN,SN] 61)).drew y.heap.size SN (.map none) (.map none) SN SN:=by simp [BX5,go_sem]
   have HX:Hid (BX5 r y.heap.size SN (.map none) (.map none) SN SN):=(a7.kept Q).kept A;have ae:Hid (MRow r g N M):=a6.out.kept A;have af:Hid (TRow r pa PS):=aj;have U:Hid (Bl y r):=t.out;have aq:Hid (y.heap.size≤y.heap.size):=Nr _;obtain ⟨⟨z0,z1,z2,z3,z4⟩,y0,y1,y2,y3,y4⟩:=HX.out;have zz:=bk z0;dsimp only at zz
   have J:Hid (BX5 (setBX5 r y.heap.size (.slice a N k) (.map (some c)) (.map (some d)) (.slice (Az g) N o) (.slice pa N pc)) y.heap.size (.slice a N k) (.map (some c)) (.map (some d)) (.slice (Az g) N o) (.slice pa N pc)∧MRow (setBX5 r y.heap.size (.slice a N k) (.map (some c)) (.map (some d)) (.slice (Az g) N o) (.slice pa N pc)) g N M∧TRow (setBX5 r y.heap.size (.slice a N k) (.map (some c)) (.map (some d)) (.slice (Az g) N o) (.slice pa N pc)) pa PS∧Bl y (setBX5 r y.heap.size (.slice a N k) (.map (some c)) (.map (some d)) (.slice (Az g) N o) (.slice pa N pc))):=by
    have hg:=setBX5_grown r y.heap.size (.slice a N k) (.map (some c)) (.map (some d)) (.slice (Az g) N o) (.slice pa N pc);exact ⟨HX.out.put,ae.out.grown hg (ae.out.not_at HN.out.1 z0),af.out.grown hg (af.out.not_at HN.out.2 z0),U.out.grown hg U.out.size (fun k h=>by cases h;exact aq.out)⟩
   have G:=F.out (setBX5 r y.heap.size (.slice a N k) (.map (some c)) (.map (some d)) (.slice (Az g) N o) (.slice pa N pc)) J.out.2.2.2;dsimp only [setBX5] at G;refine Lt.one (i:=8) η rfl rfl ?_;go_simp;try refine ⟨G, ?_⟩
   try simp only [Ap]
   refine Lt.one (i:=9) η rfl rfl ?_;go_simp;try refine ⟨G, ?_⟩
   try simp only [Ap]
   refine Lt.done η ?_;go_wp2;go_meet
   case rel=>exact ⟨g,o,pa,pc,y.heap.size,rfl,rfl,J.out⟩
 case rest =>
  obtain ⟨g,o,pa,pc,bN,rfl,rfl,hX,hM,hT,hB⟩:=hcut;have HQ:Hid (BX5 wc bN (.slice a N k) (.map (some c)) (.map (some d)) (.slice (Az g) N o) (.slice pa N pc)∧Bl y wc):=⟨hX,hB⟩;have ak:Hid (S1 B D C E wc):=C1.out _ _ _ _ _ _ L.out.2.1 hB;have am:Hid (S2 a k c d wc):=C2.out _ _ _ _ _ _ L.out.2.2.2.1 hB;have a2:Hid (MRow wc g N M∧TRow wc pa PS):=⟨hM,hT⟩;have ac:Hid (HB15 wc w.heap.size f0 f1 f2 f3 f4 f5 f6 f7 f8 f9 f10 f11 f12 f13 f14∧BX6 wc (w.heap.size+1+1) (I 0) (I 0) SN SN SN SN∧Bl w wc):=⟨L.out.1.1.kept hB,L.out.1.2.1.kept hB,Qc L.out.1.2.2 hB⟩;have O:Hid (Bl w wc):=ac.out.2.2;have HZ:Hid (w.heap.size+1+1<wc.heap.size):=bk ac.out.2.1.1.1
  have bc:Hid (At wc T 0 (I W)∧At wc T 1 (I H)∧At wc T 2 (.slice B x D)∧At wc T 3 (.slice C n2 E)):=by
   obtain ⟨k0,k1,k2,k3⟩:=L.out.2.2.1;exact ⟨Qa hB k0,Qa hB k1,Qa hB k2,Qa hB k3⟩
  clear hX hM hT hB L;go_upto_region 6 with fail
  go_cut [11] (fun bu wx=>∃ base a1 c1 b1 c2 m c3 l c4 bM,bu=.pointer (Az bM)∧BX6 wx bM (I W) (I H) (.slice a1 x c1) (.slice b1 n2 c2) (.slice m N c3) (.slice l K c4)∧R base a1 c1 b1 c2 m c3 l c4 wx∧w.heap.size+1+1<base∧Bl wc wx)
  case first =>
   have F:Hid (∀ V:World,Bl wc V→(fun w'=>(At w' bN 0 (.slice a N k)∧At w' bN 1 (.map (some c))∧At w' bN 2 (.map (some d))∧At w' bN 3 (.slice (Az g) N o)∧At w' bN 4 (.slice pa N pc))∧(At w' T 0 (I W)∧At w' T 1 (I H)∧At w' T 2 (.slice B x D)∧At w' T 3 (.slice C n2 E))∧HB15 w' w.heap.size f0 f1 f2 f3 f4 f5 f6 f7 f8 f9 f10 f11 f12 f13 f14) V):=fun V hV=>⟨(HQ.out.1.kept hV).1,(by
    obtain ⟨k0,k1,k2,k3⟩:=bc.out;exact ⟨Qa hV k0,Qa hV k1,Qa hV k2,Qa hV k3⟩),ac.out.1.kept hV⟩
   refine Jz (S:=fun w'=>(At w' bN 0 (.slice a N k)∧At w' bN 1 (.map (some c))∧At w' bN 2 (.map (some d))∧At w' bN 3 (.slice (Az g) N o)∧At w' bN 4 (.slice pa N pc))∧(At w' T 0 (I W)∧At w' T 1 (I H)∧At w' T 2 (.slice B x D)∧At w' T 3 (.slice C n2 E))∧HB15 w' w.heap.size f0 f1 f2 f3 f4 f5 f6 f7 f8 f9 f10 f11 f12 f13 f14) (late:=fun _=>false) η ?_;have p:=F.out _ (Qg (Qe wc));refine Lt.take (i:=0) (v:=.agg #[.slice a N k,.map (some c),.map (some d),.slice (Az g) N o,.slice pa N pc]) rfl η η η rfl η η (fun _ _ _ h=>h) (Or.inl ⟨Ω, ?hyy⟩) p ?_
   case hyy=>(intro w' u;(try dsimp only [HB15] at u);go_simp)
   try simp only [Ap]
   refine Lt.take (i:=1) (v:=.agg #[I W,I H,.slice B x D,.slice C n2 E]) rfl η η η rfl η η (fun _ _ _ h=>h) (Or.inl ⟨Ω, ?hyy⟩) p ?_
   case hyy=>(intro w' u;(try dsimp only [HB15] at u);go_simp)
   try simp only [Ap]
   refine Lt.take (i:=2) (v:=.agg #[f0,f1,f2,f3,f4,f5,f6,f7,f8,f9,f10,f11,f12,f13,f14]) rfl η η η rfl η η (fun _ _ _ h=>h) (Or.inl ⟨Ω, ?hyy⟩) p ?_
   case hyy=>(intro w' u;(try dsimp only [HB15] at u);go_simp)
   try simp only [Ap]
   refine Lt.two (i:=3) (j:=5) η rfl rfl rfl rfl ?pa ?pb
   case pa =>
    refine Qag 34 #[.agg #[f0,f1,f2,f3,f4,f5,f6,f7,f8,f9,f10,f11,f12,f13,f14]] η (b9.out _) ?_;rintro e s ⟨bx,rfl,aw,Q⟩;have f:Hid (Bl wc s):=Qc (Qg (Qe wc)) Q;have an:Hid (HB15 s bx f0 f1 f2 f3 f4 f5 f6 f7 f8 f9 f10 f11 f12 f13 f14):=aw;refine ⟨_,rfl,fun _=>F.out _ f.out, ?_⟩;try simp only [Ap]
    replace p:=F.out _ f.out;refine Lt.two (i:=4) (j:=5) η rfl rfl rfl rfl ?pc ?pd
    case pc =>
     refine Qag 23 #[.agg #[.slice a N k,.map (some c),.map (some d),.slice (Az g) N o,.slice pa N pc],.agg #[I W,I H,.slice B x D,.slice C n2 E],.func (.func 83) #[] #[.pointer (Az bx)]] η (ao.out _ B D C E a k c d g o pa pc bx (Qc O.out f.out) (C1.out _ _ _ _ _ _ ak.out f.out) (C2.out _ _ _ _ _ _ am.out f.out) (a2.out.1.kept f.out) (a2.out.2.kept f.out) an.out) ?_;rintro e r ⟨a1,c1,b1,c2,m,c3,l,c4,rfl,ai,A⟩;have t:Hid (Bl wc r):=Qc f.out A;refine ⟨_,rfl,fun _=>F.out _ t.out, ?_⟩;try simp only [Ap]
     replace p:=F.out _ t.out;refine Lt.one (i:=5) η rfl rfl ?_;go_simp;have U:Hid (Bl wc (r.alloc (.cells #[I 0,I 0,SN,SN,SN,SN] 29))):=Qb t.out;refine ⟨F.out _ U.out, ?_⟩;try simp only [Ap]
     have ag:Hid (w.heap.size+1+1<s.heap.size):=(by have:=f.out.size;have:=HZ.out;omega:w.heap.size+1+1<s.heap.size);have J:Hid (BX6 (r.alloc (.cells #[I W,I H,.slice a1 x c1,.slice b1 n2 c2,.slice m N c3,.slice l K c4] 29)) r.heap.size (I W) (I H) (.slice a1 x c1) (.slice b1 n2 c2) (.slice m N c3) (.slice l K c4)∧R s.heap.size a1 c1 b1 c2 m c3 l c4 (r.alloc (.cells #[I W,I H,.slice a1 x c1,.slice b1 n2 c2,.slice m N c3,.slice l K c4] 29))∧w.heap.size+1+1<s.heap.size∧Bl wc (r.alloc (.cells #[I W,I H,.slice a1 x c1,.slice b1 n2 c2,.slice m N c3,.slice l K c4] 29))):=⟨(by simp [BX6,go_sem]),C5.out _ _ _ _ _ _ _ _ _ _ _ ai β1,ag.out,Qb t.out⟩;have G:=F.out (r.alloc (.cells #[I W,I H,.slice a1 x c1,.slice b1 n2 c2,.slice m N c3,.slice l K c4] 29)) J.out.2.2.2;refine Lt.one (i:=6) η rfl rfl ?_;go_simp;try refine ⟨G, ?_⟩
     try simp only [Ap]
     refine Lt.done η ?_;go_wp2;go_meet
     case rel=>exact ⟨s.heap.size,a1,c1,b1,c2,m,c3,l,c4,r.heap.size,rfl,J.out⟩
    case pd =>
     go_simp;have z:Hid (Bl wc (s.alloc (.cells #[I 0,I 0,SN,SN,SN,SN] 29))):=Qb f.out;refine ⟨F.out _ z.out, ?_⟩;try simp only [Ap]
     replace p:=F.out _ z.out;refine Lt.one (i:=4) η rfl rfl ?_;refine Qag 23 #[.agg #[.slice a N k,.map (some c),.map (some d),.slice (Az g) N o,.slice pa N pc],.agg #[I W,I H,.slice B x D,.slice C n2 E],.func (.func 83) #[] #[.pointer (Az bx)]] η (ao.out _ B D C E a k c d g o pa pc bx (Qc O.out z.out) (C1.out _ _ _ _ _ _ ak.out z.out) (C2.out _ _ _ _ _ _ am.out z.out) (a2.out.1.kept z.out) (a2.out.2.kept z.out) (an.out.kept β1)) ?_;rintro e r ⟨a1,c1,b1,c2,m,c3,l,c4,rfl,ai,A⟩;have t:Hid (Bl wc r):=Qc z.out A;refine ⟨_,rfl,fun _=>F.out _ t.out, ?_⟩;try simp only [Ap]
     replace p:=F.out _ t.out;have a7:BX6 (s.alloc (.cells #[I 0,I 0,SN,SN,SN,SN] 29)) s.heap.size (I 0) (I 0) SN SN SN SN:=by simp [BX6,go_sem]
     have HX:Hid (BX6 r s.heap.size (I 0) (I 0) SN SN SN SN):=a7.kept A;have au:Hid (s.heap.size<(s.alloc (.cells #[I 0,I 0,SN,SN,SN,SN] 29)).heap.size):=(by simp [go_sem]:s.heap.size<(s.alloc (.cells #[I 0,I 0,SN,SN,SN,SN] 29)).heap.size);have ag:Hid (w.heap.size+1+1<(s.alloc (.cells #[I 0,I 0,SN,SN,SN,SN] 29)).heap.size):=(by have:=z.out.size;have:=HZ.out;omega:w.heap.size+1+1<(s.alloc (.cells #[I 0,I 0,SN,SN,SN,SN] 29)).heap.size);have ar:Hid (wc.heap.size≤s.heap.size):=f.out.size;obtain ⟨⟨z0,z1,z2,z3,z4,z5⟩,y0,y1,y2,y3,y4,y5⟩:=HX.out;have zz:=bk z0;dsimp only at zz
     have J:Hid (BX6 (setBX6 r s.heap.size (I W) (I H) (.slice a1 x c1) (.slice b1 n2 c2) (.slice m N c3) (.slice l K c4)) s.heap.size (I W) (I H) (.slice a1 x c1) (.slice b1 n2 c2) (.slice m N c3) (.slice l K c4)∧R (s.alloc (.cells #[I 0,I 0,SN,SN,SN,SN] 29)).heap.size a1 c1 b1 c2 m c3 l c4 (setBX6 r s.heap.size (I W) (I H) (.slice a1 x c1) (.slice b1 n2 c2) (.slice m N c3) (.slice l K c4))∧w.heap.size+1+1<(s.alloc (.cells #[I 0,I 0,SN,SN,SN,SN] 29)).heap.size∧Bl wc (setBX6 r s.heap.size (I W) (I H) (.slice a1 x c1) (.slice b1 n2 c2) (.slice m N c3) (.slice l K c4))):=by
      have hg:=setBX6_grown r s.heap.size (I W) (I H) (.slice a1 x c1) (.slice b1 n2 c2) (.slice m N c3) (.slice l K c4);exact ⟨HX.out.put,C6.out _ _ _ _ _ _ _ _ _ _ _ _ ai hg au.out,ag.out,t.out.grown hg t.out.size (fun k h=>by cases h;exact ar.out)⟩
     have G:=F.out (setBX6 r s.heap.size (I W) (I H) (.slice a1 x c1) (.slice b1 n2 c2) (.slice m N c3) (.slice l K c4)) J.out.2.2.2;dsimp only [setBX6] at G;refine Lt.one (i:=6) η rfl rfl ?_;go_simp;try refine ⟨G, ?_⟩
     try simp only [Ap]
     refine Lt.done η ?_;go_wp2;go_meet
     case rel=>exact ⟨(s.alloc (.cells #[I 0,I 0,SN,SN,SN,SN] 29)).heap.size,a1,c1,b1,c2,m,c3,l,c4,s.heap.size,rfl,J.out⟩
   case pb =>
    go_simp;have z:Hid (Bl wc (wc.alloc (.cells #[I 0,I 0,SN,SN,SN,SN] 29)).drew):=Qg β1;refine ⟨F.out (wc.alloc (.cells #[I 0,I 0,SN,SN,SN,SN] 29)) β1, ?_⟩;try simp only [Ap]
    replace p:=F.out _ z.out;refine Lt.one (i:=3) η rfl rfl ?_;refine Qag 34 #[.agg #[f0,f1,f2,f3,f4,f5,f6,f7,f8,f9,f10,f11,f12,f13,f14]] η (b9.out _) ?_;rintro e s ⟨bx,rfl,aw,Q⟩;have f:Hid (Bl wc s):=Qc z.out Q;have an:Hid (HB15 s bx f0 f1 f2 f3 f4 f5 f6 f7 f8 f9 f10 f11 f12 f13 f14):=aw;refine ⟨_,rfl,fun _=>F.out _ f.out, ?_⟩;try simp only [Ap]
    replace p:=F.out _ f.out;refine Lt.one (i:=4) η rfl rfl ?_;refine Qag 23 #[.agg #[.slice a N k,.map (some c),.map (some d),.slice (Az g) N o,.slice pa N pc],.agg #[I W,I H,.slice B x D,.slice C n2 E],.func (.func 83) #[] #[.pointer (Az bx)]] η (ao.out _ B D C E a k c d g o pa pc bx (Qc O.out f.out) (C1.out _ _ _ _ _ _ ak.out f.out) (C2.out _ _ _ _ _ _ am.out f.out) (a2.out.1.kept f.out) (a2.out.2.kept f.out) an.out) ?_;rintro e r ⟨a1,c1,b1,c2,m,c3,l,c4,rfl,ai,A⟩;have t:Hid (Bl wc r):=Qc f.out A;refine ⟨_,rfl,fun _=>F.out _ t.out, ?_⟩;try simp only [Ap]
    replace p:=F.out _ t.out;have a7:BX6 (wc.alloc (.cells #[I 0,I 0,SN,SN,SN,SN] 29)).drew wc.heap.size (I 0) (I 0) SN SN SN SN:=by simp [BX6,go_sem]
    have HX:Hid (BX6 r wc.heap.size (I 0) (I 0) SN SN SN SN):=(a7.kept Q).kept A;have au:Hid (wc.heap.size<s.heap.size):=(by have:=Q.size;simp [go_sem] at this;omega:wc.heap.size<s.heap.size);have ag:Hid (w.heap.size+1+1<s.heap.size):=(by have:=f.out.size;have:=HZ.out;omega:w.heap.size+1+1<s.heap.size);have ar:Hid (wc.heap.size≤wc.heap.size):=Nr _;obtain ⟨⟨z0,z1,z2,z3,z4,z5⟩,y0,y1,y2,y3,y4,y5⟩:=HX.out;have zz:=bk z0;dsimp only at zz
    have J:Hid (BX6 (setBX6 r wc.heap.size (I W) (I H) (.slice a1 x c1) (.slice b1 n2 c2) (.slice m N c3) (.slice l K c4)) wc.heap.size (I W) (I H) (.slice a1 x c1) (.slice b1 n2 c2) (.slice m N c3) (.slice l K c4)∧R s.heap.size a1 c1 b1 c2 m c3 l c4 (setBX6 r wc.heap.size (I W) (I H) (.slice a1 x c1) (.slice b1 n2 c2) (.slice m N c3) (.slice l K c4))∧w.heap.size+1+1<s.heap.size∧Bl wc (setBX6 r wc.heap.size (I W) (I H) (.slice a1 x c1) (.slice b1 n2 c2) (.slice m N c3) (.slice l K c4))):=by
     have hg:=setBX6_grown r wc.heap.size (I W) (I H) (.slice a1 x c1) (.slice b1 n2 c2) (.slice m N c3) (.slice l K c4);exact ⟨HX.out.put,C6.out _ _ _ _ _ _ _ _ _ _ _ _ ai hg au.out,ag.out,t.out.grown hg t.out.size (fun k h=>by cases h;exact ar.out)⟩
    have G:=F.out (setBX6 r wc.heap.size (I W) (I H) (.slice a1 x c1) (.slice b1 n2 c2) (.slice m N c3) (.slice l K c4)) J.out.2.2.2;dsimp only [setBX6] at G;refine Lt.one (i:=6) η rfl rfl ?_;go_simp;try refine ⟨G, ?_⟩
    try simp only [Ap]
    refine Lt.done η ?_;go_wp2;go_meet
    case rel=>exact ⟨s.heap.size,a1,c1,b1,c2,m,c3,l,c4,wc.heap.size,rfl,J.out⟩
  case rest =>
   obtain ⟨base,a1,c1,b1,c2,m,c3,l,c4,bM,rfl,hX,hS,bo,hB⟩:=hcut;have Y:Hid (BX6 wc bM (I W) (I H) (.slice a1 x c1) (.slice b1 n2 c2) (.slice m N c3) (.slice l K c4)∧R base a1 c1 b1 c2 m c3 l c4 wc∧BX6 wc (w.heap.size+1+1) (I 0) (I 0) SN SN SN SN∧Bl w wc):=⟨hX,hS,ac.out.2.1.kept hB,Qc O.out hB⟩;have ba:Hid (w.heap.size+1+1<base):=bo;clear hX hS hB bo HQ ak am a2 ac O HZ bc;obtain ⟨⟨x0,x1,x2,x3,x4,x5⟩,_⟩:=Y.out.1;have xz:=bk x0;dsimp only at xz;go_upto_region 10 with (go_at_call 24;refine (br.out _ base a1 c1 b1 c2 m c3 l c4 Y.out.2.2.2 Y.out.2.1).mono ?_;rintro e w8 ⟨q,qc,rfl,hb⟩;have ab:Hid (BX6 w8 bM (I W) (I H) (.slice a1 x c1) (.slice b1 n2 c2) (.slice m N c3) (.slice l K c4)∧R base a1 c1 b1 c2 m c3 l c4 w8∧BX6 w8 (w.heap.size+1+1) (I 0) (I 0) SN SN SN SN∧Bl w w8):=⟨Y.out.1.kept hb,C5.out _ _ _ _ _ _ _ _ _ _ _ Y.out.2.1 hb,Y.out.2.2.1.kept hb,Qc Y.out.2.2.2 hb⟩;clear hb x0 x1 x2 x3 x4 x5 xz)
   clear Y;obtain ⟨⟨x0,x1,x2,x3,x4,x5⟩,_⟩:=ab.out.1;have xz:=bk x0;obtain ⟨⟨r0,r1,r2,r3,r4,r5⟩,y0,y1,y2,y3,y4,y5⟩:=ab.out.2.2.1;have rz:=bk r0;dsimp only at xz rz;go_wp2;have HG:=setBX6_grown w8 (w.heap.size+1+1) (I W) (I H) (.slice a1 x c1) (.slice b1 n2 c2) (.slice m N c3) (.slice l K c4);have HC:=(ab.out.2.2.1.put (g0:=I W) (g1:=I H) (g2:=.slice a1 x c1) (g3:=.slice b1 n2 c2) (g4:=.slice m N c3) (g5:=.slice l K c4)).1
   have bp:LayTo w (setBX6 w8 (w.heap.size+1+1) (I W) (I H) (.slice a1 x c1) (.slice b1 n2 c2) (.slice m N c3) (.slice l K c4)) W H x n2 N K R (.returned (.tuple #[.agg #[I W,I H,.slice a1 x c1,.slice b1 n2 c2,.slice m N c3,.slice l K c4],I 0])):=by
    have:=ba.out;exact ⟨base,a1,c1,b1,c2,m,c3,l,c4,rfl,C6.out _ _ _ _ _ _ _ _ _ _ _ _ ab.out.2.1 HG ba.out,γ,ab.out.2.2.2.grown HG ab.out.2.2.2.size (fun k h=>by cases h;omega)⟩
   obtain ⟨s0,s1,s2,s3,s4,s5⟩:=HC;clear x0 x1 x2 x3 x4 x5 r0 r1 r2 r3 r4 r5 y0 y1 y2 y3 y4 y5 xz rz;refine bodyPost_ret (w:=setBX6 w8 (w.heap.size+1+1) (I W) (I H) (.slice a1 x c1) (.slice b1 n2 c2) (.slice m N c3) (.slice l K c4)) (v:=.tuple #[.agg #[I W,I H,.slice a1 x c1,.slice b1 n2 c2,.slice m N c3,.slice l K c4],I 0]) ?_ rfl bp;generalize setBX6 w8 (w.heap.size+1+1) (I W) (I H) (.slice a1 x c1) (.slice b1 n2 c2) (.slice m N c3) (.slice l K c4)=wz at s0 s1 s2 s3 s4 s5 ⊢;simp [results,Tryz.results13,go_sem,s0,s1,s2,s3,s4,s5]
end Go.Proofs.YtjkjpopghkeibaaGreatDoor
