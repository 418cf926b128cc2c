/- A part of it. -/
import Derived.Test.YtjkjpopghkeibaaGreatDoorQlbf
set_option maxRecDepth 100000
set_option maxHeartbeats 40000000
namespace Go.Proofs.YtjkjpopghkeibaaGreatDoor
open Go.RowKit Go.ChangeMaps
variable {w w':World}
theorem do_ok (W H:Int) (a0 c0 mp sp:Option Addr) (i P n Q mn mc sl sc n2 N q:Nat) (C c sd:Int) (B:Bool) (A u x t:Int) (L:List T3) (ks:List Int) (nk:Nat) (M:Nat→M6) (h:Nat→Int) (mw:Nat→Bool) (w:World)
  (O:Nat→Option Addr→Nat→Option Addr→Nat→Option Addr→Nat→Option Addr→Nat→World→Prop)
  (k6:∀ (V V':World) (base b:Nat) (a1:Option Addr) (c1:Nat) (b1:Option Addr) (c2:Nat) (o:Option Addr) (c3:Nat) (p:Option Addr) (c4:Nat),O base a1 c1 b1 c2 o c3 p c4 V→V.grownBy V' (some b)→b<base→O base a1 c1 b1 c2 o c3 p c4 V')
  (R:∀ V:World,Bl w V→Cl 12 #[.agg #[I W,I H,.slice a0 i P,.slice c0 n Q,.slice mp mn mc,.slice sp sl sc],.agg #[I C,I c,I sd,.bool B,I A,I u,I x,I t]] V fun e w'=>TakTo V w' L ks nk M h mw C c sd B A u x t e)
  (T:∀ (V0 V:World) (D:Option Addr) (k J K F cm:Nat) (pa:Option Addr) (pc E G:Nat),Bl w V0→Bl w V→HandAt V0 V D k J K F pa E L ks nk M h→YRow V G L.length mw→Cl 13 #[.agg #[.slice D L.length k,.map (some J),.map (some K),.slice (Az F) L.length cm,.slice pa L.length pc,.func (.func 90) #[] #[.pointer (Az E)],I C,I c,I sd,.bool B,I A,I u,I x,I t,.slice (Az G) L.length L.length],.agg #[I W,I H,.slice a0 i P,.slice c0 n Q]] V fun e w'=>LayTo V w' W H i n2 N q O e) :
  Cl 7 #[.agg #[I W,I H,.slice a0 i P,.slice c0 n Q,.slice mp mn mc,.slice sp sl sc],.agg #[I C,I c,I sd,.bool B,I A,I u,I x,I t]] w fun e w'=>LayTo w w' W H i n2 N q O e:=by
 have C6:=Hd k6;have a2:=Hd R;have a6:=Hd T;clear k6 R T;go_enter Tryz.func7,Tryz.ntmps7;go_upto_region 1 with fail
 refine Qi (fun f hW0=>?_)
 have r:Hid ((At f w.heap.size 0 (I W)∧At f w.heap.size 1 (I H)∧At f w.heap.size 2 (.slice a0 i P)∧At f w.heap.size 3 (.slice c0 n Q)∧At f w.heap.size 4 (.slice mp mn mc)∧At f w.heap.size 5 (.slice sp sl sc))∧(At f (w.heap.size+1) 0 (I C)∧At f (w.heap.size+1) 1 (I c)∧At f (w.heap.size+1) 2 (I sd)∧At f (w.heap.size+1) 3 (.bool B)∧At f (w.heap.size+1) 4 (I A)∧At f (w.heap.size+1) 5 (I u)∧At f (w.heap.size+1) 6 (I x)∧At f (w.heap.size+1) 7 (I t))∧BX6 f (w.heap.size+1+1) (I 0) (I 0) SN SN SN SN∧Bl w f):=by
  rw [hW0];refine ⟨?_, ?_, ?_, ?_⟩
  ·simp [go_sem]
  ·simp [go_sem]
  ·simp [BX6,go_sem]
  ·with_reducible repeat' (first | exact Qe _ | refine Qb ?_ | refine Qg ?_)
 clear hW0;obtain ⟨⟨k0,k1,k2,k3,Y,Z⟩,⟨d0,d1,d2,d3,d4,d5,d6,d7⟩,_,_⟩:=r.out;have l:=bk k0;have m:=bk d0;dsimp only at l m;go_upto_region 2 with (go_at_call 12;refine (a2.out _ r.out.2.2.2).mono ?_;rintro e w1 ⟨D,k,J,K,F,cm,pa,pc,E,G,rfl,hA,hY,hg,hb⟩;have s:=H3 hb hA hY;clear hb hA hY hg k0 k1 k2 k3 Y Z d0 d1 d2 d3 d4 d5 d6 d7 l m)
 refine Qi (fun d y=>?_);obtain ⟨b,z⟩:∃ b,b=w1.heap.size:=⟨_,rfl⟩
 have g:Hid (((At d w.heap.size 0 (I W)∧At d w.heap.size 1 (I H)∧At d w.heap.size 2 (.slice a0 i P)∧At d w.heap.size 3 (.slice c0 n Q)∧At d w.heap.size 4 (.slice mp mn mc)∧At d w.heap.size 5 (.slice sp sl sc))∧(At d (w.heap.size+1) 0 (I C)∧At d (w.heap.size+1) 1 (I c)∧At d (w.heap.size+1) 2 (I sd)∧At d (w.heap.size+1) 3 (.bool B)∧At d (w.heap.size+1) 4 (I A)∧At d (w.heap.size+1) 5 (I u)∧At d (w.heap.size+1) 6 (I x)∧At d (w.heap.size+1) 7 (I t))∧BX6 d (w.heap.size+1+1) (I 0) (I 0) SN SN SN SN∧Bl w d)∧HandAt f d D k J K F pa E L ks nk M h∧YRow d G L.length mw∧HB15 d b (.slice D L.length k) (.map (some J)) (.map (some K)) (.slice (Az F) L.length cm) (.slice pa L.length pc) (.func (.func 90) #[] #[.pointer (Az E)]) (I C) (I c) (I sd) (.bool B) (I A) (I u) (I x) (I t) (.slice (Az G) L.length L.length)):=by
  have hb:Bl w1 d:=by
   rw [y];with_reducible repeat' (first | exact Qe _ | refine Qb ?_ | refine Qg ?_)
  have a:=Qc s.out.1 hb;obtain ⟨⟨k0,k1,k2,k3,Y,Z⟩,⟨d0,d1,d2,d3,d4,d5,d6,d7⟩,hX,hB⟩:=r.out;refine ⟨⟨⟨Qa a k0,Qa a k1,Qa a k2,Qa a k3,Qa a Y,Qa a Z⟩,⟨Qa a d0,Qa a d1,Qa a d2,Qa a d3,Qa a d4,Qa a d5,Qa a d6,Qa a d7⟩,hX.kept a,Qc hB a⟩,s.out.2.1.kept hb,s.out.2.2.kept hb, ?_⟩;rw [y,z];simp [HB15,go_sem]
 rw [← z];clear y s z;obtain ⟨⟨k0,k1,k2,k3,Y,Z⟩,_,_,_⟩:=g.out.1;obtain ⟨x0,x1,x2,x3,x4,x5,x6,x7,x8,x9,a7,a8,aa,ab,ac⟩:=g.out.2.2.2;have l:=bk k0;have m:=bk x0;dsimp only at l m;go_wp2_with (go_at_call 13;refine (a6.out f d D k J K F cm pa pc E G r.out.2.2.2 g.out.1.2.2.2 g.out.2.1 g.out.2.2.1).mono ?_;rintro e w3 ⟨base,a1,c1,b1,c2,o,c3,p,c4,rfl,hS,U,hb⟩;have j:=H4 hS U (g.out.1.2.2.1.kept hb) (Qc g.out.1.2.2.2 hb);clear hS U hb k0 k1 k2 k3 Y Z x0 x1 x2 x3 x4 x5 x6 x7 x8 x9 a7 a8 aa ab ac l m;obtain ⟨⟨r0,r1,r2,r3,r4,r5⟩,y0,y1,y2,y3,y4,y5⟩:=j.out.2.2.1;have rz:=bk r0;dsimp only at rz)
 have HZ:w.heap.size+1+1<base:=by
  have h1:=bk g.out.1.2.2.1.1.1;have h2:=j.out.2.1;dsimp only at h1;omega
 have HG:=setBX6_grown w3 (w.heap.size+1+1) (I W) (I H) (.slice a1 i c1) (.slice b1 n2 c2) (.slice o N c3) (.slice p q c4);have HC:=(j.out.2.2.1.put (g0:=I W) (g1:=I H) (g2:=.slice a1 i c1) (g3:=.slice b1 n2 c2) (g4:=.slice o N c3) (g5:=.slice p q c4)).1
 have X:LayTo w (setBX6 w3 (w.heap.size+1+1) (I W) (I H) (.slice a1 i c1) (.slice b1 n2 c2) (.slice o N c3) (.slice p q c4)) W H i n2 N q O (.returned (.tuple #[.agg #[I W,I H,.slice a1 i c1,.slice b1 n2 c2,.slice o N c3,.slice p q c4],I 0])) :=
  ⟨base,a1,c1,b1,c2,o,c3,p,c4,rfl,C6.out _ _ _ _ _ _ _ _ _ _ _ _ j.out.1 HG HZ,γ,j.out.2.2.2.grown HG j.out.2.2.2.size (fun k h=>by cases h;omega)⟩
 obtain ⟨s0,s1,s2,s3,s4,s5⟩:=HC;clear r0 r1 r2 r3 r4 r5 y0 y1 y2 y3 y4 y5 rz;refine bodyPost_ret (w:=setBX6 w3 (w.heap.size+1+1) (I W) (I H) (.slice a1 i c1) (.slice b1 n2 c2) (.slice o N c3) (.slice p q c4)) (v:=.tuple #[.agg #[I W,I H,.slice a1 i c1,.slice b1 n2 c2,.slice o N c3,.slice p q c4],I 0]) ?_ rfl X;generalize setBX6 w3 (w.heap.size+1+1) (I W) (I H) (.slice a1 i c1) (.slice b1 n2 c2) (.slice o N c3) (.slice p q c4)=wz at s0 s1 s2 s3 s4 s5 ⊢;simp [results,Tryz.results7,go_sem,s0,s1,s2,s3,s4,s5]
def kdV (pk:Nat→Int) (i:Nat):List Value:=(List.range i).map fun j=>I (1+pk j)
theorem kdV_one (pk:Nat→Int) (i:Nat):kdV pk (i+1)=kdV pk i ++ [I (1+pk i)]:=by simp [kdV,List.range_succ]
def WdR (wd:List Int) (ua:Option Addr) (w:World):Prop := ∀ j (h:j<wd.length),∃ g,ua=Az g∧At w g j (I wd[j])
theorem WdR.kept {b:List Int} {a:Option Addr} (h:WdR b a w) (hb:Bl w w'):WdR b a w':=fun j c=>by
 obtain ⟨g,e,k⟩:=h j c;exact ⟨g,e,Qa hb k⟩
def CrR (wd:List Int) (b:Option Addr) (w:World):Prop := ∀ j (h:j<wd.length),∃ g off e1 e2 e3,b=Ad g off∧At w g (off+j*5) (I (2*((j:Int)+1)))∧At w g (off+j*5+1) (I e1)∧At w g (off+j*5+2) (I e2)∧At w g (off+j*5+3) (I e3)∧At w g (off+j*5+4) (I wd[j])
theorem CrR.kept {b:List Int} {a:Option Addr} (h:CrR b a w) (hb:Bl w w'):CrR b a w':=fun j c=>by
 obtain ⟨g,off,e1,e2,e3,e,k0,k1,k2,k3,d⟩:=h j c;exact ⟨g,off,e1,e2,e3,e,Qa hb k0,Qa hb k1,Qa hb k2,Qa hb k3,Qa hb d⟩
theorem bl_none9 {v:World} (h:w.grownBy v none):Bl w v:=by
 obtain ⟨a,b,c,d,e⟩:=h;exact ⟨a,b,c,d,fun k f=>e k f ξ⟩
def LpD (Z:Nat→Nat→Option Addr→Nat→Option Addr→Nat→Option Addr→Nat→Option Addr→Nat→World→Prop) (lc ls:Nat→Nat) (pk:Nat→Int) (W:Nat) (Wi:Int) (N b4:Nat) (w wx:World) (i:Nat) (s6:Value):Prop := ∃ base a1 c1 b1 c2 m1 c3 p1 c4,BX6 wx b4 (I Wi) (I 1) (.slice a1 W c1) (.slice b1 (lc i) c2) (.slice m1 N c3) (.slice p1 (ls i) c4)∧Z i base a1 c1 b1 c2 m1 c3 p1 c4 wx∧wx.ownsRow (b4+1) 3 1 s6 i (kdV pk i)∧(∀ g,Value.ownBlock s6=some g→g<base)∧Bl w wx
theorem BX6.grown {b:Nat} {c d e f g i:Value} {row:Option Nat} (h:BX6 w b c d e f g i) (hg:w.grownBy w' row) (a:some b≠row):BX6 w' b c d e f g i:=by
 obtain ⟨⟨h0,h1,h2,h3,h4,h5⟩,f0,f1,f2,f3,f4,f5⟩:=h;have hl:=bk h0;have fz:∀ o,Fn w b o→Fn w' b o:=fun o k=>(Fo (hg.block b hl a)).trans k;exact ⟨⟨hg.cell h0 a,hg.cell h1 a,hg.cell h2 a,hg.cell h3 a,hg.cell h4 a,hg.cell h5 a⟩,fz _ f0,fz _ f1,fz _ f2,fz _ f3,fz _ f4,fz _ f5⟩
theorem wrap_pow {q:Nat} (h:q≤3):IntKind.i64.wrap ((2:Int) ^ q)=2 ^ q:=by
 have:q=0∨q=1∨q=2∨q=3:=γ;rcases this with rfl | rfl | rfl | rfl <;> rfl
theorem dragonA (n m W:Nat) (hn:n≤3) (hW:((2:Int) ^ n)=(W:Int)) (hm:(m≤3∧m=n)∨(3<m∧3=n)) (a:Option Addr) (c N:Nat) (rs pk:Nat→Int) (t ls:Nat→Nat) (r:List Int) (Fr:Option Addr→Nat→World→Prop) (Z:Nat→Nat→Option Addr→Nat→Option Addr→Nat→Option Addr→Nat→Option Addr→Nat→World→Prop) (w:World)
  (HR:Hid (∀ i,i<n→∃ g off,a=Ad g off∧At w g (off+i) (I (rs i)))) (aa:Hid (∀ i,i<n→pk i=0∨pk i=1)) (X:Hid (t n=r.length)) (bg:r.length≤7)
  (C5:Hid (∀ V:World,Bl w V→Cl 5 #[I (W:Int),I 1] V fun e w'=>∃ a0 Y,e=.returned (.agg #[I (W:Int),I 1,.slice a0 W Y,SN])∧Fr a0 Y w'∧Bl V w'))
  (C4:Hid (∀ (V:World) (a0:Option Addr) (Y:Nat),Bl w V→Fr a0 Y V→Cl 4 #[.agg #[I (W:Int),I 1,.slice a0 W Y,SN]] V fun e w'=>LayTo V w' (W:Int) 1 W (t 0) N (ls 0) (Z 0) e))
  (C6:Hid (∀ (V:World) (i:Nat),i<n→Rt 6 #[I (rs i),I 2] V (I (pk i))))
  (C7:Hid (∀ (V:World) (i:Nat) (x:Int) (B:Bool) (base:Nat) (a1:Option Addr) (c1:Nat) (b1:Option Addr) (c2:Nat) (f:Option Addr) (c3:Nat) (l:Option Addr) (c4:Nat),i<n→x=2 ^ (n - i)→(B=true↔pk i=1)→Bl w V→Z i base a1 c1 b1 c2 f c3 l c4 V→Cl 7 #[.agg #[I (W:Int),I 1,.slice a1 W c1,.slice b1 (t i) c2,.slice f N c3,.slice l (ls i) c4],.agg #[I 0,I x,I 1,.bool B,I 0,I 0,I 0,I 0]] V fun e w'=>LayTo V w' (W:Int) 1 W (t (i+1)) N (ls (i+1)) (Z (i+1)) e))
  (C8:Hid (∀ (V:World) (v:Value) (base:Nat),Bl w V→V.ownsRow base 3 1 v n (kdV pk n)→Cl 8 #[v] V fun e w'=>∃ ua uc,e=.returned (.tuple #[.slice ua r.length uc,I 0])∧WdR r ua w'∧Bl V w'))
  (C9:Hid (∀ (V:World) (base:Nat) (a1:Option Addr) (c1:Nat) (b1:Option Addr) (c2:Nat) (f:Option Addr) (c3:Nat) (l:Option Addr) (c4:Nat),Bl w V→Z n base a1 c1 b1 c2 f c3 l c4 V→Rt 9 #[.agg #[I (W:Int),I 1,.slice a1 W c1,.slice b1 (t n) c2,.slice f N c3,.slice l (ls n) c4]] V (.tuple #[I (W:Int),I 4,I 0])))
  (K5:Hid (∀ (V V':World) (i base:Nat) (a1:Option Addr) (c1:Nat) (b1:Option Addr) (c2:Nat) (f:Option Addr) (c3:Nat) (l:Option Addr) (c4:Nat),Z i base a1 c1 b1 c2 f c3 l c4 V→Bl V V'→Z i base a1 c1 b1 c2 f c3 l c4 V'))
  (K6:Hid (∀ (V V':World) (i b base:Nat) (a1:Option Addr) (c1:Nat) (b1:Option Addr) (c2:Nat) (f:Option Addr) (c3:Nat) (l:Option Addr) (c4:Nat),Z i base a1 c1 b1 c2 f c3 l c4 V→V.grownBy V' (some b)→b<base→Z i base a1 c1 b1 c2 f c3 l c4 V'))
  (KC:Hid (∀ (V:World) (base:Nat) (a1:Option Addr) (c1:Nat) (b1:Option Addr) (c2:Nat) (f:Option Addr) (c3:Nat) (l:Option Addr) (c4:Nat),Z n base a1 c1 b1 c2 f c3 l c4 V→CrR r b1 V)) :
  Rt 3 #[.slice a m c] w (.bool true):=by
 obtain ⟨i3,hI⟩:=info_parts infI;have HI:Hid (Tryz.prog.info? 3=some i3∧i3.zero=some (I 0)∧i3.size=1∧i3.bytes=8):=hI;have hp:=wrap_pow hn;rw [hW] at hp;have bb:IntKind.i64.wrap ((2:Int) ^ n)=(W:Int):=by rw [hW];exact hp
 have n0:(0:Int)≤(n:Int):=γ;have n3:(n:Int)≤64:=γ;clear hI hp;have a8:Hid ((m≤3∧m=n)∨(3<m∧3=n)):=hm;have b8:Hid ((2:Int) ^ n=(W:Int)):=hW;clear hm hW;go_enter Tryz.func3,Tryz.ntmps3;go_upto_region 2 with fail
 go_upto_if 19 with fail
 go_cut [3] (fun s3 P=>s3=I (n:Int)∧w=P)
 case first =>
  rcases a8.out with ⟨h1,h2⟩ | ⟨h1,h2⟩
  ·have ax:¬ (3:Int)<(m:Int):=γ;have HE:Hid (m=n):=h2;clear h1 h2;go_wp2;go_meet
   case rel=>exact ⟨by rw [HE.out],rfl⟩
  ·have ax:(3:Int)<(m:Int):=γ;have HE:Hid (3=n):=h2;clear h1 h2;go_wp2;go_meet
   case rel=>exact ⟨by rw [← HE.out];rfl,rfl⟩
 case rest =>
  obtain ⟨rfl,rfl⟩:=hcut
  go_upto_block 0 with (first
   | (go_at_call 5;refine (C5.out _ (Qe _)).mono ?_;rintro e w1 ⟨a0,Y,rfl,hF,hb⟩;have E:Hid (Fr a0 Y w1∧Bl w w1):=⟨hF,hb⟩;clear hF hb)
   | (go_at_call 4;refine (C4.out _ _ _ E.out.2 E.out.1).mono ?_;rintro e w2 ⟨base,a1,c1,b1,c2,f,c3,l,c4,rfl,hZ,aw,hb⟩;have F:Hid (Z 0 base a1 c1 b1 c2 f c3 l c4 w2∧Bl w w2):=⟨hZ,Qc E.out.2 hb⟩;clear hZ aw hb))
  refine Qi (fun W3 ae=>?_);obtain ⟨b4,u⟩:∃ b,b=w2.heap.size:=⟨_,rfl⟩
  have ab:Hid (LpD Z t ls pk W (W:Int) N b4 w W3 0 SN):=by
   have:LpD Z t ls pk W (W:Int) N b4 w W3 0 SN:=by
    rw [ae,u];exact ⟨base,a1,c1,b1,c2,f,c3,l,c4,by simp [BX6,go_sem],K5.out _ _ _ _ _ _ _ _ _ _ _ _ F.out.1 β1,⟨by simp [kdV],Or.inl ⟨rfl,rfl⟩⟩,fun g hg=>by simp [Value.ownBlock] at hg,Qb F.out.2⟩
   exact this
  have HB4:Hid (w.heap.size≤b4):=by
   have:w.heap.size≤b4:=by rw [u];exact F.out.2.size
   exact this
  rw [← u];clear ae u E F C5 C4;go_wp2;go_loopg [5,6,7] n (fun gk s5 s6 s7 P=>∃ i:Nat,i≤n∧gk=n - i∧s7=I (i:Int)∧s5=I 0∧LpD Z t ls pk W (W:Int) N b4 w P i s6)
  case atStart=>exact ⟨0,γ,rfl,rfl,rfl,ab.out⟩
  case round =>
   clear ab;obtain ⟨i,hi,rfl,rfl,rfl,hL⟩:=hrel;obtain ⟨base,a1,c1,b1,c2,f,c3,l,c4,hB,hZ,hO,hG,ak⟩:=hL;have o:Hid (Z i base a1 c1 b1 c2 f c3 l c4 wr∧wr.ownsRow (b4+1) 3 1 u6 i (kdV pk i)∧(∀ g,Value.ownBlock u6=some g→g<base)∧Bl w wr∧BX6 wr b4 (I (W:Int)) (I 1) (.slice a1 W c1) (.slice b1 (t i) c2) (.slice f N c3) (.slice l (ls i) c4)):=⟨hZ,hO,hG,ak,hB⟩;clear hZ hO hG ak hB;by_cases h1:i<n
   ·have i1:(i:Int)<(n:Int):=γ
    have i2:(i:Int)<(m:Int):=by
     rcases a8.out with h | h <;> omega
    obtain ⟨g,off,rfl,cr⟩:=HR.out i h1;replace cr:=Qa o.out.2.2.2.1 cr;have zg:=Bt cr;obtain ⟨k,L⟩:∃ k,k=pk i:=⟨_,rfl⟩;have M:=aa.out i h1;rw [← L] at M;obtain ⟨B,O⟩:∃ b:Bool,b=decide (k=1):=⟨_,rfl⟩;obtain ⟨q,hq⟩:∃ q,q=n - i:=⟨_,rfl⟩;obtain ⟨x,hx⟩:∃ x:Int,x=2 ^ q:=⟨_,rfl⟩
    have ao:Hid (∀ V:World,Rt 6 #[I (rs i),I 2] V (I k)):=by
     have:∀ V:World,Rt 6 #[I (rs i),I 2] V (I k):=fun V=>by
      rw [L];exact C6.out V i h1
     exact this
    have ap:Hid (∀ (V:World) (base:Nat) (a1:Option Addr) (c1:Nat) (b1:Option Addr) (c2:Nat) (f:Option Addr) (c3:Nat) (l:Option Addr) (c4:Nat),Bl w V→Z i base a1 c1 b1 c2 f c3 l c4 V→Cl 7 #[.agg #[I (W:Int),I 1,.slice a1 W c1,.slice b1 (t i) c2,.slice f N c3,.slice l (ls i) c4],.agg #[I 0,I x,I 1,.bool B,I 0,I 0,I 0,I 0]] V fun e w'=>LayTo V w' (W:Int) 1 W (t (i+1)) N (ls (i+1)) (Z (i+1)) e):=fun V base a1 c1 b1 c2 f c3 l c4 hV hZ=>C7.out V i x B base a1 c1 b1 c2 f c3 l c4 h1 (by rw [hx,hq]) (by rw [O,L];simp) hV hZ
    have HT:Hid (kdV pk (i+1)=kdV pk i ++ [I (1+k)]):=by
     have:kdV pk (i+1)=kdV pk i ++ [I (1+k)]:=by rw [kdV_one,L]
     exact this
    have k0:0≤k:=γ;have k1:k≤1:=γ
    have b5:IntKind.i64.wrap ((n:Int) - (i:Int))=(q:Int):=by
     have e:(n:Int) - (i:Int)=(q:Int):=γ;rw [e];have:q=0∨q=1∨q=2∨q=3:=γ;rcases this with rfl | rfl | rfl | rfl <;> rfl
    have bf:IntKind.i64.wrap ((2:Int) ^ q)=x:=by rw [hx];exact wrap_pow γ
    have bc:(0:Int)≤(q:Int):=γ;have be:(q:Int)≤64:=γ
    have b9:(1+k == 2)=B:=by
     rw [O];rcases M with e | e <;> rw [e] <;> rfl
    have az:decide (1+k=2)=B:=by
     rw [O];rcases M with e | e <;> rw [e] <;> rfl
    have b6:i≤3:=γ;clear L M O hq hx;go_wp2_with (first | (go_at_call 6;refine (ao.out _).mono ?_;rintro e w3 ⟨rfl,ah⟩;have G:Hid (Bl wr w3):=ah;clear ah cr zg) | (at_builtin;refine wpList_append_own _ rfl (.tmp 40) (.tmp 42) 22 rfl (b4+1) 3 i3 (I 0) 1 8 Tryz.underlying22 HI.out.1 HI.out.2.1 HI.out.2.2.1 HI.out.2.2.2 rfl ψ u6 i (kdV pk i) rfl (Qj o.out.2.1 (Qb G.out)) ⟨w3.heap.size,0,none⟩ 1 1 [I (1+k)] rfl rfl (one_int _ _ _) (Xx _) Ξ γ (by have h1:=bk o.out.2.2.2.2.1.1;have h2:=G.out.size;dsimp only at h1;simp;omega) ?gA))
    case gA =>
     intro v' w4 R p _
     have s:Hid (Z i base a1 c1 b1 c2 f c3 l c4 w4∧w4.ownsRow (b4+1) 3 1 v' (i+1) (kdV pk (i+1))∧Bl w w4∧BX6 w4 b4 (I (W:Int)) (I 1) (.slice a1 W c1) (.slice b1 (t i) c2) (.slice f N c3) (.slice l (ls i) c4)):=by
      have a7:Bl wr (w3.alloc (.cells #[I (1+k)] 3)):=Qb G.out;have ag:=K5.out _ _ _ _ _ _ _ _ _ _ _ _ o.out.1 a7;have ad:=Qw o.out.2.1;have u:=bk o.out.2.2.2.2.1.1;dsimp only at u;have A:=Qc o.out.2.2.2.1 a7;refine ⟨?_,by rw [HT.out];exact R, ?_, ?_⟩
      ·cases ho:Value.ownBlock u6 with
       | none =>
        rw [ho] at p;exact K5.out _ _ _ _ _ _ _ _ _ _ _ _ ag (bl_none9 p)
       | some q =>
        rw [ho] at p;exact K6.out _ _ _ _ _ _ _ _ _ _ _ _ _ ag p (o.out.2.2.1 q ho)
      ·refine A.grown p A.size (fun k L=>?_);have:=ad k L;have K:=HB4.out;omega
      ·exact (o.out.2.2.2.2.kept a7).grown p (fun e=>by have:=ad _ e.symm;omega)
     clear R p G;go_upto_region 13 with fail
     go_cut [5] (fun s5 P=>s5=I 0∧LpD Z t ls pk W (W:Int) N b4 w P (i+1) v')
     case first =>
      refine Jz (S:=fun _=>True) (late:=fun _=>false) η ?_;refine Lt.take (i:=1) (v:=I (n:Int)) rfl η η η rfl η η (fun _ _ _ h=>h) (Or.inl ⟨Ω, ?hyy⟩) trivial ?_
      case hyy=>(intro w' d;(try dsimp only at d);go_simp;try rfl)
      try simp only [Ap]
      refine Lt.take (i:=2) (v:=I (i:Int)) rfl η η η rfl η η (fun _ _ _ h=>h) (Or.inl ⟨Ω, ?hyy⟩) trivial ?_
      case hyy=>(intro w' d;(try dsimp only at d);go_simp;try rfl)
      try simp only [Ap]
      refine Lt.take (i:=3) (v:=I (q:Int)) rfl η η η rfl η η (fun _ _ _ h=>h) (Or.inl ⟨Ω, ?hyy⟩) trivial ?_
      case hyy=>(intro w' d;(try dsimp only at d);go_simp;try rfl)
      try simp only [Ap]
      refine Lt.take (i:=4) (v:=I x) rfl η η η rfl η η (fun _ _ _ h=>h) (Or.inl ⟨Ω, ?hyy⟩) trivial ?_
      case hyy=>(intro w' d;(try dsimp only at d);go_simp;try rfl)
      try simp only [Ap]
      refine Lt.take (i:=5) (v:=.agg #[I 0,I x]) rfl η η η rfl η η (fun _ _ _ h=>h) (Or.inl ⟨Ω, ?hyy⟩) trivial ?_
      case hyy=>(intro w' d;(try dsimp only at d);go_simp;try rfl)
      try simp only [Ap]
      refine Lt.take (i:=6) (v:=I (1+k)) rfl η η η rfl η η (fun _ _ _ h=>h) (Or.inl ⟨Ω, ?hyy⟩) trivial ?_
      case hyy=>(intro w' d;(try dsimp only at d);go_simp;try rfl)
      try simp only [Ap]
      refine Lt.take (i:=7) (v:=.bool B) rfl η η η rfl η η (fun _ _ _ h=>h) (Or.inl ⟨Ω, ?hyy⟩) trivial ?_
      case hyy=>(intro w' d;(try dsimp only at d);go_simp;try rfl)
      try simp only [Ap]
      refine Lt.take (i:=8) (v:=.agg #[I 0,I x,I 1,.bool B,I 0,I 0,I 0,I 0]) rfl η η η rfl η η (fun _ _ _ h=>h) (Or.inl ⟨Ω, ?hyy⟩) trivial ?_
      case hyy=>(intro w' d;(try dsimp only at d);go_simp;try rfl)
      try simp only [Ap]
      obtain ⟨⟨o0,o1,o2,o3,o4,o5⟩,_⟩:=s.out.2.2.2.kept (Qg (Qe _));have oz:=bk o0;dsimp only at oz;refine Lt.one (i:=0) η rfl rfl ?_;go_simp;try refine ⟨trivial, ?_⟩
      try simp only [Ap]
      clear o0 o1 o2 o3 o4 o5 oz;refine Lt.one (i:=9) η rfl rfl ?_;refine Qag 7 #[.agg #[I (W:Int),I 1,.slice a1 W c1,.slice b1 (t i) c2,.slice f N c3,.slice l (ls i) c4],.agg #[I 0,I x,I 1,.bool B,I 0,I 0,I 0,I 0]] η (ap.out _ _ _ _ _ _ _ _ _ _ (Qg s.out.2.2.1) (K5.out _ _ _ _ _ _ _ _ _ _ _ _ s.out.1 (Qg (Qe _)))) ?_;rintro e w5 ⟨y,a2,d1,b2,d2,m2,d3,p2,d4,rfl,af,Q,ai⟩;have D:Hid (Bl w4 w5):=Qc (Qg (Qe _)) ai;have ac:Hid (Z (i+1) y a2 d1 b2 d2 m2 d3 p2 d4 w5∧w4.heap.size≤y):=⟨af,Q⟩;clear af Q ai;refine ⟨_,rfl,fun _=>trivial, ?_⟩;try simp only [Ap]
      refine Lt.take (i:=10) (v:=.tuple #[.agg #[I (W:Int),I 1,.slice a2 W d1,.slice b2 (t (i+1)) d2,.slice m2 N d3,.slice p2 (ls (i+1)) d4],I 0]) rfl η η η rfl η η (fun _ _ _ h=>h) (Or.inl ⟨Ω, ?hyy⟩) trivial ?_
      case hyy=>(intro w' d;(try dsimp only at d);go_simp;try rfl)
      try simp only [Ap]
      refine Lt.take (i:=11) (v:=.agg #[I (W:Int),I 1,.slice a2 W d1,.slice b2 (t (i+1)) d2,.slice m2 N d3,.slice p2 (ls (i+1)) d4]) rfl η η η rfl η η (fun _ _ _ h=>h) (Or.inl ⟨Ω, ?hyy⟩) trivial ?_
      case hyy=>(intro w' d;(try dsimp only at d);go_simp;try rfl)
      try simp only [Ap]
      refine Lt.take (i:=12) (v:=I 0) rfl η η η rfl η η (fun _ _ _ h=>h) (Or.inl ⟨Ω, ?hyy⟩) trivial ?_
      case hyy=>(intro w' d;(try dsimp only at d);go_simp;try rfl)
      try simp only [Ap]
      obtain ⟨⟨r0,r1,r2,r3,r4,r5⟩,y0,y1,y2,y3,y4,y5⟩:=s.out.2.2.2.kept D.out;have rz:=bk r0;dsimp only at rz;refine Lt.one (i:=13) η rfl rfl ?_;go_simp;try refine ⟨trivial, ?_⟩
      try simp only [Ap]
      refine Lt.take (i:=14) (v:=I 0) rfl η η η rfl η η (fun _ _ _ h=>h) (Or.inl ⟨Ω, ?hyy⟩) trivial ?_
      case hyy=>(intro w' d;(try dsimp only at d);go_simp;try rfl)
      try simp only [Ap]
      refine Lt.done η ?_
      have HN:Hid (LpD Z t ls pk W (W:Int) N b4 w (setBX6 w5 b4 (I (W:Int)) (I 1) (.slice a2 W d1) (.slice b2 (t (i+1)) d2) (.slice m2 N d3) (.slice p2 (ls (i+1)) d4)) (i+1) v'):=by
       have hg:=setBX6_grown w5 b4 (I (W:Int)) (I 1) (.slice a2 W d1) (.slice b2 (t (i+1)) d2) (.slice m2 N d3) (.slice p2 (ls (i+1)) d4);have u:=bk s.out.2.2.2.1.1;dsimp only at u;have ba:=ac.out.2;have hv:=Vr s.out.2.1;have K:=HB4.out;have A:=Qc s.out.2.2.1 D.out;refine ⟨y,a2,d1,b2,d2,m2,d3,p2,d4,(s.out.2.2.2.kept D.out).put,K6.out _ _ _ _ _ _ _ _ _ _ _ _ _ ac.out.1 hg γ,own_grown (Qj s.out.2.1 D.out) hg (fun q hq e=>?_),fun q hq=>?_, ?_⟩
       ·have:=hv q hq
        cases e;omega
       ·have:=hv q hq;omega
       ·exact A.grown hg A.size (fun k L=>by cases L;omega)
      go_wp2;go_meet
      case rel=>exact ⟨rfl,HN.out⟩
     case rest =>
      obtain ⟨rfl,hL⟩:=hcut;have HN:Hid (LpD Z t ls pk W (W:Int) N b4 w wc (i+1) v'):=hL;clear hL s;go_wp2;go_roundg (n - (i+1))
      case measure=>omega
      case rel=>exact ⟨i+1,γ,rfl,σ,rfl,HN.out⟩
   ·obtain rfl:i=n:=γ;have i1:¬ (i:Int)<(i:Int):=γ
    have HQ:Hid (BX6 wr b4 (I (W:Int)) (I 1) (.slice a1 W c1) (.slice b1 r.length c2) (.slice f N c3) (.slice l (ls i) c4)∧Z i base a1 c1 b1 c2 f c3 l c4 wr∧Bl w wr∧CrR r b1 wr):=by
     have h5:=o.out.2.2.2.2;rw [X.out] at h5;exact ⟨h5,o.out.1,o.out.2.2.2.1,KC.out _ _ _ _ _ _ _ _ _ _ o.out.1⟩
    have aq:Hid (∀ (V:World) (base:Nat) (a1:Option Addr) (c1:Nat) (b1:Option Addr) (c2:Nat) (f:Option Addr) (c3:Nat) (l:Option Addr) (c4:Nat),Bl w V→Z i base a1 c1 b1 c2 f c3 l c4 V→Rt 9 #[.agg #[I (W:Int),I 1,.slice a1 W c1,.slice b1 r.length c2,.slice f N c3,.slice l (ls i) c4]] V (.tuple #[I (W:Int),I 4,I 0])):=by
     have h9:=C9.out;rw [X.out] at h9;exact h9
    clear C9 C6 C7 HR aa X KC K6;go_upto_region 17 with (go_at_call 8;refine (C8.out _ _ _ HQ.out.2.2.1 o.out.2.1).mono ?_;rintro e C ⟨ua,uc,rfl,hw,hb⟩;have z:Hid (WdR r ua C∧Bl wr C):=⟨hw,hb⟩;clear hw hb)
    clear C8 o;have U:Hid (BX6 C b4 (I (W:Int)) (I 1) (.slice a1 W c1) (.slice b1 r.length c2) (.slice f N c3) (.slice l (ls i) c4)∧Z i base a1 c1 b1 c2 f c3 l c4 C∧Bl w C∧CrR r b1 C∧WdR r ua C):=⟨HQ.out.1.kept z.out.2,K5.out _ _ _ _ _ _ _ _ _ _ _ _ HQ.out.2.1 z.out.2,Qc HQ.out.2.2.1 z.out.2,HQ.out.2.2.2.kept z.out.2,z.out.1⟩;clear HQ z;obtain ⟨x0,x1,x2,x3,x4,x5⟩:=U.out.1.1;have xz:=bk x0;dsimp only at xz;go_upto_block 2 with fail
    clear x0 x1 x2 x3 x4 x5 xz;go_wp2;go_loopg [11] r.length (fun gk ay P=>∃ j:Nat,j≤r.length∧gk=r.length - j∧ay=I (j:Int)∧Bl C P)
    case atStart=>exact ⟨0,γ,rfl,rfl,Qe _⟩
    case round =>
     obtain ⟨j,hj,rfl,rfl,aj⟩:=hrel;have T:Hid (Bl C wr):=aj;clear aj;obtain ⟨x0,x1,x2,x3,x4,x5⟩:=(U.out.1.kept T.out).1;have xz:=bk x0;dsimp only at xz;by_cases h2:j<r.length
     ·have j1:(j:Int)<(r.length:Int):=γ;obtain ⟨g,off,e1,e2,e3,rfl,k0,k1,k2,k3,k4⟩:=(U.out.2.2.2.1.kept T.out) j h2;obtain ⟨gw,rfl,kw⟩:=(U.out.2.2.2.2.kept T.out) j h2;obtain ⟨wj,am⟩:∃ x,x=r[j]:=⟨_,rfl⟩;rw [← am] at k4 kw;clear am;have zg:=bk k0;have zw:=bk kw;dsimp only at zg zw;go_upto_region 23 with fail
      refine Qi (fun W7 H=>?_);obtain ⟨b7,J⟩:∃ b,b=wr.heap.size:=⟨_,rfl⟩
      have a6:Bl wr W7:=by
       rw [H];with_reducible repeat' (first | exact Qe _ | refine Qb ?_ | refine Qg ?_)
      have q0:At W7 b7 0 (I (2*((j:Int)+1))):=by rw [H,J];simp [go_sem]
      have q4:At W7 b7 4 (I wj):=by rw [H,J];simp [go_sem]
      replace kw:=Qa a6 kw;have au:Hid (Bl wr W7):=a6;rw [← J];clear H J a6 x0 x1 x2 x3 x4 x5 xz k0 k1 k2 k3 k4 zg zw;have zq:=bk q0;have zw:=bk kw;dsimp only at zq zw;have g1:((2*((j:Int)+1)) != (2*((j:Int)+1)))=false:=ξ;have g2:(wj != wj)=false:=ξ;go_cut [103] (fun an P=>an=.bool false∧Bl W7 P)
      case first =>
       obtain ⟨kc,kn⟩:=kcn W7;refine wk ?_;repeat (go_big_quiet_step (fail))
       refine kq1 (fun wq hq=>?_);clear kc kn;go_wp2;go_meet
       case rel=>exact ⟨ξ,hq⟩
      case rest =>
       obtain ⟨rfl,K⟩:=hcut;have ar:Hid (Bl C wc):=Qc T.out (Qc au.out K);clear K;go_wp2;go_roundg (r.length - (j+1))
       case measure=>omega
       case rel=>exact ⟨j+1,γ,rfl,σ,ar.out⟩
     ·obtain rfl:j=r.length:=γ;have j1:¬ (r.length:Int)<(r.length:Int):=γ;go_wp2_with (go_at_call 9;refine (aq.out _ _ _ _ _ _ _ _ _ _ (Qc U.out.2.2.1 T.out) (K5.out _ _ _ _ _ _ _ _ _ _ _ _ U.out.2.1 T.out)).mono ?_;rintro e w8 ⟨rfl,hb⟩;have av:Hid (Bl w w8):=Qc (Qc U.out.2.2.1 T.out) hb;clear hb)
      go_ret;exact ⟨rfl,av.out⟩
end Go.Proofs.YtjkjpopghkeibaaGreatDoor
