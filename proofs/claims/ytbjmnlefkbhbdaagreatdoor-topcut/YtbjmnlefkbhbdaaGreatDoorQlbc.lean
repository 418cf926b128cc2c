/- A part of it. -/
import Derived.Test.YtbjmnlefkbhbdaaGreatDoorQlat
set_option maxRecDepth 100000
set_option maxHeartbeats 40000000
namespace Go.Proofs.YtbjmnlefkbhbdaaGreatDoor
open Go.RowKit Go.ChangeMaps
@[simp,go_sem] abbrev st0:Value:=.agg #[I 0,I 0,SN,SN,SN,SN]
def LayW (w w':World) (W H:Int) (S5:Nat→Value→Value→Value→Value→World→Prop) (e:Ending):Prop :=
 (∃ code:Int,e=.returned (.tuple #[st0,I code])∧code≠0∧Bl w w')∨∃ base v2a v2n v2c v3a v3n v3c v4a v4n v4c v5a v5n v5c,e=.returned (.tuple #[.agg #[I W,I H,.slice v2a v2n v2c,.slice v3a v3n v3c,.slice v4a v4n v4c,.slice v5a v5n v5c],I 0])∧S5 base (.slice v2a v2n v2c) (.slice v3a v3n v3c) (.slice v4a v4n v4c) (.slice v5a v5n v5c) w'∧w.heap.size≤base∧Bl w w'
theorem res13 {w:World} {b:Nat} {f0 f1 f2 f3 f4 a:Value} {T:Array Value} {n:Int} (h:BX6 w b f0 f1 f2 f3 f4 a) (h4:T[4]?=some (.pointer (Az b))) (h5:T[5]?=some (I n)):(results Tryz.f38 T).run Tryz.prog w=.ok (.tuple #[.agg #[f0,f1,f2,f3,f4,a],I n]) w:=by
 obtain ⟨t0,c,d,t3,t4,t5⟩:=h.1;simp [results,Tryz.results38,go_sem,h4,h5,t0,c,d,t3,t4,t5]
theorem lay_fail {r x:Nat} {t u y:String} {r1 r2 r3:Array Edge} {W H:Int} {l:Nat→Value→Value→Value→Value→World→Prop} {w d:World} {T:Array Value} {b:Int} {K:Act→World→Prop} {f:Exit→Act→World→Prop} (A:∀ a w,Code.wp Tryz.prog Code.ret f a w→K a w) (c:Hid (BX6 d (w.heap.size+1+1) (I 0) (I 0) SN SN SN SN∧Bl w d)) (h4:T[4]?=some (.pointer (Az (w.heap.size+1+1)))) (o:x≠4∧x≠5∧x<T.size∧5<T.size) (n:b≠0) (B:∀ a w',bodyPost Tryz.prog Tryz.f38 (fun e w'=>LayW w w' W H l e) Exit.ret a w'→f Exit.ret a w') :
  Code.wp Tryz.prog (Code.region r #[{ dst:=some x,op:=.build 30 #[],type:=30,pos:=t,after:=r1,guard:=none },{ dst:=none,op:=.store 30 (.tmp 4) (.tmp x),type:=0,pos:=u,after:=r2,guard:=none },{ dst:=some 5,op:=.assign (.const (I b)),type:=37,pos:=y,after:=r3,guard:=none }] false) (Exit.then K f) ⟨T,[]⟩ d:=by
 obtain ⟨⟨r0,r1,r2,r3,C,D⟩,n0,n1,n2,n3,n4,n5⟩:=c.out.1;have s:=bk r0;dsimp only at s;obtain ⟨p,q,hs,g⟩:=o;have m:∀ v,(T.setIfInBounds x v)[4]?=some (.pointer (Az (w.heap.size+1+1))):=fun v=>by rw [Array.getElem?_setIfInBounds_ne γ];exact h4
 have z:∀ v,(T.setIfInBounds x v)[x]?=some v:=fun v=>by rw [Array.getElem?_setIfInBounds_self_of_lt hs]
 go_wp2;have i:=c.out.1.put (g0:=I 0) (g1:=I 0) (g2:=SN) (g3:=SN) (g4:=SN) (g5:=SN);have j:=Jf d (w.heap.size+1+1) (I 0) (I 0) SN SN SN SN;have hb:=c.out.2.grown j c.out.2.size (fun k h=>by cases h;omega);exact bodyPost_ret (res13 i (by simp [m]) (by simp [g])) rfl (Or.inl ⟨b,rfl,n,hb⟩)
theorem lay_weak {G:Type} (f0 f1 f2 f3 f4 f5 f6 f7 f8 f9 a8 aa ab ac f14:Value) (W H:Int) (z2 z3:Value) (w:World)
  (S1:G→Value→Value→World→Prop) (S2:G→Value→Value→Value→World→Prop) (S3:G→Value→Value→Value→Value→Value→Bool→World→Prop) (S4:Value→World→Prop) (S5:Nat→Value→Value→Value→Value→World→Prop)
  (k1:∀ (V V':World) (Z:G) (L:Option Addr) (N M:Nat) (O:Option Addr) (Q P:Nat),S1 Z (.slice L N M) (.slice O Q P) V→Bl V V'→S1 Z (.slice L N M) (.slice O Q P) V')
  (k2:∀ (V V':World) (Z:G) (R:Option Addr) (U T:Nat) (X Y:Option Nat),S2 Z (.slice R U T) (.map X) (.map Y) V→Bl V V'→S2 Z (.slice R U T) (.map X) (.map Y) V')
  (k3:∀ (V V':World) (Z:G) (a:Option Addr) (d c:Nat) (f l:Option Nat) (n:Option Addr) (p o:Nat) (r:Option Addr) (t s:Nat) (b:Bool),S3 Z (.slice a d c) (.map f) (.map l) (.slice n p o) (.slice r t s) b V→Bl V V'→S3 Z (.slice a d c) (.map f) (.map l) (.slice n p o) (.slice r t s) b V')
  (k4:∀ (V V':World) (af:Option Addr) (ah ag:Nat),S4 (.slice af ah ag) V→Bl V V'→S4 (.slice af ah ag) V')
  (kg:∀ (V V':World) (Z:G) (a:Option Addr) (d c:Nat) (f l:Option Nat) (n:Option Addr) (p o:Nat) (r:Option Addr) (t s:Nat) (b:Bool) (g:Nat),S3 Z (.slice a d c) (.map f) (.map l) (.slice n p o) (.slice r t s) b V→At V g 0 SN→V.grownBy V' (some g)→S3 Z (.slice a d c) (.map f) (.map l) (.slice n p o) (.slice r t s) b V')
  (k5:∀ (V V':World) (base:Nat) (u:Option Addr) (y x:Nat) (z:Option Addr) (B A:Nat) (C:Option Addr) (E D:Nat) (F:Option Addr) (K J:Nat),S5 base (.slice u y x) (.slice z B A) (.slice C E D) (.slice F K J) V→Bl V V'→S5 base (.slice u y x) (.slice z B A) (.slice C E D) (.slice F K J) V')
  (k6:∀ (V V':World) (base b:Nat) (u:Option Addr) (y x:Nat) (z:Option Addr) (B A:Nat) (C:Option Addr) (E D:Nat) (F:Option Addr) (K J:Nat),S5 base (.slice u y x) (.slice z B A) (.slice C E D) (.slice F K J) V→V.grownBy V' (some b)→b<base→S5 base (.slice u y x) (.slice z B A) (.slice C E D) (.slice F K J) V')
  (bw:∀ V:World,Bl w V→Cl 80 #[.agg #[f0,f1,f2,f3,f4,f5,f6,f7,f8,f9,a8,aa,ab,ac,f14],.agg #[I W,I H,z2,z3]] V fun e w'=>∃ Z L N M O Q P,e=.returned (.agg #[I W,I H,.slice L N M,.slice O Q P])∧S1 Z (.slice L N M) (.slice O Q P) w'∧Bl V w')
  (bt:∀ (V:World) (Z:G) (L:Option Addr) (N M:Nat) (O:Option Addr) (Q P:Nat),Bl w V→S1 Z (.slice L N M) (.slice O Q P) V→Cl 20 #[.agg #[I W,I H,.slice L N M,.slice O Q P]] V fun e w'=>∃ R U T X Y ba,e=.returned (.tuple #[.agg #[.slice R U T,.map X,.map Y],.bool ba])∧S2 Z (.slice R U T) (.map X) (.map Y) w'∧Bl V w')
  (c5:∀ V:World,Bl w V→Cl 81 #[.agg #[f0,f1,f2,f3,f4,f5,f6,f7,f8,f9,a8,aa,ab,ac,f14]] V fun e w'=>∃ af ah ag,e=.returned (.slice af ah ag)∧S4 (.slice af ah ag) w'∧Bl V w')
  (bz:∀ (V:World) (Z:G) (R:Option Addr) (U T:Nat) (X Y:Option Nat) (af:Option Addr) (ah ag:Nat),Bl w V→S2 Z (.slice R U T) (.map X) (.map Y) V→S4 (.slice af ah ag) V→Cl 39 #[.agg #[.slice R U T,.map X,.map Y],(.slice af ah ag)] V fun e w'=>∃ a d c f l n p o r t s a7,e=.returned (.tuple #[.agg #[.slice a d c,.map f,.map l,.slice n p o,.slice r t s],.bool a7])∧S3 Z (.slice a d c) (.map f) (.map l) (.slice n p o) (.slice r t s) a7 w'∧Bl V w')
  (c6:∀ V:World,Cl 82 #[.agg #[f0,f1,f2,f3,f4,f5,f6,f7,f8,f9,a8,aa,ab,ac,f14]] V fun e w'=>∃ bx,e=.returned (.func (.func 130) #[] #[.pointer (Az bx)])∧HB15 w' bx f0 f1 f2 f3 f4 f5 f6 f7 f8 f9 a8 aa ab ac f14∧Bl V w')
  (bu:∀ (V:World) (Z:G) (L:Option Addr) (N M:Nat) (O:Option Addr) (Q P:Nat) (R:Option Addr) (U T:Nat) (X Y:Option Nat) (a:Option Addr) (d c:Nat) (f l:Option Nat) (n:Option Addr) (p o:Nat) (r:Option Addr) (t s bx:Nat),Bl w V→S1 Z (.slice L N M) (.slice O Q P) V→S2 Z (.slice R U T) (.map X) (.map Y) V→S3 Z (.slice a d c) (.map f) (.map l) (.slice n p o) (.slice r t s) true V→HB15 V bx f0 f1 f2 f3 f4 f5 f6 f7 f8 f9 a8 aa ab ac f14→Cl 33 #[.agg #[.slice a d c,.map f,.map l,.slice n p o,.slice r t s],.agg #[I W,I H,.slice L N M,.slice O Q P],.func (.func 130) #[] #[.pointer (Az bx)]] V fun e w'=>∃ u y x z B A C E D F K J,e=.returned (.agg #[I W,I H,.slice u y x,.slice z B A,.slice C E D,.slice F K J])∧S5 V.heap.size (.slice u y x) (.slice z B A) (.slice C E D) (.slice F K J) w'∧Bl V w')
  (bv:∀ (V:World) (base:Nat) (u:Option Addr) (y x:Nat) (z:Option Addr) (B A:Nat) (C:Option Addr) (E D:Nat) (F:Option Addr) (K J:Nat),Bl w V→S5 base (.slice u y x) (.slice z B A) (.slice C E D) (.slice F K J) V→Cl 73 #[.agg #[I W,I H,.slice u y x,.slice z B A,.slice C E D,.slice F K J]] V fun e w'=>∃ q m qc,e=.returned (.tuple #[.slice q m qc,I 0])∧Bl V w') :
  Cl 38 #[.agg #[f0,f1,f2,f3,f4,f5,f6,f7,f8,f9,a8,aa,ab,ac,f14],.agg #[I W,I H,z2,z3]] w fun e w'=>LayW w w' W H S5 e:=by
 have C1:Hid (∀ (V V':World) (Z:G) (L:Option Addr) (N M:Nat) (O:Option Addr) (Q P:Nat),S1 Z (.slice L N M) (.slice O Q P) V→Bl V V'→S1 Z (.slice L N M) (.slice O Q P) V'):=k1;have C2:Hid (∀ (V V':World) (Z:G) (R:Option Addr) (U T:Nat) (X:Option Nat) (Y:Option Nat),S2 Z (.slice R U T) (.map X) (.map Y) V→Bl V V'→S2 Z (.slice R U T) (.map X) (.map Y) V'):=k2;have C3:Hid (∀ (V V':World) (Z:G) (a:Option Addr) (d c:Nat) (f:Option Nat) (l:Option Nat) (n:Option Addr) (p o:Nat) (r:Option Addr) (t s:Nat) (b:Bool),S3 Z (.slice a d c) (.map f) (.map l) (.slice n p o) (.slice r t s) b V→Bl V V'→S3 Z (.slice a d c) (.map f) (.map l) (.slice n p o) (.slice r t s) b V'):=k3;have C4:Hid (∀ (V V':World) (af:Option Addr) (ah ag:Nat),S4 (.slice af ah ag) V→Bl V V'→S4 (.slice af ah ag) V'):=k4;have CG:Hid (∀ (V V':World) (Z:G) (a:Option Addr) (d c:Nat) (f:Option Nat) (l:Option Nat) (n:Option Addr) (p o:Nat) (r:Option Addr) (t s:Nat) (b:Bool) (g:Nat),S3 Z (.slice a d c) (.map f) (.map l) (.slice n p o) (.slice r t s) b V→At V g 0 SN→V.grownBy V' (some g)→S3 Z (.slice a d c) (.map f) (.map l) (.slice n p o) (.slice r t s) b V'):=kg;have C5:Hid (∀ (V V':World) (base:Nat) (u:Option Addr) (y x:Nat) (z:Option Addr) (B A:Nat) (C:Option Addr) (E D:Nat) (F:Option Addr) (K J:Nat),S5 base (.slice u y x) (.slice z B A) (.slice C E D) (.slice F K J) V→Bl V V'→S5 base (.slice u y x) (.slice z B A) (.slice C E D) (.slice F K J) V'):=k5;have C6:Hid (∀ (V V':World) (base b:Nat) (u:Option Addr) (y x:Nat) (z:Option Addr) (B A:Nat) (C:Option Addr) (E D:Nat) (F:Option Addr) (K J:Nat),S5 base (.slice u y x) (.slice z B A) (.slice C E D) (.slice F K J) V→V.grownBy V' (some b)→b<base→S5 base (.slice u y x) (.slice z B A) (.slice C E D) (.slice F K J) V'):=k6;have ca:Hid (∀ V:World,Bl w V→Cl 80 #[.agg #[f0,f1,f2,f3,f4,f5,f6,f7,f8,f9,a8,aa,ab,ac,f14],.agg #[I W,I H,z2,z3]] V fun e w'=>∃ Z L N M O Q P,e=.returned (.agg #[I W,I H,.slice L N M,.slice O Q P])∧S1 Z (.slice L N M) (.slice O Q P) w'∧Bl V w'):=bw;have c8:Hid (∀ (V:World) (Z:G) (L:Option Addr) (N M:Nat) (O:Option Addr) (Q P:Nat),Bl w V→S1 Z (.slice L N M) (.slice O Q P) V→Cl 20 #[.agg #[I W,I H,.slice L N M,.slice O Q P]] V fun e w'=>∃ R U T X Y ba,e=.returned (.tuple #[.agg #[.slice R U T,.map X,.map Y],.bool ba])∧S2 Z (.slice R U T) (.map X) (.map Y) w'∧Bl V w'):=bt;have bp:Hid (∀ V:World,Bl w V→Cl 81 #[.agg #[f0,f1,f2,f3,f4,f5,f6,f7,f8,f9,a8,aa,ab,ac,f14]] V fun e w'=>∃ af ah ag,e=.returned (.slice af ah ag)∧S4 (.slice af ah ag) w'∧Bl V w'):=c5;have bc:Hid (∀ (V:World) (Z:G) (R:Option Addr) (U T:Nat) (X:Option Nat) (Y:Option Nat) (af:Option Addr) (ah ag:Nat),Bl w V→S2 Z (.slice R U T) (.map X) (.map Y) V→S4 (.slice af ah ag) V→Cl 39 #[.agg #[.slice R U T,.map X,.map Y],(.slice af ah ag)] V fun e w'=>∃ a d c f l n p o r t s a7,e=.returned (.tuple #[.agg #[.slice a d c,.map f,.map l,.slice n p o,.slice r t s],.bool a7])∧S3 Z (.slice a d c) (.map f) (.map l) (.slice n p o) (.slice r t s) a7 w'∧Bl V w'):=bz;have bq:Hid (∀ V:World,Cl 82 #[.agg #[f0,f1,f2,f3,f4,f5,f6,f7,f8,f9,a8,aa,ab,ac,f14]] V fun e w'=>∃ bx,e=.returned (.func (.func 130) #[] #[.pointer (Az bx)])∧HB15 w' bx f0 f1 f2 f3 f4 f5 f6 f7 f8 f9 a8 aa ab ac f14∧Bl V w'):=c6;have bb:Hid (∀ (V:World) (Z:G) (L:Option Addr) (N M:Nat) (O:Option Addr) (Q P:Nat) (R:Option Addr) (U T:Nat) (X:Option Nat) (Y:Option Nat) (a:Option Addr) (d c:Nat) (f:Option Nat) (l:Option Nat) (n:Option Addr) (p o:Nat) (r:Option Addr) (t s:Nat) (bx:Nat),Bl w V→S1 Z (.slice L N M) (.slice O Q P) V→S2 Z (.slice R U T) (.map X) (.map Y) V→S3 Z (.slice a d c) (.map f) (.map l) (.slice n p o) (.slice r t s) true V→HB15 V bx f0 f1 f2 f3 f4 f5 f6 f7 f8 f9 a8 aa ab ac f14→Cl 33 #[.agg #[.slice a d c,.map f,.map l,.slice n p o,.slice r t s],.agg #[I W,I H,.slice L N M,.slice O Q P],.func (.func 130) #[] #[.pointer (Az bx)]] V fun e w'=>∃ u y x z B A C E D F K J,e=.returned (.agg #[I W,I H,.slice u y x,.slice z B A,.slice C E D,.slice F K J])∧S5 V.heap.size (.slice u y x) (.slice z B A) (.slice C E D) (.slice F K J) w'∧Bl V w'):=bu;have c9:Hid (∀ (V:World) (base:Nat) (u:Option Addr) (y x:Nat) (z:Option Addr) (B A:Nat) (C:Option Addr) (E D:Nat) (F:Option Addr) (K J:Nat),Bl w V→S5 base (.slice u y x) (.slice z B A) (.slice C E D) (.slice F K J) V→Cl 73 #[.agg #[I W,I H,.slice u y x,.slice z B A,.slice C E D,.slice F K J]] V fun e w'=>∃ q m qc,e=.returned (.tuple #[.slice q m qc,I 0])∧Bl V w'):=bv;clear k1 k2 k3 k4 kg k5 k6 bw bt c5 bz c6 bu bv;go_enter Tryz.func38,Tryz.ntmps38;go_upto_region 1 with fail
 refine Qj (fun W0 hW0=>?_)
 have H0:Hid ((HB15 W0 w.heap.size f0 f1 f2 f3 f4 f5 f6 f7 f8 f9 a8 aa ab ac f14∧BX6 W0 (w.heap.size+1+1) (I 0) (I 0) SN SN SN SN∧Bl w W0)∧(At W0 (w.heap.size+1) 0 (I W)∧At W0 (w.heap.size+1) 1 (I H)∧At W0 (w.heap.size+1) 2 z2∧At W0 (w.heap.size+1) 3 z3)):=by
  rw [hW0];refine ⟨⟨?_, ?_, ?_⟩, ?_⟩
  ·simp [HB15,go_sem]
  ·simp [BX6,go_sem]
  ·with_reducible repeat' (first | exact Qd _ | refine Qc ?_ | refine Qe ?_)
  ·simp [go_sem]
 clear hW0;obtain ⟨k0,k1,k2,k3⟩:=H0.out.2;obtain ⟨x0,x1,x2,x3,x4,x5,x6,x7,x8,x9,cd,ce,cf,cg,ch⟩:=H0.out.1.1;have xz:=bk x0;dsimp only at xz;go_upto_region 2 with (go_at_call 80;refine (ca.out _ H0.out.1.2.2).mono ?_;rintro e w1 ⟨Z,L,N,M,O,Q,P,rfl,h1,hb⟩;have H1:Hid ((HB15 w1 w.heap.size f0 f1 f2 f3 f4 f5 f6 f7 f8 f9 a8 aa ab ac f14∧BX6 w1 (w.heap.size+1+1) (I 0) (I 0) SN SN SN SN∧Bl w w1)∧S1 Z (.slice L N M) (.slice O Q P) w1):=⟨⟨H0.out.1.1.kept hb,H0.out.1.2.1.kept hb,Qb H0.out.1.2.2 hb⟩,h1⟩;clear hb h1 x0 x1 x2 x3 x4 x5 x6 x7 x8 x9 cd ce cf cg ch xz k0 k1 k2 k3)
 refine Qj (fun W2 bm=>?_);obtain ⟨b6,aj⟩:∃ b,b=w1.heap.size:=⟨_,rfl⟩
 have H2:Hid ((HB15 W2 w.heap.size f0 f1 f2 f3 f4 f5 f6 f7 f8 f9 a8 aa ab ac f14∧BX6 W2 (w.heap.size+1+1) (I 0) (I 0) SN SN SN SN∧Bl w W2)∧S1 Z (.slice L N M) (.slice O Q P) W2∧(At W2 b6 0 (I W)∧At W2 b6 1 (I H)∧At W2 b6 2 (.slice L N M)∧At W2 b6 3 (.slice O Q P))):=by
  have hb:Bl w1 W2:=by
   rw [bm];with_reducible repeat' (first | exact Qd _ | refine Qc ?_ | refine Qe ?_)
  refine ⟨⟨H1.out.1.1.kept hb,H1.out.1.2.1.kept hb,Qb H1.out.1.2.2 hb⟩,C1.out _ _ _ _ _ _ _ _ _ H1.out.2 hb, ?_⟩;rw [bm,aj];simp [go_sem]
 rw [← aj];clear bm H1 H0 aj;obtain ⟨k0,k1,k2,k3⟩:=H2.out.2.2;go_upto_region 3 with (go_at_call 20;refine (c8.out _ Z L N M O Q P H2.out.1.2.2 H2.out.2.1).mono ?_;rintro e w3 ⟨R,U,T,X,Y,ba,rfl,h2,hb⟩;have H3:Hid (Bl W2 w3∧S2 Z (.slice R U T) (.map X) (.map Y) w3):=⟨hb,h2⟩;clear hb h2 k0 k1 k2 k3)
 refine Qj (fun W4 bn=>?_);obtain ⟨b7,bo⟩:∃ b,b=w3.heap.size:=⟨_,rfl⟩
 have H4:Hid ((HB15 W4 w.heap.size f0 f1 f2 f3 f4 f5 f6 f7 f8 f9 a8 aa ab ac f14∧BX6 W4 (w.heap.size+1+1) (I 0) (I 0) SN SN SN SN∧Bl w W4)∧S1 Z (.slice L N M) (.slice O Q P) W4∧(At W4 b6 0 (I W)∧At W4 b6 1 (I H)∧At W4 b6 2 (.slice L N M)∧At W4 b6 3 (.slice O Q P))∧S2 Z (.slice R U T) (.map X) (.map Y) W4∧(At W4 b7 0 (.slice R U T)∧At W4 b7 1 (.map X)∧At W4 b7 2 (.map Y))):=by
  have hb:Bl w3 W4:=by
   rw [bn];with_reducible repeat' (first | exact Qd _ | refine Qc ?_ | refine Qe ?_)
  have aq:=Qb H3.out.1 hb;obtain ⟨k0,k1,k2,k3⟩:=H2.out.2.2;refine ⟨⟨H2.out.1.1.kept aq,H2.out.1.2.1.kept aq,Qb H2.out.1.2.2 aq⟩,C1.out _ _ _ _ _ _ _ _ _ H2.out.2.1 aq,⟨Qa aq k0,Qa aq k1,Qa aq k2,Qa aq k3⟩,C2.out _ _ _ _ _ _ _ _ H3.out.2 hb, ?_⟩;rw [bn,bo];simp [go_sem]
 rw [← bo];clear bn H3 H2 bo;go_cut [9,10] (fun s9 cb wx=>∃ a d c f l n p o r t s a7 bN,s9=.pointer (Az bN)∧cb=.bool a7∧BX5 wx bN (.slice a d c) (.map f) (.map l) (.slice n p o) (.slice r t s)∧S3 Z (.slice a d c) (.map f) (.map l) (.slice n p o) (.slice r t s) a7 wx∧Bl W4 wx)
 case first =>
  obtain ⟨o0,o1,o2⟩:=H4.out.2.2.2.2;have HS:Hid (∀ V:World,Bl W4 V→(fun w'=>At w' b7 0 (.slice R U T)∧At w' b7 1 (.map X)∧At w' b7 2 (.map Y)∧HB15 w' w.heap.size f0 f1 f2 f3 f4 f5 f6 f7 f8 f9 a8 aa ab ac f14) V):=fun V hV=>⟨Qa hV o0,Qa hV o1,Qa hV o2,H4.out.1.1.kept hV⟩;have an:Hid (Bl w W4):=H4.out.1.2.2;have HZ:Hid (w.heap.size<W4.heap.size∧b7<W4.heap.size):=⟨bk H4.out.1.1.1,bk o0⟩;clear o0 o1 o2;refine Qz (S:=fun w'=>At w' b7 0 (.slice R U T)∧At w' b7 1 (.map X)∧At w' b7 2 (.map Y)∧HB15 w' w.heap.size f0 f1 f2 f3 f4 f5 f6 f7 f8 f9 a8 aa ab ac f14) (late:=fun _=>false) μ ?_;have a6:=HS.out _ (Qe (Qd W4));refine Lt.take (i:=0) (v:=.agg #[.slice R U T,.map X,.map Y]) rfl μ μ μ rfl μ μ (fun _ _ _ h=>h) (Or.inl ⟨γ2, ?hyy⟩) a6 ?_
  case hyy=>(intro w' ae;(try dsimp only [HB15] at ae);go_simp)
  try simp only [Ap]
  refine Lt.take (i:=1) (v:=.agg #[f0,f1,f2,f3,f4,f5,f6,f7,f8,f9,a8,aa,ab,ac,f14]) rfl μ μ μ rfl μ μ (fun _ _ _ h=>h) (Or.inl ⟨γ2, ?hyy⟩) a6 ?_
  case hyy=>(intro w' ae;(try dsimp only [HB15] at ae);go_simp)
  try simp only [Ap]
  refine Lt.two (i:=2) (j:=7) μ rfl rfl rfl rfl ?pa ?pb
  case pa =>
   refine Jc 81 #[.agg #[f0,f1,f2,f3,f4,f5,f6,f7,f8,f9,a8,aa,ab,ac,f14]] μ (bp.out _ (Qb an.out (Qe (Qd W4)))) ?_;rintro e w5 ⟨af,ah,ag,rfl,bj,ao⟩;have a2:Hid (Bl W4 w5):=Qb (Qe (Qd W4)) ao;have b9:Hid (S4 (.slice af ah ag) w5):=bj;refine ⟨_,rfl,fun _=>HS.out _ a2.out, ?_⟩;try simp only [Ap]
   replace a6:=HS.out _ a2.out;refine Lt.two (i:=3) (j:=7) μ rfl rfl rfl rfl ?pc ?pd
   case pc =>
    refine Jc 39 #[.agg #[.slice R U T,.map X,.map Y],(.slice af ah ag)] μ (bc.out _ Z R U T X Y af ah ag (Qb an.out a2.out) (C2.out _ _ _ _ _ _ _ _ H4.out.2.2.2.1 a2.out) b9.out) ?_;rintro e w6 ⟨a,d,c,f,l,n,p,o,r,t,s,a7,rfl,ax,aj⟩;have ad:Hid (Bl W4 w6):=Qb a2.out aj;refine ⟨_,rfl,fun _=>HS.out _ ad.out, ?_⟩;try simp only [Ap]
    replace a6:=HS.out _ ad.out;refine Lt.take (i:=4) (v:=.tuple #[.agg #[.slice a d c,.map f,.map l,.slice n p o,.slice r t s],.bool a7]) rfl μ μ μ rfl μ μ (fun _ _ _ h=>h) (Or.inl ⟨γ2, ?hyy⟩) a6 ?_
    case hyy=>(intro w' ae;(try dsimp only [HB15] at ae);go_simp)
    try simp only [Ap]
    refine Lt.take (i:=5) (v:=.agg #[.slice a d c,.map f,.map l,.slice n p o,.slice r t s]) rfl μ μ μ rfl μ μ (fun _ _ _ h=>h) (Or.inl ⟨γ2, ?hyy⟩) a6 ?_
    case hyy=>(intro w' ae;(try dsimp only [HB15] at ae);go_simp)
    try simp only [Ap]
    refine Lt.take (i:=6) (v:=.bool a7) rfl μ μ μ rfl μ μ (fun _ _ _ h=>h) (Or.inl ⟨γ2, ?hyy⟩) a6 ?_
    case hyy=>(intro w' ae;(try dsimp only [HB15] at ae);go_simp)
    try simp only [Ap]
    refine Lt.one (i:=7) μ rfl rfl ?_;go_simp;have ap:Hid (Bl W4 (w6.alloc (.cells #[SN,.map none,.map none,SN,SN] 67))):=Qc ad.out;refine ⟨HS.out _ ap.out, ?_⟩;try simp only [Ap]
    have am:Hid (BX5 (w6.alloc (.cells #[.slice a d c,.map f,.map l,.slice n p o,.slice r t s] 67)) w6.heap.size (.slice a d c) (.map f) (.map l) (.slice n p o) (.slice r t s)∧S3 Z (.slice a d c) (.map f) (.map l) (.slice n p o) (.slice r t s) a7 (w6.alloc (.cells #[.slice a d c,.map f,.map l,.slice n p o,.slice r t s] 67))∧Bl W4 (w6.alloc (.cells #[.slice a d c,.map f,.map l,.slice n p o,.slice r t s] 67))):=⟨(by simp [BX5,go_sem]),C3.out _ _ _ _ _ _ _ _ _ _ _ _ _ _ _ ax β1,Qc ad.out⟩;have ak:=HS.out (w6.alloc (.cells #[.slice a d c,.map f,.map l,.slice n p o,.slice r t s] 67)) am.out.2.2;refine Lt.one (i:=8) μ rfl rfl ?_;go_simp;try refine ⟨ak, ?_⟩
    try simp only [Ap]
    refine Lt.one (i:=9) μ rfl rfl ?_;go_simp;try refine ⟨ak, ?_⟩
    try simp only [Ap]
    refine Lt.done μ ?_;go_wp2;go_meet
    case rel=>exact ⟨a,d,c,f,l,n,p,o,r,t,s,a7,w6.heap.size,rfl,rfl,am.out⟩
   case pd =>
    go_simp;have ai:Hid (Bl W4 (w5.alloc (.cells #[SN,.map none,.map none,SN,SN] 67))):=Qc a2.out;refine ⟨HS.out _ ai.out, ?_⟩;try simp only [Ap]
    replace a6:=HS.out _ ai.out;refine Lt.one (i:=3) μ rfl rfl ?_;refine Jc 39 #[.agg #[.slice R U T,.map X,.map Y],(.slice af ah ag)] μ (bc.out _ Z R U T X Y af ah ag (Qb an.out ai.out) (C2.out _ _ _ _ _ _ _ _ H4.out.2.2.2.1 ai.out) (C4.out _ _ _ _ _ b9.out β1)) ?_;rintro e w6 ⟨a,d,c,f,l,n,p,o,r,t,s,a7,rfl,ax,aj⟩;have ad:Hid (Bl W4 w6):=Qb ai.out aj;refine ⟨_,rfl,fun _=>HS.out _ ad.out, ?_⟩;try simp only [Ap]
    replace a6:=HS.out _ ad.out;refine Lt.take (i:=4) (v:=.tuple #[.agg #[.slice a d c,.map f,.map l,.slice n p o,.slice r t s],.bool a7]) rfl μ μ μ rfl μ μ (fun _ _ _ h=>h) (Or.inl ⟨γ2, ?hyy⟩) a6 ?_
    case hyy=>(intro w' ae;(try dsimp only [HB15] at ae);go_simp)
    try simp only [Ap]
    refine Lt.take (i:=5) (v:=.agg #[.slice a d c,.map f,.map l,.slice n p o,.slice r t s]) rfl μ μ μ rfl μ μ (fun _ _ _ h=>h) (Or.inl ⟨γ2, ?hyy⟩) a6 ?_
    case hyy=>(intro w' ae;(try dsimp only [HB15] at ae);go_simp)
    try simp only [Ap]
    refine Lt.take (i:=6) (v:=.bool a7) rfl μ μ μ rfl μ μ (fun _ _ _ h=>h) (Or.inl ⟨γ2, ?hyy⟩) a6 ?_
    case hyy=>(intro w' ae;(try dsimp only [HB15] at ae);go_simp)
    try simp only [Ap]
    have ar:BX5 (w5.alloc (.cells #[SN,.map none,.map none,SN,SN] 67)) w5.heap.size SN (.map none) (.map none) SN SN:=by simp [BX5,go_sem]
    have HX:Hid (BX5 w6 w5.heap.size SN (.map none) (.map none) SN SN):=ar.kept aj;have be:Hid (S3 Z (.slice a d c) (.map f) (.map l) (.slice n p o) (.slice r t s) a7 w6):=ax;have ap:Hid (Bl W4 w6):=ad.out;have bf:Hid (W4.heap.size≤w5.heap.size):=a2.out.size;obtain ⟨⟨z0,z1,z2,z3,z4⟩,y0,y1,y2,y3,y4⟩:=HX.out;have zz:=bk z0;dsimp only at zz
    have am:Hid (BX5 (setBX5 w6 w5.heap.size (.slice a d c) (.map f) (.map l) (.slice n p o) (.slice r t s)) w5.heap.size (.slice a d c) (.map f) (.map l) (.slice n p o) (.slice r t s)∧S3 Z (.slice a d c) (.map f) (.map l) (.slice n p o) (.slice r t s) a7 (setBX5 w6 w5.heap.size (.slice a d c) (.map f) (.map l) (.slice n p o) (.slice r t s))∧Bl W4 (setBX5 w6 w5.heap.size (.slice a d c) (.map f) (.map l) (.slice n p o) (.slice r t s))):=by
     have hg:=Vv w6 w5.heap.size (.slice a d c) (.map f) (.map l) (.slice n p o) (.slice r t s);exact ⟨HX.out.put,CG.out _ _ _ _ _ _ _ _ _ _ _ _ _ _ _ _ be.out z0 hg,ap.out.grown hg ap.out.size (fun k h=>by cases h;exact bf.out)⟩
    have ak:=HS.out (setBX5 w6 w5.heap.size (.slice a d c) (.map f) (.map l) (.slice n p o) (.slice r t s)) am.out.2.2;dsimp only [setBX5] at ak;refine Lt.one (i:=8) μ rfl rfl ?_;go_simp;try refine ⟨ak, ?_⟩
    try simp only [Ap]
    refine Lt.one (i:=9) μ rfl rfl ?_;go_simp;try refine ⟨ak, ?_⟩
    try simp only [Ap]
    refine Lt.done μ ?_;go_wp2;go_meet
    case rel=>exact ⟨a,d,c,f,l,n,p,o,r,t,s,a7,w5.heap.size,rfl,rfl,am.out⟩
  case pb =>
   go_simp;have ai:Hid (Bl W4 (W4.alloc (.cells #[SN,.map none,.map none,SN,SN] 67)).drew):=Qe β1;refine ⟨HS.out (W4.alloc (.cells #[SN,.map none,.map none,SN,SN] 67)) β1, ?_⟩;try simp only [Ap]
   replace a6:=HS.out _ ai.out;refine Lt.one (i:=2) μ rfl rfl ?_;refine Jc 81 #[.agg #[f0,f1,f2,f3,f4,f5,f6,f7,f8,f9,a8,aa,ab,ac,f14]] μ (bp.out _ (Qb an.out ai.out)) ?_;rintro e w5 ⟨af,ah,ag,rfl,bj,ao⟩;have a2:Hid (Bl W4 w5):=Qb ai.out ao;have b9:Hid (S4 (.slice af ah ag) w5):=bj;refine ⟨_,rfl,fun _=>HS.out _ a2.out, ?_⟩;try simp only [Ap]
   replace a6:=HS.out _ a2.out;refine Lt.one (i:=3) μ rfl rfl ?_;refine Jc 39 #[.agg #[.slice R U T,.map X,.map Y],(.slice af ah ag)] μ (bc.out _ Z R U T X Y af ah ag (Qb an.out a2.out) (C2.out _ _ _ _ _ _ _ _ H4.out.2.2.2.1 a2.out) b9.out) ?_;rintro e w6 ⟨a,d,c,f,l,n,p,o,r,t,s,a7,rfl,ax,aj⟩;have ad:Hid (Bl W4 w6):=Qb a2.out aj;refine ⟨_,rfl,fun _=>HS.out _ ad.out, ?_⟩;try simp only [Ap]
   replace a6:=HS.out _ ad.out;refine Lt.take (i:=4) (v:=.tuple #[.agg #[.slice a d c,.map f,.map l,.slice n p o,.slice r t s],.bool a7]) rfl μ μ μ rfl μ μ (fun _ _ _ h=>h) (Or.inl ⟨γ2, ?hyy⟩) a6 ?_
   case hyy=>(intro w' ae;(try dsimp only [HB15] at ae);go_simp)
   try simp only [Ap]
   refine Lt.take (i:=5) (v:=.agg #[.slice a d c,.map f,.map l,.slice n p o,.slice r t s]) rfl μ μ μ rfl μ μ (fun _ _ _ h=>h) (Or.inl ⟨γ2, ?hyy⟩) a6 ?_
   case hyy=>(intro w' ae;(try dsimp only [HB15] at ae);go_simp)
   try simp only [Ap]
   refine Lt.take (i:=6) (v:=.bool a7) rfl μ μ μ rfl μ μ (fun _ _ _ h=>h) (Or.inl ⟨γ2, ?hyy⟩) a6 ?_
   case hyy=>(intro w' ae;(try dsimp only [HB15] at ae);go_simp)
   try simp only [Ap]
   have ar:BX5 (W4.alloc (.cells #[SN,.map none,.map none,SN,SN] 67)).drew W4.heap.size SN (.map none) (.map none) SN SN:=by simp [BX5,go_sem]
   have HX:Hid (BX5 w6 W4.heap.size SN (.map none) (.map none) SN SN):=(ar.kept ao).kept aj;have be:Hid (S3 Z (.slice a d c) (.map f) (.map l) (.slice n p o) (.slice r t s) a7 w6):=ax;have ap:Hid (Bl W4 w6):=ad.out;have bf:Hid (W4.heap.size≤W4.heap.size):=Nr _;obtain ⟨⟨z0,z1,z2,z3,z4⟩,y0,y1,y2,y3,y4⟩:=HX.out;have zz:=bk z0;dsimp only at zz
   have am:Hid (BX5 (setBX5 w6 W4.heap.size (.slice a d c) (.map f) (.map l) (.slice n p o) (.slice r t s)) W4.heap.size (.slice a d c) (.map f) (.map l) (.slice n p o) (.slice r t s)∧S3 Z (.slice a d c) (.map f) (.map l) (.slice n p o) (.slice r t s) a7 (setBX5 w6 W4.heap.size (.slice a d c) (.map f) (.map l) (.slice n p o) (.slice r t s))∧Bl W4 (setBX5 w6 W4.heap.size (.slice a d c) (.map f) (.map l) (.slice n p o) (.slice r t s))):=by
    have hg:=Vv w6 W4.heap.size (.slice a d c) (.map f) (.map l) (.slice n p o) (.slice r t s);exact ⟨HX.out.put,CG.out _ _ _ _ _ _ _ _ _ _ _ _ _ _ _ _ be.out z0 hg,ap.out.grown hg ap.out.size (fun k h=>by cases h;exact bf.out)⟩
   have ak:=HS.out (setBX5 w6 W4.heap.size (.slice a d c) (.map f) (.map l) (.slice n p o) (.slice r t s)) am.out.2.2;dsimp only [setBX5] at ak;refine Lt.one (i:=8) μ rfl rfl ?_;go_simp;try refine ⟨ak, ?_⟩
   try simp only [Ap]
   refine Lt.one (i:=9) μ rfl rfl ?_;go_simp;try refine ⟨ak, ?_⟩
   try simp only [Ap]
   refine Lt.done μ ?_;go_wp2;go_meet
   case rel=>exact ⟨a,d,c,f,l,n,p,o,r,t,s,a7,W4.heap.size,rfl,rfl,am.out⟩
 case rest =>
  obtain ⟨a,d,c,f,l,n,p,o,r,t,s,a7,bN,rfl,rfl,hX,hT,hB⟩:=hcut;have HQ:Hid (BX5 wc bN (.slice a d c) (.map f) (.map l) (.slice n p o) (.slice r t s)∧Bl W4 wc):=⟨hX,hB⟩;have ay:Hid (S1 Z (.slice L N M) (.slice O Q P) wc):=C1.out _ _ _ _ _ _ _ _ _ H4.out.2.1 hB;have az:Hid (S2 Z (.slice R U T) (.map X) (.map Y) wc):=C2.out _ _ _ _ _ _ _ _ H4.out.2.2.2.1 hB;have b5:Hid (S3 Z (.slice a d c) (.map f) (.map l) (.slice n p o) (.slice r t s) a7 wc):=hT;have au:Hid (HB15 wc w.heap.size f0 f1 f2 f3 f4 f5 f6 f7 f8 f9 a8 aa ab ac f14∧BX6 wc (w.heap.size+1+1) (I 0) (I 0) SN SN SN SN∧Bl w wc):=⟨H4.out.1.1.kept hB,H4.out.1.2.1.kept hB,Qb H4.out.1.2.2 hB⟩;have an:Hid (Bl w wc):=au.out.2.2;have HZ:Hid (w.heap.size+1+1<wc.heap.size):=bk au.out.2.1.1.1
  have bs:Hid (At wc b6 0 (I W)∧At wc b6 1 (I H)∧At wc b6 2 (.slice L N M)∧At wc b6 3 (.slice O Q P)):=by
   obtain ⟨k0,k1,k2,k3⟩:=H4.out.2.2.1;exact ⟨Qa hB k0,Qa hB k1,Qa hB k2,Qa hB k3⟩
  clear hX hT hB H4;go_upto_if 30 with fail
  cases a7
  ·have KK:Hid (BX6 wc (w.heap.size+1+1) (I 0) (I 0) SN SN SN SN∧Bl w wc):=au.out.2;go_upto_region 5 with fail
   exact lay_fail π KK rfl ν τ (fun _ _ h=>h)
  go_upto_region 6 with fail
  go_cut [11] (fun cc wx=>∃ base u y x z B A C E D F K J bM,cc=.pointer (Az bM)∧BX6 wx bM (I W) (I H) (.slice u y x) (.slice z B A) (.slice C E D) (.slice F K J)∧S5 base (.slice u y x) (.slice z B A) (.slice C E D) (.slice F K J) wx∧w.heap.size+1+1<base∧Bl wc wx)
  case first =>
   have HS:Hid (∀ V:World,Bl wc V→(fun w'=>(At w' bN 0 (.slice a d c)∧At w' bN 1 (.map f)∧At w' bN 2 (.map l)∧At w' bN 3 (.slice n p o)∧At w' bN 4 (.slice r t s))∧(At w' b6 0 (I W)∧At w' b6 1 (I H)∧At w' b6 2 (.slice L N M)∧At w' b6 3 (.slice O Q P))∧HB15 w' w.heap.size f0 f1 f2 f3 f4 f5 f6 f7 f8 f9 a8 aa ab ac f14) V):=fun V hV=>⟨(HQ.out.1.kept hV).1,(by
    obtain ⟨k0,k1,k2,k3⟩:=bs.out;exact ⟨Qa hV k0,Qa hV k1,Qa hV k2,Qa hV k3⟩),au.out.1.kept hV⟩
   refine Qz (S:=fun w'=>(At w' bN 0 (.slice a d c)∧At w' bN 1 (.map f)∧At w' bN 2 (.map l)∧At w' bN 3 (.slice n p o)∧At w' bN 4 (.slice r t s))∧(At w' b6 0 (I W)∧At w' b6 1 (I H)∧At w' b6 2 (.slice L N M)∧At w' b6 3 (.slice O Q P))∧HB15 w' w.heap.size f0 f1 f2 f3 f4 f5 f6 f7 f8 f9 a8 aa ab ac f14) (late:=fun _=>false) μ ?_;have a6:=HS.out _ (Qe (Qd wc));refine Lt.take (i:=0) (v:=.agg #[.slice a d c,.map f,.map l,.slice n p o,.slice r t s]) rfl μ μ μ rfl μ μ (fun _ _ _ h=>h) (Or.inl ⟨γ2, ?hyy⟩) a6 ?_
   case hyy=>(intro w' ae;(try dsimp only [HB15] at ae);go_simp)
   try simp only [Ap]
   refine Lt.take (i:=1) (v:=.agg #[I W,I H,.slice L N M,.slice O Q P]) rfl μ μ μ rfl μ μ (fun _ _ _ h=>h) (Or.inl ⟨γ2, ?hyy⟩) a6 ?_
   case hyy=>(intro w' ae;(try dsimp only [HB15] at ae);go_simp)
   try simp only [Ap]
   refine Lt.take (i:=2) (v:=.agg #[f0,f1,f2,f3,f4,f5,f6,f7,f8,f9,a8,aa,ab,ac,f14]) rfl μ μ μ rfl μ μ (fun _ _ _ h=>h) (Or.inl ⟨γ2, ?hyy⟩) a6 ?_
   case hyy=>(intro w' ae;(try dsimp only [HB15] at ae);go_simp)
   try simp only [Ap]
   refine Lt.two (i:=3) (j:=5) μ rfl rfl rfl rfl ?pa ?pb
   case pa =>
    refine Jc 82 #[.agg #[f0,f1,f2,f3,f4,f5,f6,f7,f8,f9,a8,aa,ab,ac,f14]] μ (bq.out _) ?_;rintro e w5 ⟨bx,rfl,bi,ao⟩;have a2:Hid (Bl wc w5):=Qb (Qe (Qd wc)) ao;have b8:Hid (HB15 w5 bx f0 f1 f2 f3 f4 f5 f6 f7 f8 f9 a8 aa ab ac f14):=bi;refine ⟨_,rfl,fun _=>HS.out _ a2.out, ?_⟩;try simp only [Ap]
    replace a6:=HS.out _ a2.out;refine Lt.two (i:=4) (j:=5) μ rfl rfl rfl rfl ?pc ?pd
    case pc =>
     refine Jc 33 #[.agg #[.slice a d c,.map f,.map l,.slice n p o,.slice r t s],.agg #[I W,I H,.slice L N M,.slice O Q P],.func (.func 130) #[] #[.pointer (Az bx)]] μ (bb.out _ Z L N M O Q P R U T X Y a d c f l n p o r t s bx (Qb an.out a2.out) (C1.out _ _ _ _ _ _ _ _ _ ay.out a2.out) (C2.out _ _ _ _ _ _ _ _ az.out a2.out) (C3.out _ _ _ _ _ _ _ _ _ _ _ _ _ _ _ b5.out a2.out) b8.out) ?_;rintro e w6 ⟨u,y,x,z,B,A,C,E,D,F,K,J,rfl,aw,aj⟩;have ad:Hid (Bl wc w6):=Qb a2.out aj;refine ⟨_,rfl,fun _=>HS.out _ ad.out, ?_⟩;try simp only [Ap]
     replace a6:=HS.out _ ad.out;refine Lt.one (i:=5) μ rfl rfl ?_;go_simp;have ap:Hid (Bl wc (w6.alloc (.cells #[I 0,I 0,SN,SN,SN,SN] 30))):=Qc ad.out;refine ⟨HS.out _ ap.out, ?_⟩;try simp only [Ap]
     have av:Hid (w.heap.size+1+1<w5.heap.size):=(by have:=a2.out.size;have:=HZ.out;omega:w.heap.size+1+1<w5.heap.size);have am:Hid (BX6 (w6.alloc (.cells #[I W,I H,.slice u y x,.slice z B A,.slice C E D,.slice F K J] 30)) w6.heap.size (I W) (I H) (.slice u y x) (.slice z B A) (.slice C E D) (.slice F K J)∧S5 w5.heap.size (.slice u y x) (.slice z B A) (.slice C E D) (.slice F K J) (w6.alloc (.cells #[I W,I H,.slice u y x,.slice z B A,.slice C E D,.slice F K J] 30))∧w.heap.size+1+1<w5.heap.size∧Bl wc (w6.alloc (.cells #[I W,I H,.slice u y x,.slice z B A,.slice C E D,.slice F K J] 30))):=⟨(by simp [BX6,go_sem]),C5.out _ _ _ _ _ _ _ _ _ _ _ _ _ _ _ aw β1,av.out,Qc ad.out⟩;have ak:=HS.out (w6.alloc (.cells #[I W,I H,.slice u y x,.slice z B A,.slice C E D,.slice F K J] 30)) am.out.2.2.2;refine Lt.one (i:=6) μ rfl rfl ?_;go_simp;try refine ⟨ak, ?_⟩
     try simp only [Ap]
     refine Lt.done μ ?_;go_wp2;go_meet
     case rel=>exact ⟨w5.heap.size,u,y,x,z,B,A,C,E,D,F,K,J,w6.heap.size,rfl,am.out⟩
    case pd =>
     go_simp;have ai:Hid (Bl wc (w5.alloc (.cells #[I 0,I 0,SN,SN,SN,SN] 30))):=Qc a2.out;refine ⟨HS.out _ ai.out, ?_⟩;try simp only [Ap]
     replace a6:=HS.out _ ai.out;refine Lt.one (i:=4) μ rfl rfl ?_;refine Jc 33 #[.agg #[.slice a d c,.map f,.map l,.slice n p o,.slice r t s],.agg #[I W,I H,.slice L N M,.slice O Q P],.func (.func 130) #[] #[.pointer (Az bx)]] μ (bb.out _ Z L N M O Q P R U T X Y a d c f l n p o r t s bx (Qb an.out ai.out) (C1.out _ _ _ _ _ _ _ _ _ ay.out ai.out) (C2.out _ _ _ _ _ _ _ _ az.out ai.out) (C3.out _ _ _ _ _ _ _ _ _ _ _ _ _ _ _ b5.out ai.out) (b8.out.kept β1)) ?_;rintro e w6 ⟨u,y,x,z,B,A,C,E,D,F,K,J,rfl,aw,aj⟩;have ad:Hid (Bl wc w6):=Qb ai.out aj;refine ⟨_,rfl,fun _=>HS.out _ ad.out, ?_⟩;try simp only [Ap]
     replace a6:=HS.out _ ad.out;have ar:BX6 (w5.alloc (.cells #[I 0,I 0,SN,SN,SN,SN] 30)) w5.heap.size (I 0) (I 0) SN SN SN SN:=by simp [BX6,go_sem]
     have HX:Hid (BX6 w6 w5.heap.size (I 0) (I 0) SN SN SN SN):=ar.kept aj;have bh:Hid (w5.heap.size<(w5.alloc (.cells #[I 0,I 0,SN,SN,SN,SN] 30)).heap.size):=(by simp [go_sem]:w5.heap.size<(w5.alloc (.cells #[I 0,I 0,SN,SN,SN,SN] 30)).heap.size);have av:Hid (w.heap.size+1+1<(w5.alloc (.cells #[I 0,I 0,SN,SN,SN,SN] 30)).heap.size):=(by have:=ai.out.size;have:=HZ.out;omega:w.heap.size+1+1<(w5.alloc (.cells #[I 0,I 0,SN,SN,SN,SN] 30)).heap.size);have bg:Hid (wc.heap.size≤w5.heap.size):=a2.out.size;obtain ⟨⟨z0,z1,z2,z3,z4,z5⟩,y0,y1,y2,y3,y4,y5⟩:=HX.out;have zz:=bk z0;dsimp only at zz
     have am:Hid (BX6 (setBX6 w6 w5.heap.size (I W) (I H) (.slice u y x) (.slice z B A) (.slice C E D) (.slice F K J)) w5.heap.size (I W) (I H) (.slice u y x) (.slice z B A) (.slice C E D) (.slice F K J)∧S5 (w5.alloc (.cells #[I 0,I 0,SN,SN,SN,SN] 30)).heap.size (.slice u y x) (.slice z B A) (.slice C E D) (.slice F K J) (setBX6 w6 w5.heap.size (I W) (I H) (.slice u y x) (.slice z B A) (.slice C E D) (.slice F K J))∧w.heap.size+1+1<(w5.alloc (.cells #[I 0,I 0,SN,SN,SN,SN] 30)).heap.size∧Bl wc (setBX6 w6 w5.heap.size (I W) (I H) (.slice u y x) (.slice z B A) (.slice C E D) (.slice F K J))):=by
      have hg:=Jf w6 w5.heap.size (I W) (I H) (.slice u y x) (.slice z B A) (.slice C E D) (.slice F K J);exact ⟨HX.out.put,C6.out _ _ _ _ _ _ _ _ _ _ _ _ _ _ _ _ aw hg bh.out,av.out,ad.out.grown hg ad.out.size (fun k h=>by cases h;exact bg.out)⟩
     have ak:=HS.out (setBX6 w6 w5.heap.size (I W) (I H) (.slice u y x) (.slice z B A) (.slice C E D) (.slice F K J)) am.out.2.2.2;dsimp only [setBX6] at ak;refine Lt.one (i:=6) μ rfl rfl ?_;go_simp;try refine ⟨ak, ?_⟩
     try simp only [Ap]
     refine Lt.done μ ?_;go_wp2;go_meet
     case rel=>exact ⟨(w5.alloc (.cells #[I 0,I 0,SN,SN,SN,SN] 30)).heap.size,u,y,x,z,B,A,C,E,D,F,K,J,w5.heap.size,rfl,am.out⟩
   case pb =>
    go_simp;have ai:Hid (Bl wc (wc.alloc (.cells #[I 0,I 0,SN,SN,SN,SN] 30)).drew):=Qe β1;refine ⟨HS.out (wc.alloc (.cells #[I 0,I 0,SN,SN,SN,SN] 30)) β1, ?_⟩;try simp only [Ap]
    replace a6:=HS.out _ ai.out;refine Lt.one (i:=3) μ rfl rfl ?_;refine Jc 82 #[.agg #[f0,f1,f2,f3,f4,f5,f6,f7,f8,f9,a8,aa,ab,ac,f14]] μ (bq.out _) ?_;rintro e w5 ⟨bx,rfl,bi,ao⟩;have a2:Hid (Bl wc w5):=Qb ai.out ao;have b8:Hid (HB15 w5 bx f0 f1 f2 f3 f4 f5 f6 f7 f8 f9 a8 aa ab ac f14):=bi;refine ⟨_,rfl,fun _=>HS.out _ a2.out, ?_⟩;try simp only [Ap]
    replace a6:=HS.out _ a2.out;refine Lt.one (i:=4) μ rfl rfl ?_;refine Jc 33 #[.agg #[.slice a d c,.map f,.map l,.slice n p o,.slice r t s],.agg #[I W,I H,.slice L N M,.slice O Q P],.func (.func 130) #[] #[.pointer (Az bx)]] μ (bb.out _ Z L N M O Q P R U T X Y a d c f l n p o r t s bx (Qb an.out a2.out) (C1.out _ _ _ _ _ _ _ _ _ ay.out a2.out) (C2.out _ _ _ _ _ _ _ _ az.out a2.out) (C3.out _ _ _ _ _ _ _ _ _ _ _ _ _ _ _ b5.out a2.out) b8.out) ?_;rintro e w6 ⟨u,y,x,z,B,A,C,E,D,F,K,J,rfl,aw,aj⟩;have ad:Hid (Bl wc w6):=Qb a2.out aj;refine ⟨_,rfl,fun _=>HS.out _ ad.out, ?_⟩;try simp only [Ap]
    replace a6:=HS.out _ ad.out;have ar:BX6 (wc.alloc (.cells #[I 0,I 0,SN,SN,SN,SN] 30)).drew wc.heap.size (I 0) (I 0) SN SN SN SN:=by simp [BX6,go_sem]
    have HX:Hid (BX6 w6 wc.heap.size (I 0) (I 0) SN SN SN SN):=(ar.kept ao).kept aj;have bh:Hid (wc.heap.size<w5.heap.size):=(by have:=ao.size;simp [go_sem] at this;omega:wc.heap.size<w5.heap.size);have av:Hid (w.heap.size+1+1<w5.heap.size):=(by have:=a2.out.size;have:=HZ.out;omega:w.heap.size+1+1<w5.heap.size);have bg:Hid (wc.heap.size≤wc.heap.size):=Nr _;obtain ⟨⟨z0,z1,z2,z3,z4,z5⟩,y0,y1,y2,y3,y4,y5⟩:=HX.out;have zz:=bk z0;dsimp only at zz
    have am:Hid (BX6 (setBX6 w6 wc.heap.size (I W) (I H) (.slice u y x) (.slice z B A) (.slice C E D) (.slice F K J)) wc.heap.size (I W) (I H) (.slice u y x) (.slice z B A) (.slice C E D) (.slice F K J)∧S5 w5.heap.size (.slice u y x) (.slice z B A) (.slice C E D) (.slice F K J) (setBX6 w6 wc.heap.size (I W) (I H) (.slice u y x) (.slice z B A) (.slice C E D) (.slice F K J))∧w.heap.size+1+1<w5.heap.size∧Bl wc (setBX6 w6 wc.heap.size (I W) (I H) (.slice u y x) (.slice z B A) (.slice C E D) (.slice F K J))):=by
     have hg:=Jf w6 wc.heap.size (I W) (I H) (.slice u y x) (.slice z B A) (.slice C E D) (.slice F K J);exact ⟨HX.out.put,C6.out _ _ _ _ _ _ _ _ _ _ _ _ _ _ _ _ aw hg bh.out,av.out,ad.out.grown hg ad.out.size (fun k h=>by cases h;exact bg.out)⟩
    have ak:=HS.out (setBX6 w6 wc.heap.size (I W) (I H) (.slice u y x) (.slice z B A) (.slice C E D) (.slice F K J)) am.out.2.2.2;dsimp only [setBX6] at ak;refine Lt.one (i:=6) μ rfl rfl ?_;go_simp;try refine ⟨ak, ?_⟩
    try simp only [Ap]
    refine Lt.done μ ?_;go_wp2;go_meet
    case rel=>exact ⟨w5.heap.size,u,y,x,z,B,A,C,E,D,F,K,J,wc.heap.size,rfl,am.out⟩
  case rest =>
   obtain ⟨base,u,y,x,z,B,A,C,E,D,F,K,J,bM,rfl,hX,hS,c7,hB⟩:=hcut;have H7:Hid (BX6 wc bM (I W) (I H) (.slice u y x) (.slice z B A) (.slice C E D) (.slice F K J)∧S5 base (.slice u y x) (.slice z B A) (.slice C E D) (.slice F K J) wc∧BX6 wc (w.heap.size+1+1) (I 0) (I 0) SN SN SN SN∧Bl w wc):=⟨hX,hS,au.out.2.1.kept hB,Qb an.out hB⟩;have br:Hid (w.heap.size+1+1<base):=c7;clear hX hS hB c7 HQ ay az b5 au an HZ bs;obtain ⟨⟨x0,x1,x2,x3,x4,x5⟩,_⟩:=H7.out.1;have xz:=bk x0;dsimp only at xz;go_upto_region 8 with (go_at_call 73;refine (c9.out _ base u y x z B A C E D F K J H7.out.2.2.2 H7.out.2.1).mono ?_;rintro e w8 ⟨q,m,qc,rfl,hb⟩;have H8:Hid (BX6 w8 bM (I W) (I H) (.slice u y x) (.slice z B A) (.slice C E D) (.slice F K J)∧S5 base (.slice u y x) (.slice z B A) (.slice C E D) (.slice F K J) w8∧BX6 w8 (w.heap.size+1+1) (I 0) (I 0) SN SN SN SN∧Bl w w8):=⟨H7.out.1.kept hb,C5.out _ _ _ _ _ _ _ _ _ _ _ _ _ _ _ H7.out.2.1 hb,H7.out.2.2.1.kept hb,Qb H7.out.2.2.2 hb⟩;clear hb x0 x1 x2 x3 x4 x5 xz)
   clear H7;rcases Nat.eq_zero_or_pos m with rfl | hm;rotate_left
   ·have g:decide ((0:Int)<(m:Int))=true:=ψ;have KK:Hid (BX6 w8 (w.heap.size+1+1) (I 0) (I 0) SN SN SN SN∧Bl w w8):=H8.out.2.2;go_upto_region 9 with fail
    exact lay_fail π KK rfl ν τ (fun _ _ h=>h)
   obtain ⟨⟨x0,x1,x2,x3,x4,x5⟩,_⟩:=H8.out.1;have xz:=bk x0;obtain ⟨⟨r0,r1,r2,r3,r4,r5⟩,y0,y1,y2,y3,y4,y5⟩:=H8.out.2.2.1;have rz:=bk r0;dsimp only at xz rz;go_wp2;have HG:=Jf w8 (w.heap.size+1+1) (I W) (I H) (.slice u y x) (.slice z B A) (.slice C E D) (.slice F K J);have:=br.out;exact bodyPost_ret (res13 (H8.out.2.2.1.put (g0:=I W) (g1:=I H) (g2:=(.slice u y x)) (g3:=(.slice z B A)) (g4:=(.slice C E D)) (g5:=(.slice F K J))) rfl rfl) rfl (Or.inr ⟨base,u,y,x,z,B,A,C,E,D,F,K,J,rfl,C6.out _ _ _ _ _ _ _ _ _ _ _ _ _ _ _ _ H8.out.2.1 HG br.out,γ,H8.out.2.2.2.grown HG H8.out.2.2.2.size (fun k h=>by cases h;omega)⟩)
end Go.Proofs.YtbjmnlefkbhbdaaGreatDoor
