/- A part of it. -/
import Derived.Test.YtjkjpopghkeibaaGreatDoorQlaw
set_option maxRecDepth 100000
set_option maxHeartbeats 40000000
namespace Go.Proofs.YtjkjpopghkeibaaGreatDoor
open Go.RowKit Go.ChangeMaps
def FB15 (w:World) (z:Nat) (f0 f1 f2 f3 f4 f5 f6 f7 f8 f9 f10 f11 f12 f13 f14:Value):Prop:=HB15 w z f0 f1 f2 f3 f4 f5 f6 f7 f8 f9 f10 f11 f12 f13 f14∧(Fn w z 0∧Fn w z 1∧Fn w z 2∧Fn w z 3∧Fn w z 4∧Fn w z 5∧Fn w z 6∧Fn w z 7∧Fn w z 8∧Fn w z 9∧Fn w z 10∧Fn w z 11∧Fn w z 12∧Fn w z 13∧Fn w z 14)
theorem FB15.kept {w w':World} {z:Nat} {f0 f1 f2 f3 f4 f5 f6 f7 f8 f9 f10 f11 f12 f13 f14:Value} (h:FB15 w z f0 f1 f2 f3 f4 f5 f6 f7 f8 f9 f10 f11 f12 f13 f14) (hb:Bl w w'):FB15 w' z f0 f1 f2 f3 f4 f5 f6 f7 f8 f9 f10 f11 f12 f13 f14:=by
 refine ⟨h.1.kept hb, ?_⟩;obtain ⟨⟨h0,h1,h2,h3,h4,h5,h6,l,m,n,a,b,c,d,e⟩,k0,k1,k2,k3,o,p,q,r,s,t,f,g,i,j,k⟩:=h;exact ⟨frozen_kept hb h0 k0,frozen_kept hb h1 k1,frozen_kept hb h2 k2,frozen_kept hb h3 k3,frozen_kept hb h4 o,frozen_kept hb h5 p,frozen_kept hb h6 q,frozen_kept hb l r,frozen_kept hb m s,frozen_kept hb n t,frozen_kept hb a f,frozen_kept hb b g,frozen_kept hb c i,frozen_kept hb d j,frozen_kept hb e k⟩
def set15 (w:World) (b:Nat) (f0 f1 f2 f3 f4 f5 f6 f7 f8 f9 f10 f11 f12 f13 f14:Value):World:=((((((((((((((w.setCell ⟨b,0,none⟩ f0).setCell ⟨b,1,none⟩ f1).setCell ⟨b,2,none⟩ f2).setCell ⟨b,3,none⟩ f3).setCell ⟨b,4,none⟩ f4).setCell ⟨b,5,none⟩ f5).setCell ⟨b,6,none⟩ f6).setCell ⟨b,7,none⟩ f7).setCell ⟨b,8,none⟩ f8).setCell ⟨b,9,none⟩ f9).setCell ⟨b,10,none⟩ f10).setCell ⟨b,11,none⟩ f11).setCell ⟨b,12,none⟩ f12).setCell ⟨b,13,none⟩ f13).setCell ⟨b,14,none⟩ f14
theorem grown_then {w w1 c:World} {b:Nat} (h1:w.grownBy w1 (some b)) (h2:w1.grownBy c (some b)):w.grownBy c (some b):=by
 obtain ⟨a1,d,a3,a4,a5⟩:=h1;obtain ⟨b1,b2,b3,b4,e⟩:=h2;exact ⟨by rw [b1,a1],by rw [b2,d],by rw [b3,a3],Nt a4 b4,fun k f a=>(e k γ a).trans (a5 k f a)⟩
theorem set15_grown (w:World) (b:Nat) (f0 f1 f2 f3 f4 f5 f6 f7 f8 f9 f10 f11 f12 f13 f14:Value):w.grownBy (set15 w b f0 f1 f2 f3 f4 f5 f6 f7 f8 f9 f10 f11 f12 f13 f14) (some b):=by
 unfold set15;exact grown_then (grown_then (grown_then (grown_then (grown_then (grown_then (grown_then (grown_then (grown_then (grown_then (grown_then (grown_then (grown_then (grown_then (Ql _ _ _ _) (Ql _ _ _ _)) (Ql _ _ _ _)) (Ql _ _ _ _)) (Ql _ _ _ _)) (Ql _ _ _ _)) (Ql _ _ _ _)) (Ql _ _ _ _)) (Ql _ _ _ _)) (Ql _ _ _ _)) (Ql _ _ _ _)) (Ql _ _ _ _)) (Ql _ _ _ _)) (Ql _ _ _ _)) (Ql _ _ _ _)
theorem HB15.set15 {w:World} {b:Nat} {f0 f1 f2 f3 f4 f5 f6 f7 f8 f9 f10 f11 f12 f13 f14 g0 g1 g2 g3 g4 g5 m n o p a c d e f:Value} (h:HB15 w b f0 f1 f2 f3 f4 f5 f6 f7 f8 f9 f10 f11 f12 f13 f14):HB15 (set15 w b g0 g1 g2 g3 g4 g5 m n o p a c d e f) b g0 g1 g2 g3 g4 g5 m n o p a c d e f:=by
 obtain ⟨h0,h1,h2,h3,h4,h5,h6,q,r,s,g,i,j,k,l⟩:=h;unfold Proofs.YtjkjpopghkeibaaGreatDoor.set15;refine ⟨?_, ?_, ?_, ?_, ?_, ?_, ?_, ?_, ?_, ?_, ?_, ?_, ?_, ?_, ?_⟩
 ·simp [go_sem,h0]
 ·simp [go_sem,h1]
 ·simp [go_sem,h2]
 ·simp [go_sem,h3]
 ·simp [go_sem,h4]
 ·simp [go_sem,h5]
 ·simp [go_sem,h6]
 ·simp [go_sem,q]
 ·simp [go_sem,r]
 ·simp [go_sem,s]
 ·simp [go_sem,g]
 ·simp [go_sem,i]
 ·simp [go_sem,j]
 ·simp [go_sem,k]
 ·simp [go_sem,l]
def TkB (w wx:World) (s0 s1 s2 s3 s4 s5 d0 d1 d2 d3 d4 d5 d6 d7:Value):Prop:=(At wx w.heap.size 0 (s0)∧At wx w.heap.size 1 (s1)∧At wx w.heap.size 2 (s2)∧At wx w.heap.size 3 (s3)∧At wx w.heap.size 4 (s4)∧At wx w.heap.size 5 (s5))∧(At wx (w.heap.size+1) 0 (d0)∧At wx (w.heap.size+1) 1 (d1)∧At wx (w.heap.size+1) 2 (d2)∧At wx (w.heap.size+1) 3 (d3)∧At wx (w.heap.size+1) 4 (d4)∧At wx (w.heap.size+1) 5 (d5)∧At wx (w.heap.size+1) 6 (d6)∧At wx (w.heap.size+1) 7 (d7))∧FB15 wx (w.heap.size+1+1) SN (.map none) (.map none) SN SN (.nilFunc) (I 0) (I 0) (I 0) (.bool false) (I 0) (I 0) (I 0) (I 0) SN∧Bl w wx
theorem TkB.kept {w j k:World} {c d e f g i d0 d1 d2 d3 d4 d5 a b:Value} (h:TkB w j c d e f g i d0 d1 d2 d3 d4 d5 a b) (hb:Bl j k):TkB w k c d e f g i d0 d1 d2 d3 d4 d5 a b:=by
 obtain ⟨⟨a0,a1,l,a3,a4,a5⟩,⟨b0,b1,b2,b3,b4,m,n,o⟩,q,p⟩:=h;exact ⟨⟨Qa hb a0,Qa hb a1,Qa hb l,Qa hb a3,Qa hb a4,Qa hb a5⟩,⟨Qa hb b0,Qa hb b1,Qa hb b2,Qa hb b3,Qa hb b4,Qa hb m,Qa hb n,Qa hb o⟩,q.kept hb,Qc p hb⟩
def TakTo (w w':World) (L:List T3) (ks:List Int) (nk:Nat) (M:Nat→M6) (h:Nat→Int) (mw:Nat→Bool) (wy c sd:Int) (ov:Bool) (ly ax ay ak:Int) (e:Ending):Prop := ∃ ad k ra rk gm cm pa pc bf gv,e=.returned (.tuple #[.agg #[.slice ad L.length k,.map (some ra),.map (some rk),.slice (Az gm) L.length cm,.slice pa L.length pc,.func (.func 90) #[] #[.pointer (Az bf)],I wy,I c,I sd,.bool ov,I ly,I ax,I ay,I ak,.slice (Az gv) L.length L.length],I 0])∧HandAt w w' ad k ra rk gm pa bf L ks nk M h∧YRow w' gv L.length mw∧w.heap.size≤gv∧Bl w w'
theorem res12 {w:World} {b:Nat} {f0 f1 f2 f3 f4 f5 f6 f7 f8 f9 f10 f11 f12 f13 f14:Value} {T:Array Value} {n:Int} (h:HB15 w b f0 f1 f2 f3 f4 f5 f6 f7 f8 f9 f10 f11 f12 f13 f14) (h4:T[4]?=some (.pointer (some ⟨b,0,none⟩))) (h5:T[5]?=some (.int .i64 n)):(results Tryz.f12 T).run Tryz.prog w=.ok (.tuple #[.agg #[f0,f1,f2,f3,f4,f5,f6,f7,f8,f9,f10,f11,f12,f13,f14],.int .i64 n]) w:=by
 obtain ⟨t0,t1,t2,t3,t4,t5,t6,t7,t8,t9,t10,t11,t12,t13,t14⟩:=h
 simp [results,Tryz.results12,go_sem,h4,h5,t0,t1,t2,t3,t4,t5,t6,t7,t8,t9,t10,t11,t12,t13,t14]
theorem take_ok (W H:Int) (a0 c0 mp sp:Option Addr) (zl ca n cc mn mc sl sc:Nat) (F c sd:Int) (E:Bool) (D B C A:Int) (L:List T3) (ks:List Int) (nk:Nat) (M:Nat→M6) (h:Nat→Int) (hl:List Nat) (mw:Nat→Bool) (w:World) (az:0<L.length)
  (ao:∀ V:World,Bl w V→Cl 24 #[.agg #[I W,I H,.slice a0 zl ca,.slice c0 n cc,.slice mp mn mc,.slice sp sl sc]] V fun e w'=>∃ q qc,e=.returned (.tuple #[.slice q 0 qc,I 0])∧Bl V w')
  (an:∀ V:World,Bl w V→Cl 16 #[.agg #[I W,I H,.slice a0 zl ca,.slice c0 n cc,.slice mp mn mc,.slice sp sl sc]] V fun e w'=>∃ d k i j g u pa pc f,e=.returned (.tuple #[.agg #[.slice d L.length k,.map (some i),.map (some j),.slice (Az g) L.length u,.slice pa L.length pc],.func (.func 90) #[] #[.pointer (Az f)],.bool true])∧HandAt V w' d k i j g pa f L ks nk M h∧Bl V w')
  (ap:∀ (V0 V:World) (d:Option Addr) (k i j g u:Nat) (pa:Option Addr) (pc f:Nat),Bl w V0→Bl w V→HandAt V0 V d k i j g pa f L ks nk M h→Rt 25 #[.agg #[.slice d L.length k,.map (some i),.map (some j),.slice (Az g) L.length u,.slice pa L.length pc,.func (.func 90) #[] #[.pointer (Az f)],I F,I c,I sd,.bool E,I D,I B,I C,I A,SN]] V (.bool true))
  (aq:∀ (V0 V:World) (d:Option Addr) (k i j g u:Nat) (pa:Option Addr) (pc f:Nat),Bl w V0→Bl w V→HandAt V0 V d k i j g pa f L ks nk M h→Cl 26 #[.agg #[.slice d L.length k,.map (some i),.map (some j),.slice (Az g) L.length u,.slice pa L.length pc,.func (.func 90) #[] #[.pointer (Az f)],I F,I c,I sd,.bool E,I D,I B,I C,I A,SN]] V fun e w'=>∃ v,e=.returned (.tuple #[v,.bool true])∧w'.ownsRow V.heap.size 3 1 v hl.length (nuV hl)∧Bl V w')
  (ar:∀ (V0 V:World) (d:Option Addr) (k i j g u:Nat) (pa:Option Addr) (pc f base:Nat) (v:Value),Bl w V0→Bl w V→HandAt V0 V d k i j g pa f L ks nk M h→V.ownsRow base 3 1 v hl.length (nuV hl)→Cl 27 #[.agg #[.slice d L.length k,.map (some i),.map (some j),.slice (Az g) L.length u,.slice pa L.length pc,.func (.func 90) #[] #[.pointer (Az f)],I F,I c,I sd,.bool E,I D,I B,I C,I A,SN],v] V fun e w'=>∃ t,e=.returned (.slice (Az t) L.length L.length)∧YRow w' t L.length mw∧V.heap.size≤t∧Bl V w')
  (au:∀ (V:World) (t:Nat) (b:Bool),Bl w V→YRow V t L.length mw→Rt 28 #[.slice (Az t) L.length L.length,.bool b] V (.bool true))
  (av:∀ (V0 V:World) (d:Option Addr) (k i j g u:Nat) (pa:Option Addr) (pc f t:Nat),Bl w V0→Bl w V→HandAt V0 V d k i j g pa f L ks nk M h→YRow V t L.length mw→Rt 29 #[.agg #[.slice d L.length k,.map (some i),.map (some j),.slice (Az g) L.length u,.slice pa L.length pc,.func (.func 90) #[] #[.pointer (Az f)],I F,I c,I sd,.bool E,I D,I B,I C,I A,.slice (Az t) L.length L.length]] V (.bool false))
  (aw:∀ (V0 V:World) (d:Option Addr) (k i j g u:Nat) (pa:Option Addr) (pc f t:Nat),Bl w V0→Bl w V→HandAt V0 V d k i j g pa f L ks nk M h→YRow V t L.length mw→Rt 30 #[.agg #[.slice d L.length k,.map (some i),.map (some j),.slice (Az g) L.length u,.slice pa L.length pc,.func (.func 90) #[] #[.pointer (Az f)],I F,I c,I sd,.bool E,I D,I B,I C,I A,.slice (Az t) L.length L.length]] V (.bool false)) :
  Cl 12 #[.agg #[I W,I H,.slice a0 zl ca,.slice c0 n cc,.slice mp mn mc,.slice sp sl sc],.agg #[I F,I c,I sd,.bool E,I D,I B,I C,I A]] w fun e w'=>TakTo w w' L ks nk M h mw F c sd E D B C A e:=by
 have be:=Hd ao;have bc:=Hd an;have bg:=Hd ap;have bh:=Hd aq;have bi:=Hd ar;have am:=Hd au;have bj:=Hd av;have bm:=Hd aw;have bn:=Hd az;clear ao an ap aq ar au av aw az;go_enter Tryz.func12,Tryz.ntmps12;go_upto_region 1 with fail
 refine Qi (fun W0 hW0=>?_)
 have ab:Hid (TkB w W0 (I W) (I H) (.slice a0 zl ca) (.slice c0 n cc) (.slice mp mn mc) (.slice sp sl sc) (I F) (I c) (I sd) (.bool E) (I D) (I B) (I C) (I A)):=by
  rw [hW0];refine ⟨?_, ?_,⟨?_, ?_⟩, ?_⟩
  ·simp [go_sem]
  ·simp [go_sem]
  ·simp [HB15,go_sem]
  ·simp [go_sem]
  ·with_reducible repeat' (first | exact Qe _ | refine Qb ?_ | refine Qg ?_)
 clear hW0;obtain ⟨k0,k1,k2,k3,k4,k5⟩:=ab.out.1;go_upto_region 6 with (go_at_call 24;refine (be.out _ ab.out.2.2.2).mono ?_;rintro e w1 ⟨q,qc,rfl,hb⟩;have G:=Hd (ab.out.kept hb);clear hb k0 k1 k2 k3 k4 k5)
 clear ab;obtain ⟨k0,k1,k2,k3,k4,k5⟩:=G.out.1;go_upto_region 7 with (go_at_call 16;refine (bc.out _ G.out.2.2.2).mono ?_;rintro e w2 ⟨d,k,i,j,g,u,pa,pc,f,rfl,hA,hb⟩;have l:=H2 (G.out.kept hb) hA;clear hb hA k0 k1 k2 k3 k4 k5)
 obtain ⟨k0,k1,k2,k3,k4,k5,k6,k7⟩:=l.out.1.2.1;have kz:=bk k0;dsimp only at kz;go_upto_region 8 with fail
 refine Qi (fun W3 ac=>?_)
 have N:Hid (Bl w2 W3∧FB15 W3 (w2.heap.size+1) (.slice d L.length k) (.map (some i)) (.map (some j)) (.slice (Az g) L.length u) (.slice pa L.length pc) (.func (.func 90) #[] #[.pointer (Az f)]) (I F) (I c) (I sd) (.bool E) (I D) (I B) (I C) (I A) SN):=by
  refine ⟨?_, ?_, ?_⟩
  ·rw [ac];with_reducible repeat' (first | exact Qe _ | refine Qb ?_ | refine Qg ?_)
  ·rw [ac];simp [HB15,go_sem]
  ·rw [ac];simp [go_sem]
 obtain ⟨b,ah⟩:∃ b,b=w2.heap.size+1:=⟨_,rfl⟩;rw [← ah] at N ⊢;have HB:=Hd ah;clear ac k0 k1 k2 k3 k4 k5 k6 k7 kz ah;obtain ⟨z,x1,x2,x3,R,T,U,X,Y,Z,m,o,r,s,a⟩:=N.out.2.1;have x:=bk z;dsimp only at x;go_upto_region 10 with (go_at_call 25;refine (bg.out w1 W3 d k i j g u pa pc f G.out.2.2.2 (Qc l.out.1.2.2.2 N.out.1) (l.out.2.kept N.out.1)).mono ?_;rintro e w4 ⟨rfl,hb⟩;have a7:=H2 (Qc N.out.1 hb) (N.out.2.kept hb);clear hb z x1 x2 x3 R T U X Y Z m o r s a x)
 clear N;obtain ⟨z,x1,x2,x3,R,T,U,X,Y,Z,m,o,r,s,a⟩:=a7.out.2.1;have x:=bk z;dsimp only at x;go_upto_region 13 with (go_at_call 26;refine (bh.out w1 w4 d k i j g u pa pc f G.out.2.2.2 (Qc l.out.1.2.2.2 a7.out.1) (l.out.2.kept a7.out.1)).mono ?_;rintro e w5 ⟨v,rfl,ho,hb⟩;have O:=H3 (Qc a7.out.1 hb) (a7.out.2.kept hb) ho;clear hb ho z x1 x2 x3 R T U X Y Z m o r s a x)
 clear a7;obtain ⟨z,x1,x2,x3,R,T,U,X,Y,Z,m,o,r,s,a⟩:=O.out.2.1.1;have x:=bk z;dsimp only at x;go_upto_region 14 with (go_at_call 27;refine (bi.out w1 w5 d k i j g u pa pc f _ v G.out.2.2.2 (Qc l.out.1.2.2.2 O.out.1) (l.out.2.kept O.out.1) O.out.2.2).mono ?_;rintro e w6 ⟨t,rfl,hY,ai,hb⟩;have J:=H5 (Qc O.out.1 hb) (O.out.2.1.kept hb) hY ai x;clear hb hY ai z x1 x2 x3 R T U X Y Z m o r s a x;have a:=J.out.2.1.1.2.2.2.2.2.2.2.2.2.2.2.2.2.2;have aj:=J.out.2.1.2.2.2.2.2.2.2.2.2.2.2.2.2.2.2;have x:=bk a;dsimp only at x)
 refine Qi (fun W7 b5=>?_)
 have P:Hid (Bl w2 W7∧HB15 W7 b (.slice d L.length k) (.map (some i)) (.map (some j)) (.slice (Az g) L.length u) (.slice pa L.length pc) (.func (.func 90) #[] #[.pointer (Az f)]) (I F) (I c) (I sd) (.bool E) (I D) (I B) (I C) (I A) (.slice (Az t) L.length L.length)∧YRow W7 t L.length mw∧w2.heap.size≤t):=by
  rw [b5];have hz:=HB.out;refine ⟨J.out.1.setCell (p:=⟨b,14,none⟩) θ _, ?_,J.out.2.2.1.far (by have:=J.out.2.2.2;dsimp only;omega),by have:=J.out.2.2.2;omega⟩;obtain ⟨z,x1,x2,x3,R,T,U,X,Y,Z,m,o,r,s,a⟩:=J.out.2.1.1;exact ⟨(Co _ _ _ _ ξ).trans z,(Co _ _ _ _ ξ).trans x1,(Co _ _ _ _ ξ).trans x2,(Co _ _ _ _ ξ).trans x3,(Co _ _ _ _ ξ).trans R,(Co _ _ _ _ ξ).trans T,(Co _ _ _ _ ξ).trans U,(Co _ _ _ _ ξ).trans X,(Co _ _ _ _ ξ).trans Y,(Co _ _ _ _ ξ).trans Z,(Co _ _ _ _ ξ).trans m,(Co _ _ _ _ ξ).trans o,(Co _ _ _ _ ξ).trans r,(Co _ _ _ _ ξ).trans s,Cs _ _ _ a⟩
 clear b5 J O a aj x;obtain ⟨z,x1,x2,x3,R,T,U,X,Y,Z,m,o,r,s,a⟩:=P.out.2.1;have x:=bk z;dsimp only at x;have af:=H2 (Qc l.out.1.2.2.2 P.out.1) P.out.2.2.1
 go_upto_region 16 with (first
  | (go_at_call 28;(with_reducible refine (am.out W7 t true af.out.1 af.out.2).mono ?_);rintro e w8 ⟨rfl,hb⟩;have Q:=H3 (Qc P.out.1 hb) (P.out.2.1.kept hb) (P.out.2.2.1.kept hb);have ag:=H2 (Qc l.out.1.2.2.2 Q.out.1) Q.out.2.2;clear hb z x1 x2 x3 R T U X Y Z m o r s a x af;have a:=Q.out.2.1.2.2.2.2.2.2.2.2.2.2.2.2.2.2;have x:=bk a;dsimp only at x)
  | (go_at_call 28;(with_reducible refine (am.out w8 t false ag.out.1 ag.out.2).mono ?_);rintro e w9 ⟨rfl,hb⟩;have K:=H3 (Qc Q.out.1 hb) (Q.out.2.1.kept hb) (Q.out.2.2.kept hb);clear hb a x;obtain ⟨z,x1,x2,x3,R,T,U,X,Y,Z,m,o,r,s,a⟩:=K.out.2.1;have x:=bk z;dsimp only at x)
  | fail)
 clear Q ag;have aa:=H3 (Qc l.out.1.2.2.2 K.out.1) (l.out.2.kept K.out.1) K.out.2.2;have ae:=Hd G.out.2.2.2
 go_upto_region 18 with (first
  | (go_at_call 29;(with_reducible refine (bj.out w1 w9 d k i j g u pa pc f t ae.out aa.out.1 aa.out.2.1 aa.out.2.2).mono ?_);rintro e bt ⟨rfl,hb⟩;have y:=H3 (Qc K.out.1 hb) (K.out.2.1.kept hb) (K.out.2.2.kept hb);have a2:=H3 (Qc l.out.1.2.2.2 y.out.1) (l.out.2.kept y.out.1) y.out.2.2;clear hb z x1 x2 x3 R T U X Y Z m o r s a x;obtain ⟨z,x1,x2,x3,R,T,U,X,Y,Z,m,o,r,s,a⟩:=y.out.2.1;have x:=bk z;dsimp only at x)
  | (go_at_call 30;(with_reducible refine (bm.out w1 bt d k i j g u pa pc f t ae.out a2.out.1 a2.out.2.1 a2.out.2.2).mono ?_);rintro e a8 ⟨rfl,hb⟩;have a6:=H3 (Qc y.out.1 hb) (y.out.2.1.kept hb) (y.out.2.2.kept hb);clear hb z x1 x2 x3 R T U X Y Z m o r s a x;obtain ⟨z,x1,x2,x3,R,T,U,X,Y,Z,m,o,r,s,a⟩:=a6.out.2.1;have x:=bk z;dsimp only at x)
  | fail)
 clear y a2 aa K;have HT:=Hd (l.out.1.kept a6.out.1);obtain ⟨⟨r0,r1,r2,r3,r4,r5,r6,r7,r8,r9,bo,bp,bq,br,bs⟩,y0,y1,y2,y3,y4,y5,y6,y7,y8,y9,bu,bv,bw,bz,aj⟩:=HT.out.2.2.1;have rz:=bk r0;dsimp only at rz;go_wp2;have HG:=set15_grown a8 (w.heap.size+1+1) (.slice d L.length k) (.map (some i)) (.map (some j)) (.slice (Az g) L.length u) (.slice pa L.length pc) (.func (.func 90) #[] #[.pointer (Az f)]) (I F) (I c) (I sd) (.bool E) (I D) (I B) (I C) (I A) (.slice (Az t) L.length L.length);have HC:HB15 (set15 a8 (w.heap.size+1+1) (.slice d L.length k) (.map (some i)) (.map (some j)) (.slice (Az g) L.length u) (.slice pa L.length pc) (.func (.func 90) #[] #[.pointer (Az f)]) (I F) (I c) (I sd) (.bool E) (I D) (I B) (I C) (I A) (.slice (Az t) L.length L.length)) (w.heap.size+1+1) (.slice d L.length k) (.map (some i)) (.map (some j)) (.slice (Az g) L.length u) (.slice pa L.length pc) (.func (.func 90) #[] #[.pointer (Az f)]) (I F) (I c) (I sd) (.bool E) (I D) (I B) (I C) (I A) (.slice (Az t) L.length L.length):=HT.out.2.2.1.1.set15
 have b6:TakTo w (set15 a8 (w.heap.size+1+1) (.slice d L.length k) (.map (some i)) (.map (some j)) (.slice (Az g) L.length u) (.slice pa L.length pc) (.func (.func 90) #[] #[.pointer (Az f)]) (I F) (I c) (I sd) (.bool E) (I D) (I B) (I C) (I A) (.slice (Az t) L.length L.length)) L ks nk M h mw F c sd E D B C A (.returned (.tuple #[.agg #[.slice d L.length k,.map (some i),.map (some j),.slice (Az g) L.length u,.slice pa L.length pc,.func (.func 90) #[] #[.pointer (Az f)],I F,I c,I sd,.bool E,I D,I B,I C,I A,.slice (Az t) L.length L.length],I 0])):=by
  have z1:=Bt G.out.2.2.1.1.1;have z2:w1.heap.size≤w2.heap.size:=l.out.2.1.choose_spec.2.2.2.2.size;have ai:=P.out.2.2.2;refine ⟨d,k,i,j,g,u,pa,pc,f,t,rfl,(l.out.2.kept a6.out.1).box bn.out ae.out HG γ z1 r0,a6.out.2.2.grown HG (fun e=>by cases e;omega),γ, ?_⟩;exact HT.out.2.2.2.grown HG HT.out.2.2.2.size (fun k h=>by cases h;omega)
 exact bodyPost_ret (res12 HC rfl rfl) rfl b6
end Go.Proofs.YtjkjpopghkeibaaGreatDoor
