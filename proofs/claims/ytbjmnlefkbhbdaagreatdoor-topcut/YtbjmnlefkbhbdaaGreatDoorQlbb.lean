/- A part of it. -/
import Derived.Test.YtbjmnlefkbhbdaaGreatDoorQlat
set_option maxRecDepth 100000
set_option maxHeartbeats 40000000
namespace Go.Proofs.YtbjmnlefkbhbdaaGreatDoor
open Go.RowKit Go.ChangeMaps
variable {w:World} {l m:Value} {T:Array Value}
@[simp,go_sem] abbrev hand0:Value:=.agg #[SN,.map none,.map none,SN,SN,.nilFunc,I 0,I 0,I 0,.bool false,I 0,I 0,I 0,I 0,SN]
def HlOk (L:List T3) (w':World) (v:Value) (hl:List Nat):Prop := ∃ a cap,v=.slice a hl.length cap∧NumR w' a hl∧hl.length≤300∧∀ x∈hl,x<L.length
def TkW (Q:(Nat→Int)→Prop) (w w':World) (L:List T3) (ks:List Int) (nk:Nat) (M:Nat→M6) (wy c sd:Int) (ov:Bool) (ly ax ay ak:Int) (e:Ending):Prop :=
 (∃ code:Int,e=.returned (.tuple #[hand0,I code])∧code≠0∧Bl w w')∨∃ mw h,Q h∧TakTo w w' L ks nk M h mw wy c sd ov ly ax ay ak e
theorem res12 {b:Nat} {f0 f1 f2 f3 f4 f6 o p a c d e f14:Value} {n:Int} (h:HB15 w b f0 f1 f2 f3 f4 l f6 m o p a c d e f14) (h4:T[4]?=some (.pointer (Az b))) (h5:T[5]?=some (I n)):(results Tryz.f37 T).run Tryz.prog w=.ok (.tuple #[.agg #[f0,f1,f2,f3,f4,l,f6,m,o,p,a,c,d,e,f14],I n]) w:=by
 obtain ⟨t0,q,r,t3,t4,t5,s,t,u,t9,f,g,i,j,k⟩:=h;simp [results,Tryz.results37,go_sem,h4,h5,t0,q,r,t3,t4,t5,s,t,u,t9,f,g,i,j,k]
theorem take_end {Q:(Nat→Int)→Prop} {L:List T3} {o:List Int} {q:Nat} {M:Nat→M6} {z c sd:Int} {r:Bool} {p i j g:Int} {b:World} {s t u v x y d0 d1 d2 d3 d4 d5:Value} {a:Int} (K:Hid (TkB w b s t u v x y d0 d1 d2 d3 d4 d5 l m)) (h4:T[4]?=some (.pointer (Az (w.heap.size+1+1)))) (h5:T[5]?=some (I a)) (n:a≠0) :
  bodyPost Tryz.prog Tryz.f37 (fun e w'=>TkW Q w w' L o q M z c sd r p i j g e) Exit.ret { tmps:=T,defers:=[] } (set15 b (w.heap.size+1+1) SN (.map none) (.map none) SN SN (.nilFunc) (I 0) (I 0) (I 0) (.bool false) (I 0) (I 0) (I 0) (I 0) SN):=by
 have d:=K.out.2.2.1.1.set15 (g0:=SN) (g1:=.map none) (g2:=.map none) (g3:=SN) (g4:=SN) (g5:=.nilFunc) (g6:=I 0) (g7:=I 0) (g8:=I 0) (g9:=.bool false) (g10:=I 0) (g11:=I 0) (g12:=I 0) (g13:=I 0) (g14:=SN);have f:=Kt b (w.heap.size+1+1) SN (.map none) (.map none) SN SN (.nilFunc) (I 0) (I 0) (I 0) (.bool false) (I 0) (I 0) (I 0) (I 0) SN;have hb:=K.out.2.2.2.grown f K.out.2.2.2.size (fun k h=>by cases h;omega);exact bodyPost_ret (res12 d h4 h5) rfl (Or.inl ⟨a,rfl,n,hb⟩)
theorem Xk {s x:Nat} {A B C:String} {r1 r2 r3:Array Edge} {Q:(Nat→Int)→Prop} {L:List T3} {t:List Int} {y:Nat} {M:Nat→M6} {W c sd:Int} {z:Bool} {u j k i:Int} {h:World} {N O P R U V d0 d1 d2 d3 d4 d5:Value} {b:Int} {K:Act→World→Prop} {d:Exit→Act→World→Prop} (hK:∀ a w,Code.wp Tryz.prog Code.ret d a w→K a w) (g:Hid (TkB w h N O P R U V d0 d1 d2 d3 d4 d5 l m)) (h4:T[4]?=some (.pointer (Az (w.heap.size+1+1)))) (p:x≠4∧x≠5∧x<T.size∧5<T.size) (o:b≠0) (hQ:∀ a w',bodyPost Tryz.prog Tryz.f37 (fun e w'=>TkW Q w w' L t y M W c sd z u j k i e) Exit.ret a w'→d Exit.ret a w') :
  Code.wp Tryz.prog (Code.region s #[{ dst:=some x,op:=.build 105 #[],type:=105,pos:=A,after:=r1,guard:=none },{ dst:=none,op:=.store 105 (.tmp 4) (.tmp x),type:=0,pos:=B,after:=r2,guard:=none },{ dst:=some 5,op:=.assign (.const (I b)),type:=37,pos:=C,after:=r3,guard:=none }] false) (Exit.then K d) ⟨T,[]⟩ h:=by
 obtain ⟨⟨r0,r1,r2,r3,r4,r5,r6,r7,r8,r9,D,E,F,G,H⟩,y0,y1,y2,y3,y4,y5,y6,y7,y8,y9,X,Y,Z,a2,a6⟩:=g.out.2.2.1;have J:=bk r0;dsimp only at J;obtain ⟨q,r,hs,f⟩:=p;have n:∀ v,(T.setIfInBounds x v)[4]?=some (.pointer (Az (w.heap.size+1+1))):=fun v=>by rw [Array.getElem?_setIfInBounds_ne γ];exact h4
 have ex:∀ v,(T.setIfInBounds x v)[x]?=some v:=fun v=>by rw [Array.getElem?_setIfInBounds_self_of_lt hs]
 go_wp2;exact take_end g (by simp [n]) (by simp [f]) o
theorem take_weak (Q:(Nat→Int)→Prop) (W H:Int) (a0 c0 mp sp:Option Addr) (zl ca n cc mn mc sl sc:Nat) (K c sd:Int) (J:Bool) (G E F D:Int) (L:List T3) (ks:List Int) (nk:Nat) (M:Nat→M6) (w:World) (am:0<L.length)
  (ac:∀ V:World,Bl w V→Cl 73 #[.agg #[I W,I H,.slice a0 zl ca,.slice c0 n cc,.slice mp mn mc,.slice sp sl sc]] V fun e w'=>∃ q m qc,e=.returned (.tuple #[.slice q m qc,I 0])∧Bl V w')
  (ab:∀ V:World,Bl w V→Cl 15 #[.agg #[I W,I H,.slice a0 zl ca,.slice c0 n cc,.slice mp mn mc,.slice sp sl sc]] V fun e w'=>∃ h l k s t r y pa pc o,e=.returned (.tuple #[.agg #[.slice l L.length k,.map (some s),.map (some t),.slice (Az r) L.length y,.slice pa L.length pc],.func (.func 87) #[] #[.pointer (Az o)],.bool true])∧Q h∧HandAt V w' l k s t r pa o L ks nk M h∧Bl V w')
  (ae:∀ (X V:World) (h:Nat→Int) (l:Option Addr) (k s t r y:Nat) (pa:Option Addr) (pc o:Nat),Bl w X→Bl w V→Q h→HandAt X V l k s t r pa o L ks nk M h→Cl 74 #[.agg #[.slice l L.length k,.map (some s),.map (some t),.slice (Az r) L.length y,.slice pa L.length pc,.func (.func 87) #[] #[.pointer (Az o)],I K,I c,I sd,.bool J,I G,I E,I F,I D,SN]] V fun e w'=>∃ b,e=.returned (.bool b)∧Bl V w')
  (af:∀ (X V:World) (h:Nat→Int) (l:Option Addr) (k s t r y:Nat) (pa:Option Addr) (pc o:Nat),Bl w X→Bl w V→Q h→HandAt X V l k s t r pa o L ks nk M h→Cl 75 #[.agg #[.slice l L.length k,.map (some s),.map (some t),.slice (Az r) L.length y,.slice pa L.length pc,.func (.func 87) #[] #[.pointer (Az o)],I K,I c,I sd,.bool J,I G,I E,I F,I D,SN]] V fun e w'=>∃ v b hl,e=.returned (.tuple #[v,.bool b])∧(b=true→HlOk L w' v hl)∧Bl V w')
  (ag:∀ (X V:World) (h:Nat→Int) (l:Option Addr) (k s t r y:Nat) (pa:Option Addr) (pc o:Nat) (v:Value) (hl:List Nat),Bl w X→Bl w V→Q h→HandAt X V l k s t r pa o L ks nk M h→HlOk L V v hl→Cl 76 #[.agg #[.slice l L.length k,.map (some s),.map (some t),.slice (Az r) L.length y,.slice pa L.length pc,.func (.func 87) #[] #[.pointer (Az o)],I K,I c,I sd,.bool J,I G,I E,I F,I D,SN],v] V fun e w'=>∃ u mw,e=.returned (.slice (Az u) L.length L.length)∧YRow w' u L.length mw∧V.heap.size≤u∧Bl V w')
  (ah:∀ (V:World) (u:Nat) (mw:Nat→Bool) (b:Bool),Bl w V→YRow V u L.length mw→Cl 77 #[.slice (Az u) L.length L.length,.bool b] V fun e w'=>∃ q,e=.returned (.bool q)∧Bl V w')
  (ai:∀ (X V:World) (h:Nat→Int) (l:Option Addr) (k s t r y:Nat) (pa:Option Addr) (pc o u:Nat) (mw:Nat→Bool),Bl w X→Bl w V→Q h→HandAt X V l k s t r pa o L ks nk M h→YRow V u L.length mw→Cl 78 #[.agg #[.slice l L.length k,.map (some s),.map (some t),.slice (Az r) L.length y,.slice pa L.length pc,.func (.func 87) #[] #[.pointer (Az o)],I K,I c,I sd,.bool J,I G,I E,I F,I D,.slice (Az u) L.length L.length]] V fun e w'=>∃ b,e=.returned (.bool b)∧Bl V w')
  (aj:∀ (X V:World) (h:Nat→Int) (l:Option Addr) (k s t r y:Nat) (pa:Option Addr) (pc o u:Nat) (mw:Nat→Bool),Bl w X→Bl w V→Q h→HandAt X V l k s t r pa o L ks nk M h→YRow V u L.length mw→Cl 79 #[.agg #[.slice l L.length k,.map (some s),.map (some t),.slice (Az r) L.length y,.slice pa L.length pc,.func (.func 87) #[] #[.pointer (Az o)],I K,I c,I sd,.bool J,I G,I E,I F,I D,.slice (Az u) L.length L.length]] V fun e w'=>∃ b,e=.returned (.bool b)∧Bl V w')
  : Cl 37 #[.agg #[I W,I H,.slice a0 zl ca,.slice c0 n cc,.slice mp mn mc,.slice sp sl sc],.agg #[I K,I c,I sd,.bool J,I G,I E,I F,I D]] w fun e w'=>TkW Q w w' L ks nk M K c sd J G E F D e:=by
 have ar:=Hd ac;have aq:=Hd ab;have au:=Hd ae;have av:=Hd af;have aw:=Hd ag;have aa:=Hd ah;have az:=Hd ai;have b5:=Hd aj;have b6:=Hd am;clear ac ab ae af ag ah ai aj am;go_enter Tryz.func37,Tryz.ntmps37;go_upto_region 1 with fail
 refine Qj (fun W0 hW0=>?_)
 have K0:Hid (TkB w W0 (I W) (I H) (.slice a0 zl ca) (.slice c0 n cc) (.slice mp mn mc) (.slice sp sl sc) (I K) (I c) (I sd) (.bool J) (I G) (I E) (I F) (I D)):=by
  rw [hW0];refine ⟨?_, ?_,⟨?_, ?_⟩, ?_⟩
  ·simp [go_sem]
  ·simp [go_sem]
  ·simp [HB15,go_sem]
  ·simp [go_sem]
  ·with_reducible repeat' (first | exact Qd _ | refine Qc ?_ | refine Qe ?_)
 clear hW0;obtain ⟨k0,k1,k2,k3,k4,k5⟩:=K0.out.1;go_upto_region 4 with (go_at_call 73;refine (ar.out _ K0.out.2.2.2).mono ?_;rintro e w1 ⟨q,m,qc,rfl,hb⟩;have Y:=Hd (K0.out.kept hb);clear hb k0 k1 k2 k3 k4 k5)
 clear K0;rcases Nat.eq_zero_or_pos m with rfl | hm;rotate_left
 ·have g:decide ((0:Int)<(m:Int))=true:=ψ;have C:=Y;go_upto_region 5 with fail
  exact Xk π C rfl ν τ (fun _ _ h=>h)
 obtain ⟨k0,k1,k2,k3,k4,k5⟩:=Y.out.1;go_upto_region 7 with (go_at_call 15;refine (aq.out _ Y.out.2.2.2).mono ?_;rintro e w2 ⟨h,l,k,s,t,r,y,pa,pc,o,rfl,hQ,hA,hb⟩;have A:=H2 (Y.out.kept hb) hA;have HQ:=Hd hQ;clear hb hA hQ k0 k1 k2 k3 k4 k5)
 obtain ⟨k0,k1,k2,k3,k4,k5,k6,k7⟩:=A.out.1.2.1;have kz:=bk k0;dsimp only at kz;go_upto_region 8 with fail
 refine Qj (fun W3 a2=>?_)
 have K3:Hid (Bl w2 W3∧FB15 W3 (w2.heap.size+1) (.slice l L.length k) (.map (some s)) (.map (some t)) (.slice (Az r) L.length y) (.slice pa L.length pc) (.func (.func 87) #[] #[.pointer (Az o)]) (I K) (I c) (I sd) (.bool J) (I G) (I E) (I F) (I D) SN):=by
  refine ⟨?_, ?_, ?_⟩
  ·rw [a2];with_reducible repeat' (first | exact Qd _ | refine Qc ?_ | refine Qe ?_)
  ·rw [a2];simp [HB15,go_sem]
  ·rw [a2];simp [go_sem]
 obtain ⟨b,a6⟩:∃ b,b=w2.heap.size+1:=⟨_,rfl⟩;rw [← a6] at K3 ⊢;have HB:=Hd a6;clear a2 k0 k1 k2 k3 k4 k5 k6 k7 kz a6;obtain ⟨z,x1,x2,x3,N,O,P,R,T,U,d,f,i,j,a⟩:=K3.out.2.1;have x:=bk z;dsimp only at x;go_upto_if 39 with (go_at_call 74;refine (au.out w1 W3 h l k s t r y pa pc o Y.out.2.2.2 (Qb A.out.1.2.2.2 K3.out.1) HQ.out (A.out.2.kept K3.out.1)).mono ?_;rintro e w4 ⟨b7,rfl,hb⟩;have K4:=H2 (Qb K3.out.1 hb) (K3.out.2.kept hb);clear hb z x1 x2 x3 N O P R T U d f i j a x)
 clear K3
 cases b7
 ·have C:=Hd (A.out.1.kept K4.out.1);go_upto_region 9 with fail
  exact Xk π C rfl ν τ (fun _ _ h=>h)
 obtain ⟨z,x1,x2,x3,N,O,P,R,T,U,d,f,i,j,a⟩:=K4.out.2.1;have x:=bk z;dsimp only at x;go_upto_region 11 with (go_at_call 75;refine (av.out w1 w4 h l k s t r y pa pc o Y.out.2.2.2 (Qb A.out.1.2.2.2 K4.out.1) HQ.out (A.out.2.kept K4.out.1)).mono ?_;rintro e w5 ⟨v,b8,hl,rfl,ho,hb⟩;have K5:=H3 (Qb K4.out.1 hb) (K4.out.2.kept hb) ho;clear hb ho z x1 x2 x3 N O P R T U d f i j a x)
 clear K4
 cases b8
 ·have C:=Hd (A.out.1.kept K5.out.1);go_upto_region 12 with fail
  exact Xk π C rfl ν τ (fun _ _ h=>h)
 obtain ⟨z,x1,x2,x3,N,O,P,R,T,U,d,f,i,j,a⟩:=K5.out.2.1.1;have x:=bk z;dsimp only at x;go_upto_region 14 with (go_at_call 76;refine (aw.out w1 w5 h l k s t r y pa pc o v hl Y.out.2.2.2 (Qb A.out.1.2.2.2 K5.out.1) HQ.out (A.out.2.kept K5.out.1) (K5.out.2.2 rfl)).mono ?_;rintro e w6 ⟨u,mw,rfl,hY,a7,hb⟩;have K6:=H5 (Qb K5.out.1 hb) (K5.out.2.1.kept hb) hY a7 x;clear hb hY a7 z x1 x2 x3 N O P R T U d f i j a x;have a:=K6.out.2.1.1.2.2.2.2.2.2.2.2.2.2.2.2.2.2;have ap:=K6.out.2.1.2.2.2.2.2.2.2.2.2.2.2.2.2.2.2;have x:=bk a;dsimp only at x)
 refine Qj (fun W7 an=>?_)
 have K7:Hid (Bl w2 W7∧HB15 W7 b (.slice l L.length k) (.map (some s)) (.map (some t)) (.slice (Az r) L.length y) (.slice pa L.length pc) (.func (.func 87) #[] #[.pointer (Az o)]) (I K) (I c) (I sd) (.bool J) (I G) (I E) (I F) (I D) (.slice (Az u) L.length L.length)∧YRow W7 u L.length mw∧w2.heap.size≤u):=by
  rw [an];have hz:=HB.out;refine ⟨K6.out.1.setCell (p:=⟨b,14,none⟩) θ _, ?_,K6.out.2.2.1.far (by have:=K6.out.2.2.2;dsimp only;omega),by have:=K6.out.2.2.2;omega⟩;obtain ⟨z,x1,x2,x3,N,O,P,R,T,U,d,f,i,j,a⟩:=K6.out.2.1.1;exact ⟨(Co _ _ _ _ ν).trans z,(Co _ _ _ _ ν).trans x1,(Co _ _ _ _ ν).trans x2,(Co _ _ _ _ ν).trans x3,(Co _ _ _ _ ν).trans N,(Co _ _ _ _ ν).trans O,(Co _ _ _ _ ν).trans P,(Co _ _ _ _ ν).trans R,(Co _ _ _ _ ν).trans T,(Co _ _ _ _ ν).trans U,(Co _ _ _ _ ν).trans d,(Co _ _ _ _ ν).trans f,(Co _ _ _ _ ν).trans i,(Co _ _ _ _ ν).trans j,Cs _ _ _ a⟩
 clear an K6 K5 a ap x;obtain ⟨z,x1,x2,x3,N,O,P,R,T,U,d,f,i,j,a⟩:=K7.out.2.1;have x:=bk z;dsimp only at x;go_wp2_with (fail)
 refine (aa.out W7 u mw true (Qb A.out.1.2.2.2 K7.out.1) K7.out.2.2.1).mono ?_;rintro e w8 ⟨q1,rfl,hb⟩;have K8:=H3 (Qb K7.out.1 hb) (K7.out.2.1.kept hb) (K7.out.2.2.1.kept hb);clear hb z x1 x2 x3 N O P R T U d f i j a x;have C:=Hd (A.out.1.kept K8.out.1)
 cases q1
 ·go_upto_region 15 with fail
  exact Xk π C rfl ν τ (fun _ _ h=>h)
 clear C;obtain ⟨z,x1,x2,x3,N,O,P,R,T,U,d,f,i,j,a⟩:=K8.out.2.1;have x:=bk z;dsimp only at x;go_upto_if 62 with (go_at_call 77;refine (aa.out w8 u mw false (Qb A.out.1.2.2.2 K8.out.1) K8.out.2.2).mono ?_;rintro e w9 ⟨q2,rfl,hb⟩;have K9:=H3 (Qb K8.out.1 hb) (K8.out.2.1.kept hb) (K8.out.2.2.kept hb);clear hb z x1 x2 x3 N O P R T U d f i j a x)
 clear K8
 cases q2
 ·have C:=Hd (A.out.1.kept K9.out.1);go_upto_region 15 with fail
  exact Xk π C rfl ν τ (fun _ _ h=>h)
 obtain ⟨z,x1,x2,x3,N,O,P,R,T,U,d,f,i,j,a⟩:=K9.out.2.1;have x:=bk z;dsimp only at x;go_wp2_with (fail)
 refine (az.out w1 w9 h l k s t r y pa pc o u mw Y.out.2.2.2 (Qb A.out.1.2.2.2 K9.out.1) HQ.out (A.out.2.kept K9.out.1) K9.out.2.2).mono ?_;rintro e bb ⟨b9,rfl,hb⟩;have B:=H3 (Qb K9.out.1 hb) (K9.out.2.1.kept hb) (K9.out.2.2.kept hb);clear hb z x1 x2 x3 N O P R T U d f i j a x
 cases b9;rotate_left
 ·have C:=Hd (A.out.1.kept B.out.1);go_upto_region 17 with fail
  exact Xk π C rfl ν τ (fun _ _ h=>h)
 clear K9;obtain ⟨z,x1,x2,x3,N,O,P,R,T,U,d,f,i,j,a⟩:=B.out.2.1;have x:=bk z;dsimp only at x;go_upto_if 69 with (go_at_call 79;refine (b5.out w1 bb h l k s t r y pa pc o u mw Y.out.2.2.2 (Qb A.out.1.2.2.2 B.out.1) HQ.out (A.out.2.kept B.out.1) B.out.2.2).mono ?_;rintro e a8 ⟨ba,rfl,hb⟩;have Z:=H3 (Qb B.out.1 hb) (B.out.2.1.kept hb) (B.out.2.2.kept hb);clear hb z x1 x2 x3 N O P R T U d f i j a x)
 clear B;have C:=Hd (A.out.1.kept Z.out.1)
 cases ba;rotate_left
 ·go_upto_region 17 with fail
  exact Xk π C rfl ν τ (fun _ _ h=>h)
 obtain ⟨z,x1,x2,x3,N,O,P,R,T,U,d,f,i,j,a⟩:=Z.out.2.1;have x:=bk z;dsimp only at x;obtain ⟨⟨r0,r1,r2,r3,r4,r5,r6,r7,r8,r9,bc,be,bg,bh,bi⟩,y0,y1,y2,y3,y4,y5,y6,y7,y8,y9,bj,bm,bn,bo,ap⟩:=C.out.2.2.1;have rz:=bk r0;dsimp only at rz;go_wp2;have HG:=Kt a8 (w.heap.size+1+1) (.slice l L.length k) (.map (some s)) (.map (some t)) (.slice (Az r) L.length y) (.slice pa L.length pc) (.func (.func 87) #[] #[.pointer (Az o)]) (I K) (I c) (I sd) (.bool J) (I G) (I E) (I F) (I D) (.slice (Az u) L.length L.length);have HC:HB15 (set15 a8 (w.heap.size+1+1) (.slice l L.length k) (.map (some s)) (.map (some t)) (.slice (Az r) L.length y) (.slice pa L.length pc) (.func (.func 87) #[] #[.pointer (Az o)]) (I K) (I c) (I sd) (.bool J) (I G) (I E) (I F) (I D) (.slice (Az u) L.length L.length)) (w.heap.size+1+1) (.slice l L.length k) (.map (some s)) (.map (some t)) (.slice (Az r) L.length y) (.slice pa L.length pc) (.func (.func 87) #[] #[.pointer (Az o)]) (I K) (I c) (I sd) (.bool J) (I G) (I E) (I F) (I D) (.slice (Az u) L.length L.length):=C.out.2.2.1.1.set15
 have ao:TakTo w (set15 a8 (w.heap.size+1+1) (.slice l L.length k) (.map (some s)) (.map (some t)) (.slice (Az r) L.length y) (.slice pa L.length pc) (.func (.func 87) #[] #[.pointer (Az o)]) (I K) (I c) (I sd) (.bool J) (I G) (I E) (I F) (I D) (.slice (Az u) L.length L.length)) L ks nk M h mw K c sd J G E F D (.returned (.tuple #[.agg #[.slice l L.length k,.map (some s),.map (some t),.slice (Az r) L.length y,.slice pa L.length pc,.func (.func 87) #[] #[.pointer (Az o)],I K,I c,I sd,.bool J,I G,I E,I F,I D,.slice (Az u) L.length L.length],I 0])):=by
  have z1:=Bt Y.out.2.2.1.1.1;have z2:w1.heap.size≤w2.heap.size:=A.out.2.1.choose_spec.2.2.2.2.size;have a7:=K7.out.2.2.2;refine ⟨l,k,s,t,r,y,pa,pc,o,u,rfl,(A.out.2.kept Z.out.1).box b6.out Y.out.2.2.2 HG γ z1 r0,Z.out.2.2.grown HG (fun e=>by cases e;omega),γ, ?_⟩;exact C.out.2.2.2.grown HG C.out.2.2.2.size (fun k h=>by cases h;omega)
 exact bodyPost_ret (res12 HC rfl rfl) rfl (Or.inr ⟨mw,h,HQ.out,ao⟩)
end Go.Proofs.YtbjmnlefkbhbdaaGreatDoor
