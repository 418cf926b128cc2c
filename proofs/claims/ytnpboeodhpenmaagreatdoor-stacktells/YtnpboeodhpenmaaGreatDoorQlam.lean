/- A part of it. -/
import Derived.Test.YtnpboeodhpenmaaGreatDoorQlag
set_option maxRecDepth 100000
set_option maxHeartbeats 40000000
namespace Go.Proofs.YtnpboeodhpenmaaGreatDoor
open Go.RowKit
variable {W w:World} {a b g h h6:Nat} {x y z:Bool}
attribute [local go_sem ↓] Go.wp_at_zero Go.wp_at_succ
def GoodG (a b c d e f x y p q:Int):Prop:=(dot a b x y+e=p∧dot c d x y+f=q)∧(-4000000≤x∧x≤4000000)∧(-4000000≤y∧y≤4000000)
theorem Qt (a b c d e f x y p q:Int) (w:World) (hs:Sm a b c d) (g:(-1000000≤e∧e≤1000000)∧(-1000000≤f∧f≤1000000)) (hg:GoodG a b c d e f x y p q) :
  Cl 130 #[.agg #[I a,I b,I c,I d,I e,I f],.agg #[I x,I y]] w fun r w'=>r=.returned (.agg #[I p,I q])∧∃ o1 o2 o3,w'=((w.alloc o1).alloc o2).alloc o3:=by
 obtain ⟨⟨rfl,rfl⟩,⟨h1,h2⟩,⟨h3,h4⟩⟩:=hg;exact Xo a b c d e f x y w hs g.1 g.2 h1 h2 h3 h4
def Match (X Y K q1 q2 r1 r2:Int):Prop :=
 (K=0∧q1=2*X∧q2=2*Y∧r1=2*X+2∧r2=2*Y)
 ∨ (K=0∧q1=2*X+2∧q2=2*Y∧r1=2*X∧r2=2*Y)
 ∨ (K=1∧q1=2*X+2∧q2=2*Y∧r1=2*X+2∧r2=2*Y+2)
 ∨ (K=1∧q1=2*X+2∧q2=2*Y+2∧r1=2*X+2∧r2=2*Y)
 ∨ (K=2∧q1=2*X+2∧q2=2*Y+2∧r1=2*X∧r2=2*Y+2)
 ∨ (K=2∧q1=2*X∧q2=2*Y+2∧r1=2*X+2∧r2=2*Y+2)
 ∨ (K=3∧q1=2*X∧q2=2*Y+2∧r1=2*X∧r2=2*Y)
 ∨ (K=3∧q1=2*X∧q2=2*Y∧r1=2*X∧r2=2*Y+2)
def Zr (W:World) (h g:Nat):Prop:=(At W g 0 (I 0)∧At W g 1 (I 0))∧(Fn W g 0∧Fn W g 1)∧h≤g
theorem Zr.lt (z:Zr W h g):g<W.heap.size:=World.block_lt_of_cell? (w:=W) (a:=⟨g,0,none⟩) z.1.1
theorem Zr.ne (z:Zr W h g):g≠W.heap.size:=Nat.ne_of_lt z.lt
theorem Zr.kept {b:World} (z:Zr W h g) (a:Bl W b):Zr b h g :=
 ⟨⟨Qa a z.1.1,Qa a z.1.2⟩,⟨(a.frozen (p:=⟨g,0,none⟩) z.lt).trans z.2.1.1,(a.frozen (p:=⟨g,1,none⟩) z.lt).trans z.2.1.2⟩,z.2.2⟩
theorem Zr.new (a:h≤W.heap.size):Zr (W.alloc (.cells #[I 0,I 0] 40)) h W.heap.size :=
 ⟨⟨δ,δ⟩,⟨δ,δ⟩,a⟩
def laM (c:Nat) (x y z:Bool) (l:Array Bool):Array Bool :=
 let f:=fun (b:Bool) (i:Nat) (l:Array Bool)=>if b then l.setIfInBounds i true else l
 f z 17 (f y 16 (f x 15 (f (2<c) 14 (f (1<c) 9 (f (0<c) 4 l)))))
def aaM (u v t:Value) (c:Nat) (x y z:Bool) (h6 h7 h8:Nat) (s:Act):Act :=
 let f:=fun (b:Bool) (i:Nat) (v:Value) (s:Act)=>if b then s.put (some i) v else s
 f z 8 (.pointer (Az h8)) (f y 7 (.pointer (Az h7)) (f x 6 (.pointer (Az h6)) (f (2<c) 30 t (f (1<c) 25 v (f (0<c) 20 u s)))))
def Zthr (w:World) (x y z:Bool) (h6 h7 h8:Nat) (W:World):Prop:=Bl w W∧(x=true→Zr W w.heap.size h6)∧(y=true→Zr W w.heap.size h7)∧(z=true→Zr W w.heap.size h8)∧(x=true→y=true→h6≠h7)∧(x=true→z=true→h6≠h8)∧(y=true→z=true→h7≠h8)
theorem Zthr.via {V:World} (h:Zthr w x y z h6 a b W) (k:Bl W V):Zthr w x y z h6 a b V :=
 ⟨Qc h.1 k,fun e=>(h.2.1 e).kept k,fun e=>(h.2.2.1 e).kept k,fun e=>(h.2.2.2.1 e).kept k,h.2.2.2.2⟩
theorem Zthr.call {o p q:Obj} (h:Zthr w x y z h6 a b W):Zthr w x y z h6 a b (((W.alloc o).alloc p).alloc q):=h.via β3
theorem Zthr.n6 (h:Zthr w false y z h6 a b W):Zthr w true y z W.heap.size a b (W.alloc (.cells #[I 0,I 0] 40)) :=
 have k:=h.via (Qb (o:=.cells #[I 0,I 0] 40) (Qe _));⟨k.1,fun _=>Zr.new h.1.size,k.2.2.1,k.2.2.2.1,fun _ e=>(h.2.2.1 e).ne.symm,fun _ e=>(h.2.2.2.1 e).ne.symm,k.2.2.2.2.2.2⟩
theorem Zthr.n7 (h:Zthr w x false z h6 b a W):Zthr w x true z h6 W.heap.size a (W.alloc (.cells #[I 0,I 0] 40)) :=
 have k:=h.via (Qb (o:=.cells #[I 0,I 0] 40) (Qe _));⟨k.1,k.2.1,fun _=>Zr.new h.1.size,k.2.2.2.1,fun e _=>(h.2.1 e).ne,k.2.2.2.2.2.1,fun _ e=>(h.2.2.2.1 e).ne.symm⟩
theorem Zthr.n8 (h:Zthr w x y false h6 a b W):Zthr w x y true h6 a W.heap.size (W.alloc (.cells #[I 0,I 0] 40)) :=
 have k:=h.via (Qb (o:=.cells #[I 0,I 0] 40) (Qe _));⟨k.1,k.2.1,k.2.2.1,fun _=>Zr.new h.1.size,k.2.2.2.2.1,fun e _=>(h.2.1 e).ne,fun e _=>(h.2.2.1 e).ne⟩
section
variable {P:Program} {md:Region.Mode} {ops:Array Oper} {Q:Exit→Act→World→Prop} {S:World→Prop} {listed:Array Bool} {a:Act} {w1:World} {u v t:Value}
def SkM (P:Program) (md:Region.Mode) (ops:Array Oper) (Q:Exit→Act→World→Prop) (S:World→Prop) (listed:Array Bool) (a:Act) (w1:World) (u v t:Value) (F c:Nat) (x y z:Bool):Prop := ∀ h6 h7 h8 W,Zthr w1 x y z h6 h7 h8 W→wpAnyH P md ops Q S F (laM c x y z listed) (aaM u v t c x y z h6 h7 h8 a) W
theorem Qm {F:Nat} {L:Array Bool} {A:Act} {c:Nat} {d:Nat} (h:SkM P md ops Q S listed a w1 u v t F c x y z) (g:Zthr w1 x y z h6 b d W) (f:laM c x y z listed=L) (e:aaM u v t c x y z h6 b d a=A):wpAnyH P md ops Q S F L A W:=by
 subst f e;exact h _ _ _ _ g
end
theorem Jg {v:World} {p:Addr} {u:Value} (a:Below h w v) (hp:h≤p.block):Below h w (v.setCell p u):=a.setCell hp _
section
variable {P:Program} {md:Region.Mode} {ops:Array Oper} {Q:Exit→Act→World→Prop} {S:World→Prop} {listed:Array Bool} {a:Act} {w w1:World} {u v t:Value} {F:Nat} {o:Oper} {rs:List Nat}
theorem st_new {c:Nat} (k:SkM P md ops Q S listed a w1 u v t F c x y z) (h:SkM P md ops Q S listed a w1 u v t F c x y z→wpAnyH P md ops Q S b listed a w):wpAnyH P md ops Q S b listed a w:=h k
theorem st_nx {G:Prop} (_:SkM P md ops Q S listed a w1 u v t 3 3 true true true) (F c:Nat) (x y z:Bool) (k:SkM P md ops Q S listed a w1 u v t F c x y z) (h:SkM P md ops Q S listed a w1 u v t F c x y z→G):G:=h k
theorem Smm {Z Y:Prop} (k:Z) (h:Z→Y:=by (intro z;simp only [laM,aaM,Act.put,Bool.false_eq_true,if_false,if_true,decide_true,decide_false,Nat.reduceLT];exact z)):Y:=h k
theorem Re (hs:AllReadyH P md ops Q S F listed a w rs) (b:rs≠[]:=by simp) (hr:Region.ready md ops listed=rs:=by kernel_rfl):wpAnyH P md ops Q S (F+1) listed a w:=wpAnyH_ready hr b hs
theorem Rn6 (hs:AllReadyH P md ops Q S F listed a w rs) (c:ops[15]?=some o:=by rfl) (h:∀ K':Act→World→Prop,Shut (∀ a w,S w→(S w→wpAnyH P md ops Q S F (listed.setIfInBounds 15 true) a w)→K' a w)→if Region.wanted o (yielded ops a.tmps)=true then Oper.wp P o a w K' Q else K' (a.put o.dst undef) w:=by (intro d b;go_simp;exact b.out _ _ (HMz.out _ hIz.n6.1) (fun _=>Qm χ hIz.n6 η η))):AllReadyH P md ops Q S F listed a w (15 :: rs):=AllReadyH.cons c h hs
theorem Rn7 (hs:AllReadyH P md ops Q S F listed a w rs) (c:ops[16]?=some o:=by rfl) (h:∀ K':Act→World→Prop,Shut (∀ a w,S w→(S w→wpAnyH P md ops Q S F (listed.setIfInBounds 16 true) a w)→K' a w)→if Region.wanted o (yielded ops a.tmps)=true then Oper.wp P o a w K' Q else K' (a.put o.dst undef) w:=by (intro d b;go_simp;exact b.out _ _ (HMz.out _ hIz.n7.1) (fun _=>Qm χ hIz.n7 η η))):AllReadyH P md ops Q S F listed a w (16 :: rs):=AllReadyH.cons c h hs
theorem Rn8 (hs:AllReadyH P md ops Q S F listed a w rs) (c:ops[17]?=some o:=by rfl) (h:∀ K':Act→World→Prop,Shut (∀ a w,S w→(S w→wpAnyH P md ops Q S F (listed.setIfInBounds 17 true) a w)→K' a w)→if Region.wanted o (yielded ops a.tmps)=true then Oper.wp P o a w K' Q else K' (a.put o.dst undef) w:=by (intro d b;go_simp;exact b.out _ _ (HMz.out _ hIz.n8.1) (fun _=>Qm χ hIz.n8 η η))):AllReadyH P md ops Q S F listed a w (17 :: rs):=AllReadyH.cons c h hs
theorem Rc (i:Nat) (hs:AllReadyH P md ops Q S F listed a w rs) (c:ops[i]?=some o:=by rfl) (h:∀ K':Act→World→Prop,Shut (∀ a w,S w→(S w→wpAnyH P md ops Q S F (listed.setIfInBounds i true) a w)→K' a w)→if Region.wanted o (yielded ops a.tmps)=true then Oper.wp P o a w K' Q else K' (a.put o.dst undef) w:=by (intro d b;go_simp;refine (Qt _ _ _ _ _ _ _ _ _ _ _ HSz.out HEz.out Γ).mono ?_;rintro r g ⟨rfl,o3,e,f,rfl⟩;(try go_wp2_with fail);exact b.out _ _ (HMz.out _ hIz.call.1) (fun _=>Qm χ hIz.call η η))):AllReadyH P md ops Q S F listed a w (i :: rs):=AllReadyH.cons c h hs
end
theorem moveOf_any (a b c d e f x y k X Y K q1 q2 r1 r2:Int) (w:World) (hs:Sm a b c d) (he:(-1000000≤e∧e≤1000000)∧(-1000000≤f∧f≤1000000)) (ht:triB x y k=true)
  (hp:GoodG a b c d e f (2*x+1) (2*y+1) (2*X+1) (2*Y+1)) (hq:GoodG a b c d e f (c1x x k) (c1y y k) q1 q2) (hr:GoodG a b c d e f (c2x x k) (c2y y k) r1 r2) (U : -4000000≤X∧X≤4000000) (V : -4000000≤Y∧Y≤4000000) (hm:Match X Y K q1 q2 r1 r2) :
  Cl 54 #[.agg #[I a,I b,I c,I d,I e,I f],.agg #[I x,I y,I k]] w fun r w' =>
   r=.returned (.agg #[I X,I Y,I K])∧Bl w w':=by
 have HSz:Hid (Sm a b c d):=hs;have HEz:=Hd he;clear hs he;go_enter Tryz.func54,Tryz.ntmps54;go_wp2_with (go_at_call 129;refine (cornersOf_any _ _ _ _ ht).mono ?_;rintro e w1 ⟨g,rfl,hg,⟨g0,g1,g2,g3,g4,g5⟩,C⟩;have m0:At w1 w.heap.size 0 (I a):=Qa C δ;have m1:At w1 w.heap.size 1 (I b):=Qa C δ;have m2:At w1 w.heap.size 2 (I c):=Qa C δ;have m3:At w1 w.heap.size 3 (I d):=Qa C δ;have m4:At w1 w.heap.size 4 (I e):=Qa C δ;have m5:At w1 w.heap.size 5 (I f):=Qa C δ;have R:Hid (Bl w w1∧Tr w1 (w.heap.size+1+1) 0 0 0∧Fr w1 (w.heap.size+1+1)):=⟨Qc β3 C,⟨Qa C δ,Qa C δ,Qa C δ⟩,Fr.kept (by simp [Fr,go_sem]) ξ C⟩;clear C hg ht)
 go_cut [6,7,8] (fun s6 s7 s8 wx=>∃ g6 L M:Nat,s6=.pointer (Az g6)∧s7=.pointer (Az L)∧s8=.pointer (Az M)∧Pt wx g6 (2*X+1) (2*Y+1)∧Pt wx L q1 q2∧Pt wx M r1 r2∧Bl w wx∧Tr wx (w.heap.size+1+1) 0 0 0∧Fr wx (w.heap.size+1+1))
 case first =>
  have HMz:Hid (∀ w':World,Bl w1 w'→At w' w.heap.size 0 (I a)∧At w' w.heap.size 1 (I b)∧At w' w.heap.size 2 (I c)∧At w' w.heap.size 3 (I d)∧At w' w.heap.size 4 (I e)∧At w' w.heap.size 5 (I f)∧At w' g 0 (I (2*x+1))∧At w' g 1 (I (2*y+1))∧At w' g 2 (I (c1x x k))∧At w' g 3 (I (c1y y k))∧At w' g 4 (I (c2x x k))∧At w' g 5 (I (c2y y k))):=fun w' p=>⟨Qa p m0,Qa p m1,Qa p m2,Qa p m3,Qa p m4,Qa p m5,Qa p g0,Qa p g1,Qa p g2,Qa p g3,Qa p g4,Qa p g5⟩;refine wp_region_noPanic ?_;refine wp_region_held_drew (S:=fun w'=>At w' w.heap.size 0 (I a)∧At w' w.heap.size 1 (I b)∧At w' w.heap.size 2 (I c)∧At w' w.heap.size 3 (I d)∧At w' w.heap.size 4 (I e)∧At w' w.heap.size 5 (I f)∧At w' g 0 (I (2*x+1))∧At w' g 1 (I (2*y+1))∧At w' g 2 (I (c1x x k))∧At w' g 3 (I (c1y y k))∧At w' g 4 (I (c2x x k))∧At w' g 5 (I (c2y y k))) η ?_ (fun Z=>?_)
  ·exact ⟨m0,m1,m2,m3,m4,m5,g0,g1,g2,g3,g4,g5⟩
  refine Tv 0 ?_;refine Tv 1 ?_;refine Tv 2 ?_;refine Tv 3 ?_;refine Tv 5 ?_;refine Tv 6 ?_;refine Tv 7 ?_;refine Tv 8 ?_;refine Tv 10 ?_;refine Tv 11 ?_;refine Tv 12 ?_;refine Tv 13 ?_;clear Z;have bo:Bl w1 w1.drew:=Qg (Qe w1);refine st_new (F:=3) (w1:=w1) (c:=3) (x:=true) (y:=true) (z:=true) (u:=(.agg #[I (2*X+1),I (2*Y+1)])) (v:=(.agg #[I q1,I q2])) (t:=(.agg #[I r1,I r2])) ?_ (fun i=>?_)
  ·intro h6 A B W hI;obtain ⟨T,z0,z1,z2,a2,a6,a7⟩:=hI;replace z0:=z0 rfl;replace z1:=z1 rfl;replace z2:=z2 rfl;replace a2:=a2 rfl rfl;replace a6:=a6 rfl rfl;replace a7:=a7 rfl rfl;simp only [laM,aaM,Act.put,if_true,decide_true,Nat.reduceLT];obtain ⟨⟨ad,ae⟩,⟨br,bs⟩,D⟩:=z0;obtain ⟨⟨af,ag⟩,⟨bt,bu⟩,E⟩:=z1;obtain ⟨⟨ah,ai⟩,⟨bv,bw⟩,J⟩:=z2;have bz:=Ne.symm a2;have ca:=Ne.symm a6;have cb:=Ne.symm a7;refine Rd 18 rfl (fun KK G=>?_);go_simp;refine G.out _ _ (HMz.out _ (Jg (Jg T D) D)) (fun _=>?_);clear G KK;(try simp only [Aq])
   refine Rd 19 rfl (fun KK G=>?_);go_simp;refine G.out _ _ (HMz.out _ (Jg (Jg (Jg (Jg T D) D) E) E)) (fun _=>?_);clear G KK;(try simp only [Aq])
   refine Rd 20 rfl (fun KK G=>?_);go_simp;refine G.out _ _ (HMz.out _ (Jg (Jg (Jg (Jg (Jg (Jg T D) D) E) E) J) J)) (fun _=>?_);clear G KK;(try simp only [Aq])
   refine wpAnyH_done η ?_ _;refine NoPanic.normal ?_;go_wp2;go_meet
   case rel =>
    refine ⟨_,_,_,rfl,rfl,rfl, ?_, ?_, ?_,Qc R.out.1 (Jg (Jg (Jg (Jg (Jg (Jg T D) D) E) E) J) J),R.out.2.1.kept (Jg (Jg (Jg (Jg (Jg (Jg T D) D) E) E) J) J),R.out.2.2.kept R.out.2.1.lt (Jg (Jg (Jg (Jg (Jg (Jg T D) D) E) E) J) J)⟩
    ·simp [Pt,go_sem,ad,ae]
    ·simp [Pt,go_sem,af,ag]
    ·simp [Pt,go_sem,ah,ai]
  refine st_nx i 4 3 true true false (fun h6 A B W hIz=>?_) (fun bn=>?_)
  ·refine Smm ?_;exact Re (Rn8 AllReadyH.nil)
  refine st_nx i 4 3 true false true (fun h6 A B W hIz=>?_) (fun bm=>?_)
  ·refine Smm ?_;exact Re (Rn7 AllReadyH.nil)
  refine st_nx i 4 3 false true true (fun h6 A B W hIz=>?_) (fun bi=>?_)
  ·refine Smm ?_;exact Re (Rn6 AllReadyH.nil)
  refine st_nx i 4 2 true true true (fun h6 A B W hIz=>?_) (fun be=>?_)
  ·refine Smm ?_;exact Re (Rc 14 AllReadyH.nil)
  refine st_nx i 5 3 true false false (fun h6 A B W hIz=>?_) (fun bj=>?_)
  ·refine Smm ?_;exact Re (Rn7 (Rn8 AllReadyH.nil))
  refine st_nx i 5 3 false true false (fun h6 A B W hIz=>?_) (fun bh=>?_)
  ·refine Smm ?_;exact Re (Rn6 (Rn8 AllReadyH.nil))
  refine st_nx i 5 3 false false true (fun h6 A B W hIz=>?_) (fun bg=>?_)
  ·refine Smm ?_;exact Re (Rn6 (Rn7 AllReadyH.nil))
  refine st_nx i 5 2 true true false (fun h6 A B W hIz=>?_) (fun bc=>?_)
  ·refine Smm ?_;exact Re (Rc 14 (Rn8 AllReadyH.nil))
  refine st_nx i 5 2 true false true (fun h6 A B W hIz=>?_) (fun bb=>?_)
  ·refine Smm ?_;exact Re (Rc 14 (Rn7 AllReadyH.nil))
  refine st_nx i 5 2 false true true (fun h6 A B W hIz=>?_) (fun b9=>?_)
  ·refine Smm ?_;exact Re (Rc 14 (Rn6 AllReadyH.nil))
  refine st_nx i 5 1 true true true (fun h6 A B W hIz=>?_) (fun b5=>?_)
  ·refine Smm ?_;exact Re (Rc 9 AllReadyH.nil)
  refine st_nx i 6 3 false false false (fun h6 A B W hIz=>?_) (fun bf=>?_)
  ·refine Smm ?_;exact Re (Rn6 (Rn7 (Rn8 AllReadyH.nil)))
  refine st_nx i 6 2 true false false (fun h6 A B W hIz=>?_) (fun ba=>?_)
  ·refine Smm ?_;exact Re (Rc 14 (Rn7 (Rn8 AllReadyH.nil)))
  refine st_nx i 6 2 false true false (fun h6 A B W hIz=>?_) (fun b8=>?_)
  ·refine Smm ?_;exact Re (Rc 14 (Rn6 (Rn8 AllReadyH.nil)))
  refine st_nx i 6 2 false false true (fun h6 A B W hIz=>?_) (fun b7=>?_)
  ·refine Smm ?_;exact Re (Rc 14 (Rn6 (Rn7 AllReadyH.nil)))
  refine st_nx i 6 1 true true false (fun h6 A B W hIz=>?_) (fun az=>?_)
  ·refine Smm ?_;exact Re (Rc 9 (Rn8 AllReadyH.nil))
  refine st_nx i 6 1 true false true (fun h6 A B W hIz=>?_) (fun ay=>?_)
  ·refine Smm ?_;exact Re (Rc 9 (Rn7 AllReadyH.nil))
  refine st_nx i 6 1 false true true (fun h6 A B W hIz=>?_) (fun aw=>?_)
  ·refine Smm ?_;exact Re (Rc 9 (Rn6 AllReadyH.nil))
  refine st_nx i 6 0 true true true (fun h6 A B W hIz=>?_) (fun aq=>?_)
  ·refine Smm ?_;exact Re (Rc 4 AllReadyH.nil)
  refine st_nx i 7 2 false false false (fun h6 A B W hIz=>?_) (fun b6=>?_)
  ·refine Smm ?_;exact Re (Rc 14 (Rn6 (Rn7 (Rn8 AllReadyH.nil))))
  refine st_nx i 7 1 true false false (fun h6 A B W hIz=>?_) (fun ax=>?_)
  ·refine Smm ?_;exact Re (Rc 9 (Rn7 (Rn8 AllReadyH.nil)))
  refine st_nx i 7 1 false true false (fun h6 A B W hIz=>?_) (fun av=>?_)
  ·refine Smm ?_;exact Re (Rc 9 (Rn6 (Rn8 AllReadyH.nil)))
  refine st_nx i 7 1 false false true (fun h6 A B W hIz=>?_) (fun au=>?_)
  ·refine Smm ?_;exact Re (Rc 9 (Rn6 (Rn7 AllReadyH.nil)))
  refine st_nx i 7 0 true true false (fun h6 A B W hIz=>?_) (fun ap=>?_)
  ·refine Smm ?_;exact Re (Rc 4 (Rn8 AllReadyH.nil))
  refine st_nx i 7 0 true false true (fun h6 A B W hIz=>?_) (fun ao=>?_)
  ·refine Smm ?_;exact Re (Rc 4 (Rn7 AllReadyH.nil))
  refine st_nx i 7 0 false true true (fun h6 A B W hIz=>?_) (fun am=>?_)
  ·refine Smm ?_;exact Re (Rc 4 (Rn6 AllReadyH.nil))
  refine st_nx i 8 1 false false false (fun h6 A B W hIz=>?_) (fun ar=>?_)
  ·refine Smm ?_;exact Re (Rc 9 (Rn6 (Rn7 (Rn8 AllReadyH.nil))))
  refine st_nx i 8 0 true false false (fun h6 A B W hIz=>?_) (fun an=>?_)
  ·refine Smm ?_;exact Re (Rc 4 (Rn7 (Rn8 AllReadyH.nil)))
  refine st_nx i 8 0 false true false (fun h6 A B W hIz=>?_) (fun ak=>?_)
  ·refine Smm ?_;exact Re (Rc 4 (Rn6 (Rn8 AllReadyH.nil)))
  refine st_nx i 8 0 false false true (fun h6 A B W hIz=>?_) (fun aj=>?_)
  ·refine Smm ?_;exact Re (Rc 4 (Rn6 (Rn7 AllReadyH.nil)))
  have hIz:Zthr w1 false false false 0 0 0 w1.drew:=⟨bo,nofun,nofun,nofun,nofun,nofun,nofun⟩;exact Re (Rc 4 (Rn6 (Rn7 (Rn8 AllReadyH.nil))))
 case rest =>
  obtain ⟨g6,L,M,rfl,rfl,rfl,p6,p7,p8,T,hR,hF⟩:=hcut;have N:=H3 hR hF T;obtain ⟨x6,y6⟩:=p6;obtain ⟨a8,aa⟩:=p7;obtain ⟨ab,ac⟩:=p8;have wX:IntKind.i64.wrap (2*X)=2*X:=Yi γ γ;have wY:IntKind.i64.wrap (2*Y)=2*Y:=Yi γ γ;have bp:IntKind.i64.wrap X=X:=Yi γ γ;have bq:IntKind.i64.wrap Y=Y:=Yi γ γ;have hx:=half X;have hy:=half Y;clear hR hF T hp hq hr HSz HEz;go_wp2;go_quiet (fail)
  go_wp2;clear x6 y6 wX wY bp bq hx hy;have n1:(2*X == 2*X+2)=false:=ω;have n2:(2*X+2 == 2*X)=false:=ω;have n3:(2*Y == 2*Y+2)=false:=ω;have n4:(2*Y+2 == 2*Y)=false:=ω;generalize hwd:World.drewN wc nq=d0;have H:Bl wc d0:=hwd ▸ Qr (Qe wc);have j:At d0 L 0 (I q1):=Qa H a8;have n:At d0 L 1 (I q2):=Qa H aa;have l:At d0 M 0 (I r1):=Qa H ab;have o:At d0 M 1 (I r2):=Qa H ac;have h:=H3 (N.out.1.kept H) (N.out.2.1.kept N.out.1.lt H) (Qc N.out.2.2 H);have q:L<d0.heap.size:=World.block_lt_of_cell? (w:=d0) (a:=⟨L,0,none⟩) j;have s:M<d0.heap.size:=World.block_lt_of_cell? (w:=d0) (a:=⟨M,0,none⟩) l;clear H hwd a8 aa ab ac N;rcases hm with ⟨rfl,rfl,rfl,rfl,rfl⟩ | ⟨rfl,rfl,rfl,rfl,rfl⟩ | ⟨rfl,rfl,rfl,rfl,rfl⟩ | ⟨rfl,rfl,rfl,rfl,rfl⟩ | ⟨rfl,rfl,rfl,rfl,rfl⟩ | ⟨rfl,rfl,rfl,rfl,rfl⟩ | ⟨rfl,rfl,rfl,rfl,rfl⟩ | ⟨rfl,rfl,rfl,rfl,rfl⟩
  all_goals refine wp_loop_rounds 5 ?_
  all_goals
   rw [rounds_succ];go_wp2_with (go_at_call 129;refine (Jl _ _ _ U.1 U.2 V.1 V.2).mono ?_;rintro e v ⟨g,rfl,hg,⟨c0,c1,c2,c3,c4,c5⟩,p⟩;have m:=Qc (Qb (Qe d0)) p;replace j:=Qa m j;replace n:=Qa m n;replace l:=Qa m l;replace o:=Qa m o;replace h:Hid (Tr v (w.heap.size+1+1) 0 0 0∧Fr v (w.heap.size+1+1)∧Bl w v):=⟨h.out.1.kept m,h.out.2.1.kept h.out.1.lt m,Qc h.out.2.2 m⟩;replace q:L<v.heap.size:=bk j;replace s:M<v.heap.size:=bk l;have e0:At v d0.heap.size 0 (I X):=Qa p δ;have e1:At v d0.heap.size 1 (I Y):=Qa p δ;have e2:At v d0.heap.size 2 (I 0):=Qa p δ;obtain ⟨⟨t0,P,Q⟩,⟨f0,f1,f2,_,_,_⟩,O⟩:=h.out;clear p m hg)
   go_quiet (fail)
   go_wp2
  iterate 2 (focus (refine bodyPost_ret (v:=.agg #[I X,I Y,I 0]) ?_ rfl ⟨rfl, ?_⟩;simp [results,Tryz.results54,go_sem,t0,P,Q];(with_reducible repeat' (first | exact O | refine Qh ?_ ?_ | refine Qb ?_ | refine Qr ?_));all_goals (first | (simp;done) | (simp;omega))))
  all_goals (clear e0 e1 e2 t0 P Q f0 f1 f2 O c0 c1 c2 c3 c4 c5;generalize hwd:World.drewN v nq=d;have m:Bl v d:=hwd ▸ Qr (Qe v);replace j:=Qa m j;replace n:=Qa m n;replace l:=Qa m l;replace o:=Qa m o;replace h:Hid (Tr d (w.heap.size+1+1) 0 0 0∧Fr d (w.heap.size+1+1)∧Bl w d):=⟨h.out.1.kept m,h.out.2.1.kept h.out.1.lt m,Qc h.out.2.2 m⟩;replace q:L<d.heap.size:=bk j;replace s:M<d.heap.size:=bk l;clear hwd m;obtain ⟨d0,rfl⟩:∃ u,u=d:=⟨_,rfl⟩)
  all_goals
   rw [rounds_succ];go_wp2_with (go_at_call 129;refine (Jx _ _ _ U.1 U.2 V.1 V.2).mono ?_;rintro e v ⟨g,rfl,hg,⟨c0,c1,c2,c3,c4,c5⟩,p⟩;have m:=Qc (Qb (Qe d0)) p;replace j:=Qa m j;replace n:=Qa m n;replace l:=Qa m l;replace o:=Qa m o;replace h:Hid (Tr v (w.heap.size+1+1) 0 0 0∧Fr v (w.heap.size+1+1)∧Bl w v):=⟨h.out.1.kept m,h.out.2.1.kept h.out.1.lt m,Qc h.out.2.2 m⟩;replace q:L<v.heap.size:=bk j;replace s:M<v.heap.size:=bk l;have e0:At v d0.heap.size 0 (I X):=Qa p δ;have e1:At v d0.heap.size 1 (I Y):=Qa p δ;have e2:At v d0.heap.size 2 (I 1):=Qa p δ;obtain ⟨⟨t0,P,Q⟩,⟨f0,f1,f2,_,_,_⟩,O⟩:=h.out;clear p m hg)
   go_quiet (fail)
   go_wp2
  iterate 2 (focus (refine bodyPost_ret (v:=.agg #[I X,I Y,I 1]) ?_ rfl ⟨rfl, ?_⟩;simp [results,Tryz.results54,go_sem,t0,P,Q];(with_reducible repeat' (first | exact O | refine Qh ?_ ?_ | refine Qb ?_ | refine Qr ?_));all_goals (first | (simp;done) | (simp;omega))))
  all_goals (clear e0 e1 e2 t0 P Q f0 f1 f2 O c0 c1 c2 c3 c4 c5;generalize hwd:World.drewN v nq=d;have m:Bl v d:=hwd ▸ Qr (Qe v);replace j:=Qa m j;replace n:=Qa m n;replace l:=Qa m l;replace o:=Qa m o;replace h:Hid (Tr d (w.heap.size+1+1) 0 0 0∧Fr d (w.heap.size+1+1)∧Bl w d):=⟨h.out.1.kept m,h.out.2.1.kept h.out.1.lt m,Qc h.out.2.2 m⟩;replace q:L<d.heap.size:=bk j;replace s:M<d.heap.size:=bk l;clear hwd m;obtain ⟨d0,rfl⟩:∃ u,u=d:=⟨_,rfl⟩)
  all_goals
   rw [rounds_succ];go_wp2_with (go_at_call 129;refine (Yb _ _ _ U.1 U.2 V.1 V.2).mono ?_;rintro e v ⟨g,rfl,hg,⟨c0,c1,c2,c3,c4,c5⟩,p⟩;have m:=Qc (Qb (Qe d0)) p;replace j:=Qa m j;replace n:=Qa m n;replace l:=Qa m l;replace o:=Qa m o;replace h:Hid (Tr v (w.heap.size+1+1) 0 0 0∧Fr v (w.heap.size+1+1)∧Bl w v):=⟨h.out.1.kept m,h.out.2.1.kept h.out.1.lt m,Qc h.out.2.2 m⟩;replace q:L<v.heap.size:=bk j;replace s:M<v.heap.size:=bk l;have e0:At v d0.heap.size 0 (I X):=Qa p δ;have e1:At v d0.heap.size 1 (I Y):=Qa p δ;have e2:At v d0.heap.size 2 (I 2):=Qa p δ;obtain ⟨⟨t0,P,Q⟩,⟨f0,f1,f2,_,_,_⟩,O⟩:=h.out;clear p m hg)
   go_quiet (fail)
   go_wp2
  iterate 2 (focus (refine bodyPost_ret (v:=.agg #[I X,I Y,I 2]) ?_ rfl ⟨rfl, ?_⟩;simp [results,Tryz.results54,go_sem,t0,P,Q];(with_reducible repeat' (first | exact O | refine Qh ?_ ?_ | refine Qb ?_ | refine Qr ?_));all_goals (first | (simp;done) | (simp;omega))))
  all_goals (clear e0 e1 e2 t0 P Q f0 f1 f2 O c0 c1 c2 c3 c4 c5;generalize hwd:World.drewN v nq=d;have m:Bl v d:=hwd ▸ Qr (Qe v);replace j:=Qa m j;replace n:=Qa m n;replace l:=Qa m l;replace o:=Qa m o;replace h:Hid (Tr d (w.heap.size+1+1) 0 0 0∧Fr d (w.heap.size+1+1)∧Bl w d):=⟨h.out.1.kept m,h.out.2.1.kept h.out.1.lt m,Qc h.out.2.2 m⟩;replace q:L<d.heap.size:=bk j;replace s:M<d.heap.size:=bk l;clear hwd m;obtain ⟨d0,rfl⟩:∃ u,u=d:=⟨_,rfl⟩)
  all_goals
   rw [rounds_succ];go_wp2_with (go_at_call 129;refine (Vl _ _ _ U.1 U.2 V.1 V.2).mono ?_;rintro e v ⟨g,rfl,hg,⟨c0,c1,c2,c3,c4,c5⟩,p⟩;have m:=Qc (Qb (Qe d0)) p;replace j:=Qa m j;replace n:=Qa m n;replace l:=Qa m l;replace o:=Qa m o;replace h:Hid (Tr v (w.heap.size+1+1) 0 0 0∧Fr v (w.heap.size+1+1)∧Bl w v):=⟨h.out.1.kept m,h.out.2.1.kept h.out.1.lt m,Qc h.out.2.2 m⟩;replace q:L<v.heap.size:=bk j;replace s:M<v.heap.size:=bk l;have e0:At v d0.heap.size 0 (I X):=Qa p δ;have e1:At v d0.heap.size 1 (I Y):=Qa p δ;have e2:At v d0.heap.size 2 (I 3):=Qa p δ;obtain ⟨⟨t0,P,Q⟩,⟨f0,f1,f2,_,_,_⟩,O⟩:=h.out;clear p m hg)
   go_quiet (fail)
   go_wp2
  iterate 2 (focus (refine bodyPost_ret (v:=.agg #[I X,I Y,I 3]) ?_ rfl ⟨rfl, ?_⟩;simp [results,Tryz.results54,go_sem,t0,P,Q];(with_reducible repeat' (first | exact O | refine Qh ?_ ?_ | refine Qb ?_ | refine Qr ?_));all_goals (first | (simp;done) | (simp;omega))))
theorem mdx {P:Prop} (h:P:=by refine ⟨_,_,_,_, ?_, ?_,γ, ?_, ?_,⟨⟨rfl,rfl⟩, ?_, ?_⟩,⟨⟨rfl,rfl⟩, ?_, ?_⟩,γ,γ, ?_⟩ <;> simp [dot,outX,outY,c1x,c1y,c2x,c2y,stX,stY,Match] <;> omega):P:=h
theorem move_data (a b c d e f x y k:Int) (h1:mapB a b c d e f=true) (h3:triB x y k=true) :
  ∃ X Y K q1 q2 r1 r2:Int,(dot a b (2*x+1) (2*y+1)+e=2*X+1)∧(dot c d (2*x+1) (2*y+1)+f=2*Y+1)∧(0≤K∧K≤3)∧dot a b (outX k) (outY k)=outX K∧dot c d (outX k) (outY k)=outY K
   ∧ GoodG a b c d e f (c1x x k) (c1y y k) q1 q2∧GoodG a b c d e f (c2x x k) (c2y y k) r1 r2∧(-4000000≤X∧X≤4000000)∧(-4000000≤Y∧Y≤4000000)∧Match X Y K q1 q2 r1 r2:=by
 have i:0≤k∧k≤3∧-1000000≤x∧x≤1000000∧-1000000≤y∧y≤1000000:=by simpa [triB] using h3
 obtain ⟨k0,k3,x1,x2,y1,y2⟩:=i;have n:k=0∨k=1∨k=2∨k=3:=γ;have h:=h1;simp [mapB,unitB,evenB] at h;obtain ⟨⟨g,e1,e2,e3⟩,f1,f2,f3⟩:=h;obtain ⟨E,rfl⟩:∃ E,e=2*E:=⟨e / 2,γ⟩;obtain ⟨F,rfl⟩:∃ F,f=2*F:=⟨f / 2,γ⟩;clear h1 h3;rcases g with ⟨⟨⟨j,i⟩,l⟩,m⟩ | ⟨⟨⟨j,i⟩,l⟩,m⟩
 ·subst i l;rcases j with rfl | rfl <;> rcases m with rfl | rfl <;> rcases n with rfl | rfl | rfl | rfl
  ·exact ⟨x+E,y+F,0,mdx⟩
  ·exact ⟨x+E,y+F,1,mdx⟩
  ·exact ⟨x+E,y+F,2,mdx⟩
  ·exact ⟨x+E,y+F,3,mdx⟩
  ·exact ⟨x+E, -y - 1+F,2,mdx⟩
  ·exact ⟨x+E, -y - 1+F,1,mdx⟩
  ·exact ⟨x+E, -y - 1+F,0,mdx⟩
  ·exact ⟨x+E, -y - 1+F,3,mdx⟩
  ·exact ⟨-x - 1+E,y+F,0,mdx⟩
  ·exact ⟨-x - 1+E,y+F,3,mdx⟩
  ·exact ⟨-x - 1+E,y+F,2,mdx⟩
  ·exact ⟨-x - 1+E,y+F,1,mdx⟩
  ·exact ⟨-x - 1+E, -y - 1+F,2,mdx⟩
  ·exact ⟨-x - 1+E, -y - 1+F,3,mdx⟩
  ·exact ⟨-x - 1+E, -y - 1+F,0,mdx⟩
  ·exact ⟨-x - 1+E, -y - 1+F,1,mdx⟩
 ·subst j m;rcases i with rfl | rfl <;> rcases l with rfl | rfl <;> rcases n with rfl | rfl | rfl | rfl
  ·exact ⟨y+E,x+F,3,mdx⟩
  ·exact ⟨y+E,x+F,2,mdx⟩
  ·exact ⟨y+E,x+F,1,mdx⟩
  ·exact ⟨y+E,x+F,0,mdx⟩
  ·exact ⟨y+E, -x - 1+F,3,mdx⟩
  ·exact ⟨y+E, -x - 1+F,0,mdx⟩
  ·exact ⟨y+E, -x - 1+F,1,mdx⟩
  ·exact ⟨y+E, -x - 1+F,2,mdx⟩
  ·exact ⟨-y - 1+E,x+F,1,mdx⟩
  ·exact ⟨-y - 1+E,x+F,2,mdx⟩
  ·exact ⟨-y - 1+E,x+F,3,mdx⟩
  ·exact ⟨-y - 1+E,x+F,0,mdx⟩
  ·exact ⟨-y - 1+E, -x - 1+F,1,mdx⟩
  ·exact ⟨-y - 1+E, -x - 1+F,0,mdx⟩
  ·exact ⟨-y - 1+E, -x - 1+F,3,mdx⟩
  ·exact ⟨-y - 1+E, -x - 1+F,2,mdx⟩
end Go.Proofs.YtnpboeodhpenmaaGreatDoor
