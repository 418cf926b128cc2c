/- A part of it. -/
import Derived.Test.YtjkjpopghkeibaaGreatDoorQlao
import Derived.Test.YtjkjpopghkeibaaGreatDoorQlal
set_option maxRecDepth 100000
set_option maxHeartbeats 40000000
namespace Go.Proofs.YtjkjpopghkeibaaGreatDoor
open Go.RowKit
variable {w w':World} {g n:Nat} {f:Nat→Bool}
theorem moved_any (a b c d u v x y:Int) (w:World) (hs:Sm a b c d) (f : -1000000≤u∧u≤1000000) (g : -1000000≤v∧v≤1000000) (h1 : -4000000≤x) (h2:x≤4000000) (h3 : -4000000≤y) (h4:y≤4000000) :
  Cl 141 #[.agg #[I x,I y],.agg #[I a,I b,I c,I d,I u,I v]] w fun r w'=>r=.returned (.agg #[I (mpX (a,b,c,d,u,v) x y),I (mpY (a,b,c,d,u,v) x y)])∧∃ o1 o2 o3,w'=((w.alloc o1).alloc o2).alloc o3:=by
 obtain ⟨⟨a1,e⟩,⟨b1,b2⟩,⟨c1,c2⟩,⟨d1,d2⟩⟩:=hs;obtain ⟨h,i⟩:=Xy a1 e h1 h2;obtain ⟨j,k⟩:=Xy b1 b2 h3 h4;obtain ⟨l,m⟩:=Xy c1 c2 h1 h2;obtain ⟨n,o⟩:=Xy d1 d2 h3 h4;obtain ⟨e1,e2⟩:=f;obtain ⟨f1,f2⟩:=g;go_enter Tryz.func141,Tryz.ntmps141;go_wp2;exact bodyPost_ret (v:=.agg #[I (mpX (a,b,c,d,u,v) x y),I (mpY (a,b,c,d,u,v) x y)]) (by simp [results,Tryz.results141,go_sem,mpX,mpY]) rfl ⟨rfl,_,_,_,rfl⟩
theorem less_cmp (a b c d:Int):lessB c d a b=true↔0<cmpP a b c d:=by
 simp only [lessB,decide_eq_true_eq,cmpP,or2,cmp3];repeat' split
 all_goals omega
structure Br2 (w wx:World) (g b5 b6:Nat) (X Y Z T:Int):Prop where
 c0:At wx b5 0 (I X)
 c1:At wx b5 1 (I Y)
 d0:At wx b6 0 (I Z)
 d1:At wx b6 1 (I T)
 f0:Fn wx b5 0
 f1:Fn wx b5 1
 f2:Fn wx b6 0
 f3:Fn wx b6 1
 r0:At wx g 0 (I 0)
 r1:At wx g 1 (I 0)
 r2:At wx g 2 (I 0)
 r3:At wx g 3 (I 0)
 z0:Fn wx g 0
 z1:Fn wx g 1
 z2:Fn wx g 2
 z3:Fn wx g 3
 n1:b5≠b6
 n2:b5≠g
 n3:b6≠g
 h5:w.heap.size≤b5
 h6:w.heap.size≤b6
 hg:w.heap.size≤g
 bl:Bl w wx
theorem brought_any (p q r s a b c d u v:Int) (w:World) (hs:Sm a b c d) (G : -1000000≤u∧u≤1000000) (H : -1000000≤v∧v≤1000000) (h1 : -4000000≤p∧p≤4000000) (h2 : -4000000≤q∧q≤4000000) (h3 : -4000000≤r∧r≤4000000) (h4 : -4000000≤s∧s≤4000000) :
  Rt 103 #[.agg #[I p,I q,I r,I s],.agg #[I a,I b,I c,I d,I u,I v]] w (.agg #[I (bro (a,b,c,d,u,v) (p,q,r,s)).1,I (bro (a,b,c,d,u,v) (p,q,r,s)).2.1,I (bro (a,b,c,d,u,v) (p,q,r,s)).2.2.1,I (bro (a,b,c,d,u,v) (p,q,r,s)).2.2.2]):=by
 have B:=Hd (fun (V:World)=>moved_any a b c d u v p q V hs G H h1.1 h1.2 h2.1 h2.2);have C:=Hd (fun (V:World)=>moved_any a b c d u v r s V hs G H h3.1 h3.2 h4.1 h4.2);have t:=bro_or (a,b,c,d,u,v) p q r s;generalize bro (a,b,c,d,u,v) (p,q,r,s)=g at t ⊢;generalize mpX (a,b,c,d,u,v) p q=X at B t;generalize mpY (a,b,c,d,u,v) p q=Y at B t;generalize mpX (a,b,c,d,u,v) r s=Z at C t;generalize mpY (a,b,c,d,u,v) r s=T at C t;have E:=Hd t;clear t hs G H h1 h2 h3 h4;go_enter Tryz.func103,Tryz.ntmps103;go_upto_region 1 with fail
 go_cut [5,6] (fun s5 s6 wx=>∃ k l:Nat,s5=.pointer (Az k)∧s6=.pointer (Az l)∧Br2 w wx (w.heap.size+1+1) k l X Y Z T)
 case first =>
  go_region_held3 (fun w'=>(At w' w.heap.size 0 (I p)∧At w' w.heap.size 1 (I q)∧At w' w.heap.size 2 (I r)∧At w' w.heap.size 3 (I s))∧(At w' (w.heap.size+1) 0 (I a)∧At w' (w.heap.size+1) 1 (I b)∧At w' (w.heap.size+1) 2 (I c)∧At w' (w.heap.size+1) 3 (I d)∧At w' (w.heap.size+1) 4 (I u)∧At w' (w.heap.size+1) 5 (I v)))
   (simp [go_sem,Ca])
   (first | (go_at_call 141;(with_reducible refine (B.out _).mono ?_);rintro e w2 ⟨rfl,o3,o4,o5,rfl⟩) | (go_at_call 141;(with_reducible refine (C.out _).mono ?_);rintro e w2 ⟨rfl,o6,o7,o8,rfl⟩) | fail)
  all_goals
   go_wp2;go_meet
   case rel =>
    refine ⟨_,_,rfl,rfl, ?_⟩;constructor <;> first | (simp [go_sem,Ca];done) | (dsimp only;omega) | (simp;omega) | ((with_reducible repeat' (first | exact Qe _ | refine Qb ?_ | refine Qg ?_ | refine Qh ?_ ?_)) <;> (first | omega | (simp;done) | (simp;omega)))
 case rest =>
  obtain ⟨k,l,rfl,rfl,m⟩:=hcut;have i:=Hd m;have n1:=m.n1;have n2:=m.n2;have n3:=m.n3;have n4:w.heap.size+1+1≠k:=fun e=>n2 e.symm;have n5:w.heap.size+1+1≠l:=fun e=>n3 e.symm;have n6:l≠k:=fun e=>n1 e.symm;have m1:=Bt m.c0;have m2:=Bt m.d0;have m3:=Bt m.r0;have c0:=m.c0;have c1:=m.c1;have d0:=m.d0;have d1:=m.d1;have D:=Hd (fun (V:World)=>Ze X Y Z T V);clear m B C;rcases E.out with ⟨A,hg⟩ | ⟨A,hg⟩
  ·subst hg;have F:(0:Int)<cmpP X Y Z T:=(less_cmp _ _ _ _).1 A;clear E A;generalize cmpP X Y Z T=n at D F;go_wp2_with (go_at_call 112;(with_reducible refine (D.out _).mono ?_);rintro e j ⟨rfl,f⟩;have x:At j k 0 (I X):=Qa f i.out.c0;have J:At j k 1 (I Y):=Qa f i.out.c1;have y:At j l 0 (I Z):=Qa f i.out.d0;have K:At j l 1 (I T):=Qa f i.out.d1;have L:Fn j k 0:=(f.frozen θ).trans i.out.f0;have M:Fn j k 1:=(f.frozen θ).trans i.out.f1;have N:Fn j l 0:=(f.frozen θ).trans i.out.f2;have O:Fn j l 1:=(f.frozen θ).trans i.out.f3;have z:At j (w.heap.size+1+1) 0 (I 0):=Qa f i.out.r0;have P:At j (w.heap.size+1+1) 1 (I 0):=Qa f i.out.r1;have Q:At j (w.heap.size+1+1) 2 (I 0):=Qa f i.out.r2;have R:At j (w.heap.size+1+1) 3 (I 0):=Qa f i.out.r3;have U:Fn j (w.heap.size+1+1) 0:=(f.frozen θ).trans i.out.z0;have W:Fn j (w.heap.size+1+1) 1:=(f.frozen θ).trans i.out.z1;have a2:Fn j (w.heap.size+1+1) 2:=(f.frozen θ).trans i.out.z2;have a6:Fn j (w.heap.size+1+1) 3:=(f.frozen θ).trans i.out.z3;have l1:=Bt x;have l2:=Bt y;have l3:=Bt z;have o:=Hd (Qc i.out.bl f);clear f c0 c1 d0 d1)
   refine bodyPost_ret (v:=.agg #[I Z,I T,I X,I Y]) (by simp [results,Tryz.results103,go_sem, *]) rfl ⟨rfl, ?_⟩;have g1:=i.out.h5;have g2:=i.out.h6;have g3:=i.out.hg;with_reducible repeat' (first | exact o.out | refine Qb ?_ | refine Qh ?_ ?_)
   all_goals (first | assumption | (dsimp only;omega))
  ·subst hg;have F:¬ (0:Int)<cmpP X Y Z T:=fun h=>by rw [(less_cmp _ _ _ _).2 h] at A;cases A
   clear E A;generalize cmpP X Y Z T=n at D F;go_wp2_with (go_at_call 112;(with_reducible refine (D.out _).mono ?_);rintro e j ⟨rfl,f⟩;have x:At j k 0 (I X):=Qa f i.out.c0;have J:At j k 1 (I Y):=Qa f i.out.c1;have y:At j l 0 (I Z):=Qa f i.out.d0;have K:At j l 1 (I T):=Qa f i.out.d1;have L:Fn j k 0:=(f.frozen θ).trans i.out.f0;have M:Fn j k 1:=(f.frozen θ).trans i.out.f1;have N:Fn j l 0:=(f.frozen θ).trans i.out.f2;have O:Fn j l 1:=(f.frozen θ).trans i.out.f3;have z:At j (w.heap.size+1+1) 0 (I 0):=Qa f i.out.r0;have P:At j (w.heap.size+1+1) 1 (I 0):=Qa f i.out.r1;have Q:At j (w.heap.size+1+1) 2 (I 0):=Qa f i.out.r2;have R:At j (w.heap.size+1+1) 3 (I 0):=Qa f i.out.r3;have U:Fn j (w.heap.size+1+1) 0:=(f.frozen θ).trans i.out.z0;have W:Fn j (w.heap.size+1+1) 1:=(f.frozen θ).trans i.out.z1;have a2:Fn j (w.heap.size+1+1) 2:=(f.frozen θ).trans i.out.z2;have a6:Fn j (w.heap.size+1+1) 3:=(f.frozen θ).trans i.out.z3;have l1:=Bt x;have l2:=Bt y;have l3:=Bt z;have o:=Hd (Qc i.out.bl f);clear f c0 c1 d0 d1)
   refine bodyPost_ret (v:=.agg #[I X,I Y,I Z,I T]) (by simp [results,Tryz.results103,go_sem, *]) rfl ⟨rfl, ?_⟩;have g1:=i.out.h5;have g2:=i.out.h6;have g3:=i.out.hg;with_reducible repeat' (first | exact o.out | refine Qb ?_ | refine Qh ?_ ?_)
   all_goals (first | assumption | (dsimp only;omega))
open Go.ChangeMaps
def YRow (w:World) (g n:Nat) (f:Nat→Bool):Prop := ∀ i,i<n→At w g i (.bool (f i))∧Fn w g i
theorem YRow.kept (h:YRow w g n f) (hb:Bl w w'):YRow w' g n f:=fun i hi =>
 ⟨Qa hb (h i hi).1,frozen_kept hb (h i hi).1 (h i hi).2⟩
theorem YRow.set {j:Nat} {b:Bool} {a:Nat→Bool} (h:YRow w g n f) (c:a j=b) (d:∀ i,i<n→i≠j→a i=f i):YRow (w.setCell ⟨g,j,none⟩ (.bool b)) g n a:=fun i hi=>by
 refine ⟨?_,by (try simp only [Fn]);rw [Fz];exact (h i hi).2⟩;by_cases e:i=j
 ·subst e;(try simp only [At]);rw [Cs _ _ _ (h i hi).1,c]
 ·(try simp only [At]);rw [Co _ _ _ _ π,(h i hi).1,d i hi e]
theorem YRow.far {p:Addr} {u:Value} (h:YRow w g n f) (a:g≠p.block):YRow (w.setCell p u) g n f:=fun i hi =>
 ⟨fd_far (h i hi).1 a,by (try simp only [Fn]);rw [Fz];exact (h i hi).2⟩
theorem ZRow.far {f:Nat→Int} {p:Addr} {u:Value} (h:ZRow w g n f) (a:g≠p.block):ZRow (w.setCell p u) g n f:=fun i hi =>
 ⟨fd_far (h i hi).1 a,by (try simp only [Fn]);rw [Fz];exact (h i hi).2⟩
theorem yes_made {base:Nat} (h:w.ownsRow base 4 1 (.slice (Az g) n n) n (madeCells #[.bool false] n).toList):YRow w g n (fun _=>false):=fun i hi=>by
 have h0:(madeCells #[Value.bool false] n).toList[i]?=some (.bool false):=by
  rw [Array.getElem?_toList];unfold madeCells;have:i % 1=0:=γ;simp [hi,this]
 refine ⟨by simpa using (h.cellAt i γ).trans h0, ?_⟩;rcases h.2 with ⟨e1,_⟩ | ⟨b,a,c,e1,_,hb,_⟩
 ·simp at e1
 ·simp only [Value.slice.injEq,Option.some.injEq,Addr.mk.injEq] at e1;obtain ⟨⟨rfl,_⟩,_⟩:=e1;simp [World.frozen?,hb]
theorem infB:(Tryz.prog.info? 4).map (fun i=>(i.zero,i.size,i.bytes))=some (some (.bool false),1,1):=η
def cms (part:Nat→Int) (hl:List Nat) (j q:Nat):Bool:=(hl.take j).any fun x=>decide (part x=(q:Int))
theorem cms_no (part:Nat→Int) (hl:List Nat) (q:Nat):cms part hl 0 q=false:=by simp [cms]
theorem cms_one {part:Nat→Int} {hl:List Nat} {j:Nat} (h:j<hl.length) (q:Nat):cms part hl (j+1) q=(cms part hl j q || decide (part hl[j]=(q:Int))):=by
 unfold cms;have e:hl.take (j+1)=hl.take j ++ [hl[j]]:=by first | exact (List.take_append_getElem h).symm | exact (List.take_concat_get' _ _ h).symm | exact List.take_succ_eq_append_getElem h
 rw [e,List.any_append];simp
theorem cms_all {part:Nat→Int} {hl:List Nat} (q:Nat):cms part hl hl.length q=hl.any fun x=>decide (part x=(q:Int)):=by simp [cms]
def NumR (w:World) (a:Option Addr) (l:List Nat):Prop := ∀ j (h:j<l.length),∃ g,a=Az g∧At w g j (I (l[j]:Int))
theorem NumR.kept {a:Option Addr} {l:List Nat} (h:NumR w a l) (hb:Bl w w'):NumR w' a l:=fun j b=>by
 obtain ⟨g,e,h1⟩:=h j b;exact ⟨g,e,Qa hb h1⟩
theorem alongF_any (t a k pl O sd ov ly R T P mv:Value) (V n U hc:Nat) (hp:Option Addr) (wy c:Int) (hl:List Nat) (Q:(Nat→Int)→Prop) (w:World) (D:0<n) (hn:n≤300) (ag:hl.length≤300)
  (hH:NumR w hp hl) (a7:∀ j (h:j<hl.length),hl[j]<n) (hQ:∀ part,Q part→∀ i,i<n→0≤part i∧part i<(n:Int))
  (W:Cl 46 #[.agg #[t,a,k],.func (.func 69) #[] #[.pointer (Az w.heap.size)]] (w.alloc (.cells #[t,a,k,.slice (Az V) n U,pl,O,I wy,I c,sd,ov,ly,R,T,P,mv] 66)) fun e w'=>∃ g part,e=.returned (.slice (Az g) n n)∧ZRow w' g n part∧Q part∧(w.alloc (.cells #[t,a,k,.slice (Az V) n U,pl,O,I wy,I c,sd,ov,ly,R,T,P,mv] 66)).heap.size≤g∧Below (w.alloc (.cells #[t,a,k,.slice (Az V) n U,pl,O,I wy,I c,sd,ov,ly,R,T,P,mv] 66)).heap.size (w.alloc (.cells #[t,a,k,.slice (Az V) n U,pl,O,I wy,I c,sd,ov,ly,R,T,P,mv] 66)) w') :
  Cl 27 #[.agg #[t,a,k,.slice (Az V) n U,pl,O,I wy,I c,sd,ov,ly,R,T,P,mv],.slice hp hl.length hc] w fun e w'=>∃ g part,e=.returned (.slice (Az g) n n)∧YRow w' g n (fun i=>hl.any fun x=>decide (part x=part i))∧Q part∧w.heap.size≤g∧Bl w w':=by
 obtain ⟨i4,a6,G,H,J⟩:=info_parts infB;have l:=H4 a6 G H J;have aa:=Hd W;have HH:Hid (NumR w hp hl∧(∀ j (h:j<hl.length),hl[j]<n)∧∀ part,Q part→∀ i,i<n→0≤part i∧part i<(n:Int)):=⟨hH,a7,hQ⟩;clear a6 G H J W hH a7 hQ;go_enter Tryz.func27,Tryz.ntmps27;go_upto_region 2 with (go_at_call 46;refine aa.out.mono ?_;rintro e w1 ⟨g,part,rfl,E,hq,hg,hb⟩;have p:=H4 E hq (Nt (Qb (Qe w)).size hg) (Qc β1 hb);clear E hq hg hb)
 go_wp2_with (at_make;refine wpList_make_full _ rfl (.tmp 18) (.tmp 18) 64 rfl w1.heap.size 4 i4 (.bool false) 1 Tryz.underlying64 l.out.1 l.out.2.1 l.out.2.2.1 .i64 .i64 _ _ n rfl rfl rfl rfl ?b2 ?b3 ?b4 ?mk)
 case b2 =>
  rw [l.out.2.2.2];omega
 case b3 =>
  unfold maxLen;omega
 case b4=>exact Nr _
 case mk =>
  intro w2 ho hg;have f:=yes_made (by simpa using ho);have a8:w1.heap.size<w2.heap.size:=bk (f 0 D).1;have y:Bl w1 w2:=(Below.refl _ _).grown hg (Nr _) (fun k h=>by cases h);obtain ⟨r,L⟩:∃ q,q=w1.heap.size:=⟨_,rfl⟩;have N:g<w1.heap.size:=bk (p.out.1 0 D).1
  have C:Hid (YRow w2 r n (cms part hl 0)∧ZRow w2 g n part∧Bl w w2):=by
   refine ⟨?_,p.out.1.kept y,Qc p.out.2.2.2 y⟩;rw [L];have e:cms part hl 0=fun _=>false:=funext (cms_no part hl);rw [e];exact f
  have s:Hid (Q part∧g≠r∧w.heap.size≤r∧w.heap.size≤g):=⟨p.out.2.1,γ,by have:=p.out.2.2.2.size;omega,p.out.2.2.1⟩;rw [← L];clear ho hg f y a8 N L;go_wp2;go_loopg [8,22] hl.length (fun gk s8 ae K=>∃ j:Nat,j≤hl.length∧gk=hl.length - j∧ae=I (j:Int)∧YRow K r n (cms part hl j)∧ZRow K g n part∧Bl w K)
  case atStart=>exact ⟨0,γ,rfl,rfl,C.out.1,C.out.2.1,C.out.2.2⟩
  case round =>
   clear C;obtain ⟨j,hj,rfl,rfl,Y,Z,X⟩:=hrel;have o:=H3 Y Z X;clear Y Z X;by_cases h1:j<hl.length
   ·have j1:(j:Int)<(hl.length:Int):=γ;have j0:(0:Int)≤(j:Int):=γ;obtain ⟨gh,ac,c0⟩:=(HH.out.1.kept o.out.2.2) j h1;subst ac;have hx:=HH.out.2.1 j h1;have d:=HH.out.2.2 part s.out.1 hl[j] hx;have e1:=cms_one (part:=part) h1;generalize hl[j]=x at c0 hx d e1;have c1:=(o.out.2.1 x hx).1;obtain ⟨z,E⟩:∃ z:Nat,part x=(z:Int):=⟨(part x).toNat,γ⟩;rw [E] at c1 d e1;have z0:(0:Int)≤(z:Int):=d.1;have z1:(z:Int)<(n:Int):=d.2;have z2:z<n:=γ;have x0:(0:Int)≤(x:Int):=γ;have x1:(x:Int)<(n:Int):=γ;have y0:=(o.out.1 z z2).1;have y1:=(o.out.1 z z2).2
    have F:Hid (YRow (wr.setCell ⟨r,z,none⟩ (.bool true)) r n (cms part hl (j+1))∧ZRow (wr.setCell ⟨r,z,none⟩ (.bool true)) g n part∧Bl w (wr.setCell ⟨r,z,none⟩ (.bool true))):=by
     refine ⟨o.out.1.set (by rw [e1];simp) (fun i hi ad=>by rw [e1];simp;omega),o.out.2.1.far s.out.2.1,Qh o.out.2.2 s.out.2.2.1⟩
    clear e1 E d;go_wp2;go_roundg (hl.length - (j+1))
    case measure=>omega
    case rel=>exact ⟨j+1,γ,rfl,σ,F.out.1,F.out.2.1,F.out.2.2⟩
   ·have j1:¬ (j:Int)<(hl.length:Int):=γ;obtain rfl:j=hl.length:=γ;go_wp2_with (at_make;refine wpList_make_full _ rfl (.tmp 34) (.tmp 34) 64 rfl wr.heap.size 4 i4 (.bool false) 1 Tryz.underlying64 l.out.1 l.out.2.1 l.out.2.2.1 .i64 .i64 _ _ n rfl rfl rfl rfl ?d2 ?d3 ?d4 ?mk2)
    case d2 =>
     rw [l.out.2.2.2];omega
    case d3 =>
     unfold maxLen;omega
    case mk2 =>
     intro w3 ho hg;have f:=yes_made (by simpa using ho);have m:Bl wr w3:=(Below.refl _ _).grown hg (Nr _) (fun k h=>by cases h);obtain ⟨v,M⟩:∃ q,q=wr.heap.size:=⟨_,rfl⟩;have a2:r<wr.heap.size:=bk (o.out.1 0 D).1;have N:g<wr.heap.size:=bk (o.out.2.1 0 D).1;have u:Hid (YRow w3 v n (fun _=>false)∧YRow w3 r n (cms part hl hl.length)∧ZRow w3 g n part∧Bl w w3):=⟨by rw [M];exact f,o.out.1.kept m,o.out.2.1.kept m,Qc o.out.2.2 m⟩;have B:Hid (v≠r∧v≠g∧w.heap.size≤v):=⟨γ,γ,by have:=o.out.2.2.size;omega⟩;rw [← M];clear ho hg f m a2 N M;go_wp2;go_loopg [10,11,38] n (fun gk ah ai af K=>∃ i:Nat,i≤n∧gk=n - i∧af=I (i:Int)∧YRow K v n (fun q=>decide (q<i) && hl.any fun x=>decide (part x=part q))∧YRow K r n (cms part hl hl.length)∧ZRow K g n part∧Bl w K)
     case atStart=>exact ⟨0,γ,rfl,rfl,by simpa using u.out.1,u.out.2.1,u.out.2.2.1,u.out.2.2.2⟩
     case round =>
      clear u;obtain ⟨i,hi,rfl,rfl,hV,Y,Z,X⟩:=hrel;have A:=H4 hV Y Z X;clear hV Y Z X;by_cases h2:i<n
      ·have i1:(i:Int)<(n:Int):=γ;have i0:(0:Int)≤(i:Int):=γ;have c1:=(A.out.2.2.1 i h2).1;have d:=HH.out.2.2 part s.out.1 i h2;obtain ⟨z,E⟩:∃ z:Nat,part i=(z:Int):=⟨(part i).toNat,γ⟩;rw [E] at c1 d;have z0:(0:Int)≤(z:Int):=d.1;have z1:(z:Int)<(n:Int):=d.2;have z2:z<n:=γ;have y0:=(A.out.2.1 z z2).1;rw [cms_all] at y0;have HE:Hid ((hl.any fun x=>decide (part x=part i))=hl.any fun x=>decide (part x=(z:Int))):=by rw [E];exact rfl
       generalize (hl.any fun x=>decide (part x=(z:Int)))=b at y0 HE;have v0:=(A.out.1 i h2).1;have v1:=(A.out.1 i h2).2
       have F:Hid (YRow (wr.setCell ⟨v,i,none⟩ (.bool b)) v n (fun q=>decide (q<i+1) && hl.any fun x=>decide (part x=part q))∧YRow (wr.setCell ⟨v,i,none⟩ (.bool b)) r n (cms part hl hl.length)∧ZRow (wr.setCell ⟨v,i,none⟩ (.bool b)) g n part∧Bl w (wr.setCell ⟨v,i,none⟩ (.bool b))):=by
        refine ⟨A.out.1.set (by simp only [HE.out];simp) (fun q hq ad=>?_),A.out.2.1.far B.out.1.symm,A.out.2.2.1.far B.out.2.1.symm,Qh A.out.2.2.2 B.out.2.2⟩;have:(decide (q<i+1))=decide (q<i):=decide_eq_decide.mpr γ;rw [this]
       clear E d HE;go_wp2;go_roundg (n - (i+1))
       case measure=>omega
       case rel=>exact ⟨i+1,γ,rfl,σ,F.out.1,F.out.2.1,F.out.2.2.1,F.out.2.2.2⟩
      ·have i1:¬ (i:Int)<(n:Int):=γ;obtain rfl:i=n:=γ;go_wp2;go_ret;refine ⟨v,rfl,part,fun q hq=>?_,s.out.1,B.out.2.2,A.out.2.2.2⟩;have:=A.out.1 q hq;simpa [hq] using this
theorem JW.not_seam {base b2:Nat} {a:Option Addr} {l:List (E4×Int)} {v:Value} {k:List Value} (h:JW w base a l) (j:w.ownsRow b2 142 5 v n k):∀ g,v.ownBlock=some g→a≠Az g:=fun g hg i=>by
 obtain ⟨_,f,h2⟩:=h.2 g i;rcases j.2 with ⟨rfl,_⟩ | ⟨b,e,d,rfl,_,c,_⟩
 ·simp [Value.ownBlock] at hg
 ·obtain rfl:b=g:=by simpa [Value.ownBlock] using hg
  rw [h2] at c;simp at c
theorem infSm:(Tryz.prog.info? 142).map (fun i=>(i.zero,i.size,i.bytes))=some (some (.agg #[I 0,I 0,I 0,I 0,I 0]),5,40):=η
def smB (mw:Nat→Bool) (q:Nat) (j:E4×Int):Bool:=mw q && !mw j.2.toNat
def smL (mw:Nat→Bool) (js:Nat→List (E4×Int)) (i:Nat):List (E4×Int):=(List.range i).flatMap fun q=>(js q).filter (smB mw q)
def smJ (mw:Nat→Bool) (js:Nat→List (E4×Int)) (i m:Nat):List (E4×Int):=smL mw js i ++ ((js i).take m).filter (smB mw i)
theorem smJ_zero (mw:Nat→Bool) (js:Nat→List (E4×Int)) (i:Nat):smJ mw js i 0=smL mw js i:=by simp [smJ]
theorem smJ_all (mw:Nat→Bool) (js:Nat→List (E4×Int)) (i:Nat):smJ mw js i (js i).length=smL mw js (i+1):=by simp [smJ,smL,List.range_succ]
theorem smJ_one (mw:Nat→Bool) (js:Nat→List (E4×Int)) (i m:Nat) (h:m<(js i).length):smJ mw js i (m+1)=smJ mw js i m ++ (if smB mw i (js i)[m]=true then [(js i)[m]] else []):=by
 unfold smJ;have e:(js i).take (m+1)=(js i).take m ++ [(js i)[m]]:=by first | exact (List.take_append_getElem h).symm | exact (List.take_concat_get' _ _ h).symm | exact List.take_succ_eq_append_getElem h
 rw [e,List.filter_append,List.append_assoc];congr 2
 by_cases c:smB mw i (js i)[m]=true
 ·simp [c]
 ·simp [c]
theorem smL_len {mw:Nat→Bool} {js:Nat→List (E4×Int)} (h3:∀ i,(js i).length≤3):∀ i,(smL mw js i).length≤3*i:=by
 intro i;induction i with
 | zero=>simp [smL]
 | succ i ih =>
  rw [← smJ_all];unfold smJ;rw [List.length_append];have:=List.length_filter_le (smB mw i) ((js i).take (js i).length);have b:=h3 i;have a:((js i).take (js i).length).length=(js i).length:=ξ;omega
theorem smJ_len {mw:Nat→Bool} {js:Nat→List (E4×Int)} (h3:∀ i,(js i).length≤3) (i m:Nat):(smJ mw js i m).length≤3*i+3:=by
 unfold smJ;rw [List.length_append];have h1:=smL_len (mw:=mw) h3 i;have h2:=List.length_filter_le (smB mw i) ((js i).take m);have h4:((js i).take m).length≤(js i).length:=ω;have h5:=h3 i;omega
def HB4 (w:World) (b:Nat) (t a k:Value) (gv n:Nat):Prop:=At w b 0 t∧At w b 1 a∧At w b 2 k∧At w b 14 (.slice (Az gv) n n)
theorem HB4.kept {b c:Nat} {t a k:Value} (h:HB4 w b t a k c n) (hb:Bl w w'):HB4 w' b t a k c n:=⟨Qa hb h.1,Qa hb h.2.1,Qa hb h.2.2.1,Qa hb h.2.2.2⟩
theorem HB4.grown {b d:Nat} {t a k:Value} {row:Option Nat} (h:HB4 w b t a k d n) (hg:w.grownBy w' row) (c:some b≠row):HB4 w' b t a k d n:=⟨hg.cell h.1 c,hg.cell h.2.1 c,hg.cell h.2.2.1 c,hg.cell h.2.2.2 c⟩
theorem YRow.grown {row:Option Nat} (h:YRow w g n f) (hg:w.grownBy w' row) (b:some g≠row):YRow w' g n f:=fun i hi =>
 ⟨hg.cell (h i hi).1 b,(Fo (a:=⟨g,i,none⟩) (hg.block g (bk (h i hi).1) b)).trans (h i hi).2⟩
theorem seams_any (t a k m pl O wy c sd ov ly Q R P:Value) (g n:Nat) (mw:Nat→Bool) (js:Nat→List (E4×Int)) (w:World) (hn:n≤300) (hM:YRow w g n mw) (ah:g<w.heap.size) (h3:∀ i,(js i).length≤3) (Z:∀ i,i<n→∀ j∈js i,0≤j.2∧j.2<(n:Int))
  (F:∀ (V:World) (i:Nat),Bl w V→i<n→Cl 102 #[.agg #[t,a,k],I (i:Int)] V fun e w'=>∃ v,e=.returned v∧w'.ownsRow V.heap.size 105 5 v (js i).length (flatJ (js i))∧Bl V w') :
  Cl 75 #[.agg #[t,a,k,m,pl,O,wy,c,sd,ov,ly,Q,R,P,.slice (Az g) n n]] w fun e w'=>∃ v,e=.returned v∧w'.ownsRow w.heap.size 142 5 v (smL mw js n).length (flatJ (smL mw js n))∧Bl w w':=by
 obtain ⟨i5,X,a2,a6,a7⟩:=info_parts infSm;have HI:=H4 X a2 a6 a7;have M:=Hd F;have HH:Hid ((∀ i,(js i).length≤3)∧∀ i,i<n→∀ j∈js i,0≤j.2∧j.2<(n:Int)):=⟨h3,Z⟩
 have H0:Hid ((w.alloc (.cells #[t,a,k,m,pl,O,wy,c,sd,ov,ly,Q,R,P,.slice (Az g) n n] 66)).ownsRow (w.heap.size+1) 142 5 SN (smL mw js 0).length (flatJ (smL mw js 0))∧HB4 (w.alloc (.cells #[t,a,k,m,pl,O,wy,c,sd,ov,ly,Q,R,P,.slice (Az g) n n] 66)) w.heap.size t a k g n∧YRow (w.alloc (.cells #[t,a,k,m,pl,O,wy,c,sd,ov,ly,Q,R,P,.slice (Az g) n n] 66)) g n mw∧Bl w (w.alloc (.cells #[t,a,k,m,pl,O,wy,c,sd,ov,ly,Q,R,P,.slice (Az g) n n] 66))):=by
  refine ⟨by simpa [smL,flatJ] using World.ownsRow_nil _ _ _ _,by simp [HB4,go_sem],hM.kept β1,Qb (Qe _)⟩
 clear X a2 a6 a7 F h3 Z hM;go_enter Tryz.func75,Tryz.ntmps75;go_wp2;go_loopg [3,4,5,7,11] n (fun gk s3 s4 s5 s7 ad s=>∃ i:Nat,i≤n∧gk=n - i∧ad=I (i:Int)∧s.ownsRow (w.heap.size+1) 142 5 s3 (smL mw js i).length (flatJ (smL mw js i))∧HB4 s w.heap.size t a k g n∧YRow s g n mw∧Bl w s)
 case atStart=>exact ⟨0,γ,rfl,rfl,H0.out⟩
 case round =>
  clear H0;obtain ⟨i,hi,rfl,rfl,hR⟩:=hrel;obtain ⟨va,aa⟩:∃ x,x=u3:=⟨_,rfl⟩;subst aa;have p:=Hd hR;clear hR;by_cases h1:i<n
  ·have i1:(i:Int)<(n:Int):=γ;have i0:(0:Int)≤(i:Int):=γ;obtain ⟨k0,k1,k2,K⟩:=p.out.2.1;have y0:=(p.out.2.2.1 i h1).1;obtain ⟨bi,J⟩:∃ b,b=mw i:=⟨_,rfl⟩;rw [← J] at y0;have N:=Hd J;clear J;go_wp2_with (go_at_call 102;refine (M.out _ i p.out.2.2.2 h1).mono ?_;rintro e w5 ⟨vj,rfl,ho,hb⟩;obtain ⟨ja,jc,rfl,U⟩:=own_jw ho;have L:Hid (w5.ownsRow (w.heap.size+1) 142 5 va (smJ mw js i 0).length (flatJ (smJ mw js i 0))∧HB4 w5 w.heap.size t a k g n∧YRow w5 g n mw∧Bl w w5∧JW w5 0 ja (js i)):=(by rw [smJ_zero];exact ⟨Qj p.out.1 hb,p.out.2.1.kept hb,p.out.2.2.1.kept hb,Qc p.out.2.2.2 hb,U.mono (Nat.zero_le _)⟩);clear ho hb U)
   go_loopg [3,7,22] (js i).length (fun gk s3 s7 ae s=>∃ q:Nat,q≤(js i).length∧gk=(js i).length - q∧ae=I (q:Int)∧(s.ownsRow (w.heap.size+1) 142 5 s3 (smJ mw js i q).length (flatJ (smJ mw js i q))∧HB4 s w.heap.size t a k g n∧YRow s g n mw∧Bl w s)∧JW s 0 ja (js i))
   case atStart=>exact ⟨0,γ,rfl,rfl,⟨L.out.1,L.out.2.1,L.out.2.2.1,L.out.2.2.2.1⟩,L.out.2.2.2.2⟩
   case round =>
    clear L p k0 k1 k2 K y0;obtain ⟨q,hq,rfl,rfl,W,T⟩:=hrel;obtain ⟨vb,ac⟩:∃ x,x=u3:=⟨_,rfl⟩;subst ac;have d:=H2 W T;clear W T;by_cases h2:q<(js i).length
    ·have af:=HH.out.1 i;have q1:(q:Int)<((js i).length:Int):=γ;have q0:(0:Int)≤(q:Int):=γ;obtain ⟨gj,a8,c0,c1,c2,c3,c4⟩:=d.out.2.1 q h2;subst a8;have y:=HH.out.2 i h1 _ (Lm h2);have e1:=smJ_one mw js i q h2;have ag:=smJ_len (mw:=mw) HH.out.1 i q;generalize (js i)[q]=u at c0 c1 c2 c3 c4 y e1;obtain ⟨⟨A,B,C,E⟩,z9⟩:=u;dsimp only at c0 c1 c2 c3 c4 y e1;obtain ⟨z,rfl⟩:∃ z:Nat,z9=(z:Int):=⟨z9.toNat,γ⟩;have z0:(0:Int)≤(z:Int):=y.1;have z1:(z:Int)<(n:Int):=y.2;have y1:=(d.out.1.2.2.1 z γ).1;have K:=d.out.1.2.1.2.2.2;have zw:=Bt K;have zv:g<wr.heap.size:=γ;have aj:w.heap.size<wr.heap.size+1:=γ;have ai:g<wr.heap.size+1:=γ;have zj:=Bt c0
     cases bi with
     | false =>
      have o:mw i=false:=N.out.symm;have h:smJ mw js i (q+1)=smJ mw js i q:=by rw [e1];simp [smB,o]
      have H:=Hd h;clear h;clear e1 o;go_wp2;go_roundg ((js i).length - (q+1))
      case measure=>omega
      case rel=>exact ⟨q+1,γ,rfl,σ,by rw [H.out];exact ⟨Qj d.out.1.1 β1,d.out.1.2.1.kept β1,d.out.1.2.2.1.kept β1,Qb d.out.1.2.2.2⟩,d.out.2.kept β1⟩
     | true =>
      have o:mw i=true:=N.out.symm
      cases hmz:mw z with
      | true =>
       have h:smJ mw js i (q+1)=smJ mw js i q:=by rw [e1];simp [smB,hmz]
       have H:=Hd h;clear h;rw [hmz] at y1;clear e1 o hmz;go_wp2;go_roundg ((js i).length - (q+1))
       case measure=>omega
       case rel=>exact ⟨q+1,γ,rfl,σ,by rw [H.out];exact ⟨Qj d.out.1.1 β1,d.out.1.2.1.kept β1,d.out.1.2.2.1.kept β1,Qb d.out.1.2.2.2⟩,d.out.2.kept β1⟩
      | false =>
       have h:smJ mw js i (q+1)=smJ mw js i q ++ [((A,B,C,E),(z:Int))]:=by rw [e1];simp [smB,o,hmz]
       have H:=Hd h;clear h;rw [hmz] at y1;clear e1 o hmz;go_wp2_with (at_builtin;refine wpList_append_own _ rfl (.tmp 36) (.tmp 42) 140 rfl (w.heap.size+1) 142 i5 (.agg #[I 0,I 0,I 0,I 0,I 0]) 5 40 Tryz.underlying140 HI.out.1 HI.out.2.1 HI.out.2.2.1 HI.out.2.2.2 rfl ψ vb (smJ mw js i q).length (flatJ (smJ mw js i q)) rfl ?own ⟨wr.heap.size+1,0,none⟩ 1 1 [I A,I B,I C,I E,I (z:Int)] rfl rfl ?c1 ?c2 ?b1 ?b2 ?b3 ?grow)
       case own=>exact Qj d.out.1.1 β2
       case c1 =>
        intro j u hu;have:=Um (wr.alloc (.cells #[I A,I B,I C,I E,I (z:Int)] 105)) 142 A B C E (z:Int) j u hu;simpa using this
       case c2 =>
        intro u hu;simp at hu;rcases hu with rfl | rfl | rfl | rfl | rfl <;> rfl
       case b1 =>
        unfold maxLen;omega
       case b2=>omega
       case b3 =>
        simp;omega
       case grow =>
        intro v' w3 G f Y;have l:Bl wr ((wr.alloc (.cells #[I A,I B,I C,I E,I (z:Int)] 105)).alloc (.cells #[I A,I B,I C,I E,I (z:Int)] 142)):=Qb β1;have D:∀ r,vb.ownBlock=some r→w.heap.size+1≤r:=Qw d.out.1.1
        have HN:Hid ((w3.ownsRow (w.heap.size+1) 142 5 v' (smJ mw js i (q+1)).length (flatJ (smJ mw js i (q+1)))∧HB4 w3 w.heap.size t a k g n∧YRow w3 g n mw∧Bl w w3)∧JW w3 0 (Az gj) (js i)):=by
         rw [H.out];refine ⟨⟨?_,(d.out.1.2.1.kept l).grown f (fun he=>by have:=D _ he.symm;omega),(d.out.1.2.2.1.kept l).grown f (fun he=>by have:=D _ he.symm;omega), ?_⟩,(d.out.2.kept l).grown f (d.out.2.not_seam d.out.1.1)⟩
         ·simpa [flatJ] using G
         ·exact (Qc d.out.1.2.2.2 l).grown f (Qc d.out.1.2.2.2 l).size (fun r e=>by have:=D r e;omega)
        clear G f Y l D;go_wp2;go_roundg ((js i).length - (q+1))
        case measure=>omega
        case rel=>exact ⟨q+1,γ,rfl,σ,HN.out.1,HN.out.2⟩
    ·have q1:¬ (q:Int)<((js i).length:Int):=γ;obtain rfl:q=(js i).length:=γ;have H:=smJ_all mw js i;go_wp2;go_roundg (n - (i+1))
     case measure=>omega
     case rel=>exact ⟨i+1,γ,rfl,σ,by rw [← H];exact d.out.1⟩
  ·have i1:¬ (i:Int)<(n:Int):=γ;obtain rfl:i=n:=γ;go_wp2;go_ret;exact ⟨va,rfl,own_lower p.out.1 γ,p.out.2.2.2⟩
def hasB9 (f:Nat→Bool) (b:Bool) (i:Nat):Bool:=(List.range i).any fun q=>b == f q
theorem hasB9_one (f:Nat→Bool) (b:Bool) (i:Nat):hasB9 f b (i+1)=(hasB9 f b i || (b == f i)):=by
 unfold hasB9;rw [List.range_succ,List.any_append];simp
theorem hasB9_in {b:Bool} {i:Nat} (h:i<n) (a:(b == f i)=true):hasB9 f b n=true:=by
 unfold hasB9;exact List.any_eq_true.mpr ⟨i,List.mem_range.mpr h,a⟩
theorem indexBool_any (g n:Nat) (f:Nat→Bool) (b:Bool) (w:World) (s:n≤1000) (j:YRow w g n f) :
  Cl 71 #[.slice (Az g) n n,.bool b] w fun e w'=>∃ r:Int,e=.returned (I r)∧decide (0≤r)=hasB9 f b n∧Bl w w':=by
 have l:=Hd j;clear j;go_enter Tryz.func71,Tryz.ntmps71;go_wp2;go_loopg [5,8] n (fun m x p q=>∃ i:Nat,i≤n∧m=n - i∧p=I (i:Int)∧hasB9 f b i=false∧Bl w q)
 case atStart=>exact ⟨0,γ,rfl,rfl,by simp [hasB9],Qe _⟩
 case round =>
  obtain ⟨i,hi,rfl,rfl,k,d⟩:=hrel;have a:=H2 k d;clear k d;by_cases h1:i<n
  ·have o:(i:Int)<(n:Int):=γ;have t:(0:Int)≤(i:Int):=γ;have c0:=((l.out.kept a.out.2) i h1).1;have e1:=hasB9_one f b i;have e2:=hasB9_in (f:=f) (b:=b) h1;generalize f i=u at c0 e1 e2;by_cases hu:b=u
   ·subst hu;have c:Hid (hasB9 f b n=true):=e2 ξ;clear e1 e2;go_wp2;refine bodyPost_ret (v:=I (i:Int)) (by simp [results,Tryz.results71,go_sem]) rfl ⟨(i:Int),rfl, ?_,a.out.2⟩;rw [c.out];simp
   ·have hb:(b == u)=false:=by simpa using hu
    have c:Hid (hasB9 f b (i+1)=false):=(by have h:hasB9 f b (i+1)=false:=(by rw [e1,a.out.1,hb];rfl);exact h);clear e1 e2;go_wp2;go_roundg (n - (i+1))
    case measure=>omega
    case rel=>exact ⟨i+1,γ,rfl,σ,c.out,a.out.2⟩
  ·have o:¬ (i:Int)<(n:Int):=γ;obtain rfl:i=n:=γ;go_wp2;refine bodyPost_ret (v:=I (-1)) (by simp [results,Tryz.results71,go_sem]) rfl ⟨-1,rfl, ?_,a.out.2⟩;rw [a.out.1];rfl
theorem hasBool_any (g n:Nat) (f:Nat→Bool) (b:Bool) (w:World) (h:n≤1000) (d:YRow w g n f) :
  Rt 28 #[.slice (Az g) n n,.bool b] w (.bool (hasB9 f b n)):=by
 have a:=Hd (indexBool_any g n f b w h d);clear d;go_enter Tryz.func28,Tryz.ntmps28;go_wp2_with (go_at_call 71;refine a.out.mono ?_;rintro e i ⟨r,rfl,hr,hb⟩;have c:=H2 hr hb;clear hr hb)
 refine bodyPost_ret (v:=.bool (decide (0≤r))) (by simp [results,Tryz.results28,go_sem]) rfl ⟨by rw [c.out.1],c.out.2⟩
end Go.Proofs.YtjkjpopghkeibaaGreatDoor
