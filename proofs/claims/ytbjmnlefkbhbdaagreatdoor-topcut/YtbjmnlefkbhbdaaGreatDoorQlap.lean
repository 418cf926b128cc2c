/- A part of it. -/
import Derived.Test.YtbjmnlefkbhbdaaGreatDoorQlam
import Derived.Shelf.Sort.Plain
import Derived.Shelf.Slices.CompactI
set_option maxRecDepth 100000
set_option maxHeartbeats 40000000
namespace Go.Proofs.YtbjmnlefkbhbdaaGreatDoor
open Go.RowKit
theorem moved_any (a b c d u v x y:Int) (w:World) (hs:Sm a b c d) (f : -1000000≤u∧u≤1000000) (g : -1000000≤v∧v≤1000000) (h1 : -4000000≤x) (h2:x≤4000000) (h3 : -4000000≤y) (h4:y≤4000000) :
  Cl 177 #[.agg #[I x,I y],.agg #[I a,I b,I c,I d,I u,I v]] w fun r w'=>r=.returned (.agg #[I (mpX (a,b,c,d,u,v) x y),I (mpY (a,b,c,d,u,v) x y)])∧∃ o1 o2 o3,w'=((w.alloc o1).alloc o2).alloc o3:=by
 obtain ⟨⟨a1,e⟩,⟨b1,b2⟩,⟨c1,c2⟩,⟨d1,d2⟩⟩:=hs;obtain ⟨h,i⟩:=Yq a1 e h1 h2;obtain ⟨j,k⟩:=Yq b1 b2 h3 h4;obtain ⟨l,m⟩:=Yq c1 c2 h1 h2;obtain ⟨n,o⟩:=Yq d1 d2 h3 h4;obtain ⟨e1,e2⟩:=f;obtain ⟨f1,f2⟩:=g;go_enter Tryz.func177,Tryz.ntmps177;go_wp2;exact bodyPost_ret (v:=.agg #[I (mpX (a,b,c,d,u,v) x y),I (mpY (a,b,c,d,u,v) x y)]) (by simp [results,Tryz.results177,go_sem,mpX,mpY]) rfl ⟨rfl,_,_,_,rfl⟩
theorem less_cmp (a b c d:Int):lessB c d a b=true↔0<cmpP a b c d:=by
 simp only [lessB,decide_eq_true_eq,cmpP,or2,cmp3];repeat' split
 all_goals omega
structure Br2 (w wx:World) (g b5 b6:Nat) (X Y Z T:Int):Prop where
 c0:At wx b5 0 (I X)
 c1:At wx b5 1 (I Y)
 d0:At wx b6 0 (I Z)
 d1:At wx b6 1 (I T)
 f0:Fn wx b5 0
 f1:Fn wx b5 1
 f2:Fn wx b6 0
 f3:Fn wx b6 1
 r0:At wx g 0 (I 0)
 r1:At wx g 1 (I 0)
 r2:At wx g 2 (I 0)
 r3:At wx g 3 (I 0)
 z0:Fn wx g 0
 z1:Fn wx g 1
 z2:Fn wx g 2
 z3:Fn wx g 3
 n1:b5≠b6
 n2:b5≠g
 n3:b6≠g
 h5:w.heap.size≤b5
 h6:w.heap.size≤b6
 hg:w.heap.size≤g
 bl:Bl w wx
theorem Kx (p q r s a b c d u v:Int) (w:World) (hs:Sm a b c d) (F : -1000000≤u∧u≤1000000) (G : -1000000≤v∧v≤1000000) (h1 : -4000000≤p∧p≤4000000) (h2 : -4000000≤q∧q≤4000000) (h3 : -4000000≤r∧r≤4000000) (h4 : -4000000≤s∧s≤4000000) :
  Rt 147 #[.agg #[I p,I q,I r,I s],.agg #[I a,I b,I c,I d,I u,I v]] w (.agg #[I (bro (a,b,c,d,u,v) (p,q,r,s)).1,I (bro (a,b,c,d,u,v) (p,q,r,s)).2.1,I (bro (a,b,c,d,u,v) (p,q,r,s)).2.2.1,I (bro (a,b,c,d,u,v) (p,q,r,s)).2.2.2]):=by
 have A:=Hd (fun (V:World)=>moved_any a b c d u v p q V hs F G h1.1 h1.2 h2.1 h2.2);have B:=Hd (fun (V:World)=>moved_any a b c d u v r s V hs F G h3.1 h3.2 h4.1 h4.2);have t:=bro_or (a,b,c,d,u,v) p q r s;generalize bro (a,b,c,d,u,v) (p,q,r,s)=g at t ⊢;generalize mpX (a,b,c,d,u,v) p q=X at A t;generalize mpY (a,b,c,d,u,v) p q=Y at A t;generalize mpX (a,b,c,d,u,v) r s=Z at B t;generalize mpY (a,b,c,d,u,v) r s=T at B t;have D:=Hd t;clear t hs F G h1 h2 h3 h4;go_enter Tryz.func147,Tryz.ntmps147;go_upto_region 1 with fail
 go_cut [5,6] (fun s5 s6 wx=>∃ k l:Nat,s5=.pointer (Az k)∧s6=.pointer (Az l)∧Br2 w wx (w.heap.size+1+1) k l X Y Z T)
 case first =>
  go_region_held3 (fun w'=>(At w' w.heap.size 0 (I p)∧At w' w.heap.size 1 (I q)∧At w' w.heap.size 2 (I r)∧At w' w.heap.size 3 (I s))∧(At w' (w.heap.size+1) 0 (I a)∧At w' (w.heap.size+1) 1 (I b)∧At w' (w.heap.size+1) 2 (I c)∧At w' (w.heap.size+1) 3 (I d)∧At w' (w.heap.size+1) 4 (I u)∧At w' (w.heap.size+1) 5 (I v)))
   (simp [go_sem,Ca])
   (first | (go_at_call 177;(with_reducible refine (A.out _).mono ?_);rintro e w2 ⟨rfl,o3,o4,o5,rfl⟩) | (go_at_call 177;(with_reducible refine (B.out _).mono ?_);rintro e w2 ⟨rfl,o6,o7,o8,rfl⟩) | fail)
  all_goals
   go_wp2;go_meet
   case rel =>
    refine ⟨_,_,rfl,rfl, ?_⟩;constructor <;> first | (simp [go_sem,Ca];done) | (dsimp only;omega) | (simp;omega) | ((with_reducible repeat' (first | exact Qd _ | refine Qc ?_ | refine Qe ?_ | refine Qk ?_ ?_)) <;> (first | omega | (simp;done) | (simp;omega)))
 case rest =>
  obtain ⟨k,l,rfl,rfl,m⟩:=hcut;have i:=Hd m;have n1:=m.n1;have n2:=m.n2;have n3:=m.n3;have n4:w.heap.size+1+1≠k:=fun e=>n2 e.symm;have n5:w.heap.size+1+1≠l:=fun e=>n3 e.symm;have n6:l≠k:=fun e=>n1 e.symm;have m1:=Bt m.c0;have m2:=Bt m.d0;have m3:=Bt m.r0;have c0:=m.c0;have c1:=m.c1;have d0:=m.d0;have d1:=m.d1;have C:=Hd (fun (V:World)=>Yo X Y Z T V);clear m A B;rcases D.out with ⟨hl,hg⟩ | ⟨hl,hg⟩
  ·subst hg;have E:(0:Int)<cmpP X Y Z T:=(less_cmp _ _ _ _).1 hl;clear D hl;generalize cmpP X Y Z T=n at C E;go_wp2_with (go_at_call 137;(with_reducible refine (C.out _).mono ?_);rintro e j ⟨rfl,f⟩;have x:At j k 0 (I X):=Qa f i.out.c0;have H:At j k 1 (I Y):=Qa f i.out.c1;have y:At j l 0 (I Z):=Qa f i.out.d0;have J:At j l 1 (I T):=Qa f i.out.d1;have K:Fn j k 0:=(f.frozen θ).trans i.out.f0;have L:Fn j k 1:=(f.frozen θ).trans i.out.f1;have M:Fn j l 0:=(f.frozen θ).trans i.out.f2;have N:Fn j l 1:=(f.frozen θ).trans i.out.f3;have z:At j (w.heap.size+1+1) 0 (I 0):=Qa f i.out.r0;have O:At j (w.heap.size+1+1) 1 (I 0):=Qa f i.out.r1;have P:At j (w.heap.size+1+1) 2 (I 0):=Qa f i.out.r2;have Q:At j (w.heap.size+1+1) 3 (I 0):=Qa f i.out.r3;have R:Fn j (w.heap.size+1+1) 0:=(f.frozen θ).trans i.out.z0;have U:Fn j (w.heap.size+1+1) 1:=(f.frozen θ).trans i.out.z1;have W:Fn j (w.heap.size+1+1) 2:=(f.frozen θ).trans i.out.z2;have a2:Fn j (w.heap.size+1+1) 3:=(f.frozen θ).trans i.out.z3;have l1:=Bt x;have l2:=Bt y;have l3:=Bt z;have o:=Hd (Qb i.out.bl f);clear f c0 c1 d0 d1)
   refine bodyPost_ret (v:=.agg #[I Z,I T,I X,I Y]) (by simp [results,Tryz.results147,go_sem, *]) rfl ⟨rfl, ?_⟩;have g1:=i.out.h5;have g2:=i.out.h6;have g3:=i.out.hg;with_reducible repeat' (first | exact o.out | refine Qc ?_ | refine Qk ?_ ?_)
   all_goals (first | assumption | (dsimp only;omega))
  ·subst hg;have E:¬ (0:Int)<cmpP X Y Z T:=fun h=>by rw [(less_cmp _ _ _ _).2 h] at hl;cases hl
   clear D hl;generalize cmpP X Y Z T=n at C E;go_wp2_with (go_at_call 137;(with_reducible refine (C.out _).mono ?_);rintro e j ⟨rfl,f⟩;have x:At j k 0 (I X):=Qa f i.out.c0;have H:At j k 1 (I Y):=Qa f i.out.c1;have y:At j l 0 (I Z):=Qa f i.out.d0;have J:At j l 1 (I T):=Qa f i.out.d1;have K:Fn j k 0:=(f.frozen θ).trans i.out.f0;have L:Fn j k 1:=(f.frozen θ).trans i.out.f1;have M:Fn j l 0:=(f.frozen θ).trans i.out.f2;have N:Fn j l 1:=(f.frozen θ).trans i.out.f3;have z:At j (w.heap.size+1+1) 0 (I 0):=Qa f i.out.r0;have O:At j (w.heap.size+1+1) 1 (I 0):=Qa f i.out.r1;have P:At j (w.heap.size+1+1) 2 (I 0):=Qa f i.out.r2;have Q:At j (w.heap.size+1+1) 3 (I 0):=Qa f i.out.r3;have R:Fn j (w.heap.size+1+1) 0:=(f.frozen θ).trans i.out.z0;have U:Fn j (w.heap.size+1+1) 1:=(f.frozen θ).trans i.out.z1;have W:Fn j (w.heap.size+1+1) 2:=(f.frozen θ).trans i.out.z2;have a2:Fn j (w.heap.size+1+1) 3:=(f.frozen θ).trans i.out.z3;have l1:=Bt x;have l2:=Bt y;have l3:=Bt z;have o:=Hd (Qb i.out.bl f);clear f c0 c1 d0 d1)
   refine bodyPost_ret (v:=.agg #[I X,I Y,I Z,I T]) (by simp [results,Tryz.results147,go_sem, *]) rfl ⟨rfl, ?_⟩;have g1:=i.out.h5;have g2:=i.out.h6;have g3:=i.out.hg;with_reducible repeat' (first | exact o.out | refine Qc ?_ | refine Qk ?_ ?_)
   all_goals (first | assumption | (dsimp only;omega))
end Go.Proofs.YtbjmnlefkbhbdaaGreatDoor
namespace Go.Proofs.YtbjmnlefkbhbdaaGreatDoor
open Go.RowKit Go.Shelf Go.ChangeMaps
attribute [local go_sem] Oper.semAt_some
theorem valuesI_in (j l m C c:Nat) (a:Option Addr) (zs:List Int) (G:zs.length≤17592186044416) (J:Nat→World→Prop) (hD:∀ {k W},J k W→At W j 0 (.slice a zs.length c)∧Row W a zs) (r:∀ {k W} (t:k<zs.length),J k W→YieldAt .wide m Tryz.prog l #[I zs[k]] W fun e f=>e=.returned (.bool true)∧J (k+1) f)
  (W:World) (h0:J 0 W):CallsIn .wide C Tryz.prog 146 #[.func (.yield l) #[] #[],.pointer (Az j)] W fun e f=>(∃ v,e=.returned v)∧J zs.length f:=by
 refine callsIn_of_wp Tryz.func146 rfl trivial ?_ rfl;simp only [Tryz.ntmps146,List.size_toArray,List.length_cons,List.length_nil,Nat.reduceAdd,Nat.reduceSub,Array.replicate_succ,Array.replicate_zero,List.push_toArray,List.append_toArray,List.nil_append,List.cons_append];obtain ⟨o,_⟩:=hD h0;have u:Hid (∀ k W,J k W→At W j 0 (.slice a zs.length c)∧Row W a zs):=fun _ _ h=>hD h;have x:Hid (∀ k W (t:k<zs.length),J k W→YieldAt .wide m Tryz.prog l #[I zs[k]] W fun e f=>e=.returned (.bool true)∧J (k+1) f):=fun _ _ h1 h2=>r h1 h2;have d:=Hd h0;clear hD r h0;gi_wp2
 clear o;gi_loopg [7] zs.length (fun y D E=>∃ k:Nat,k≤zs.length∧y=zs.length - k∧D=I (k:Int)∧J k E)
 case atStart=>exact ⟨0,γ,rfl,rfl,d.out⟩
 case round =>
  clear d;obtain ⟨k,t,rfl,rfl,p⟩:=hrel;have d:=Hd p;clear p;by_cases h1:k<zs.length
  ·have B:(k:Int)<(zs.length:Int):=γ;have H:(0:Int)≤(k:Int):=γ;obtain ⟨b,off,rfl,s⟩:=(u.out k wr d.out).2 k h1;obtain ⟨z,i⟩:∃ z,z=zs[k]:=⟨_,rfl⟩;have hyy:=x.out k wr h1 d.out;rw [← i] at s hyy;obtain ⟨fn,tmps,assign,body,A,q⟩:=hyy;clear i;gi_wp2
   refine ⟨fun h=>(by cases h),(Ky q).mono ?_⟩;rintro e F ⟨rfl,g⟩;have n:=Hd g;clear g A q s;gi_wp2
   gi_roundg (zs.length - (k+1))
   case measure=>omega
   case rel=>exact ⟨k+1,γ,rfl,σ,n.out⟩
  ·have B:¬ (k:Int)<(zs.length:Int):=γ;obtain rfl:k=zs.length:=γ;gi_wp2
   go_end0
   exact ⟨⟨_,rfl⟩,d.out⟩
def ivs (zs:List Int):List Value:=zs.map fun z=>I z
theorem ivs_take (zs:List Int) (k:Nat) (a:k<zs.length):ivs (zs.take (k+1))=ivs (zs.take k) ++ [I zs[k]]:=by
 unfold ivs;rw [List.take_add_one,List.getElem?_eq_getElem a,List.map_append];rfl
structure CI (w:World) (b0 l1 D1:Nat) (rec:Loop) (zs:List Int) (k:Nat) (W:World):Prop where
 l:W.heap[l1]?=some (.loop rec)
 d:W.heap[D1]?=some (.deferred (some []))
 b:Bl w W
 row:∃ v,Boxed W b0 23 v∧W.ownsRow w.heap.size 3 1 v k (ivs (zs.take k))
theorem CI.yes {w w1:World} {b0 l1 f:Nat} {R:LoopState→Loop} {zs:List Int} {k:Nat} {tmp:Obj} {W:World} {v v':Value} (G:b0≠l1∧f≠l1∧f≠b0) (hb:w.heap.size≤b0∧w.heap.size≤l1) (H:k<zs.length)
  (h:CI w b0 l1 f (R .ready) zs k W) (r1:Boxed W b0 23 v) (r2:W.ownsRow w.heap.size 3 1 v k (ivs (zs.take k)))
  (g:w1.ownsRow w.heap.size 3 1 v' (k+1) (ivs (zs.take k) ++ [I zs[k]])) (a:((W.putObj l1 (.loop (R .busy))).alloc tmp).grownBy w1 v.ownBlock) :
  (w1.setCell ⟨b0,0,none⟩ v').heap[l1]?=some (.loop (R .busy))∧CI w b0 l1 f (R .ready) zs (k+1) ((w1.setCell ⟨b0,0,none⟩ v').putObj l1 (.loop (R .ready))):=by
 obtain ⟨d1,d2,d3⟩:=G;obtain ⟨x,m⟩:=hb;have t:l1<W.heap.size:=(Array.getElem?_eq_some_iff.1 h.l).1;have J:f<W.heap.size:=(Array.getElem?_eq_some_iff.1 h.d).1;have g1:=grownBy_putObj' W l1 (.loop (R .busy));have g2:(W.putObj l1 (.loop (R .busy))).grownBy ((W.putObj l1 (.loop (R .busy))).alloc tmp) none:=World.grownBy_alloc _ _ _;have g4:=grownBy_setCell' w1 b0 v';have g5:=grownBy_putObj' (w1.setCell ⟨b0,0,none⟩ v') l1 (.loop (R .ready));have z2:W.heap.size≤((W.putObj l1 (.loop (R .busy))).alloc tmp).heap.size:=Nt g1.size g2.size;have z3:W.heap.size≤w1.heap.size:=Nt z2 a.size;have z4:W.heap.size≤(w1.setCell ⟨b0,0,none⟩ v').heap.size:=Nt z3 g4.size
 have A:∀ q,v.ownBlock=some q→q≠l1:=fun q hq e=>by
  obtain ⟨u,n⟩:=Yv r2 hq;rw [e,h.l] at n
  cases n
 have B:∀ q,v.ownBlock=some q→q≠f:=fun q hq e=>by
  obtain ⟨u,n⟩:=Yv r2 hq;rw [e,h.d] at n
  cases n
 have o:some b0≠v.ownBlock:=r1.not_row τ r2
 have j:∀ b,b<W.heap.size→b≠l1→some b≠v.ownBlock→w1.heap[b]?=W.heap[b]?:=fun b c n1 C =>
  ((a.block b (Nl c z2) C).trans (g2.block b (Nl c g1.size) ν)).trans (g1.block b c (by simpa using n1))
 have s:∀ b,b<W.heap.size→b≠l1→b≠b0→some b≠v.ownBlock→((w1.setCell ⟨b0,0,none⟩ v').putObj l1 (.loop (R .ready))).heap[b]?=W.heap[b]?:=fun b c n1 n0 C =>
  ((g5.block b (Nl c z4) (by simpa using n1)).trans (g4.block b (Nl c z3) (by simpa using n0))).trans (j b c n1 C)
 have z:(W.putObj l1 (.loop (R .busy))).heap[l1]?=some (.loop (R .busy)):=World.putObj_heap_same t;have y:w1.heap[l1]?=some (.loop (R .busy)):=((a.block l1 (Nl t z2) (fun e=>A l1 e.symm rfl)).trans (g2.block l1 (Nl t g1.size) ν)).trans z;have i:(w1.setCell ⟨b0,0,none⟩ v').heap[l1]?=some (.loop (R .busy)):=(g4.block l1 (Nl t z3) (by simpa using d1.symm)).trans y
 have p:((w1.setCell ⟨b0,0,none⟩ v').putObj l1 (.loop (R .ready))).ownsRow w.heap.size 3 1 v' (k+1) (ivs (zs.take (k+1))):=by
  have b1:Boxed w1 b0 23 v:=((r1.kept g1 (by simpa using d1)).alloc tmp).kept a o;have E:=g.kept g4 (.inr (b1.not_row τ g).symm);have F:=ownsRow_putObj E (.loop (R .ready)) i rfl;rw [ivs_take zs k H];exact F
 refine ⟨i,World.putObj_heap_same (Array.getElem?_eq_some_iff.1 i).1,(s f J d2 d3 (fun e=>B f e.symm rfl)).trans h.d, ?_,v', ?_,p⟩
 ·have k1:=h.b.grown g1 h.b.size (fun r e=>by cases e;exact m);have k2:=k1.grown g2 k1.size (fun r e=>by cases e);have k3:=k2.grown a k2.size (fun r e=>(r2.lt r e).1);have D:=k3.grown g4 k3.size (fun r e=>by cases e;exact x);exact D.grown g5 D.size (fun r e=>by cases e;exact m)
 ·exact ((((r1.kept g1 (by simpa using d1)).alloc tmp).kept a o).set v').kept g5 (by simpa using d1)
def GathI (w w':World) (zs:List Int) (v:Value):Prop:=w'.ownsRow w.heap.size 3 1 v zs.length (ivs zs)∧Bl w w'
theorem appendSeqI_any (C c:Nat) (a:Option Addr) (zs:List Int) (Z:zs.length≤300) (w:World) (N:At w C 0 (.slice a zs.length c)) (hr:Row w a zs) :
  Cl 175 #[SN,.func (.func 146) #[] #[.pointer (Az C)]] w fun e w'=>∃ v,e=.returned v∧GathI w w' zs v:=by
 obtain ⟨n,T⟩:∃ n:Nat,n=n:=⟨0,rfl⟩;refine (callsIn_wide (n:=n)).1 ?_;clear T;obtain ⟨U,M⟩:=info_parts inf3;have H:=Hd M;clear M;refine callsIn_of_wp_marks Tryz.func175 rfl trivial ?_ rfl;simp only [Tryz.ntmps175,List.size_toArray,List.length_cons,List.length_nil,Nat.reduceAdd,Nat.reduceSub,Array.replicate_succ,Array.replicate_zero,List.push_toArray,List.append_toArray,List.nil_append,List.cons_append];have zd:=Bt N;gi_wp2
 refine Ku (gf:=146) (lb:=#[.pointer (Az C)]) rfl (enters_of Tryz.func146 μ rfl) (fun fn=>?_);generalize hR:Rec fn _ _ _ _ _=R;simp only [World.size_alloc] at hR ⊢;have m:w.heap.size≠w.heap.size+1+1∧w.heap.size+1≠w.heap.size+1+1∧w.heap.size+1≠w.heap.size:=γ;have B:w.heap.size≤w.heap.size∧w.heap.size≤w.heap.size+1+1:=γ
 have h0:CI w w.heap.size (w.heap.size+1+1) (w.heap.size+1) (R .ready) zs 0 (((w.alloc (.cells #[SN] 23)).alloc (.deferred (some []))).alloc (.loop (R .ready))):=by
  refine ⟨?_, ?_,Qc β2,SN,((Boxed.new w 23 _).alloc _).alloc _,⟨by simp [ivs],Or.inl ⟨rfl,rfl⟩⟩⟩
  ·have x:=heap_alloc_new ((w.alloc (.cells #[SN] 23)).alloc (.deferred (some []))) (.loop (R .ready));rw [World.size_alloc,World.size_alloc] at x;exact x
  ·have x:=heap_alloc_new (w.alloc (.cells #[SN] 23)) (.deferred (some []));rw [World.size_alloc] at x;exact (Below.heap_alloc _ _ _ ν).trans x
 refine (valuesI_in C (w.heap.size+1+1) 0 (n - 1) c a zs γ (CI w w.heap.size (w.heap.size+1+1) (w.heap.size+1) (R .ready) zs) ?hD ?hYes _ h0).mono ?_
 case hD =>
  rintro k W h;exact ⟨Qa h.b N,hr.kept h.b⟩
 case hYes =>
  rintro k W Q h;obtain ⟨v,r1,r2⟩:=h.row;have q:=fun (w1:World) (v':Value) (tmp:Obj)=>CI.yes (w1:=w1) (v':=v') (tmp:=tmp) m B Q h r1 r2;have hl:=h.l;have f:=r1.kept (grownBy_putObj' W (w.heap.size+1+1) (.loop (R .busy))) (by simpa using m.1);have g:=ownsRow_putObj r2 (.loop (R .busy)) hl rfl
  have zz:w.heap.size≤(W.putObj (w.heap.size+1+1) (.loop (R .busy))).heap.size:=by
   rw [World.putObj_size];exact h.b.size
  obtain ⟨z,F⟩:∃ z,z=zs[k]:=⟨_,rfl⟩;rw [← F] at q ⊢;have P:=Hd q
  obtain ⟨y,A,rfl⟩:∃ y A,v=.slice y k A:=by
   rcases r2.2 with ⟨rfl,x⟩ | ⟨g9,p,D,rfl,_⟩
   ·exact ⟨none,0,by rw [x]⟩
   ·exact ⟨_,p,rfl⟩
  clear h r1 r2 q F;rw [← hR] at hl;refine round_of hl rfl { tmps:=#[SN,.func (.func 146) #[] #[.pointer (Az C)],.pointer (Az w.heap.size),undef,SN,I z,.func (.func 146) #[] #[.pointer (Az C)],I z,undef,undef,undef,undef,undef],defers:=[] } ?assign ?body
  case assign =>
   intro K J;gi_wp2
   exact J
  case body =>
   rw [hR];have c0:=f.cell;have G:=f.lt;generalize hWb:W.putObj (w.heap.size+1+1) (.loop (R .busy))=Wb at *;clear hR hl h0 hWb;have t:=Qh g (Qc (o:=.cells #[I z] 3) (Qd Wb));gi_wp2_with (gi_at_builtin;refine wpListIn_append_own_at _ rfl (.tmp 8) (.tmp 10) 23 rfl w.heap.size 3 U (I 0) 1 8 Tryz.underlying23 H.out.1 H.out.2.1 H.out.2.2.1 H.out.2.2.2 rfl τ (.slice y k A) k (ivs (zs.take k)) rfl t ⟨Wb.heap.size,0,none⟩ 1 1 [I z] rfl rfl (cell_oneV _ _ _) (by intro u O;simp at O;subst O;rfl) Γ γ ψ ?grow)
   case grow =>
    intro v' w1 s i _ E;have Y:=P.out w1 v' _ s i;obtain ⟨g9,X,rfl⟩:=ownsRow_succ s;have j:=(f.alloc _).kept i (f.not_row τ g);have c1:=j.cell;have f1:=j.frozen;have z1:=j.lt;clear s i E f j g t c0 G;gi_wp2
 rintro e V ⟨⟨u,rfl⟩,h⟩;refine ⟨⟨u,rfl⟩,h.l, ?_⟩;obtain ⟨v,r1,r2⟩:=h.row;rw [List.take_length] at r2;have f:=r1.kept (grownBy_putObj' V (w.heap.size+1+1) (.loop (R .exhausted))) (by simpa using m.1);have g:=ownsRow_putObj r2 (.loop (R .exhausted)) h.l rfl;have J:(V.putObj (w.heap.size+1+1) (.loop (R .exhausted))).heap[w.heap.size+1]?=some (.deferred (some [])):=(Uo m.2.1).trans h.d;have L:Bl w (V.putObj (w.heap.size+1+1) (.loop (R .exhausted))):=h.b.grown (grownBy_putObj' V _ _) h.b.size (fun r e=>by cases e;exact B.2)
 obtain ⟨y,A,rfl⟩:∃ y A,v=.slice y zs.length A:=by
  rcases r2.2 with ⟨rfl,x⟩ | ⟨g9,p,D,rfl,_⟩
  ·exact ⟨none,0,by rw [x]⟩
  ·exact ⟨_,p,rfl⟩
 clear r1 r2 h h0 hR;generalize V.putObj (w.heap.size+1+1) (.loop (R .exhausted))=V1 at *;have c0:=f.cell;have G:=f.lt;gi_wp2
 refine ⟨ν,.inl ⟨_,_,rfl,run_takeDeferred J, ?_⟩⟩;exact ⟨.slice y zs.length A,by simp [results,Tryz.results175,go_sem],.slice y zs.length A,rfl,ownsRow_putObj g _ J rfl,L.grown (grownBy_putObj' V1 _ _) L.size (fun r e=>by cases e;omega)⟩
theorem GathI.slice {w w':World} {zs:List Int} {v:Value} (h:GathI w w' zs v):∃ a q,v=.slice a zs.length q:=by
 rcases h.1.2 with ⟨rfl,h0⟩ | ⟨g,b,c,rfl,_⟩
 ·exact ⟨none,0,by rw [h0]⟩
 ·exact ⟨_,_,rfl⟩
theorem collectI_any (b c:Nat) (a:Option Addr) (zs:List Int) (h:zs.length≤300) (w:World) (d:At w b 0 (.slice a zs.length c)) (hr:Row w a zs) :
  Cl 144 #[.func (.func 146) #[] #[.pointer (Az b)]] w fun e w'=>∃ v,e=.returned v∧GathI w w' zs v:=by
 have f:=Hd (appendSeqI_any b c a zs h w d hr);clear d hr;go_enter Tryz.func144,Tryz.ntmps144;go_wp2_with (go_at_call 175;refine f.out.mono ?_;rintro e w1 ⟨v,rfl,hg⟩;obtain ⟨i,j,rfl⟩:=hg.slice)
 have g:=Hd hg;clear hg;go_ret;exact ⟨_,rfl,g.out⟩
theorem valuesI_any (v:Value) (a:Option Addr) (n c:Nat) (b:v=.slice a n c) (w:World):Cl 107 #[v] w fun e w'=>e=.returned (.func (.func 146) #[] #[.pointer (Az w.heap.size)])∧w'=w.alloc (.cells #[v] 23):=by
 subst b;go_enter Tryz.func107,Tryz.ntmps107;go_wp2;go_ret;exact ⟨rfl,rfl⟩
end Go.Proofs.YtbjmnlefkbhbdaaGreatDoor
namespace Go.Proofs
open Go.Shelf
def Tryz.lays189_ren:Go.Shelf.Ren:=⟨fun | 189=>145 | 125=>142 | 257=>176 | 128=>173 | 129=>174 | 294=>213 | 295=>214 | 296=>215 | 297=>216 | 298=>217 | 299=>218 | 216=>219 | 300=>220 | 301=>221 | 328=>240 | 329=>209 | 330=>210 | 331=>241 | 332=>242 | 215=>155 | 343=>250 | n=>n,fun | 28=>23 | 3=>3 | 46=>154 | 0=>0 | 51=>207 | 53=>210 | 4=>4 | 183=>245 | 182=>244 | 131=>151 | 5=>5 | 9=>9 | 218=>276 | 222=>280 | 228=>300 | 229=>301 | n=>n,fun | n=>n⟩
theorem Tryz.lays189:Go.Proofs.Lays.n189 Tryz.prog Tryz.lays189_ren:={
 mixed:=by kernel_rfl
 f125:=Tryz.func142.trans (congrArg some (by kernel_rfl))
 f128:=Tryz.func173.trans (congrArg some (by kernel_rfl))
 f129:=Tryz.func174.trans (congrArg some (by kernel_rfl))
 f189:=Tryz.func145.trans (congrArg some (by kernel_rfl))
 f215:=Tryz.func155.trans (congrArg some (by kernel_rfl))
 f216:=Tryz.func219.trans (congrArg some (by kernel_rfl))
 f257:=Tryz.func176.trans (congrArg some (by kernel_rfl))
 f294:=Tryz.func213.trans (congrArg some (by kernel_rfl))
 f295:=Tryz.func214.trans (congrArg some (by kernel_rfl))
 f296:=Tryz.func215.trans (congrArg some (by kernel_rfl))
 f297:=Tryz.func216.trans (congrArg some (by kernel_rfl))
 f298:=Tryz.func217.trans (congrArg some (by kernel_rfl))
 f299:=Tryz.func218.trans (congrArg some (by kernel_rfl))
 f300:=Tryz.func220.trans (congrArg some (by kernel_rfl))
 f301:=Tryz.func221.trans (congrArg some (by kernel_rfl))
 f328:=Tryz.func240.trans (congrArg some (by kernel_rfl))
 f329:=Tryz.func209.trans (congrArg some (by kernel_rfl))
 f330:=Tryz.func210.trans (congrArg some (by kernel_rfl))
 f331:=Tryz.func241.trans (congrArg some (by kernel_rfl))
 f332:=Tryz.func242.trans (congrArg some (by kernel_rfl))
 f343:=Tryz.func250.trans (congrArg some (by kernel_rfl))
 t0:=Tryz.underlying0
 a0:=Tryz.isAgg0
 z0:=Tryz.sizeOf0
 v0:=Tryz.zeroValue0
 t3:=Tryz.underlying3
 a3:=Tryz.isAgg3
 z3:=Tryz.sizeOf3
 v3:=Tryz.zeroValue3
 t4:=Tryz.underlying4
 a4:=Tryz.isAgg4
 z4:=Tryz.sizeOf4
 v4:=Tryz.zeroValue4
 t5:=Tryz.underlying5
 a5:=Tryz.isAgg5
 z5:=Tryz.sizeOf5
 v5:=Tryz.zeroValue5
 t9:=Tryz.underlying9
 a9:=Tryz.isAgg9
 z9:=Tryz.sizeOf9
 v9:=Tryz.zeroValue9
 t28:=Tryz.underlying23
 a28:=Tryz.isAgg23
 z28:=Tryz.sizeOf23
 v28:=Tryz.zeroValue23
 t46:=Tryz.underlying154
 a46:=Tryz.isAgg154
 z46:=Tryz.sizeOf154
 v46:=Tryz.zeroValue154
 t51:=Tryz.underlying207
 a51:=Tryz.isAgg207
 z51:=Tryz.sizeOf207
 v51:=Tryz.zeroValue207
 t53:=Tryz.underlying210
 a53:=Tryz.isAgg210
 z53:=Tryz.sizeOf210
 v53:=Tryz.zeroValue210
 t131:=Tryz.underlying151
 a131:=Tryz.isAgg151
 z131:=Tryz.sizeOf151
 v131:=Tryz.zeroValue151
 t182:=Tryz.underlying244
 a182:=Tryz.isAgg244
 z182:=Tryz.sizeOf244
 v182:=Tryz.zeroValue244
 t183:=Tryz.underlying245
 a183:=Tryz.isAgg245
 z183:=Tryz.sizeOf245
 v183:=Tryz.zeroValue245
 t218:=Tryz.underlying276
 a218:=Tryz.isAgg276
 z218:=Tryz.sizeOf276
 v218:=Tryz.zeroValue276
 t222:=Tryz.underlying280
 a222:=Tryz.isAgg280
 z222:=Tryz.sizeOf280
 v222:=Tryz.zeroValue280
 t228:=Tryz.underlying300
 a228:=Tryz.isAgg300
 z228:=Tryz.sizeOf300
 v228:=Tryz.zeroValue300
 t229:=Tryz.underlying301
 a229:=Tryz.isAgg301
 z229:=Tryz.sizeOf301
 v229:=Tryz.zeroValue301 }
def Tryz.lays20_ren:Go.Shelf.Ren:=⟨fun | 20=>105 | n=>n,fun | 22=>23 | 3=>3 | 4=>4 | 0=>0 | n=>n,fun | n=>n⟩
theorem Tryz.lays20:Go.Proofs.Lays2.n20 Tryz.prog Tryz.lays20_ren:={
 mixed:=by kernel_rfl
 f20:=Tryz.func105.trans (congrArg some (by kernel_rfl))
 t0:=Tryz.underlying0
 a0:=Tryz.isAgg0
 z0:=Tryz.sizeOf0
 v0:=Tryz.zeroValue0
 t3:=Tryz.underlying3
 a3:=Tryz.isAgg3
 z3:=Tryz.sizeOf3
 v3:=Tryz.zeroValue3
 t4:=Tryz.underlying4
 a4:=Tryz.isAgg4
 z4:=Tryz.sizeOf4
 v4:=Tryz.zeroValue4
 t22:=Tryz.underlying23
 a22:=Tryz.isAgg23
 z22:=Tryz.sizeOf23
 v22:=Tryz.zeroValue23
 i3:=by kernel_rfl }
end Go.Proofs
namespace Go.Proofs.YtbjmnlefkbhbdaaGreatDoor
open Go.RowKit Go.Shelf Go.Lib
open Go.Sort hiding Below
theorem filter_lt {α:Type} (p : α→Bool):∀ l:List α,(l.filter p).length<l.length↔∃ x∈l,p x=false
 | []=>by simp
 | x :: r=>by
  have b:=List.length_filter_le p r;by_cases q:p x=true
  ·rw [List.filter_cons_of_pos q,List.length_cons,List.length_cons,Nat.add_lt_add_iff_right,filter_lt p r];constructor
   ·rintro ⟨y,a,e⟩;exact ⟨y,by simp [a],e⟩
   ·rintro ⟨y,a,e⟩;rcases List.mem_cons.1 a with rfl | a
    ·rw [q] at e
     cases e
    ·exact ⟨y,a,e⟩
  ·rw [List.filter_cons_of_neg q,List.length_cons];exact ⟨fun _=>⟨x,ν,by simpa using q⟩,fun _=>by omega⟩
theorem holds_ints {w:World} {base g c:Nat} {zs:List Int} (h:w.ownsRow base 3 1 (.slice (Az g) zs.length c) zs.length (ivs zs)):Holds (Value.int .i64) w g 0 zs.toArray:=fun j b=>by
 have a:j<zs.length:=by simpa using b
 refine ⟨?_, ?_⟩
 ·have i:=h.cellAt j γ;rw [Nat.zero_add,i,getElem!_pos _ j b];simp [ivs,a]
 ·rcases h.2 with ⟨e,_⟩ | ⟨k,d,f,e,_,h3,_⟩
  ·cases e
  ·cases e;simp [World.frozen?,h3]
theorem compact_twice (zs:List Int):(Lib.compact (zs.mergeSort fun x y=>decide (x≤y))).length<zs.length↔¬ zs.Nodup:=by
 have hp:(zs.mergeSort fun x y=>decide (x≤y)).Perm zs:=List.mergeSort_perm zs _;have hs:(zs.mergeSort fun x y=>decide (x≤y)).Pairwise (fun x y=>decide (x≤y)=true):=List.pairwise_mergeSort (fun a b c h1 h2=>by simp at *;omega) (fun a b=>by simp;omega) zs;rw [← hp.nodup_iff,← hp.length_eq];generalize (zs.mergeSort fun x y=>decide (x≤y))=s at hs;unfold Lib.compact Lib.compactUpTo;rw [List.length_map];have h1:=filter_lt (Lib.keeps s.toArray) (List.range s.length);rw [List.length_range] at h1;rw [h1];constructor
 ·rintro ⟨i,hi,g⟩ f;have h:=List.mem_range.1 hi;unfold Lib.keeps at g;rw [decide_eq_false_iff_not] at g;have h0:i≠0:=fun e=>g (Or.inl e);have l:s.toArray[i]! = s.toArray[i - 1]!:=Classical.byContradiction fun e=>g (Or.inr e);rw [getElem!_pos s.toArray i (by simpa using h),getElem!_pos s.toArray (i - 1) ψ] at l;simp only [List.getElem_toArray] at l;exact List.pairwise_iff_getElem.1 f (i - 1) i γ h γ l.symm
 ·intro f;refine Classical.byContradiction fun n=>f ?_
  have g:∀ i,i<s.length→i≠0→s.toArray[i]! ≠ s.toArray[i - 1]!:=fun i hi h0=>by
   have d:Lib.keeps s.toArray i=true:=by
    cases hc:Lib.keeps s.toArray i with
    | true=>rfl
    | false=>exact absurd ⟨i,List.mem_range.2 hi,hc⟩ n
   unfold Lib.keeps at d;rw [decide_eq_true_eq] at d;exact d.resolve_left h0
  show s.Pairwise (fun a b=>a≠b)
  rw [List.pairwise_iff_getElem];intro i j hi m o;have e1:=g j m γ;rw [getElem!_pos s.toArray j (by simpa using m),getElem!_pos s.toArray (j - 1) ψ] at e1;simp only [List.getElem_toArray] at e1;have k:=List.pairwise_iff_getElem.1 hs;have e2:s[j - 1]≤s[j]:=by simpa using k (j - 1) j γ m γ
  have p:s[i]≤s[j - 1]:=by
   rcases Nat.lt_or_ge i (j - 1) with q | q
   ·simpa using k i (j - 1) hi γ q
   ·have:i=j - 1:=γ;subst this;exact Int.le_refl _
  omega
theorem sortI_any (g q:Nat) (zs:List Int) (b:zs.length≤300) (w:World) (a:Holds (Value.int .i64) w g 0 zs.toArray) (hg:g<w.heap.size) :
  Cl 145 #[.slice (Az g) zs.length q] w fun e w'=>e=.returned (.tuple #[])∧∃ m os,w'=sortWorld (Value.int .i64) w g 0 m (zs.mergeSort fun x y=>decide (x≤y)).toArray os :=
 Any.slices_Sort_int Tryz.lays189 g 0 q zs w a hg γ
theorem sortedI_any (h c:Nat) (a:Option Addr) (zs:List Int) (h0:0<zs.length) (k:zs.length≤300) (w:World) (j:At w h 0 (.slice a zs.length c)) (hr:Row w a zs) :
  Cl 106 #[.func (.func 146) #[] #[.pointer (Az h)]] w fun e w'=>∃ g q,e=.returned (.slice (Az g) zs.length q)∧zs.length≤q∧Holds (Value.int .i64) w' g 0 (zs.mergeSort fun x y=>decide (x≤y)).toArray∧w.heap.size≤g∧Bl w w':=by
 have n:=Hd (collectI_any h c a zs k w j hr);have o:=Hd h0;clear j hr;go_enter Tryz.func106,Tryz.ntmps106;go_wp2_with (first | (go_at_call 144;refine n.out.mono ?_;rintro e w1 ⟨v,rfl,hg⟩;obtain ⟨g,q,rfl⟩:=Uq hg.1 o.out;have b:=Hd hg;clear hg) | (go_at_call 145;refine (sortI_any g q zs k _ (holds_ints b.out.1) (b.out.1.lt g rfl).2).mono ?_;rintro e u ⟨rfl,m,os,f⟩;have i:=Hd f;clear f))
 go_ret;have d:(zs.mergeSort fun x y=>decide (x≤y)).toArray.size=zs.toArray.size:=ν
 have hq:zs.length≤q:=by
  rcases b.out.1.2 with ⟨e,_⟩ | ⟨t,p,s,e,_,_,h4,_⟩
  ·cases e
  ·cases e;exact h4
 have l:=(b.out.1.lt g rfl).1;refine ⟨g,q,rfl,hq, ?_,l, ?_⟩
 ·rw [i.out];exact holds_sortWorld (Value.int .i64) w1 g 0 m zs.toArray _ os (b.out.1.lt g rfl).2 (holds_ints b.out.1) d
 ·rw [i.out];exact b.out.2.grown (Yr _ _) b.out.2.size (fun r e=>by cases e;exact l)
theorem bl_putRow (w:World) (g k:Nat) (d:Array Int):Below g w (putRow (Value.int .i64) (Sort.ahead w k) g 0 d):=⟨rfl,rfl,rfl,by simp [Sort.ahead],fun i hi=>by
 have:g≠i:=γ;simp [putRow,mapBlock,Sort.ahead,Array.getElem?_modify,this]⟩
theorem compI_any (g q:Nat) (zs:List Int) (b:zs.length≤300) (w:World) (hq:zs.length≤q) (a:Holds (Value.int .i64) w g 0 (zs.mergeSort fun x y=>decide (x≤y)).toArray) :
  Cl 105 #[.slice (Az g) zs.length q] w fun e w'=>e=.returned (.slice (Az g) (Lib.compact (zs.mergeSort fun x y=>decide (x≤y))).length q)∧Below g w w':=by
 have hl:(zs.mergeSort fun x y=>decide (x≤y)).length=zs.length:=ν;have h:=Any.slices_Compact_int Tryz.lays20 g 0 q (zs.mergeSort fun x y=>decide (x≤y)) w a γ γ;rw [hl] at h;refine h.mono ?_;rintro e w' ⟨rfl,k,rfl⟩;exact ⟨rfl,bl_putRow _ _ _ _⟩
theorem twice_any (w:World) (a:Option Addr) (c:Nat) (zs:List Int) (h0:0<zs.length) (o:zs.length≤300) (hr:Row w a zs) :
  Rt 71 #[.slice a zs.length c] w (.bool (decide (¬ zs.Nodup))):=by
 have p:Hid (∀ V,V=w.alloc (.cells #[.slice a zs.length c] 23)→Cl 106 #[.func (.func 146) #[] #[.pointer (Az w.heap.size)]] V fun e w'=>∃ g q,e=.returned (.slice (Az g) zs.length q)∧zs.length≤q∧Holds (Value.int .i64) w' g 0 (zs.mergeSort fun x y=>decide (x≤y)).toArray∧V.heap.size≤g∧Bl V w'):=fun V t=>by
  subst t;exact sortedI_any w.heap.size c a zs h0 o _ ζ (hr.kept β1)
 obtain ⟨m,j⟩:∃ m,m=(Lib.compact (zs.mergeSort fun x y=>decide (x≤y))).length:=⟨_,rfl⟩
 have k:Hid (decide (m<zs.length)=decide (¬ zs.Nodup)):=by
  have h1:=compact_twice zs;have:decide (m<zs.length)=decide (¬ zs.Nodup):=by rw [j];exact decide_eq_decide.2 h1
  exact this
 have r:=Hd j;obtain ⟨l,f⟩:∃ l,l=decide (¬ zs.Nodup):=⟨_,rfl⟩;rw [← f] at k ⊢;clear hr j f;go_enter Tryz.func71,Tryz.ntmps71;go_wp2_with (first | (go_at_call 107;refine (valuesI_any _ a zs.length c rfl _).mono ?_;rintro e s ⟨rfl,hW1⟩;have b:=Hd hW1;clear hW1) | (go_at_call 106;refine (p.out _ b.out).mono ?_;rintro e v ⟨g,q,rfl,hq,n,hg,hb⟩;have h:=H4 hq n hg hb;clear hq n hg hb) | (go_at_call 105;refine (compI_any g q zs o _ h.out.1 h.out.2.1).mono ?_;rintro e z ⟨rfl,d⟩;have i:=Hd d;clear d;rw [← r.out]))
 go_ret;refine ⟨?_, ?_⟩
 ·rw [← k.out];rfl
 ·have e1:Bl w s:=by rw [b.out];exact Qc (Qd _)
  have zz:=e1.size;have u:=h.out.2.2.1;exact (Qb e1 h.out.2.2.2).trans (i.out.mono γ)
end Go.Proofs.YtbjmnlefkbhbdaaGreatDoor
