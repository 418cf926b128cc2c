/- A part of it. -/
import Derived.Test.YtbjmnlefkbhbdaaGreatDoorQlai
import Derived.Shelf.SlSortCmp.NoneTotal
set_option maxRecDepth 100000
set_option maxHeartbeats 40000000
namespace Go.Proofs.YtbjmnlefkbhbdaaGreatDoor
open Go.RowKit
variable {w w':World} {base g n:Nat} {f:Nat→Bool} {u v:Value} {p:Addr}
def IdxTo (n:Nat) (f:Nat→Int) (v:Int) (w w':World) (e:Ending):Prop := ∃ i:Int,e=.returned (I i)∧(0≤i↔∃ j,j<n∧f j=v)∧Bl w w'
theorem index_any (w:World) (g n a:Nat) (f:Nat→Int) (v:Int) (l:ZRow w g n f) (x:n≤300) :
  Cl 133 #[.slice (Az g) n a,I v] w fun e w'=>IdxTo n f v w w' e:=by
 have o:=Hd l;clear l;go_enter Tryz.func133,Tryz.ntmps133;go_wp2;go_loopg [8] n (fun p s t=>∃ i:Nat,i≤n∧p=n - i∧s=I (i:Int)∧(∀ j,j<i→f j≠v)∧t=w)
 case atStart=>exact ⟨0,γ,rfl,rfl,fun j h=>by omega,rfl⟩
 case round =>
  obtain ⟨i,hi,rfl,rfl,k,rfl⟩:=hrel;have c:=Hd k;clear k;by_cases h1:i<n
  ·have r:(i:Int)<(n:Int):=γ;have y:(0:Int)≤(i:Int):=γ;obtain ⟨z0,_⟩:=o.out i h1;obtain ⟨u,b⟩:∃ u,u=f i:=⟨_,rfl⟩;rw [← b] at z0;have d:=Hd b;clear b;by_cases hv:v=u
   ·have m:(v == u)=true:=by simpa using hv
    clear hv;go_wp2;go_ret;refine ⟨(i:Int),rfl,⟨fun _=>⟨i,h1, ?_⟩,fun _=>by omega⟩,Qd _⟩;rw [← d.out];exact (beq_iff_eq.1 m).symm
   ·have m:(v == u)=false:=by simpa using hv
    go_wp2;go_roundg (n - (i+1))
    case measure=>omega
    case rel =>
     refine ⟨i+1,γ,rfl,σ,fun j q=>?_,rfl⟩;by_cases e:j=i
     ·subst e;rw [← d.out];exact fun e=>hv e.symm
     ·exact c.out j γ
  ·have r:¬ (i:Int)<(n:Int):=γ;go_wp2;go_ret;exact ⟨-1,rfl,⟨fun h=>by omega,fun ⟨j,q,e⟩=>absurd e (c.out j γ)⟩,Qd _⟩
def ConTo (n:Nat) (f:Nat→Int) (v:Int) (w w':World) (e:Ending):Prop := ∃ b:Bool,e=.returned (.bool b)∧(b=true↔∃ j,j<n∧f j=v)∧Bl w w'
theorem contains_any (w:World) (g n a:Nat) (f:Nat→Int) (v:Int) (c:ZRow w g n f) (d:n≤300) :
  Cl 86 #[.slice (Az g) n a,I v] w fun e w'=>ConTo n f v w w' e:=by
 have CI:=Hd (index_any w g n a f v c d);clear c;go_enter Tryz.func86,Tryz.ntmps86;go_wp2_with (go_at_call 133;refine CI.out.mono ?_;rintro e h ⟨i,rfl,h1,hb⟩;have b:=H2 h1 hb;clear h1 hb)
 go_ret;exact ⟨_,rfl,by rw [decide_eq_true_eq];exact b.out.1,b.out.2⟩
open Go.ChangeMaps
theorem lay_yes (W H b off q n c:Nat) (z:Option Addr) (zs f:List Int) (w:World) (hr:Row w (Ad b off) zs) (hW:1≤W∧W≤8) (hH:1≤H∧H≤8) (hl:zs.length=W*H) (hm:maskB zs=true) (hk:Row w z f) (hn:f.length=n*5) (aj:n≤3518437208883) (hs:Steps w) (hJ:Joined (ty zs W H)) (hC:∀ i,i<n→CrOk (ty zs W H) f i) :
  Cl 20 #[.agg #[I (W:Int),I (H:Int),.slice (Ad b off) zs.length q,.slice z n c]] w fun e w'=>∃ j k base g h,e=.returned (.tuple #[.agg #[.slice j (ty zs W H).length k,.map (some g),.map (some h)],.bool true])∧PK w w' base g h (.slice j (ty zs W H).length k) (ty zs W H) (gix (ty zs W H)) (kf f n):=by
 have ai:cellsB (W:Int) (H:Int) zs=true:=by
  have e1:sideB (W:Int)=true:=γ3;have e2:sideB (H:Int)=true:=γ3;have e3:(zs.length:Int)=(W:Int)*(H:Int):=by rw [hl];simp
  simp only [cellsB,e1,e2,decide_eq_true e3,hm];rfl
 have E:sideB (W:Int)=true:=γ3;have D:sideB (H:Int)=true:=γ3;have X:(zs.length:Int)=(W:Int)*(H:Int):=by rw [hl];simp
 have aa:Hid (∀ a:World,Bl w a→Cl 45 #[.agg #[I (W:Int),I (H:Int),.slice (Ad b off) zs.length q,.slice z n c]] a fun e w'=>e=.returned (.bool true)∧∃ o,w'=a.alloc o):=fun a t=>hm ▸ Zm W H _ q zs _ a E D (hr.kept t) X;have a8:Hid (∀ a:World,Cl 44 #[I (W:Int)] a fun e w'=>e=.returned (.bool true)∧w'=a):=fun a=>E ▸ Xe (W:Int) a;have M:Hid (∀ a:World,Cl 44 #[I (H:Int)] a fun e w'=>e=.returned (.bool true)∧w'=a):=fun a=>D ▸ Xe (H:Int) a;have N:=Hd (fun (a:World) t=>of_any W H b off q zs a (hs.kept t) (hr.kept t) hW hH hl hm);have B:(ty zs W H).length≤300:=by have:=Vi zs W H hW.2;omega
 have O:Hid (∀ (a:World) (j:Option Addr) (k g h:Nat),Bl w a→PA a j g (ty zs W H)→Cl 47 #[.agg #[.slice j (ty zs W H).length k,.map (some g),.map (some h)]] a fun e w'=>∃ C:Bool,e=.returned (.bool C)∧(C=true↔Joined (ty zs W H))∧Bl a w'):=fun a j k g h t hp=>Vo a k g h j _ (hs.kept t) hp B (Yf zs W H) (ty_bd hW.2 hH.2);have P:Hid (∀ (a:World) (j:Option Addr) (k g h:Nat),Bl w a→PA a j g (ty zs W H)→Cl 48 #[.agg #[.slice j (ty zs W H).length k,.map (some g),.map (some h)],.slice z n c] a fun e w'=>∃ C:Bool,e=.returned (.bool C)∧(C=true↔∀ i,i<n→CrOk (ty zs W H) f i)∧Bl a w'):=fun a j k g h t hp=>Yi a k g h n c j z _ f hp (hk.kept t) hn aj;have ab:=Hd (Vx hk hn);clear hr hl hm hW hH hk hn hs ai E D X;obtain ⟨L,hL⟩:∃ L,L=ty zs W H:=⟨_,rfl⟩;rw [← hL] at N O P B;rw [← hL] at hJ hC ⊢;have HJ:=Hd hJ;have HC:=Hd hC;clear hL hJ hC;go_enter Tryz.func20,Tryz.ntmps20
 go_wp2_with (first
  | (go_at_call 44;first | (refine (a8.out _).mono ?_;rintro e w9 ⟨rfl,u⟩;have x:=u.symm;clear u;subst x) | (refine (M.out _).mono ?_;rintro e w9 ⟨rfl,u⟩;have x:=u.symm;clear u;subst x))
  | (go_at_call 45;refine (aa.out _ Ψ).mono ?_;rintro e w9 ⟨rfl,o9,rfl⟩)
  | (go_at_call 46;refine (N.out _ (by with_reducible exact Qc β2)).mono ?_;rintro e r ⟨j,k,base,pb,g,h,rfl,T⟩;have m:=Hd (T.pk.base β1);have s0:At r w.heap.size 0 (I (W:Int)):=Qa m.out.2.2.2.2 ζ;have s1:At r w.heap.size 1 (I (H:Int)):=Qa m.out.2.2.2.2 ζ;have s2:At r w.heap.size 2 (.slice (some ⟨b,off,none⟩) zs.length q):=Qa m.out.2.2.2.2 ζ;have s3:At r w.heap.size 3 (.slice z n c):=Qa m.out.2.2.2.2 ζ;have z3:=Bt s0;have au:w.heap.size+1<r.heap.size:=Nl ν m.out.2.2.2.2.size;clear T)
  | (go_at_call 47;refine (O.out _ _ k g h (Qc (Qb β2 m.out.2.2.2.2)) (m.out.pa.kept β1)).mono ?_;rintro e J ⟨ac,rfl,U,l⟩;obtain rfl:ac=true:=U.2 HJ.out;have s:=H2 (m.out.kept (Qb β1 l)) (Qb β1 l);have r0:At J w.heap.size 0 (I (W:Int)):=Qa s.out.2 s0;have r1:At J w.heap.size 1 (I (H:Int)):=Qa s.out.2 s1;have r2:At J w.heap.size 2 (.slice (some ⟨b,off,none⟩) zs.length q):=Qa s.out.2 s2;have r3:At J w.heap.size 3 (.slice z n c):=Qa s.out.2 s3;have G:At J r.heap.size 0 (.slice j L.length k):=Qa l ζ;have Y:At J r.heap.size 1 (.map (some g)):=Qa l ζ;have Z:At J r.heap.size 2 (.map (some h)):=Qa l ζ;have z4:=Bt r0;have am:=Bt G;clear U l)
  | (go_at_call 48;refine (P.out _ _ k g h (Qb β2 s.out.1.2.2.2.2) s.out.1.pa).mono ?_;rintro e K ⟨ae,rfl,V,d⟩;obtain rfl:ae=true:=V.2 HC.out;have Q:=Hd (s.out.1.kept d);have v0:At K w.heap.size 0 (I (W:Int)):=Qa d r0;have v1:At K w.heap.size 1 (I (H:Int)):=Qa d r1;have v2:At K w.heap.size 2 (.slice (some ⟨b,off,none⟩) zs.length q):=Qa d r2;have v3:At K w.heap.size 3 (.slice z n c):=Qa d r3;have a2:At K r.heap.size 0 (.slice j L.length k):=Qa d G;have a6:At K r.heap.size 1 (.map (some g)):=Qa d Y;have a7:At K r.heap.size 2 (.map (some h)):=Qa d Z;have z5:=Bt v0;clear V d))
 have an:base≤r.heap.size:=m.out.2.2.2.1.2.2.2.2.2.1;go_loopg [44] n (fun gk ak wx=>∃ i:Nat,i≤n∧gk=n - i∧ak=I (i:Int)∧PK ((w.alloc (.cells #[I (W:Int),I (H:Int),.slice (Ad b off) zs.length q,.slice z n c] 26)).alloc (.cells #[SN,.map none,.map none] 65)) wx base g h (.slice j L.length k) L (gix L) (kf f i)∧(At wx r.heap.size 0 (.slice j L.length k)∧At wx r.heap.size 1 (.map (some g))∧At wx r.heap.size 2 (.map (some h))))
 case atStart=>exact ⟨0,γ,rfl,rfl,Q.out,a2,a6,a7⟩
 case round =>
  clear Q s a2 a6 a7 G Y Z s0 s1 s2 s3 r0 r1 r2 r3 v0 v1 v2 v3 z4 am z5;obtain ⟨i,hi,rfl,rfl,hK,y0,y1,y2⟩:=hrel;have y:=Hd hK;have HB:=Hd (Qb β2 hK.2.2.2.2);clear hK;have zy:=Bt y0;by_cases h1:i<n
  ·have i1:(i:Int)<(n:Int):=γ;have i0:(0:Int)≤(i:Int):=γ;obtain ⟨C,bo,rfl,c0,c1,c2,c3,c4⟩:=(ab.out.kept HB.out) i h1;have zb:=Bt c0;obtain ⟨a,hu,hg,R⟩:=(y.out.kept (w':=wr.alloc (.cells #[I (ck f i 0),I (ck f i 1),I (ck f i 2),I (ck f i 3),I (ck f i 4)] 122)) β1).update ((ck f i 0),(ck f i 1),(ck f i 2),(ck f i 3)) (I (ck f i 4));have ar:(Instr.mapUpdate 63 (.map (some h)) (.agg #[I (ck f i 0),I (ck f i 1),I (ck f i 2),I (ck f i 3)]) (I (ck f i 4))).run Tryz.prog (wr.alloc (.cells #[I (ck f i 0),I (ck f i 1),I (ck f i 2),I (ck f i 3),I (ck f i 4)] 122))=.ok () a:=hu
   have A:some r.heap.size≠some h:=fun e=>by
    have:=y.out.2.2.2.1.2.2.2.1;simp at e;omega
   have HN:Hid (PK ((w.alloc (.cells #[I (W:Int),I (H:Int),.slice (Ad b off) zs.length q,.slice (Ad C bo) n c] 26)).alloc (.cells #[SN,.map none,.map none] 65)) a base g h (.slice j L.length k) L (gix L) (kf f (i+1))∧(At a r.heap.size 0 (.slice j L.length k)∧At a r.heap.size 1 (.map (some g))∧At a r.heap.size 2 (.map (some h)))):=⟨R,hg.cell (Ql y0) A,hg.cell (Ql y1) A,hg.cell (Ql y2) A⟩;clear hu hg R A;go_wp2;go_roundg (n - (i+1))
   case measure=>omega
   case rel=>exact ⟨i+1,γ,rfl,σ,HN.out.1,HN.out.2⟩
  ·have i1:¬ (i:Int)<(n:Int):=γ;obtain rfl:i=n:=γ;have af:At wr (w.heap.size+1) 0 SN:=Qa y.out.2.2.2.2 ζ;have ag:At wr (w.heap.size+1) 1 (.map none):=Qa y.out.2.2.2.2 ζ;have ah:At wr (w.heap.size+1) 2 (.map none):=Qa y.out.2.2.2.2 ζ;have ao:Fn wr (w.heap.size+1) 0:=(y.out.2.2.2.2.frozen (p:=⟨w.heap.size+1,0,none⟩) ν).trans ζ;have ap:Fn wr (w.heap.size+1) 1:=(y.out.2.2.2.2.frozen (p:=⟨w.heap.size+1,1,none⟩) ν).trans ζ;have aq:Fn wr (w.heap.size+1) 2:=(y.out.2.2.2.2.frozen (p:=⟨w.heap.size+1,2,none⟩) ν).trans ζ;go_wp2;have F:=y.out.2.2.2.1;refine bodyPost_ret (v:=.tuple #[.agg #[.slice j L.length k,.map (some g),.map (some h)],.bool true]) ?_ rfl ⟨j,k,base,g,h,rfl,(y.out.base (Qc (Qc (Qd w)))).grown (Jg (Jg (Qg _ _ 0 _) (Qg _ _ 1 _)) (Qg _ _ 2 _)) γ ?_ ?_ ?_⟩
   ·simp [results,Tryz.results20,go_sem,af,ag,ah]
   ·have:=F.1;simp at this;omega
   ·have:=F.2.2.1;simp at this;omega
   ·have:=F.2.2.2.2.2.2;simp at this;omega
theorem own_lower {low:Nat} {e:TypeId} {size:Nat} {c:List Value} (h:w.ownsRow base e size v n c) (hb:low≤base):w.ownsRow low e size v n c:=by
 obtain ⟨h1,h2⟩:=h;refine ⟨h1, ?_⟩;rcases h2 with h2 | ⟨g,a,b,h3,h4,h5⟩
 ·exact Or.inl h2
 ·exact Or.inr ⟨g,a,b,h3,γ,h5⟩
theorem mayFold_any (t a k m z mv:Value) (pa:Option Addr) (y pc:Nat) (o c sd n B C A:Int) (E:Bool) (L:List T3) (s e0:Int) (w:World) (x:TRow w pa L) (D:L.length=y) (hi:0<L.length)
  (i:∀ V:World,Bl w V→Rt 9 #[.agg #[I o,I c],.agg #[I L[0].1,I L[0].2.1,I L[0].2.2]] V (.tuple #[I s,I e0])) :
  Rt 74 #[.agg #[t,a,k,m,.slice pa y pc,z,I o,I c,I sd,.bool E,I n,I B,I C,I A,mv]] w (.bool (decide (e0=0) && (decide (sd=1) || decide (sd=-1)) && decide (0≤n))):=by
 have d:=Hd i;obtain ⟨g,hg,c0,c1,c2⟩:=x 0 hi;subst hg;subst D;have J:(0:Int)<(L.length:Int):=γ;generalize L[0]=u at c0 c1 c2 d;simp only [Nat.zero_mul,Nat.zero_add] at c0 c1 c2;clear i x;go_enter Tryz.func74,Tryz.ntmps74;go_wp2;refine Qj (fun V f=>?_)
 have j:Bl w V:=by
  rw [f]
  first
   | exact Qc β1
   | (repeat' first | exact Qd _ | refine Qc ?_ | refine Qk ?_ ν)
 have q:At V w.heap.size 4 (.slice (Az g) L.length pc):=by rw [f];simp [go_sem]
 have f0:At V (w.heap.size+1) 0 (I o):=by rw [f];simp [go_sem]
 have f1:At V (w.heap.size+1) 1 (I c):=by rw [f];simp [go_sem]
 have f2:At V (w.heap.size+1) 2 (I sd):=by rw [f];simp [go_sem]
 have f4:At V (w.heap.size+1) 4 (I n):=by rw [f];simp [go_sem]
 have t0:=Qa j c0;have r:=Qa j c1;have v:=Qa j c2;have p:=Hd j;clear f j c0 c1 c2
 go_region_held3 (fun w'=>At w' w.heap.size 4 (.slice (Az g) L.length pc)∧At w' (w.heap.size+1) 0 (I o)∧At w' (w.heap.size+1) 1 (I c)∧At w' g 0 (I u.1)∧At w' g 1 (I u.2.1)∧At w' g 2 (I u.2.2))
  (first | exact ⟨Qi q,Qi f0,Qi f1,Qi t0,Qi r,Qi v⟩ | exact ⟨F,G,H,z0,z1,z2⟩)
  (first
   | (go_at_call 9;(with_reducible refine (d.out _ (Qb p.out (Qe (Qd _)))).mono ?_);rintro e K ⟨rfl,l⟩;have b:=Qb (Qe (Qd V)) l;have F:=Qa b q;have G:=Qa b f0;have H:=Qa b f1;have x2:=Qa b f2;have M:=Qa b f4;have z0:=Qa b t0;have z1:=Qa b r;have z2:=Qa b v;have h:=Hd (Qb p.out b);clear l b)
   | fail)
 clear p t0 r v q f0 f1 f2 f4 d;by_cases k0:e0=0
 ·subst k0;by_cases k1:sd=1
  ·subst k1;by_cases k2:0≤n
   ·go_wp2;go_ret;exact ⟨by simp,h.out⟩
   ·go_wp2;go_ret;exact ⟨by simp [k2],h.out⟩
  ·by_cases k3:sd=-1
   ·subst k3;by_cases k2:0≤n
    ·go_wp2;go_ret;exact ⟨by simp,h.out⟩
    ·go_wp2;go_ret;exact ⟨by simp [k2],h.out⟩
   ·go_wp2;go_ret;exact ⟨by simp,h.out⟩
 ·go_wp2;go_ret;exact ⟨by simp [k0],h.out⟩
theorem held_all (a k m g mv:Value) (p pa:Option Addr) (N q n pc:Nat) (r c sd j l h:Int) (o:Bool) (f:Nat→Bool) (w:World) (u:N≤300)
  (b:∀ (V:World) (i:Nat),Bl w V→i<N→Rt 115 #[.agg #[.slice p N q,a,k,m,.slice pa n pc,g,I r,I c,I sd,.bool o,I 0,I j,I l,I h,mv],I (i:Int)] V (.bool (f i))) :
  Cl 75 #[.agg #[.slice p N q,a,k,m,.slice pa n pc,g,I r,I c,I sd,.bool o,I 0,I j,I l,I h,mv]] w fun e w'=>∃ v,e=.returned (.tuple #[v,.bool true])∧w'.ownsRow w.heap.size 3 1 v (whL f N).length (nuV (whL f N))∧Bl w w':=by
 have d:=Hd b;clear b;go_enter Tryz.func75,Tryz.ntmps75
 go_wp2_with (first
  | (go_at_call 114;go_must (with_reducible refine (where_any a k m g mv p pa N q n pc r c sd 0 j l h o f _ u (fun V i x hi=>d.out V i (Qb β1 x) hi)).mono ?_);go_must (rintro e y ⟨v,rfl,t,hb⟩);go_must (have s:=H2 (own_lower t (Qc (Qd w)).size) (Qb β1 hb));clear t hb)
  | fail)
 exact bodyPost_ret (v:=.tuple #[v,.bool true]) (by simp [results,Tryz.results75,go_sem]) rfl ⟨v,rfl,s.out.1,s.out.2⟩
theorem Jh {a:Addr} (h:w.cell? a=some v) (b:a.block≠p.block):(w.setCell p u).cell? a=some v:=by
 first | exact Xc h b | exact World.cell?_setCell_far h b
theorem pileLine_any (t a k pl:Value) (d n cm i:Nat) (A B C E m0 m1 m2 m3 m4 m5 p q r s lw lc:Int) (w:World) (hi:i<n) (m:At w d (i*6) (I m0)) (y:At w d (i*6+1) (I m1)) (z:At w d (i*6+2) (I m2)) (D:At w d (i*6+3) (I m3)) (F:At w d (i*6+4) (I m4)) (G:At w d (i*6+5) (I m5))
  (h:∀ V:World,Rt 147 #[.agg #[I A,I B,I C,I E],.agg #[I m0,I m1,I m2,I m3,I m4,I m5]] V (.agg #[I p,I q,I r,I s]))
  (j:∀ V:World,Rt 156 #[.agg #[I p,I q,I r,I s]] V (.agg #[I lw,I lc])) :
  Rt 119 #[.agg #[t,a,k,.slice (Az d) n cm,pl],I (i:Int),.agg #[I A,I B,I C,I E]] w (.agg #[I lw,I lc]):=by
 have o:=Hd h;have u:=Hd j;clear h j;have i0:(0:Int)≤(i:Int):=γ;have i1:(i:Int)<(n:Int):=γ;go_enter Tryz.func119,Tryz.ntmps119;go_wp2;refine Qj (fun V g=>?_);have l:Bl w V:=by rw [g];exact Qc β2
 have q3:At V w.heap.size 3 (.slice (Az d) n cm):=by rw [g];simp [go_sem]
 have e0:At V (w.heap.size+1) 0 (I A):=by rw [g];simp [go_sem]
 have e1:At V (w.heap.size+1) 1 (I B):=by rw [g];simp [go_sem]
 have e2:At V (w.heap.size+1) 2 (I C):=by rw [g];simp [go_sem]
 have e3:At V (w.heap.size+1) 3 (I E):=by rw [g];simp [go_sem]
 have o0:At V (w.heap.size+2) 0 (I 0):=by rw [g];simp [go_sem]
 have o1:At V (w.heap.size+2) 1 (I 0):=by rw [g];simp [go_sem]
 have f0:V.frozen? ⟨w.heap.size+2,0,none⟩=false:=by rw [g];simp [go_sem]
 have f1:V.frozen? ⟨w.heap.size+2,1,none⟩=false:=by rw [g];simp [go_sem]
 have c0:=Qa l m;have c1:=Qa l y;have c2:=Qa l z;have c3:=Qa l D;have c4:=Qa l F;have c5:=Qa l G;have HB:=Hd l;have ac:=Bt m;clear g l m y z D F G
 go_region_held3 (fun w'=>At w' w.heap.size 3 (.slice (Az d) n cm)∧At w' (w.heap.size+1) 0 (I A)∧At w' (w.heap.size+1) 1 (I B)∧At w' (w.heap.size+1) 2 (I C)∧At w' (w.heap.size+1) 3 (I E)∧At w' d (i*6) (I m0)∧At w' d (i*6+1) (I m1)∧At w' d (i*6+2) (I m2)∧At w' d (i*6+3) (I m3)∧At w' d (i*6+4) (I m4)∧At w' d (i*6+5) (I m5))
  (first | exact ⟨Qi q3,Qi e0,Qi e1,Qi e2,Qi e3,Qi c0,Qi c1,Qi c2,Qi c3,Qi c4,Qi c5⟩ | exact ⟨ab,a6,a7,a8,aa,U,W,X,Y,Z,a2⟩ | exact ⟨T,O,P,Q,R,H,J,K,L,M,N⟩ | exact ⟨Jh (Jh ab χ) χ,Jh (Jh a6 χ) χ,Jh (Jh a7 χ) χ,Jh (Jh a8 χ) χ,Jh (Jh aa χ) χ,Jh (Jh U χ) χ,Jh (Jh W χ) χ,Jh (Jh X χ) χ,Jh (Jh Y χ) χ,Jh (Jh Z χ) χ,Jh (Jh a2 χ) χ⟩)
  (first
   | (go_at_call 147;(with_reducible refine (o.out _).mono ?_);rintro e w5 ⟨rfl,x⟩;have c:=Qb (Qe (Qd V)) x;have T:=Qa c q3;have O:=Qa c e0;have P:=Qa c e1;have Q:=Qa c e2;have R:=Qa c e3;have H:=Qa c c0;have J:=Qa c c1;have K:=Qa c c2;have L:=Qa c c3;have M:=Qa c c4;have N:=Qa c c5;have H5:=Hd c;clear x c)
   | (go_at_call 156;(with_reducible refine (u.out _).mono ?_);rintro e w6 ⟨rfl,b⟩;have ab:=Qa b T;have a6:=Qa b O;have a7:=Qa b P;have a8:=Qa b Q;have aa:=Qa b R;have U:=Qa b H;have W:=Qa b J;have X:=Qa b K;have Y:=Qa b L;have Z:=Qa b M;have a2:=Qa b N;have f:=Qb H5.out b;have x0:=Qa f o0;have x1:=Qa f o1;have u0:=Qf f o0 f0;have u1:=Qf f o1 f1;have H6:=Hd (Qb HB.out f);clear b f)
   | fail)
 go_wp2;refine bodyPost_ret (v:=.agg #[I lw,I lc]) (by simp [results,Tryz.results119,go_sem,x0,x1]) rfl ⟨rfl, ?_⟩;with_reducible repeat (first | exact H6.out | refine Qk ?_ ?_)
 all_goals (dsimp only;omega)
theorem along_asks (t a k pl _R _sd _Y _X _U _W _T _mv:Value) (y n x pb:Nat) (P tz A B C E h c L K:Int) (w:World)
  (k0:At w pb 0 (t)) (k1:At w pb 1 (a)) (k2:At w pb 2 (k)) (k3:At w pb 3 (.slice (Az y) n x)) (M:At w pb 4 (pl)) (N:At w pb 6 (I h)) (O:At w pb 7 (I c))
  (z:∀ V:World,Bl w V→Rt 119 #[.agg #[t,a,k,.slice (Az y) n x,pl],I P,.agg #[I A,I B,I C,I E]] V (.agg #[I L,I K])) :
  Rt 118 #[I P,.agg #[I A,I B,I C,I E,I tz],.pointer (Az pb)] w (.bool (!(decide (L=h) && decide (K=c)))):=by
 have g:=Hd z;clear z;go_enter Tryz.func118,Tryz.ntmps118;go_wp2;refine Qj (fun V l=>?_);have f:Bl w V:=by rw [l];exact Qc (Qd _)
 have e0:At V w.heap.size 0 (I A):=by rw [l];simp [go_sem]
 have e1:At V w.heap.size 1 (I B):=by rw [l];simp [go_sem]
 have e2:At V w.heap.size 2 (I C):=by rw [l];simp [go_sem]
 have j:At V w.heap.size 3 (I E):=by rw [l];simp [go_sem]
 have m:=Qa f k0;have o:=Qa f k1;have p:=Qa f k2;have q:=Qa f k3;have r:=Qa f M;have s:=Qa f N;have u:=Qa f O;have i:=Hd f;clear l f k0 k1 k2 k3 M N O;by_cases h1:L=h
 ·have h1:=h1.symm;subst h1;by_cases h2:K=c
  ·have h2:=h2.symm;subst h2
   go_region_held3 (fun w'=>At w' pb 0 (t)∧At w' pb 1 (a)∧At w' pb 2 (k)∧At w' pb 3 (.slice (Az y) n x)∧At w' pb 4 (pl)∧At w' pb 6 (I h)∧At w' pb 7 (I c)∧At w' w.heap.size 0 (I A)∧At w' w.heap.size 1 (I B)∧At w' w.heap.size 2 (I C)∧At w' w.heap.size 3 (I E))
    (first | exact ⟨Qi m,Qi o,Qi p,Qi q,Qi r,Qi s,Qi u,Qi e0,Qi e1,Qi e2,Qi j⟩ | exact ⟨F,y1,y2,y3,G,H,J,D,x1,x2,x3⟩)
    (first
     | (go_at_call 119;(with_reducible refine (g.out _ (Qb i.out (Qe (Qd _)))).mono ?_);rintro e Q ⟨rfl,d⟩;have b:=Qb (Qe (Qd V)) d;have F:=Qa b m;have y1:=Qa b o;have y2:=Qa b p;have y3:=Qa b q;have G:=Qa b r;have H:=Qa b s;have J:=Qa b u;have D:=Qa b e0;have x1:=Qa b e1;have x2:=Qa b e2;have x3:=Qa b j;have v:=Hd (Qb i.out b);clear d b)
     | fail)
   go_wp2;go_ret;exact ⟨γ6,v.out⟩
  ·have h3:(K == c)=false:=by simpa using h2
   go_region_held3 (fun w'=>At w' pb 0 (t)∧At w' pb 1 (a)∧At w' pb 2 (k)∧At w' pb 3 (.slice (Az y) n x)∧At w' pb 4 (pl)∧At w' pb 6 (I h)∧At w' pb 7 (I c)∧At w' w.heap.size 0 (I A)∧At w' w.heap.size 1 (I B)∧At w' w.heap.size 2 (I C)∧At w' w.heap.size 3 (I E))
    (first | exact ⟨Qi m,Qi o,Qi p,Qi q,Qi r,Qi s,Qi u,Qi e0,Qi e1,Qi e2,Qi j⟩ | exact ⟨F,y1,y2,y3,G,H,J,D,x1,x2,x3⟩)
    (first
     | (go_at_call 119;(with_reducible refine (g.out _ (Qb i.out (Qe (Qd _)))).mono ?_);rintro e Q ⟨rfl,d⟩;have b:=Qb (Qe (Qd V)) d;have F:=Qa b m;have y1:=Qa b o;have y2:=Qa b p;have y3:=Qa b q;have G:=Qa b r;have H:=Qa b s;have J:=Qa b u;have D:=Qa b e0;have x1:=Qa b e1;have x2:=Qa b e2;have x3:=Qa b j;have v:=Hd (Qb i.out b);clear d b)
     | fail)
   go_wp2;go_ret;exact ⟨γ6,v.out⟩
 ·have h3:(L == h)=false:=by simpa using h1
  go_region_held3 (fun w'=>At w' pb 0 (t)∧At w' pb 1 (a)∧At w' pb 2 (k)∧At w' pb 3 (.slice (Az y) n x)∧At w' pb 4 (pl)∧At w' pb 6 (I h)∧At w' pb 7 (I c)∧At w' w.heap.size 0 (I A)∧At w' w.heap.size 1 (I B)∧At w' w.heap.size 2 (I C)∧At w' w.heap.size 3 (I E))
   (first | exact ⟨Qi m,Qi o,Qi p,Qi q,Qi r,Qi s,Qi u,Qi e0,Qi e1,Qi e2,Qi j⟩ | exact ⟨F,y1,y2,y3,G,H,J,D,x1,x2,x3⟩)
   (first
    | (go_at_call 119;(with_reducible refine (g.out _ (Qb i.out (Qe (Qd _)))).mono ?_);rintro e Q ⟨rfl,d⟩;have b:=Qb (Qe (Qd V)) d;have F:=Qa b m;have y1:=Qa b o;have y2:=Qa b p;have y3:=Qa b q;have G:=Qa b r;have H:=Qa b s;have J:=Qa b u;have D:=Qa b e0;have x1:=Qa b e1;have x2:=Qa b e2;have x3:=Qa b j;have v:=Hd (Qb i.out b);clear d b)
    | fail)
  go_wp2;go_ret;exact ⟨γ6,v.out⟩
def YRow (w:World) (g n:Nat) (f:Nat→Bool):Prop := ∀ i,i<n→At w g i (.bool (f i))∧Fn w g i
theorem YRow.kept (h:YRow w g n f) (hb:Bl w w'):YRow w' g n f:=fun i hi =>
 ⟨Qa hb (h i hi).1,Qf hb (h i hi).1 (h i hi).2⟩
theorem YRow.set {j:Nat} {b:Bool} {a:Nat→Bool} (h:YRow w g n f) (c:a j=b) (d:∀ i,i<n→i≠j→a i=f i):YRow (w.setCell ⟨g,j,none⟩ (.bool b)) g n a:=fun i hi=>by
 refine ⟨?_,by (try simp only [Fn]);rw [Fz];exact (h i hi).2⟩;by_cases e:i=j
 ·subst e;(try simp only [At]);rw [Cs _ _ _ (h i hi).1,c]
 ·(try simp only [At]);rw [Co _ _ _ _ (by simp <;> omega),(h i hi).1,d i hi e]
theorem YRow.far (h:YRow w g n f) (a:g≠p.block):YRow (w.setCell p u) g n f:=fun i hi =>
 ⟨Jh (h i hi).1 a,by (try simp only [Fn]);rw [Fz];exact (h i hi).2⟩
theorem ZRow.far {f:Nat→Int} (h:ZRow w g n f) (a:g≠p.block):ZRow (w.setCell p u) g n f:=fun i hi =>
 ⟨Jh (h i hi).1 a,by (try simp only [Fn]);rw [Fz];exact (h i hi).2⟩
theorem yes_made (h:w.ownsRow base 4 1 (.slice (Az g) n n) n (madeCells #[.bool false] n).toList):YRow w g n (fun _=>false):=fun i hi=>by
 have h0:(madeCells #[Value.bool false] n).toList[i]?=some (.bool false):=by
  rw [Array.getElem?_toList];unfold madeCells;have:i % 1=0:=γ;simp [hi,this]
 refine ⟨by simpa using (h.cellAt i γ).trans h0, ?_⟩;rcases h.2 with ⟨e1,_⟩ | ⟨b,a,c,e1,_,hb,_⟩
 ·simp at e1
 ·simp only [Value.slice.injEq,Option.some.injEq,Addr.mk.injEq] at e1;obtain ⟨⟨rfl,_⟩,_⟩:=e1;simp [World.frozen?,hb]
theorem infB:(Tryz.prog.info? 4).map (fun i=>(i.zero,i.size,i.bytes))=some (some (.bool false),1,1):=μ
def cms (part:Nat→Int) (hl:List Nat) (j q:Nat):Bool:=(hl.take j).any fun x=>decide (part x=(q:Int))
theorem cms_no (part:Nat→Int) (hl:List Nat) (q:Nat):cms part hl 0 q=false:=by simp [cms]
theorem cms_one {part:Nat→Int} {hl:List Nat} {j:Nat} (h:j<hl.length) (q:Nat):cms part hl (j+1) q=(cms part hl j q || decide (part hl[j]=(q:Int))):=by
 unfold cms;have e:hl.take (j+1)=hl.take j ++ [hl[j]]:=by first | exact (List.take_append_getElem h).symm | exact (List.take_concat_get' _ _ h).symm | exact List.take_succ_eq_append_getElem h
 rw [e,List.any_append];simp
theorem cms_all {part:Nat→Int} {hl:List Nat} (q:Nat):cms part hl hl.length q=hl.any fun x=>decide (part x=(q:Int)):=by simp [cms]
def NumR (w:World) (a:Option Addr) (l:List Nat):Prop := ∀ j (h:j<l.length),∃ g,a=Az g∧At w g j (I (l[j]:Int))
theorem NumR.kept {a:Option Addr} {l:List Nat} (h:NumR w a l) (hb:Bl w w'):NumR w' a l:=fun j b=>by
 obtain ⟨g,e,h1⟩:=h j b;exact ⟨g,e,Qa hb h1⟩
theorem alongF_any (t a k pl M sd ov ly O P N mv:Value) (T n R hc:Nat) (hp:Option Addr) (wy c:Int) (hl:List Nat) (Q:(Nat→Int)→Prop) (w:World) (B:0<n) (hn:n≤300) (ae:hl.length≤300)
  (hH:NumR w hp hl) (a2:∀ j (h:j<hl.length),hl[j]<n) (hQ:∀ part,Q part→∀ i,i<n→0≤part i∧part i<(n:Int))
  (U:Cl 19 #[.agg #[t,a,k],.func (.func 118) #[] #[.pointer (Az w.heap.size)]] (w.alloc (.cells #[t,a,k,.slice (Az T) n R,pl,M,I wy,I c,sd,ov,ly,O,P,N,mv] 105)) fun e w'=>∃ g part,e=.returned (.slice (Az g) n n)∧ZRow w' g n part∧Q part∧(w.alloc (.cells #[t,a,k,.slice (Az T) n R,pl,M,I wy,I c,sd,ov,ly,O,P,N,mv] 105)).heap.size≤g∧Below (w.alloc (.cells #[t,a,k,.slice (Az T) n R,pl,M,I wy,I c,sd,ov,ly,O,P,N,mv] 105)).heap.size (w.alloc (.cells #[t,a,k,.slice (Az T) n R,pl,M,I wy,I c,sd,ov,ly,O,P,N,mv] 105)) w') :
  Cl 76 #[.agg #[t,a,k,.slice (Az T) n R,pl,M,I wy,I c,sd,ov,ly,O,P,N,mv],.slice hp hl.length hc] w fun e w'=>∃ g part,e=.returned (.slice (Az g) n n)∧YRow w' g n (fun i=>hl.any fun x=>decide (part x=part i))∧Q part∧w.heap.size≤g∧Bl w w':=by
 obtain ⟨i4,Z,E,F,G⟩:=info_parts infB;have l:=H4 Z E F G;have a7:=Hd U;have HH:Hid (NumR w hp hl∧(∀ j (h:j<hl.length),hl[j]<n)∧∀ part,Q part→∀ i,i<n→0≤part i∧part i<(n:Int)):=⟨hH,a2,hQ⟩;clear Z E F G U hH a2 hQ;go_enter Tryz.func76,Tryz.ntmps76;go_upto_region 2 with (go_at_call 19;refine a7.out.mono ?_;rintro e w1 ⟨g,part,rfl,C,hq,hg,hb⟩;have p:=H4 C hq (Nt (Qc (Qd w)).size hg) (Qb β1 hb);clear C hq hg hb)
 go_wp2_with (at_make;refine wpList_make_full _ rfl (.tmp 18) (.tmp 18) 103 rfl w1.heap.size 4 i4 (.bool false) 1 Tryz.underlying103 l.out.1 l.out.2.1 l.out.2.2.1 .i64 .i64 _ _ n rfl rfl rfl rfl ?b2 ?b3 ?b4 ?mk)
 case b2 =>
  rw [l.out.2.2.2];omega
 case b3 =>
  unfold maxLen;omega
 case b4=>exact Nr _
 case mk =>
  intro w2 ho hg;have f:=yes_made (by simpa using ho);have a6:w1.heap.size<w2.heap.size:=bk (f 0 B).1;have u:Bl w1 w2:=(Below.refl _ _).grown hg (Nr _) (fun k h=>by cases h);obtain ⟨g6,J⟩:∃ q,q=w1.heap.size:=⟨_,rfl⟩;have L:g<w1.heap.size:=bk (p.out.1 0 B).1
  have A:Hid (YRow w2 g6 n (cms part hl 0)∧ZRow w2 g n part∧Bl w w2):=by
   refine ⟨?_,p.out.1.kept u,Qb p.out.2.2.2 u⟩;rw [J];have e:cms part hl 0=fun _=>false:=funext (cms_no part hl);rw [e];exact f
  have r:Hid (Q part∧g≠g6∧w.heap.size≤g6∧w.heap.size≤g):=⟨p.out.2.1,γ,by have:=p.out.2.2.2.size;omega,p.out.2.2.1⟩;rw [← J];clear ho hg f u a6 L J;go_wp2;go_loopg [8,22] hl.length (fun gk s8 ac H=>∃ j:Nat,j≤hl.length∧gk=hl.length - j∧ac=I (j:Int)∧YRow H g6 n (cms part hl j)∧ZRow H g n part∧Bl w H)
  case atStart=>exact ⟨0,γ,rfl,rfl,A.out.1,A.out.2.1,A.out.2.2⟩
  case round =>
   clear A;obtain ⟨j,hj,rfl,rfl,W,X,V⟩:=hrel;have o:=H3 W X V;clear W X V;by_cases h1:j<hl.length
   ·have j1:(j:Int)<(hl.length:Int):=γ;have j0:(0:Int)≤(j:Int):=γ;obtain ⟨gh,a8,c0⟩:=(HH.out.1.kept o.out.2.2) j h1;subst a8;have hx:=HH.out.2.1 j h1;have d:=HH.out.2.2 part r.out.1 hl[j] hx;have e1:=cms_one (part:=part) h1;generalize hl[j]=x at c0 hx d e1;have c1:=(o.out.2.1 x hx).1;obtain ⟨z,C⟩:∃ z:Nat,part x=(z:Int):=⟨(part x).toNat,γ⟩;rw [C] at c1 d e1;have z0:(0:Int)≤(z:Int):=d.1;have z1:(z:Int)<(n:Int):=d.2;have z2:z<n:=γ;have x0:(0:Int)≤(x:Int):=γ;have x1:(x:Int)<(n:Int):=γ;have y0:=(o.out.1 z z2).1;have y1:=(o.out.1 z z2).2
    have D:Hid (YRow (wr.setCell ⟨g6,z,none⟩ (.bool true)) g6 n (cms part hl (j+1))∧ZRow (wr.setCell ⟨g6,z,none⟩ (.bool true)) g n part∧Bl w (wr.setCell ⟨g6,z,none⟩ (.bool true))):=by
     refine ⟨o.out.1.set (by rw [e1];simp) (fun i hi aa=>by rw [e1];simp;omega),o.out.2.1.far r.out.2.1,Qk o.out.2.2 r.out.2.2.1⟩
    clear e1 C d;go_wp2;go_roundg (hl.length - (j+1))
    case measure=>omega
    case rel=>exact ⟨j+1,γ,rfl,σ,D.out.1,D.out.2.1,D.out.2.2⟩
   ·have j1:¬ (j:Int)<(hl.length:Int):=γ;obtain rfl:j=hl.length:=γ;go_wp2_with (at_make;refine wpList_make_full _ rfl (.tmp 34) (.tmp 34) 103 rfl wr.heap.size 4 i4 (.bool false) 1 Tryz.underlying103 l.out.1 l.out.2.1 l.out.2.2.1 .i64 .i64 _ _ n rfl rfl rfl rfl ?d2 ?d3 ?d4 ?mk2)
    case d2 =>
     rw [l.out.2.2.2];omega
    case d3 =>
     unfold maxLen;omega
    case mk2 =>
     intro w3 ho hg;have f:=yes_made (by simpa using ho);have m:Bl wr w3:=(Below.refl _ _).grown hg (Nr _) (fun k h=>by cases h);obtain ⟨g9,K⟩:∃ q,q=wr.heap.size:=⟨_,rfl⟩;have Y:g6<wr.heap.size:=bk (o.out.1 0 B).1;have L:g<wr.heap.size:=bk (o.out.2.1 0 B).1;have s:Hid (YRow w3 g9 n (fun _=>false)∧YRow w3 g6 n (cms part hl hl.length)∧ZRow w3 g n part∧Bl w w3):=⟨by rw [K];exact f,o.out.1.kept m,o.out.2.1.kept m,Qb o.out.2.2 m⟩;have y:Hid (g9≠g6∧g9≠g∧w.heap.size≤g9):=⟨γ,γ,by have:=o.out.2.2.size;omega⟩;rw [← K];clear ho hg f m Y L K;go_wp2;go_loopg [10,11,38] n (fun gk af ag ad H=>∃ i:Nat,i≤n∧gk=n - i∧ad=I (i:Int)∧YRow H g9 n (fun q=>decide (q<i) && hl.any fun x=>decide (part x=part q))∧YRow H g6 n (cms part hl hl.length)∧ZRow H g n part∧Bl w H)
     case atStart=>exact ⟨0,γ,rfl,rfl,by simpa using s.out.1,s.out.2.1,s.out.2.2.1,s.out.2.2.2⟩
     case round =>
      clear s;obtain ⟨i,hi,rfl,rfl,hV,W,X,V⟩:=hrel;have v:=H4 hV W X V;clear hV W X V;by_cases h2:i<n
      ·have i1:(i:Int)<(n:Int):=γ;have i0:(0:Int)≤(i:Int):=γ;have c1:=(v.out.2.2.1 i h2).1;have d:=HH.out.2.2 part r.out.1 i h2;obtain ⟨z,C⟩:∃ z:Nat,part i=(z:Int):=⟨(part i).toNat,γ⟩;rw [C] at c1 d;have z0:(0:Int)≤(z:Int):=d.1;have z1:(z:Int)<(n:Int):=d.2;have z2:z<n:=γ;have y0:=(v.out.2.1 z z2).1;rw [cms_all] at y0;have HE:Hid ((hl.any fun x=>decide (part x=part i))=hl.any fun x=>decide (part x=(z:Int))):=by rw [C];exact rfl
       generalize (hl.any fun x=>decide (part x=(z:Int)))=b at y0 HE;have v0:=(v.out.1 i h2).1;have v1:=(v.out.1 i h2).2
       have D:Hid (YRow (wr.setCell ⟨g9,i,none⟩ (.bool b)) g9 n (fun q=>decide (q<i+1) && hl.any fun x=>decide (part x=part q))∧YRow (wr.setCell ⟨g9,i,none⟩ (.bool b)) g6 n (cms part hl hl.length)∧ZRow (wr.setCell ⟨g9,i,none⟩ (.bool b)) g n part∧Bl w (wr.setCell ⟨g9,i,none⟩ (.bool b))):=by
        refine ⟨v.out.1.set (by simp only [HE.out];simp) (fun q hq aa=>?_),v.out.2.1.far y.out.1.symm,v.out.2.2.1.far y.out.2.1.symm,Qk v.out.2.2.2 y.out.2.2⟩;have:(decide (q<i+1))=decide (q<i):=decide_eq_decide.mpr γ;rw [this]
       clear C d HE;go_wp2;go_roundg (n - (i+1))
       case measure=>omega
       case rel=>exact ⟨i+1,γ,rfl,σ,D.out.1,D.out.2.1,D.out.2.2.1,D.out.2.2.2⟩
      ·have i1:¬ (i:Int)<(n:Int):=γ;obtain rfl:i=n:=γ;go_wp2;go_ret;refine ⟨g9,rfl,part,fun q hq=>?_,r.out.1,y.out.2.2,v.out.2.2.2⟩;have:=v.out.1 q hq;simpa [hq] using this
theorem JW.not_seam {b2:Nat} {a:Option Addr} {l:List (E4×Int)} {k:List Value} (h:JW w base a l) (j:w.ownsRow b2 197 5 v n k):∀ g,v.ownBlock=some g→a≠Az g:=fun g hg i=>by
 obtain ⟨_,f,h2⟩:=h.2 g i;rcases j.2 with ⟨rfl,_⟩ | ⟨b,e,d,rfl,_,c,_⟩
 ·simp [Value.ownBlock] at hg
 ·obtain rfl:b=g:=by simpa [Value.ownBlock] using hg
  rw [h2] at c;simp at c
theorem infSm:(Tryz.prog.info? 197).map (fun i=>(i.zero,i.size,i.bytes))=some (some (.agg #[I 0,I 0,I 0,I 0,I 0]),5,40):=μ
def smB (mw:Nat→Bool) (q:Nat) (j:E4×Int):Bool:=mw q && !mw j.2.toNat
def smL (mw:Nat→Bool) (js:Nat→List (E4×Int)) (i:Nat):List (E4×Int):=(List.range i).flatMap fun q=>(js q).filter (smB mw q)
def smJ (mw:Nat→Bool) (js:Nat→List (E4×Int)) (i m:Nat):List (E4×Int):=smL mw js i ++ ((js i).take m).filter (smB mw i)
theorem smJ_zero (mw:Nat→Bool) (js:Nat→List (E4×Int)) (i:Nat):smJ mw js i 0=smL mw js i:=by simp [smJ]
theorem smJ_all (mw:Nat→Bool) (js:Nat→List (E4×Int)) (i:Nat):smJ mw js i (js i).length=smL mw js (i+1):=by simp [smJ,smL,List.range_succ]
theorem smJ_one (mw:Nat→Bool) (js:Nat→List (E4×Int)) (i m:Nat) (h:m<(js i).length):smJ mw js i (m+1)=smJ mw js i m ++ (if smB mw i (js i)[m]=true then [(js i)[m]] else []):=by
 unfold smJ;have e:(js i).take (m+1)=(js i).take m ++ [(js i)[m]]:=by first | exact (List.take_append_getElem h).symm | exact (List.take_concat_get' _ _ h).symm | exact List.take_succ_eq_append_getElem h
 rw [e,List.filter_append,List.append_assoc];congr 2
 by_cases c:smB mw i (js i)[m]=true
 ·simp [c]
 ·simp [c]
theorem smL_len {mw:Nat→Bool} {js:Nat→List (E4×Int)} (h3:∀ i,(js i).length≤3):∀ i,(smL mw js i).length≤3*i:=by
 intro i;induction i with
 | zero=>simp [smL]
 | succ i ih =>
  rw [← smJ_all];unfold smJ;rw [List.length_append];have:=List.length_filter_le (smB mw i) ((js i).take (js i).length);have b:=h3 i;have a:((js i).take (js i).length).length=(js i).length:=ν;omega
theorem smJ_len {mw:Nat→Bool} {js:Nat→List (E4×Int)} (h3:∀ i,(js i).length≤3) (i m:Nat):(smJ mw js i m).length≤3*i+3:=by
 unfold smJ;rw [List.length_append];have h1:=smL_len (mw:=mw) h3 i;have h2:=List.length_filter_le (smB mw i) ((js i).take m);have h4:((js i).take m).length≤(js i).length:=ψ;have h5:=h3 i;omega
def HB4 (w:World) (b:Nat) (t a k:Value) (gv n:Nat):Prop:=At w b 0 t∧At w b 1 a∧At w b 2 k∧At w b 14 (.slice (Az gv) n n)
theorem HB4.kept {b c:Nat} {t a k:Value} (h:HB4 w b t a k c n) (hb:Bl w w'):HB4 w' b t a k c n:=⟨Qa hb h.1,Qa hb h.2.1,Qa hb h.2.2.1,Qa hb h.2.2.2⟩
theorem HB4.grown {b d:Nat} {t a k:Value} {row:Option Nat} (h:HB4 w b t a k d n) (hg:w.grownBy w' row) (c:some b≠row):HB4 w' b t a k d n:=⟨hg.cell h.1 c,hg.cell h.2.1 c,hg.cell h.2.2.1 c,hg.cell h.2.2.2 c⟩
theorem YRow.grown {row:Option Nat} (h:YRow w g n f) (hg:w.grownBy w' row) (b:some g≠row):YRow w' g n f:=fun i hi =>
 ⟨hg.cell (h i hi).1 b,(Fo (a:=⟨g,i,none⟩) (hg.block g (bk (h i hi).1) b)).trans (h i hi).2⟩
theorem seams_any (t a k m pl O wy c sd ov ly Q R P:Value) (g n:Nat) (mw:Nat→Bool) (js:Nat→List (E4×Int)) (w:World) (hn:n≤300) (hM:YRow w g n mw) (ah:g<w.heap.size) (h3:∀ i,(js i).length≤3) (Z:∀ i,i<n→∀ j∈js i,0≤j.2∧j.2<(n:Int))
  (F:∀ (V:World) (i:Nat),Bl w V→i<n→Cl 89 #[.agg #[t,a,k],I (i:Int)] V fun e w'=>∃ v,e=.returned v∧w'.ownsRow V.heap.size 79 5 v (js i).length (flatJ (js i))∧Bl V w') :
  Cl 124 #[.agg #[t,a,k,m,pl,O,wy,c,sd,ov,ly,Q,R,P,.slice (Az g) n n]] w fun e w'=>∃ v,e=.returned v∧w'.ownsRow w.heap.size 197 5 v (smL mw js n).length (flatJ (smL mw js n))∧Bl w w':=by
 obtain ⟨i5,X,a2,a6,a7⟩:=info_parts infSm;have HI:=H4 X a2 a6 a7;have M:=Hd F;have HH:Hid ((∀ i,(js i).length≤3)∧∀ i,i<n→∀ j∈js i,0≤j.2∧j.2<(n:Int)):=⟨h3,Z⟩
 have H0:Hid ((w.alloc (.cells #[t,a,k,m,pl,O,wy,c,sd,ov,ly,Q,R,P,.slice (Az g) n n] 105)).ownsRow (w.heap.size+1) 197 5 SN (smL mw js 0).length (flatJ (smL mw js 0))∧HB4 (w.alloc (.cells #[t,a,k,m,pl,O,wy,c,sd,ov,ly,Q,R,P,.slice (Az g) n n] 105)) w.heap.size t a k g n∧YRow (w.alloc (.cells #[t,a,k,m,pl,O,wy,c,sd,ov,ly,Q,R,P,.slice (Az g) n n] 105)) g n mw∧Bl w (w.alloc (.cells #[t,a,k,m,pl,O,wy,c,sd,ov,ly,Q,R,P,.slice (Az g) n n] 105))):=by
  refine ⟨by simpa [smL,flatJ] using World.ownsRow_nil _ _ _ _,by simp [HB4,go_sem],hM.kept β1,Qc (Qd _)⟩
 clear X a2 a6 a7 F h3 Z hM;go_enter Tryz.func124,Tryz.ntmps124;go_wp2;go_loopg [3,4,5,7,11] n (fun gk s3 s4 s5 s7 ad s=>∃ i:Nat,i≤n∧gk=n - i∧ad=I (i:Int)∧s.ownsRow (w.heap.size+1) 197 5 s3 (smL mw js i).length (flatJ (smL mw js i))∧HB4 s w.heap.size t a k g n∧YRow s g n mw∧Bl w s)
 case atStart=>exact ⟨0,γ,rfl,rfl,H0.out⟩
 case round =>
  clear H0;obtain ⟨i,hi,rfl,rfl,hR⟩:=hrel;obtain ⟨va,aa⟩:∃ x,x=u3:=⟨_,rfl⟩;subst aa;have p:=Hd hR;clear hR;by_cases h1:i<n
  ·have i1:(i:Int)<(n:Int):=γ;have i0:(0:Int)≤(i:Int):=γ;obtain ⟨k0,k1,k2,K⟩:=p.out.2.1;have y0:=(p.out.2.2.1 i h1).1;obtain ⟨bi,J⟩:∃ b,b=mw i:=⟨_,rfl⟩;rw [← J] at y0;have N:=Hd J;clear J;go_wp2_with (go_at_call 89;refine (M.out _ i p.out.2.2.2 h1).mono ?_;rintro e w5 ⟨vj,rfl,ho,hb⟩;obtain ⟨ja,jc,rfl,U⟩:=own_jw ho;have L:Hid (w5.ownsRow (w.heap.size+1) 197 5 va (smJ mw js i 0).length (flatJ (smJ mw js i 0))∧HB4 w5 w.heap.size t a k g n∧YRow w5 g n mw∧Bl w w5∧JW w5 0 ja (js i)):=(by rw [smJ_zero];exact ⟨Qh p.out.1 hb,p.out.2.1.kept hb,p.out.2.2.1.kept hb,Qb p.out.2.2.2 hb,U.mono (Nat.zero_le _)⟩);clear ho hb U)
   go_loopg [3,7,22] (js i).length (fun gk s3 s7 ae s=>∃ q:Nat,q≤(js i).length∧gk=(js i).length - q∧ae=I (q:Int)∧(s.ownsRow (w.heap.size+1) 197 5 s3 (smJ mw js i q).length (flatJ (smJ mw js i q))∧HB4 s w.heap.size t a k g n∧YRow s g n mw∧Bl w s)∧JW s 0 ja (js i))
   case atStart=>exact ⟨0,γ,rfl,rfl,⟨L.out.1,L.out.2.1,L.out.2.2.1,L.out.2.2.2.1⟩,L.out.2.2.2.2⟩
   case round =>
    clear L p k0 k1 k2 K y0;obtain ⟨q,hq,rfl,rfl,W,T⟩:=hrel;obtain ⟨vb,ac⟩:∃ x,x=u3:=⟨_,rfl⟩;subst ac;have d:=H2 W T;clear W T;by_cases h2:q<(js i).length
    ·have af:=HH.out.1 i;have q1:(q:Int)<((js i).length:Int):=γ;have q0:(0:Int)≤(q:Int):=γ;obtain ⟨gj,a8,c0,c1,c2,c3,c4⟩:=d.out.2.1 q h2;subst a8;have y:=HH.out.2 i h1 _ (Lm h2);have e1:=smJ_one mw js i q h2;have ag:=smJ_len (mw:=mw) HH.out.1 i q;generalize (js i)[q]=u at c0 c1 c2 c3 c4 y e1;obtain ⟨⟨A,B,C,E⟩,z9⟩:=u;dsimp only at c0 c1 c2 c3 c4 y e1;obtain ⟨z,rfl⟩:∃ z:Nat,z9=(z:Int):=⟨z9.toNat,γ⟩;have z0:(0:Int)≤(z:Int):=y.1;have z1:(z:Int)<(n:Int):=y.2;have y1:=(d.out.1.2.2.1 z γ).1;have K:=d.out.1.2.1.2.2.2;have zw:=Bt K;have zv:g<wr.heap.size:=γ;have aj:w.heap.size<wr.heap.size+1:=γ;have ai:g<wr.heap.size+1:=γ;have zj:=Bt c0
     cases bi with
     | false =>
      have o:mw i=false:=N.out.symm;have h:smJ mw js i (q+1)=smJ mw js i q:=by rw [e1];simp [smB,o]
      have H:=Hd h;clear h;clear e1 o;go_wp2;go_roundg ((js i).length - (q+1))
      case measure=>omega
      case rel=>exact ⟨q+1,γ,rfl,σ,by rw [H.out];exact ⟨Qh d.out.1.1 β1,d.out.1.2.1.kept β1,d.out.1.2.2.1.kept β1,Qc d.out.1.2.2.2⟩,d.out.2.kept β1⟩
     | true =>
      have o:mw i=true:=N.out.symm
      cases hmz:mw z with
      | true =>
       have h:smJ mw js i (q+1)=smJ mw js i q:=by rw [e1];simp [smB,hmz]
       have H:=Hd h;clear h;rw [hmz] at y1;clear e1 o hmz;go_wp2;go_roundg ((js i).length - (q+1))
       case measure=>omega
       case rel=>exact ⟨q+1,γ,rfl,σ,by rw [H.out];exact ⟨Qh d.out.1.1 β1,d.out.1.2.1.kept β1,d.out.1.2.2.1.kept β1,Qc d.out.1.2.2.2⟩,d.out.2.kept β1⟩
      | false =>
       have h:smJ mw js i (q+1)=smJ mw js i q ++ [((A,B,C,E),(z:Int))]:=by rw [e1];simp [smB,o,hmz]
       have H:=Hd h;clear h;rw [hmz] at y1;clear e1 o hmz;go_wp2_with (at_builtin;refine wpList_append_own _ rfl (.tmp 36) (.tmp 42) 195 rfl (w.heap.size+1) 197 i5 (.agg #[I 0,I 0,I 0,I 0,I 0]) 5 40 Tryz.underlying195 HI.out.1 HI.out.2.1 HI.out.2.2.1 HI.out.2.2.2 rfl τ vb (smJ mw js i q).length (flatJ (smJ mw js i q)) rfl ?own ⟨wr.heap.size+1,0,none⟩ 1 1 [I A,I B,I C,I E,I (z:Int)] rfl rfl ?c1 ?c2 ?b1 ?b2 ?b3 ?grow)
       case own=>exact Qh d.out.1.1 β2
       case c1 =>
        intro j u hu;have:=Xr (wr.alloc (.cells #[I A,I B,I C,I E,I (z:Int)] 79)) 197 A B C E (z:Int) j u hu;simpa using this
       case c2 =>
        intro u hu;simp at hu;rcases hu with rfl | rfl | rfl | rfl | rfl <;> rfl
       case b1 =>
        unfold maxLen;omega
       case b2=>omega
       case b3 =>
        simp;omega
       case grow =>
        intro v' w3 G f Y;have l:Bl wr ((wr.alloc (.cells #[I A,I B,I C,I E,I (z:Int)] 79)).alloc (.cells #[I A,I B,I C,I E,I (z:Int)] 197)):=Qc β1;have D:∀ r,vb.ownBlock=some r→w.heap.size+1≤r:=Qn d.out.1.1
        have HN:Hid ((w3.ownsRow (w.heap.size+1) 197 5 v' (smJ mw js i (q+1)).length (flatJ (smJ mw js i (q+1)))∧HB4 w3 w.heap.size t a k g n∧YRow w3 g n mw∧Bl w w3)∧JW w3 0 (Az gj) (js i)):=by
         rw [H.out];refine ⟨⟨?_,(d.out.1.2.1.kept l).grown f (fun he=>by have:=D _ he.symm;omega),(d.out.1.2.2.1.kept l).grown f (fun he=>by have:=D _ he.symm;omega), ?_⟩,(d.out.2.kept l).grown f (d.out.2.not_seam d.out.1.1)⟩
         ·simpa [flatJ] using G
         ·exact (Qb d.out.1.2.2.2 l).grown f (Qb d.out.1.2.2.2 l).size (fun r e=>by have:=D r e;omega)
        clear G f Y l D;go_wp2;go_roundg ((js i).length - (q+1))
        case measure=>omega
        case rel=>exact ⟨q+1,γ,rfl,σ,HN.out.1,HN.out.2⟩
    ·have q1:¬ (q:Int)<((js i).length:Int):=γ;obtain rfl:q=(js i).length:=γ;have H:=smJ_all mw js i;go_wp2;go_roundg (n - (i+1))
     case measure=>omega
     case rel=>exact ⟨i+1,γ,rfl,σ,by rw [← H];exact d.out.1⟩
  ·have i1:¬ (i:Int)<(n:Int):=γ;obtain rfl:i=n:=γ;go_wp2;go_ret;exact ⟨va,rfl,own_lower p.out.1 γ,p.out.2.2.2⟩
abbrev C5:=E4×Int
def ltC (x y:C5):Bool:=lessE x.1.1 x.1.2.1 x.1.2.2.1 x.1.2.2.2 y.1.1 y.1.2.1 y.1.2.2.1 y.1.2.2.2 || (sameB x.1.1 x.1.2.1 x.1.2.2.1 x.1.2.2.2 y.1.1 y.1.2.1 y.1.2.2.1 y.1.2.2.2 && decide (x.2<y.2))
theorem Zy (x y:C5):ltC x y=true↔x.1.1<y.1.1∨(x.1.1=y.1.1∧(x.1.2.1<y.1.2.1∨(x.1.2.1=y.1.2.1∧(x.1.2.2.1<y.1.2.2.1∨(x.1.2.2.1=y.1.2.2.1∧(x.1.2.2.2<y.1.2.2.2∨(x.1.2.2.2=y.1.2.2.2∧x.2<y.2))))))):=by
 simp only [ltC,lessE,lessB,sameB,Bool.or_eq_true,Bool.and_eq_true,decide_eq_true_eq];omega
theorem ltC_irr (x:C5):ltC x x=false:=by
 rw [← Bool.not_eq_true,Zy];omega
theorem ltC_trans {x y z:C5} (h1:ltC x y=true) (h2:ltC y z=true):ltC x z=true:=by
 rw [Zy] at *;omega
theorem ltC_tri {x y:C5} (h1:ltC x y=false) (h2:x≠y):ltC y x=true:=by
 rw [← Bool.not_eq_true,Zy] at h1;rw [Zy];obtain ⟨⟨a,b,c,d⟩,k⟩:=x;obtain ⟨⟨p,q,r,s⟩,l⟩:=y;simp only [ne_eq,Prod.mk.injEq] at *;omega
theorem flatJ_len5:∀ l:List C5,(flatJ l).length=l.length*5
 | []=>rfl
 | x :: l=>by
  have:flatJ (x :: l)=flatJ [x] ++ flatJ l:=by rw [← Uz];rfl
  rw [this,List.length_append,flatJ_len5 l];simp [flatJ];omega
theorem flatJ_one1 (l:List C5):∀ u∈flatJ l,u.oneCell'=true:=by
 intro u a;unfold flatJ at a;obtain ⟨x,_,a⟩:=List.mem_flatMap.1 a;simp only [List.mem_cons,List.not_mem_nil,or_false] at a;rcases a with rfl | rfl | rfl | rfl | rfl <;> rfl
theorem Ub {e:TypeId} {l:List C5} (h:w.ownsRow base e 5 v l.length (flatJ l)):∃ a cap,v=.slice a l.length cap∧l.length≤cap∧JRow w a l:=by
 rcases h.2 with ⟨h1,h2⟩ | ⟨g,cap,cur,h1,_,_,h3,_⟩
 ·refine ⟨none,0,by (try simp only [At,I,Fn,Az,Ad]);rw [h1,h2],by omega,fun i hi=>by omega⟩
 ·refine ⟨some ⟨g,0,none⟩,cap,h1,h3,fun i hi=>?_⟩
  subst h1
  obtain ⟨f0,f1,f2,f3,f4⟩:=Zr l i hi
  have hl:=flatJ_len5 l
  refine ⟨g,rfl, ?_, ?_, ?_, ?_, ?_⟩
  ·(try simp only [At,I]);rw [h.cellAt _ (by omega),f0]
  ·(try simp only [At,I]);rw [h.cellAt _ (by omega),f1]
  ·(try simp only [At,I]);rw [h.cellAt _ (by omega),f2]
  ·(try simp only [At,I]);rw [h.cellAt _ (by omega),f3]
  ·(try simp only [At,I]);rw [h.cellAt _ (by omega),f4]
theorem inf44:(Tryz.prog.info? 185).map (fun i=>(i.zero,i.size,i.bytes))=some (some (.agg #[I 0,I 0,I 0,I 0,I 0]),5,40):=μ
def hasB9 (f:Nat→Bool) (b:Bool) (i:Nat):Bool:=(List.range i).any fun q=>b == f q
theorem hasB9_one (f:Nat→Bool) (b:Bool) (i:Nat):hasB9 f b (i+1)=(hasB9 f b i || (b == f i)):=by
 unfold hasB9;rw [List.range_succ,List.any_append];simp
theorem hasB9_in {b:Bool} {i:Nat} (h:i<n) (a:(b == f i)=true):hasB9 f b n=true:=by
 unfold hasB9;exact List.any_eq_true.mpr ⟨i,List.mem_range.mpr h,a⟩
theorem indexBool_any (g n:Nat) (f:Nat→Bool) (b:Bool) (w:World) (s:n≤1000) (j:YRow w g n f) :
  Cl 120 #[.slice (Az g) n n,.bool b] w fun e w'=>∃ r:Int,e=.returned (I r)∧decide (0≤r)=hasB9 f b n∧Bl w w':=by
 have l:=Hd j;clear j;go_enter Tryz.func120,Tryz.ntmps120;go_wp2;go_loopg [5,8] n (fun m x p q=>∃ i:Nat,i≤n∧m=n - i∧p=I (i:Int)∧hasB9 f b i=false∧Bl w q)
 case atStart=>exact ⟨0,γ,rfl,rfl,by simp [hasB9],Qd _⟩
 case round =>
  obtain ⟨i,hi,rfl,rfl,k,d⟩:=hrel;have a:=H2 k d;clear k d;by_cases h1:i<n
  ·have o:(i:Int)<(n:Int):=γ;have t:(0:Int)≤(i:Int):=γ;have c0:=((l.out.kept a.out.2) i h1).1;have e1:=hasB9_one f b i;have e2:=hasB9_in (f:=f) (b:=b) h1;generalize f i=u at c0 e1 e2;by_cases hu:b=u
   ·subst hu;have c:Hid (hasB9 f b n=true):=e2 ν;clear e1 e2;go_wp2;refine bodyPost_ret (v:=I (i:Int)) (by simp [results,Tryz.results120,go_sem]) rfl ⟨(i:Int),rfl, ?_,a.out.2⟩;rw [c.out];simp
   ·have hb:(b == u)=false:=by simpa using hu
    have c:Hid (hasB9 f b (i+1)=false):=(by have h:hasB9 f b (i+1)=false:=(by rw [e1,a.out.1,hb];rfl);exact h);clear e1 e2;go_wp2;go_roundg (n - (i+1))
    case measure=>omega
    case rel=>exact ⟨i+1,γ,rfl,σ,c.out,a.out.2⟩
  ·have o:¬ (i:Int)<(n:Int):=γ;obtain rfl:i=n:=γ;go_wp2;refine bodyPost_ret (v:=I (-1)) (by simp [results,Tryz.results120,go_sem]) rfl ⟨-1,rfl, ?_,a.out.2⟩;rw [a.out.1];rfl
theorem hasBool_any (g n:Nat) (f:Nat→Bool) (b:Bool) (w:World) (h:n≤1000) (d:YRow w g n f) :
  Rt 77 #[.slice (Az g) n n,.bool b] w (.bool (hasB9 f b n)):=by
 have a:=Hd (indexBool_any g n f b w h d);clear d;go_enter Tryz.func77,Tryz.ntmps77;go_wp2_with (go_at_call 120;refine a.out.mono ?_;rintro e i ⟨r,rfl,hr,hb⟩;have c:=H2 hr hb;clear hr hb)
 refine bodyPost_ret (v:=.bool (decide (0≤r))) (by simp [results,Tryz.results77,go_sem]) rfl ⟨by rw [c.out.1],c.out.2⟩
end Go.Proofs.YtbjmnlefkbhbdaaGreatDoor
namespace Go.Proofs
open Go.Shelf
def Tryz.sortClash_ren:Go.Shelf.Ren:=⟨fun | 6=>110 | 15=>142 | 14=>154 | 28=>173 | 29=>174 | 20=>187 | 21=>188 | 22=>189 | 23=>190 | 24=>191 | 25=>192 | 26=>193 | 27=>194 | 46=>224 | 47=>209 | 48=>210 | 49=>225 | 50=>226 | 57=>245 | n=>n,fun | 22=>142 | 24=>185 | 25=>188 | 3=>3 | 39=>154 | 0=>0 | 53=>207 | 55=>210 | 4=>4 | 46=>245 | 45=>244 | 50=>151 | 5=>5 | 9=>9 | 66=>276 | 70=>280 | 76=>300 | 77=>301 | n=>n,fun | n=>n⟩
theorem Tryz.sortClash:Go.Proofs.SlLaysF0.n6 Tryz.prog Tryz.sortClash_ren:={
 mixed:=by kernel_rfl
 f6:=⟨Tryz.f110.name,by decide,Tryz.func110.trans (congrArg some (by kernel_rfl))⟩
 f14:=⟨Tryz.f154.name,by decide,Tryz.func154.trans (congrArg some (by kernel_rfl))⟩
 f15:=Tryz.func142.trans (congrArg some (by kernel_rfl))
 f20:=⟨Tryz.f187.name,by decide,Tryz.func187.trans (congrArg some (by kernel_rfl))⟩
 f21:=⟨Tryz.f188.name,by decide,Tryz.func188.trans (congrArg some (by kernel_rfl))⟩
 f22:=⟨Tryz.f189.name,by decide,Tryz.func189.trans (congrArg some (by kernel_rfl))⟩
 f23:=⟨Tryz.f190.name,by decide,Tryz.func190.trans (congrArg some (by kernel_rfl))⟩
 f24:=⟨Tryz.f191.name,by decide,Tryz.func191.trans (congrArg some (by kernel_rfl))⟩
 f25:=⟨Tryz.f192.name,by decide,Tryz.func192.trans (congrArg some (by kernel_rfl))⟩
 f26:=⟨Tryz.f193.name,by decide,Tryz.func193.trans (congrArg some (by kernel_rfl))⟩
 f27:=⟨Tryz.f194.name,by decide,Tryz.func194.trans (congrArg some (by kernel_rfl))⟩
 f28:=Tryz.func173.trans (congrArg some (by kernel_rfl))
 f29:=Tryz.func174.trans (congrArg some (by kernel_rfl))
 f46:=⟨Tryz.f224.name,by decide,Tryz.func224.trans (congrArg some (by kernel_rfl))⟩
 f47:=Tryz.func209.trans (congrArg some (by kernel_rfl))
 f48:=Tryz.func210.trans (congrArg some (by kernel_rfl))
 f49:=⟨Tryz.f225.name,by decide,Tryz.func225.trans (congrArg some (by kernel_rfl))⟩
 f50:=⟨Tryz.f226.name,by decide,Tryz.func226.trans (congrArg some (by kernel_rfl))⟩
 f57:=⟨Tryz.f245.name,by decide,Tryz.func245.trans (congrArg some (by kernel_rfl))⟩
 t0:=Tryz.underlying0
 a0:=Tryz.isAgg0
 z0:=Tryz.sizeOf0
 v0:=Tryz.zeroValue0
 t3:=Tryz.underlying3
 a3:=Tryz.isAgg3
 z3:=Tryz.sizeOf3
 v3:=Tryz.zeroValue3
 t4:=Tryz.underlying4
 a4:=Tryz.isAgg4
 z4:=Tryz.sizeOf4
 v4:=Tryz.zeroValue4
 t5:=Tryz.underlying5
 a5:=Tryz.isAgg5
 z5:=Tryz.sizeOf5
 v5:=Tryz.zeroValue5
 t9:=Tryz.underlying9
 a9:=Tryz.isAgg9
 z9:=Tryz.sizeOf9
 v9:=Tryz.zeroValue9
 t22:=Tryz.underlying142
 a22:=Tryz.isAgg142
 z22:=Tryz.sizeOf142
 v22:=Tryz.zeroValue142
 t25:=Tryz.underlying188
 a25:=Tryz.isAgg188
 z25:=Tryz.sizeOf188
 v25:=Tryz.zeroValue188
 t39:=Tryz.underlying154
 a39:=Tryz.isAgg154
 z39:=Tryz.sizeOf154
 v39:=Tryz.zeroValue154
 t45:=Tryz.underlying244
 a45:=Tryz.isAgg244
 z45:=Tryz.sizeOf244
 v45:=Tryz.zeroValue244
 t46:=Tryz.underlying245
 a46:=Tryz.isAgg245
 z46:=Tryz.sizeOf245
 v46:=Tryz.zeroValue245
 t50:=Tryz.underlying151
 a50:=Tryz.isAgg151
 z50:=Tryz.sizeOf151
 v50:=Tryz.zeroValue151
 t53:=Tryz.underlying207
 a53:=Tryz.isAgg207
 z53:=Tryz.sizeOf207
 v53:=Tryz.zeroValue207
 t55:=Tryz.underlying210
 a55:=Tryz.isAgg210
 z55:=Tryz.sizeOf210
 v55:=Tryz.zeroValue210
 t66:=Tryz.underlying276
 a66:=Tryz.isAgg276
 z66:=Tryz.sizeOf276
 v66:=Tryz.zeroValue276
 t70:=Tryz.underlying280
 a70:=Tryz.isAgg280
 z70:=Tryz.sizeOf280
 v70:=Tryz.zeroValue280
 t76:=Tryz.underlying300
 a76:=Tryz.isAgg300
 z76:=Tryz.sizeOf300
 v76:=Tryz.zeroValue300
 t77:=Tryz.underlying301
 a77:=Tryz.isAgg301
 z77:=Tryz.sizeOf301
 v77:=Tryz.zeroValue301 }
end Go.Proofs
namespace Go.Proofs.YtbjmnlefkbhbdaaGreatDoor
open Go.RowKit Go.Shelf Go.Lib
open Go.Sort hiding Below
theorem Kn (a b p q:Int) (w:World) :
  Cl 137 #[.agg #[I a,I b],.agg #[I p,I q]] w fun e w'=>e=.returned (I (cmpP a b p q))∧GD w w':=by
 go_enter Tryz.func137,Tryz.ntmps137;go_wp2
 go_region_held3 (fun w'=>At w' w.heap.size 0 (I a)∧At w' w.heap.size 1 (I b)∧At w' (w.heap.size+1) 0 (I p)∧At w' (w.heap.size+1) 1 (I q))
  ((refine ⟨?_, ?_, ?_, ?_⟩ <;> (repeat' (first | (with_reducible assumption) | (dsimp only;omega) | (simp [go_sem];done) | (with_reducible refine Ql ?_) | (with_reducible refine Qi ?_)))))
  (first | (go_at_call 113;refine (Xv _ _ _).mono ?_;rintro e c ⟨rfl,rfl⟩) | (go_at_call 112;refine (Uc (cmp3 a p) (cmp3 b q) _ _ _ ε ε).mono ?_;rintro e d ⟨rfl,rfl⟩))
 all_goals
  go_wp2;go_ret;refine ⟨rfl, ?_⟩;with_reducible repeat' (first | exact Xz _ | refine Jl ?_ | refine Xp ?_)
theorem Zg (a b c d p q r s:Int) (w:World) :
  Cl 93 #[.agg #[I a,I b,I c,I d],.agg #[I p,I q,I r,I s]] w fun e w'=>e=.returned (I (cmpE a b c d p q r s))∧GD w w':=by
 go_enter Tryz.func93,Tryz.ntmps93;go_wp2
 go_region_held3 (fun w'=>At w' w.heap.size 0 (I a)∧At w' w.heap.size 1 (I b)∧At w' w.heap.size 2 (I c)∧At w' w.heap.size 3 (I d)∧At w' (w.heap.size+1) 0 (I p)∧At w' (w.heap.size+1) 1 (I q)∧At w' (w.heap.size+1) 2 (I r)∧At w' (w.heap.size+1) 3 (I s))
  ((refine ⟨?_, ?_, ?_, ?_, ?_, ?_, ?_, ?_⟩ <;> (repeat' (first | (with_reducible assumption) | (dsimp only;omega) | (simp [go_sem];done) | (with_reducible refine Ql ?_) | (with_reducible refine Qi ?_)))))
  (first
   | (go_at_call 137;refine (Kn _ _ _ _ _).mono ?_;rintro e f ⟨rfl,hg⟩;have hb:=gd_below hg;have h:At f w.heap.size 0 (I a):=Qa hb κ;have i:At f w.heap.size 1 (I b):=Qa hb κ;have j:At f w.heap.size 2 (I c):=Qa hb κ;have k:At f w.heap.size 3 (I d):=Qa hb κ;have l:At f (w.heap.size+1) 0 (I p):=Qa hb κ;have m:At f (w.heap.size+1) 1 (I q):=Qa hb κ;have n:At f (w.heap.size+1) 2 (I r):=Qa hb κ;have o:At f (w.heap.size+1) 3 (I s):=Qa hb κ;have hq:GD w f:=(by with_reducible (first | exact Ys g.out hg | exact Ys (Xp g.out) hg | exact Ys (Xp (Jl (Jl (Xz _)))) hg | exact Ys (Jl (Jl (Xz _))) hg));have g:=Hd hq;clear hq;clear hb hg)
   | (go_at_call 112;refine (Uc (cmpP a b p q) (cmpP c d r s) _ _ _ ε ε).mono ?_;rintro e t ⟨rfl,rfl⟩))
 all_goals
  go_wp2;go_ret;refine ⟨rfl, ?_⟩;with_reducible repeat' (first | exact g.out | refine Jl ?_ | refine Xp ?_)
def cmpC (x y:C5):Int:=or2 (cmpE x.1.1 x.1.2.1 x.1.2.2.1 x.1.2.2.2 y.1.1 y.1.2.1 y.1.2.2.1 y.1.2.2.2) (cmp3 x.2 y.2)
theorem cmpE_zero (a b c d p q r s:Int):cmpE a b c d p q r s=0↔sameB a b c d p q r s=true:=by
 unfold cmpE cmpP or2 cmp3 sameB;simp only [decide_eq_true_eq];repeat' split
 all_goals omega
theorem cmpC_lt (x y:C5):ltOf cmpC x y=true↔ltC x y=true:=by
 unfold ltOf cmpC ltC;rw [decide_eq_true_eq,Bool.or_eq_true,Bool.and_eq_true,← Yd,← cmpE_zero,decide_eq_true_eq];unfold or2;split
 ·rename_i h
  rw [h];unfold cmp3;repeat' split
  all_goals omega
 ·rename_i h
  constructor
  ·exact Or.inl
  ·rintro (a | ⟨a,_⟩)
   ·exact a
   ·exact absurd a h
theorem cmpC_not (x y:C5):ltOf cmpC x y=false↔ltC x y=false:=by
 rw [← Bool.not_eq_true,cmpC_lt,Bool.not_eq_true]
theorem swoC:SWO (ltOf cmpC):={
 irrefl:=fun x=>by rw [cmpC_not];exact ltC_irr x
 trans:=fun x y z h1 h2=>by
  rw [cmpC_lt] at *;exact ltC_trans h1 h2
 ntrans:=fun x y z h1 h2=>by
  rw [cmpC_not,← Bool.not_eq_true,Zy] at *;omega }
def encC (x:C5):List Value:=[I x.1.1,I x.1.2.1,I x.1.2.2.1,I x.1.2.2.2,I x.2]
theorem compareC_gd (a b c d k p q r s l:Int) (w:World) :
  Cl 111 #[.agg #[I a,I b,I c,I d,I k],.agg #[I p,I q,I r,I s,I l]] w fun e w'=>e=.returned (I (or2 (cmpE a b c d p q r s) (cmp3 k l)))∧GD w w':=by
 go_enter Tryz.func111,Tryz.ntmps111;go_wp2
 go_region_held3 (fun w'=>At w' w.heap.size 0 (I a)∧At w' w.heap.size 1 (I b)∧At w' w.heap.size 2 (I c)∧At w' w.heap.size 3 (I d)∧At w' w.heap.size 4 (I k)∧At w' (w.heap.size+1) 0 (I p)∧At w' (w.heap.size+1) 1 (I q)∧At w' (w.heap.size+1) 2 (I r)∧At w' (w.heap.size+1) 3 (I s)∧At w' (w.heap.size+1) 4 (I l))
  ((refine ⟨?_, ?_, ?_, ?_, ?_, ?_, ?_, ?_, ?_, ?_⟩ <;> (repeat' (first | (with_reducible assumption) | (dsimp only;omega) | (simp [go_sem];done) | (with_reducible refine Ql ?_) | (with_reducible refine Qi ?_)))))
  (first
   | (go_at_call 93;refine (Zg _ _ _ _ _ _ _ _ _).mono ?_;rintro e f ⟨rfl,hg⟩;have hb:=gd_below hg;have h:At f w.heap.size 0 (I a):=Qa hb κ;have i:At f w.heap.size 1 (I b):=Qa hb κ;have j:At f w.heap.size 2 (I c):=Qa hb κ;have m:At f w.heap.size 3 (I d):=Qa hb κ;have n:At f w.heap.size 4 (I k):=Qa hb κ;have o:At f (w.heap.size+1) 0 (I p):=Qa hb κ;have t:At f (w.heap.size+1) 1 (I q):=Qa hb κ;have u:At f (w.heap.size+1) 2 (I r):=Qa hb κ;have v:At f (w.heap.size+1) 3 (I s):=Qa hb κ;have x:At f (w.heap.size+1) 4 (I l):=Qa hb κ;have hq:GD w f:=(by with_reducible (first | exact Ys g.out hg | exact Ys (Xp g.out) hg | exact Ys (Xp (Jl (Jl (Xz _)))) hg | exact Ys (Jl (Jl (Xz _))) hg));have g:=Hd hq;clear hq;clear hb hg)
   | (go_at_call 113;refine (Xv _ _ _).mono ?_;rintro e y ⟨rfl,rfl⟩)
   | (go_at_call 112;refine (Uc (cmpE a b c d p q r s) (cmp3 k l) _ _ _ ε ε).mono ?_;rintro e z ⟨rfl,rfl⟩))
 all_goals
  go_wp2;go_ret;refine ⟨rfl, ?_⟩;with_reducible repeat' (first | exact g.out | refine Jl ?_ | refine Xp ?_)
theorem closureC_gd (x y:C5) (W:World):Cl 111 #[.agg (encC x).toArray,.agg (encC y).toArray] W fun e w'=>e=.returned (I (cmpC x y))∧∃ q os',w'=grow (W.drewN q) os':=compareC_gd _ _ _ _ _ _ _ _ _ _ W
theorem flatJ_enc (l:List C5):flatJ l=l.flatMap encC:=rfl
theorem flatC_at:∀ (a:List C5) (j:Nat),j<a.length*5→(a.flatMap encC)[j]?=some ((encC (a.getD (j / 5) default))[j % 5]!)
 | [],j,h=>by simp at h
 | x :: r,j,h=>by
  rw [List.flatMap_cons];by_cases hj:j<5
  ·rw [List.getElem?_append_left (by simpa [encC] using hj),show j / 5=0 by omega,show j % 5=j by omega];have h4:j=0∨j=1∨j=2∨j=3∨j=4:=γ;rcases h4 with rfl | rfl | rfl | rfl | rfl <;> rfl
  ·rw [List.getElem?_append_right (by simp [encC];omega),show (encC x).length=5 from rfl];have b:=flatC_at r (j - 5) (by simp at h;omega);rw [b,show j / 5=(j - 5) / 5+1 by omega,show j % 5=(j - 5) % 5 by omega];rfl
theorem holdsC {w:World} {base g n c:Nat} {a:List C5} (h:w.ownsRow base 185 5 (.slice (Az g) n c) n (flatJ a)) (i:n=a.length):HoldsK encC 5 w g 0 a.toArray:=by
 subst i;intro j b;rw [size_flatK] at b;simp only [List.size_toArray] at b;rw [get_flatK _ _ _ _ (by simpa using b)];refine ⟨?_, ?_⟩
 ·have f:=h.cellAt j γ;rw [Nat.zero_add,f,flatJ_enc,flatC_at a j b];simp
 ·rcases h.2 with ⟨h1,_⟩ | ⟨k,d,e,h1,_,h3,_⟩
  ·cases h1
  ·cases h1;simp [World.frozen?,h3]
theorem Vf {w:World} {g m:Nat} {os:Array Obj} (d:Array C5):w.grownBy (sortWorldK encC 5 w g 0 m d os) (some g):=by
 refine ⟨rfl,rfl,rfl,size_sortWorldK_c _ _ _ _ _ _ _ _,fun k b a=>?_⟩;unfold sortWorldK putRowK;rw [heap_grow_old _ _ (by simpa using b)];have:g≠k:=fun e=>a (by rw [e]);simp [putRow,mapBlock,Sort.ahead,Array.getElem?_modify,this]
theorem sortClash_any (w:World) (base o:Nat) (n:Option Addr) (a:List C5) (h:w.ownsRow base 185 5 (.slice n a.length o) a.length (flatJ a)) (C:a.length<4611686018427387904) :
  Cl 110 #[.slice n a.length o,.func (.func 111) #[] #[]] w fun e w'=>e=.returned (.tuple #[])∧∃ Bs',Bs'.Perm a∧Bs'.Pairwise (fun x y=>ltC y x=false)∧JRow w' n Bs'∧w.grownBy w' (Value.slice n a.length o).ownBlock:=by
 by_cases h0:a=[]
 ·subst h0;have p:=AnyF.slices_SortFunc_none Tryz.sortClash n o (.func (.func 111) #[] #[]) w;refine p.mono ?_;rintro e w' ⟨rfl,rfl⟩;exact ⟨rfl,[],List.Perm.refl _,List.Pairwise.nil,fun i hi=>by simp at hi,⟨rfl,rfl,rfl,Nr _,fun _ _ _=>rfl⟩⟩
 ·have hpos:0<a.length:=List.length_pos_iff.2 h0
  obtain ⟨g,rfl⟩:∃ g,n=Az g:=by
   rcases h.2 with ⟨h1,h2⟩ | ⟨g,z,A,h1,_⟩
   ·omega
   ·cases h1;exact ⟨g,rfl⟩
  have s:=holdsC h rfl;have hg:g<w.heap.size:=(h.lt g rfl).2;have d:=AnyQ.slices_SortFunc Tryz.sortClash 5 Tryz.isAgg185 Tryz.sizeOf185 encC (fun _=>rfl) (fun x v u=>by simp [encC] at u;rcases u with rfl | rfl | rfl | rfl | rfl <;> rfl) cmpC swoC 111 #[] g 0 o a.toArray w (enters_of Tryz.func111 μ rfl) (fun _ _ _ _ x y=>closureC_gd x y _) s hg (by simpa using C);change Cl 110 _ _ _ at d
  rw [List.size_toArray] at d;refine d.mono ?_;rintro e w' ⟨rfl,b,m,os,hp,hs,rfl⟩;have l:b.size=a.length:=by simpa using hp.1
  refine ⟨rfl,b.toList, ?_, ?_, ?_,Vf b⟩
  ·have h3:=hp.2.2
   have e1:(b.extract 0 a.length).toList=b.toList:=by
    rw [← l];simp
   have e2:(a.toArray.extract 0 a.length).toList=a:=ν;rw [e1,e2] at h3;exact h3
  ·rw [List.pairwise_iff_getElem];intro i j hi t q;have:=hs i j (Nat.zero_le _) q (by simpa [l] using t);rw [cmpC_not] at this;have k:i<b.size:=by simpa using hi
   have r:j<b.size:=by simpa using t
   rw [getElem!_pos b i k,getElem!_pos b j r] at this;simpa using this
  ·intro i hi;have k:i<b.size:=by simpa using hi
   have B:=holdsK_sortWorldK_c encC 5 w g 0 a.toArray b m os s hg (by simpa using l)
   have f:∀ c,c<5→(sortWorldK encC 5 w g 0 m b os).cell? ⟨g,i*5+c,none⟩=some ((encC b.toList[i])[c]!):=fun c p=>by
    have:=(B.cell k p).1;rw [Nat.zero_add] at this;rw [this,getElem!_pos b i k];simp
   exact ⟨g,rfl,f 0 γ,f 1 γ,f 2 γ,f 3 γ,f 4 γ⟩
end Go.Proofs.YtbjmnlefkbhbdaaGreatDoor
namespace Go.Proofs.YtbjmnlefkbhbdaaGreatDoor
open Go.RowKit
theorem own_leC {w:World} {base a e k n:Nat} {v:Value} {d:List Value} (h:w.ownsRow base e k v n d) (hb:a≤base):w.ownsRow a e k v n d:=by
 obtain ⟨hl,h0 | ⟨g,b,c,f,h1,h2⟩⟩:=h
 ·exact ⟨hl,Or.inl h0⟩
 ·exact ⟨hl,Or.inr ⟨g,b,c,f,Nt hb h1,h2⟩⟩
theorem cell_fiveC (w:World) (T:TypeId) (a b c d e:Int):∀ j u,([I a,I b,I c,I d,I e])[j]?=some u→(w.alloc (.cells #[I a,I b,I c,I d,I e] T)).cell? ((⟨w.heap.size,0,none⟩:Addr).add j)=some u:=Xr w T a b c d e
open Go.ChangeMaps
theorem own_seams {w:World} {base:Nat} {v:Value} {l:List (E4×Int)} (h:w.ownsRow base 197 5 v l.length (flatJ l)):∃ a b,v=.slice a l.length b∧JRow w a l:=by
 rcases h.2 with ⟨rfl,h0⟩ | ⟨g,b,c,rfl,_⟩
 ·exact ⟨none,0,by rw [h0],fun i hi=>by omega⟩
 ·refine ⟨Az g,b,rfl,fun i hi=>⟨g,rfl, ?_⟩⟩;have f:=Zr l i hi;exact ⟨(h.cellAt _ γ).trans f.1,(h.cellAt _ γ).trans f.2.1,(h.cellAt _ γ).trans f.2.2.1,(h.cellAt _ γ).trans f.2.2.2.1,(h.cellAt _ γ).trans f.2.2.2.2⟩
theorem unfolds_asks (t a k:Value) (pb:Nat) (A B C E z d:Int) (w:World) (k0:At w pb 0 t) (k1:At w pb 1 a) (k2:At w pb 2 k)
  (b:∀ V:World,Bl w V→Rt 104 #[.agg #[t,a,k],.agg #[I A,I B,I C,I E]] V (I d)) :
  Rt 125 #[.agg #[I A,I B,I C,I E,I z],.pointer (Az pb)] w (.bool (!decide (d=0))):=by
 have c:=Hd b;clear b;have h:=Bt k0;go_enter Tryz.func125,Tryz.ntmps125;go_wp2_with (go_at_call 104;refine (c.out _ β1).mono ?_;rintro e g ⟨rfl,hb⟩;have f:=Hd (Qb β1 hb);clear hb)
 go_ret;exact ⟨by first | rfl | (congr 2;rw [Bool.eq_iff_iff];simp),f.out⟩
theorem indexSeams_any (s:Option Addr) (A pb:Nat) (l:List (E4×Int)) (f:E4×Int→Bool) (w:World) (hl:l.length≤1000) (p:JRow w s l)
  (b:∀ (V:World) (j:E4×Int),Bl w V→j∈l→Rt 125 #[.agg #[I j.1.1,I j.1.2.1,I j.1.2.2.1,I j.1.2.2.2,I j.2],.pointer (Az pb)] V (.bool (f j))) :
  Cl 158 #[.slice s l.length A,.func (.func 125) #[] #[.pointer (Az pb)]] w fun e w'=>∃ r:Int,e=.returned (I r)∧decide (0≤r)=l.any f∧Bl w w':=by
 have d:=Hd b;have t:=Hd p;clear b p;go_enter Tryz.func158,Tryz.ntmps158;go_wp2;go_loopg [5,8] l.length (fun x E z C=>∃ i:Nat,i≤l.length∧x=l.length - i∧z=I (i:Int)∧(l.take i).any f=false∧Bl w C)
 case atStart=>exact ⟨0,γ,rfl,rfl,ν,Qd _⟩
 case round =>
  obtain ⟨i,hi,rfl,rfl,q,o⟩:=hrel;have a:=H2 q o;clear q o;by_cases h1:i<l.length
  ·have y:(i:Int)<(l.length:Int):=γ;have D:(0:Int)≤(i:Int):=γ;obtain ⟨g,hg,c0,c1,c2,c3,c4⟩:=(t.out.kept a.out.2) i h1;subst hg;have e:l.take (i+1)=l.take i ++ [l[i]]:=by first | exact (List.take_append_getElem h1).symm | exact (List.take_concat_get' _ _ h1).symm | exact List.take_succ_eq_append_getElem h1
   have CA:=d.out wr l[i] a.out.2 (Lm h1);have c:l[i]∈l:=Lm h1;generalize l[i]=u at c0 c1 c2 c3 c4 e CA c
   cases hu:f u with
   | false =>
    rw [hu] at CA
    have n:Hid ((l.take (i+1)).any f=false):=by
     have h:(l.take (i+1)).any f=false:=by rw [e,List.any_append,a.out.1];simp [hu]
     exact h
    have k:=Hd CA;clear e hu CA c;go_wp2_with (go_at_call 125;refine k.out.mono ?_;rintro e B ⟨rfl,hb⟩;have m:=Hd (Qb a.out.2 hb);clear hb)
    go_roundg (l.length - (i+1))
    case measure=>omega
    case rel=>exact ⟨i+1,γ,rfl,σ,n.out,m.out⟩
   | true =>
    rw [hu] at CA
    have n:Hid (l.any f=true):=by
     have h:l.any f=true:=List.any_eq_true.mpr ⟨u,c,hu⟩;exact h
    have k:=Hd CA;clear e hu CA c;go_wp2_with (go_at_call 125;refine k.out.mono ?_;rintro e B ⟨rfl,hb⟩;have m:=Hd (Qb a.out.2 hb);clear hb)
    refine bodyPost_ret (v:=I (i:Int)) (by simp [results,Tryz.results158,go_sem]) rfl ⟨(i:Int),rfl, ?_,m.out⟩;rw [n.out];simp
  ·have y:¬ (i:Int)<(l.length:Int):=γ;obtain rfl:i=l.length:=γ;go_wp2;refine bodyPost_ret (v:=I (-1)) (by simp [results,Tryz.results158,go_sem]) rfl ⟨-1,rfl, ?_,a.out.2⟩;have:=a.out.1;rw [List.take_length] at this;rw [this];rfl
theorem hasSeam_any (c:Option Addr) (h pb:Nat) (l:List (E4×Int)) (f:E4×Int→Bool) (w:World) (hl:l.length≤1000) (g:JRow w c l)
  (b:∀ (V:World) (j:E4×Int),Bl w V→j∈l→Rt 125 #[.agg #[I j.1.1,I j.1.2.1,I j.1.2.2.1,I j.1.2.2.2,I j.2],.pointer (Az pb)] V (.bool (f j))) :
  Rt 123 #[.slice c l.length h,.func (.func 125) #[] #[.pointer (Az pb)]] w (.bool (l.any f)):=by
 have a:=Hd (indexSeams_any c h pb l f w hl g b);clear g b;go_enter Tryz.func123,Tryz.ntmps123;go_wp2_with (go_at_call 158;refine a.out.mono ?_;rintro e i ⟨r,rfl,hr,hb⟩;have d:=H2 hr hb;clear hr hb)
 refine bodyPost_ret (v:=.bool (decide (0≤r))) (by simp [results,Tryz.results123,go_sem]) rfl ⟨by rw [d.out.1],d.out.2⟩
theorem unfolds_any (t a k m pl d p c sd n i g h f mv:Value) (l:List (E4×Int)) (kd:E4→Int) (w:World) (hl:l.length≤1000)
  (r:∀ V:World,Bl w V→Cl 124 #[.agg #[t,a,k,m,pl,d,p,c,sd,n,i,g,h,f,mv]] V fun e w'=>∃ v,e=.returned v∧w'.ownsRow V.heap.size 197 5 v l.length (flatJ l)∧Bl V w')
  (q:∀ (V:World) (A B C E:Int),Bl w V→Rt 104 #[.agg #[t,a,k],.agg #[I A,I B,I C,I E]] V (I (kd (A,B,C,E)))) :
  Rt 79 #[.agg #[t,a,k,m,pl,d,p,c,sd,n,i,g,h,f,mv]] w (.bool (l.any fun j => !decide (kd j.1=0))):=by
 have x:Hid (∀ V:World,Bl w V→Cl 124 #[.agg #[t,a,k,m,pl,d,p,c,sd,n,i,g,h,f,mv]] V fun e w'=>∃ v,e=.returned v∧w'.ownsRow V.heap.size 197 5 v l.length (flatJ l)∧Bl V w'):=r;have u:Hid (∀ (V:World) (A B C E:Int),Bl w V→Rt 104 #[.agg #[t,a,k],.agg #[I A,I B,I C,I E]] V (I (kd (A,B,C,E)))):=q;have y:Hid ((w.alloc (.cells #[t,a,k,m,pl,d,p,c,sd,n,i,g,h,f,mv] 105)).cell? ⟨w.heap.size,0,none⟩=some t∧(w.alloc (.cells #[t,a,k,m,pl,d,p,c,sd,n,i,g,h,f,mv] 105)).cell? ⟨w.heap.size,1,none⟩=some a∧(w.alloc (.cells #[t,a,k,m,pl,d,p,c,sd,n,i,g,h,f,mv] 105)).cell? ⟨w.heap.size,2,none⟩=some k):=⟨ζ,ζ,ζ⟩;clear r q;go_enter Tryz.func79,Tryz.ntmps79
 go_wp2_with (first
  | (go_at_call 124;refine (x.out _ β1).mono ?_;rintro e o ⟨v,rfl,D,hb⟩;obtain ⟨F,J,rfl,z⟩:=own_seams D;have b:Hid (JRow o F l∧Bl w o∧At o w.heap.size 0 t∧At o w.heap.size 1 a∧At o w.heap.size 2 k):=⟨z,Qb β1 hb,Qa hb y.out.1,Qa hb y.out.2.1,Qa hb y.out.2.2⟩;clear D hb z)
  | (go_at_call 123;refine (hasSeam_any F J w.heap.size l (fun j => !decide (kd j.1=0)) o hl b.out.1 (fun V j s L=>unfolds_asks t a k w.heap.size j.1.1 j.1.2.1 j.1.2.2.1 j.1.2.2.2 j.2 (kd j.1) V (Qa s b.out.2.2.1) (Qa s b.out.2.2.2.1) (Qa s b.out.2.2.2.2) (fun U H=>u.out U j.1.1 j.1.2.1 j.1.2.2.1 j.1.2.2.2 (Qb (Qb b.out.2.1 s) H)))).mono ?_;rintro e K ⟨rfl,hb⟩;have G:Hid (Bl w K):=Qb b.out.2.1 hb;clear hb)
  | fail)
 go_ret;exact ⟨rfl,G.out⟩
end Go.Proofs.YtbjmnlefkbhbdaaGreatDoor
