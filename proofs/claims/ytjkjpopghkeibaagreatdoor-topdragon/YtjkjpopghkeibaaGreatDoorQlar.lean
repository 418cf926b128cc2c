/- A part of it. -/
import Derived.Test.YtjkjpopghkeibaaGreatDoorQlak
import Derived.Test.YtjkjpopghkeibaaGreatDoorQlao
set_option maxRecDepth 100000
set_option maxHeartbeats 40000000
namespace Go.Proofs.YtjkjpopghkeibaaGreatDoor
open Go.RowKit Go.ChangeMaps
theorem lay_yes (W H b off q n c:Nat) (z:Option Addr) (zs f:List Int) (w:World) (hr:Row w (Ad b off) zs) (hW:1≤W∧W≤8) (hH:1≤H∧H≤8) (hl:zs.length=W*H) (hm:maskB zs=true) (hk:Row w z f) (hn:f.length=n*5) (aj:n≤3518437208883) (hs:Steps w) (hJ:Joined (ty zs W H)) (hC:∀ i,i<n→CrOk (ty zs W H) f i) :
  Cl 17 #[.agg #[I (W:Int),I (H:Int),.slice (Ad b off) zs.length q,.slice z n c]] w fun e w'=>∃ j k base g h,e=.returned (.tuple #[.agg #[.slice j (ty zs W H).length k,.map (some g),.map (some h)],.bool true])∧PK w w' base g h (.slice j (ty zs W H).length k) (ty zs W H) (gix (ty zs W H)) (kf f n):=by
 have ai:cellsB (W:Int) (H:Int) zs=true:=by
  have e1:sideB (W:Int)=true:=γ5;have e2:sideB (H:Int)=true:=γ5;have e3:(zs.length:Int)=(W:Int)*(H:Int):=by rw [hl];simp
  simp only [cellsB,e1,e2,decide_eq_true e3,hm];rfl
 have E:sideB (W:Int)=true:=γ5;have D:sideB (H:Int)=true:=γ5;have X:(zs.length:Int)=(W:Int)*(H:Int):=by rw [hl];simp
 have aa:Hid (∀ a:World,Bl w a→Cl 41 #[.agg #[I (W:Int),I (H:Int),.slice (Ad b off) zs.length q,.slice z n c]] a fun e w'=>e=.returned (.bool true)∧∃ o,w'=a.alloc o):=fun a t=>hm ▸ Zc W H _ q zs _ a E D (hr.kept t) X;have a8:Hid (∀ a:World,Cl 40 #[I (W:Int)] a fun e w'=>e=.returned (.bool true)∧w'=a):=fun a=>E ▸ Jm (W:Int) a;have M:Hid (∀ a:World,Cl 40 #[I (H:Int)] a fun e w'=>e=.returned (.bool true)∧w'=a):=fun a=>D ▸ Jm (H:Int) a;have N:=Hd (fun (a:World) t=>of_any W H b off q zs a (hs.kept t) (hr.kept t) hW hH hl hm);have B:(ty zs W H).length≤300:=by have:=Yu zs W H hW.2;omega
 have O:Hid (∀ (a:World) (j:Option Addr) (k g h:Nat),Bl w a→PA a j g (ty zs W H)→Cl 43 #[.agg #[.slice j (ty zs W H).length k,.map (some g),.map (some h)]] a fun e w'=>∃ C:Bool,e=.returned (.bool C)∧(C=true↔Joined (ty zs W H))∧Bl a w'):=fun a j k g h t hp=>Uw a k g h j _ (hs.kept t) hp B (Yl zs W H) (Kg hW.2 hH.2);have P:Hid (∀ (a:World) (j:Option Addr) (k g h:Nat),Bl w a→PA a j g (ty zs W H)→Cl 44 #[.agg #[.slice j (ty zs W H).length k,.map (some g),.map (some h)],.slice z n c] a fun e w'=>∃ C:Bool,e=.returned (.bool C)∧(C=true↔∀ i,i<n→CrOk (ty zs W H) f i)∧Bl a w'):=fun a j k g h t hp=>Yy a k g h n c j z _ f hp (hk.kept t) hn aj;have ab:=Hd (Xu hk hn);clear hr hl hm hW hH hk hn hs ai E D X;obtain ⟨L,hL⟩:∃ L,L=ty zs W H:=⟨_,rfl⟩;rw [← hL] at N O P B;rw [← hL] at hJ hC ⊢;have HJ:=Hd hJ;have HC:=Hd hC;clear hL hJ hC;go_enter Tryz.func17,Tryz.ntmps17
 go_wp2_with (first
  | (go_at_call 40;first | (refine (a8.out _).mono ?_;rintro e w9 ⟨rfl,u⟩;have x:=u.symm;clear u;subst x) | (refine (M.out _).mono ?_;rintro e w9 ⟨rfl,u⟩;have x:=u.symm;clear u;subst x))
  | (go_at_call 41;refine (aa.out _ Ψ).mono ?_;rintro e w9 ⟨rfl,o9,rfl⟩)
  | (go_at_call 42;refine (N.out _ (by with_reducible exact Qb β2)).mono ?_;rintro e r ⟨j,k,base,pb,g,h,rfl,T⟩;have m:=Hd (T.pk.base β1);have s0:At r w.heap.size 0 (I (W:Int)):=Qa m.out.2.2.2.2 δ;have s1:At r w.heap.size 1 (I (H:Int)):=Qa m.out.2.2.2.2 δ;have s2:At r w.heap.size 2 (.slice (some ⟨b,off,none⟩) zs.length q):=Qa m.out.2.2.2.2 δ;have s3:At r w.heap.size 3 (.slice z n c):=Qa m.out.2.2.2.2 δ;have z3:=Bt s0;have au:w.heap.size+1<r.heap.size:=Nl ξ m.out.2.2.2.2.size;clear T)
  | (go_at_call 43;refine (O.out _ _ k g h (Qb (Qc β2 m.out.2.2.2.2)) (m.out.pa.kept β1)).mono ?_;rintro e J ⟨ac,rfl,U,l⟩;obtain rfl:ac=true:=U.2 HJ.out;have s:=H2 (m.out.kept (Qc β1 l)) (Qc β1 l);have r0:At J w.heap.size 0 (I (W:Int)):=Qa s.out.2 s0;have r1:At J w.heap.size 1 (I (H:Int)):=Qa s.out.2 s1;have r2:At J w.heap.size 2 (.slice (some ⟨b,off,none⟩) zs.length q):=Qa s.out.2 s2;have r3:At J w.heap.size 3 (.slice z n c):=Qa s.out.2 s3;have G:At J r.heap.size 0 (.slice j L.length k):=Qa l δ;have Y:At J r.heap.size 1 (.map (some g)):=Qa l δ;have Z:At J r.heap.size 2 (.map (some h)):=Qa l δ;have z4:=Bt r0;have am:=Bt G;clear U l)
  | (go_at_call 44;refine (P.out _ _ k g h (Qc β2 s.out.1.2.2.2.2) s.out.1.pa).mono ?_;rintro e K ⟨ae,rfl,V,d⟩;obtain rfl:ae=true:=V.2 HC.out;have Q:=Hd (s.out.1.kept d);have v0:At K w.heap.size 0 (I (W:Int)):=Qa d r0;have v1:At K w.heap.size 1 (I (H:Int)):=Qa d r1;have v2:At K w.heap.size 2 (.slice (some ⟨b,off,none⟩) zs.length q):=Qa d r2;have v3:At K w.heap.size 3 (.slice z n c):=Qa d r3;have a2:At K r.heap.size 0 (.slice j L.length k):=Qa d G;have a6:At K r.heap.size 1 (.map (some g)):=Qa d Y;have a7:At K r.heap.size 2 (.map (some h)):=Qa d Z;have z5:=Bt v0;clear V d))
 have an:base≤r.heap.size:=m.out.2.2.2.1.2.2.2.2.2.1;go_loopg [44] n (fun gk ak wx=>∃ i:Nat,i≤n∧gk=n - i∧ak=I (i:Int)∧PK ((w.alloc (.cells #[I (W:Int),I (H:Int),.slice (Ad b off) zs.length q,.slice z n c] 25)).alloc (.cells #[SN,.map none,.map none] 59)) wx base g h (.slice j L.length k) L (gix L) (kf f i)∧(At wx r.heap.size 0 (.slice j L.length k)∧At wx r.heap.size 1 (.map (some g))∧At wx r.heap.size 2 (.map (some h))))
 case atStart=>exact ⟨0,γ,rfl,rfl,Q.out,a2,a6,a7⟩
 case round =>
  clear Q s a2 a6 a7 G Y Z s0 s1 s2 s3 r0 r1 r2 r3 v0 v1 v2 v3 z4 am z5;obtain ⟨i,hi,rfl,rfl,hK,y0,y1,y2⟩:=hrel;have y:=Hd hK;have HB:=Hd (Qc β2 hK.2.2.2.2);clear hK;have zy:=Bt y0;by_cases h1:i<n
  ·have i1:(i:Int)<(n:Int):=γ;have i0:(0:Int)≤(i:Int):=γ;obtain ⟨C,bo,rfl,c0,c1,c2,c3,c4⟩:=(ab.out.kept HB.out) i h1;have zb:=Bt c0;obtain ⟨a,hu,hg,R⟩:=(y.out.kept (w':=wr.alloc (.cells #[I (ck f i 0),I (ck f i 1),I (ck f i 2),I (ck f i 3),I (ck f i 4)] 49)) β1).update ((ck f i 0),(ck f i 1),(ck f i 2),(ck f i 3)) (I (ck f i 4));have ar:(Instr.mapUpdate 57 (.map (some h)) (.agg #[I (ck f i 0),I (ck f i 1),I (ck f i 2),I (ck f i 3)]) (I (ck f i 4))).run Tryz.prog (wr.alloc (.cells #[I (ck f i 0),I (ck f i 1),I (ck f i 2),I (ck f i 3),I (ck f i 4)] 49))=.ok () a:=hu
   have A:some r.heap.size≠some h:=fun e=>by
    have:=y.out.2.2.2.1.2.2.2.1;simp at e;omega
   have HN:Hid (PK ((w.alloc (.cells #[I (W:Int),I (H:Int),.slice (Ad b off) zs.length q,.slice (Ad C bo) n c] 25)).alloc (.cells #[SN,.map none,.map none] 59)) a base g h (.slice j L.length k) L (gix L) (kf f (i+1))∧(At a r.heap.size 0 (.slice j L.length k)∧At a r.heap.size 1 (.map (some g))∧At a r.heap.size 2 (.map (some h)))):=⟨R,hg.cell (Qk y0) A,hg.cell (Qk y1) A,hg.cell (Qk y2) A⟩;clear hu hg R A;go_wp2;go_roundg (n - (i+1))
   case measure=>omega
   case rel=>exact ⟨i+1,γ,rfl,σ,HN.out.1,HN.out.2⟩
  ·have i1:¬ (i:Int)<(n:Int):=γ;obtain rfl:i=n:=γ;have af:At wr (w.heap.size+1) 0 SN:=Qa y.out.2.2.2.2 δ;have ag:At wr (w.heap.size+1) 1 (.map none):=Qa y.out.2.2.2.2 δ;have ah:At wr (w.heap.size+1) 2 (.map none):=Qa y.out.2.2.2.2 δ;have ao:Fn wr (w.heap.size+1) 0:=(y.out.2.2.2.2.frozen (p:=⟨w.heap.size+1,0,none⟩) ξ).trans δ;have ap:Fn wr (w.heap.size+1) 1:=(y.out.2.2.2.2.frozen (p:=⟨w.heap.size+1,1,none⟩) ξ).trans δ;have aq:Fn wr (w.heap.size+1) 2:=(y.out.2.2.2.2.frozen (p:=⟨w.heap.size+1,2,none⟩) ξ).trans δ;go_wp2;have F:=y.out.2.2.2.1;refine bodyPost_ret (v:=.tuple #[.agg #[.slice j L.length k,.map (some g),.map (some h)],.bool true]) ?_ rfl ⟨j,k,base,g,h,rfl,(y.out.base (Qb (Qb (Qe w)))).grown (Ji (Ji (Ql _ _ 0 _) (Ql _ _ 1 _)) (Ql _ _ 2 _)) γ ?_ ?_ ?_⟩
   ·simp [results,Tryz.results17,go_sem,af,ag,ah]
   ·have:=F.1;simp at this;omega
   ·have:=F.2.2.1;simp at this;omega
   ·have:=F.2.2.2.2.2.2;simp at this;omega
theorem SPt.nodup {c f:List (Int×Int)} (h:SPt c f):c.Nodup:=h.1.imp (fun {a b} d e=>by
 subst e;simp only [ltP] at d;omega)
def fE (L:List T3) (e:E4):Nat:=if cnt L e.1 e.2.1 e.2.2.1 e.2.2.2=2 then 1 else 2
def g3 (L:List T3) (t:T3):Nat:=fE L (edg t 0)+fE L (edg t 1)+fE L (edg t 2)
end Go.Proofs.YtjkjpopghkeibaaGreatDoor
namespace Go.Proofs.YtjkjpopghkeibaaGreatDoor.Dr
open Go.RowKit
variable {w:World} {a l:List Int} {v:Value} {base g i n:Nat} {e:TypeId}
def gt (l:List Int) (i:Nat):Int:=l.getD i 0
theorem gt_lt {h:List Int} (hi:i<h.length):gt h i=h[i]:=by simp [gt,hi]
def Rw (w:World) (g:Nat) (l:List Int):Prop := ∀ i,i<l.length→At w g i (I (gt l i))
theorem Rw.kept {a:World} (h:Rw w g l) (b:Bl w a):Rw a g l:=fun i hi=>Qa b (h i hi)
def Sl (w:World) (v:Value) (l:List Int):Prop:=(v=SN∧l=[])∨∃ g cap,v=.slice (Az g) l.length cap∧Rw w g l
theorem Sl.kept {b:World} (h:Sl w v l) (c:Bl w b):Sl b v l:=by
 rcases h with h | ⟨g,a,h1,h2⟩
 ·exact Or.inl h
 ·exact Or.inr ⟨g,a,h1,h2.kept c⟩
theorem Sl.some (h:Sl w v l) (h0:0<l.length):∃ g cap,v=.slice (Az g) l.length cap∧Rw w g l:=by
 rcases h with ⟨_,h⟩ | h
 ·subst h;simp at h0
 ·exact h
def rowI (l:List Int):List Value:=l.map fun z=>I z
theorem rowI_add (l m:List Int):rowI (l ++ m)=rowI l ++ rowI m:=by simp [rowI]
theorem Yd (v:Value) (h:At w g 0 v):∀ j u,[v][j]?=some u→w.cell? ((⟨g,0,none⟩:Addr).add j)=some u:=by
 intro j u a;match j,a with
 | 0,a=>simp at a;subst a;simpa [Addr.add] using h
theorem Xx (n:Int):∀ u ∈ [I n],u.oneCell'=true:=by
 intro u a;simp at a;subst a;rfl
theorem bl_own {a w':World} {size:Nat} {f:List Value} (h:Bl w a) (d:a.ownsRow base e size v n f) (b:w.heap.size≤base) (hg:a.grownBy w' v.ownBlock):Bl w w' :=
 h.grown hg h.size (fun k c=>Nt b (Qw d k c))
theorem own_sl (h:w.ownsRow base e 1 v n (rowI l)) (c:n=l.length):Sl w v l:=by
 subst c;rcases h.2 with ⟨rfl,h0⟩ | ⟨g,a,b,rfl,h2,_⟩
 ·exact Or.inl ⟨rfl,List.length_eq_zero_iff.1 h0⟩
 ·refine Or.inr ⟨g,a,rfl,fun i hi=>?_⟩;have:=h.cellAt i γ;(try simp only [At,I]);rw [this,gt_lt hi]
  simp [rowI,hi]
theorem sl_meet (h:Sl w v l):∃ a c,v=.slice a l.length c∧∀ i,i<l.length→∃ g,a=Az g∧At w g i (I (gt l i)):=by
 rcases h with ⟨rfl,rfl⟩ | ⟨g,b,rfl,h⟩
 ·exact ⟨none,0,rfl,fun i hi=>by simp at hi⟩
 ·exact ⟨_,b,rfl,fun i hi=>⟨g,rfl,h i hi⟩⟩
def Sg (w:World) (v:Value) (l:List Int):Prop := ∃ a c,v=.slice a l.length c∧∀ i,i<l.length→∃ g off,a=Ad g off∧At w g (off+i) (I (gt l i))
theorem Sg.kept {b:World} (h:Sg w v l) (d:Bl w b):Sg b v l:=by
 obtain ⟨a,c,e,h⟩:=h;refine ⟨a,c,e,fun i hi=>?_⟩;obtain ⟨g,off,e2,h2⟩:=h i hi;exact ⟨g,off,e2,Qa d h2⟩
theorem Sl.sg (h:Sl w v l):Sg w v l:=by
 obtain ⟨a,c,e,h⟩:=sl_meet h;refine ⟨a,c,e,fun i hi=>?_⟩;obtain ⟨g,e2,h2⟩:=h i hi;exact ⟨g,0,e2,by rw [Nat.zero_add];exact h2⟩
def crd:List Int→Int→List Int
 | [],k=>[k]
 | x :: w,k=>k :: x :: crd w (3 - k)
def opn (fs:List Int):List Int:=fs.foldl crd []
def opr:List Int→List Int
 | []=>[]
 | k :: rs=>crd (opr rs) k
theorem crd_len:∀ (w:List Int) (k:Int),(crd w k).length=2*w.length+1
 | [],k=>rfl
 | x :: w,k=>by
  simp only [crd,List.length_cons,crd_len w (3 - k)];omega
theorem opn_snoc (a:List Int) (k:Int):opn (a ++ [k])=crd (opn a) k:=by simp [opn]
theorem opn_opr (rs:List Int):opn rs.reverse=opr rs:=by
 induction rs with
 | nil=>rfl
 | cons k rs ih=>rw [List.reverse_cons,opn_snoc,ih];rfl
theorem opr_opn (a:List Int):opn a=opr a.reverse:=by rw [← opn_opr,List.reverse_reverse]
theorem opr_len:∀ rs:List Int,(opr rs).length+1=2 ^ rs.length
 | []=>rfl
 | k :: rs=>by
  have:=opr_len rs;simp only [opr,crd_len,List.length_cons,Nat.pow_succ];omega
theorem opn_len (a:List Int):(opn a).length+1=2 ^ a.length:=by rw [opr_opn,opr_len,List.length_reverse]
theorem gt_succ (x:Int) (l:List Int) (i:Nat):gt (x :: l) (i+1)=gt l i:=by simp [gt]
theorem crd_even:∀ (w:List Int) (k:Int) (j:Nat),j≤w.length→gt (crd w k) (2*j)=if j % 2=1 then 3 - k else k
 | [],k,j,h=>by
  have:j=0:=by simpa using h
  subst this;rfl
 | x :: w,k,0,_=>rfl
 | x :: w,k,j+1,h=>by
  have e:2*(j+1)=2*j+1+1:=γ;rw [e,crd,gt_succ,gt_succ,crd_even w (3 - k) j (by simpa using h)];by_cases c:j % 2=1
  ·rw [if_pos c,if_neg γ];omega
  ·rw [if_neg c,if_pos γ]
theorem crd_odd:∀ (w:List Int) (k:Int) (j:Nat),j<w.length→gt (crd w k) (2*j+1)=gt w j
 | [],k,j,h=>by simp at h
 | x :: w,k,0,_=>rfl
 | x :: w,k,j+1,h=>by
  have e:2*(j+1)+1=(2*j+1)+1+1:=γ;rw [e,crd,gt_succ,gt_succ,gt_succ,crd_odd w (3 - k) j (by simpa using h)]
def isK (k:Int):Bool:=k == 1 || k == 2
def allK (l:List Int):Bool:=l.all isK
theorem allK_at (h:allK l=true) (hi:i<l.length):gt l i=1∨gt l i=2:=by
 have:=(List.all_eq_true.1 h) (gt l i) (by rw [gt_lt hi];exact Lm hi);simpa [isK] using this
theorem allK_of (h:∀ i,i<l.length→gt l i=1∨gt l i=2):allK l=true:=by
 rw [allK,List.all_eq_true];intro x a;obtain ⟨i,hi,e⟩:=List.getElem_of_mem a;have:=h i hi;rw [gt_lt hi,e] at this;simpa [isK] using this
theorem not_allK (hi:i<l.length) (h1:gt l i≠1) (h2:gt l i≠2):allK l=false:=by
 rw [Bool.eq_false_iff];intro h;rcases allK_at h hi with h | h
 ·exact h1 h
 ·exact h2 h
theorem bl_grown_none {v:World} (h:w.grownBy v none):Bl w v:=(Qe w).grown h (Nr _) (fun k a=>by cases a)
theorem add_at (g j:Nat):(⟨g,0,none⟩:Addr).add j=⟨g,j,none⟩:=by
 unfold Addr.add;split <;> simp_all
theorem one26 (k:Int) (w:World):Rt 36 #[I k] w (.bool (!isK k)):=by
 by_cases h1:k=1
 ·subst h1;go_enter Tryz.func36,Tryz.ntmps36;go_wp2;go_ret;exact ⟨rfl,Qe _⟩
 ·by_cases h2:k=2
  ·subst h2;go_enter Tryz.func36,Tryz.ntmps36;go_wp2;go_ret;exact ⟨rfl,Qe _⟩
  ·have b:(k != 1)=true:=by simpa using h1
   have c:(k != 2)=true:=by simpa using h2
   have a:isK k=false:=by simp [isK,h1,h2]
   go_enter Tryz.func36,Tryz.ntmps36;go_wp2;go_ret;exact ⟨Qv (by rw [a];simp ),Qe _⟩
def IxF (l:List Int) (r:Int):Prop:=decide (0≤r) = !allK l
theorem index31 (v:Value) (l:List Int) (w:World) (hv:Sg w v l) (H:l.length≤17592186044416) :
  Cl 84 #[v,.func (.func 36) #[] #[]] w fun e w'=>∃ r:Int,e=.returned (I r)∧IxF l r∧Bl w w':=by
 obtain ⟨a,c,rfl,y⟩:=hv;have B:=Hd y;have o:Hid (∀ (k:Int) (W:World),Rt 36 #[I k] W (.bool (!isK k))):=fun k W=>one26 k W;clear y;go_enter Tryz.func84,Tryz.ntmps84;go_wp2;go_loopg [8] l.length (fun C F G=>∃ i:Nat,i≤l.length∧C=l.length - i∧F=I (i:Int)∧Bl w G∧∀ k,k<i→isK (gt l k)=true)
 case atStart=>exact ⟨0,γ,rfl,rfl,Qe _,fun k q=>by omega⟩
 case round =>
  obtain ⟨i,hi,rfl,rfl,x,m⟩:=hrel;have h:Hid (Bl w wr∧∀ k,k<i→isK (gt l k)=true):=⟨x,m⟩;clear x m;by_cases h1:i<l.length
  ·have D:(i:Int)<(l.length:Int):=γ;have J:(0:Int)≤(i:Int):=γ;obtain ⟨g,off,rfl,c0⟩:=B.out i h1;replace c0:=Qa h.out.1 c0;have K:=Bt c0;obtain ⟨z,f⟩:∃ v,v=gt l i:=⟨_,rfl⟩;rw [← f] at c0;have j:=Hd f;clear f;have n:=o.out z;obtain ⟨E,d⟩:∃ b,b=isK z:=⟨_,rfl⟩;rw [← d] at n;have u:=Hd d;have t:=Hd n;clear d n
   cases E
   ·go_wp2_with (go_at_call 36;refine (t.out _).mono ?_;rintro e w1 ⟨rfl,p⟩;simp only [Bool.not_false])
    go_ret;refine ⟨(i:Int),rfl, ?_,Qc h.out.1 p⟩;unfold IxF
    have s:allK l=false:=by
     have h2:=u.out;rw [j.out] at h2;simp [isK] at h2;exact not_allK h1 h2.1 h2.2
    rw [s];simp
   ·have A:Hid (∀ k,k<i+1→isK (gt l k)=true):=fun k q=>by
     by_cases hki:k<i
     ·exact h.out.2 k hki
     ·have:k=i:=γ;rw [this,← j.out];exact u.out.symm
    go_wp2_with (go_at_call 36;refine (t.out _).mono ?_;rintro e w1 ⟨rfl,p⟩;simp only [Bool.not_true])
    go_roundg (l.length - (i+1))
    case measure=>omega
    case rel=>exact ⟨i+1,γ,rfl,σ,Qc h.out.1 p,A.out⟩
  ·have D:¬ (i:Int)<(l.length:Int):=γ;obtain rfl:i=l.length:=γ;go_wp2;go_ret;refine ⟨-1,rfl, ?_,h.out.1⟩;unfold IxF
   have s:allK l=true:=allK_of fun k q=>by
    have:=h.out.2 k q;simpa [isK] using this
   rw [s];simp
theorem contains25 (v:Value) (l:List Int) (w:World) (hv:Sg w v l) (g:l.length≤17592186044416) :
  Rt 35 #[v,.func (.func 36) #[] #[]] w (.bool (!allK l)):=by
 have b:=Hd (index31 v l w hv g);obtain ⟨a,c,rfl,d⟩:=hv;clear d;go_enter Tryz.func35,Tryz.ntmps35;go_wp2_with (go_at_call 84;refine b.out.mono ?_;rintro e w1 ⟨r,rfl,hr,f⟩)
 go_ret;exact ⟨Qv hr,f⟩
theorem creases18 (v:Value) (l:List Int) (w:World) (hv:Sg w v l) (i:l.length≤17592186044416) :
  Rt 14 #[v] w (.bool (allK l)):=by
 have f:=Hd (contains25 v l w hv i);obtain ⟨a,c,rfl,g⟩:=hv;clear g;obtain ⟨j,d⟩:∃ b,b=allK l:=⟨_,rfl⟩;rw [← d] at f ⊢;clear d;go_enter Tryz.func14,Tryz.ntmps14;go_wp2_with (go_at_call 35;refine f.out.mono ?_;rintro e w1 ⟨rfl,h⟩)
 go_ret;exact ⟨Qv ξ,h⟩
def fmay (l:List Int):Int:=if 10<l.length then 2 else if allK l=true then 0 else 4
theorem two_cells (u v:Value) (h:At w g 0 u) (k:At w g 1 v):∀ j x,[u,v][j]?=some x→w.cell? ((⟨g,0,none⟩:Addr).add j)=some x:=by
 intro j x a;rw [add_at];match j,a with
 | 0,a=>simp at a;subst a;exact h
 | 1,a=>simp at a;subst a;exact k
theorem cell_two (n m:Int):∀ u ∈ [I n,I m],u.oneCell'=true:=by
 intro u a;simp at a;rcases a with rfl | rfl <;> rfl
theorem take_one (h:i<l.length):l.take (i+1)=l.take i ++ [gt l i]:=by
 rw [List.take_succ_eq_append_getElem h,gt_lt h]
theorem take_two (h:i+1<l.length):l.take (i+2)=l.take i ++ [gt l i,gt l (i+1)]:=by
 rw [take_one h,take_one γ,List.append_assoc];rfl
def alt (k:Int) (i:Nat):Int:=if i % 2=1 then 3 - k else k
theorem alt_succ (k:Int) (i:Nat):alt k (i+1)=3 - alt k i:=by
 unfold alt;by_cases c:i % 2=1
 ·rw [if_pos c,if_neg γ];omega
 ·rw [if_neg c,if_pos γ]
theorem alt_kind {k:Int} (h:k=1∨k=2) (i:Nat):alt k i=1∨alt k i=2:=by
 unfold alt;split <;> omega
theorem other32 (k:Int) (a:k=1∨k=2) (w:World):Rt 85 #[I k] w (I (3 - k)):=by
 have h1:1≤k:=γ;have h2:k≤2:=γ;clear a;go_enter Tryz.func85,Tryz.ntmps85;go_wp2;go_ret;exact ⟨rfl,Qe _⟩
theorem creased27 (v:Value) (l:List Int) (k:Int) (w:World) (hv:Sg w v l) (Z:l.length≤2000) (P:k=1∨k=2) :
  Cl 37 #[v,I k] w fun e w'=>∃ u,e=.returned u∧w'.ownsRow w.heap.size 3 1 u (crd l k).length (rowI (crd l k))∧Bl w w':=by
 obtain ⟨a,c,rfl,O⟩:=hv;have T:=Hd O;obtain ⟨H,M⟩:=info_parts infI;have j:=Hd M;have C:=Hd (crd_len l k);have R:=Hd P;obtain ⟨f,s⟩:∃ x,x=crd l k:=⟨_,rfl⟩;have q:=Hd s;rw [← s] at C ⊢;clear O M s P;have D:Hid (∀ (k:Int) (W:World),k=1∨k=2→Rt 85 #[I k] W (I (3 - k))):=fun k W h=>other32 k h W;go_enter Tryz.func37,Tryz.ntmps37;go_wp2_with (at_make;refine wpList_make_own _ rfl _ _ 22 rfl w.heap.size 3 H (I 0) 1 Tryz.underlying22 j.out.1 j.out.2.1 j.out.2.2.1 _ _ _ (2*l.length+1) rfl rfl γ (by rw [j.out.2.2.2];omega) Ξ (Nr _) ?mk)
 case mk =>
  intro w1 b A;have y:=H2 b (bl_grown_none A);clear b A;go_wp2;go_loopg [1,5,15] l.length (fun U X Y J Q=>∃ i:Nat,i≤l.length∧U=l.length - i∧J=I (i:Int)∧X=I (alt k i)∧Q.ownsRow w.heap.size 3 1 Y (2*i) (rowI (f.take (2*i)))∧Bl w Q)
  case atStart=>exact ⟨0,γ,rfl,rfl,rfl,by simpa [rowI] using y.out.1,y.out.2⟩
  case round =>
   obtain ⟨i,hi,rfl,rfl,rfl,N,L⟩:=hrel;have n:=H2 N L;clear N L;obtain ⟨p,o⟩:∃ x,x=alt k i:=⟨_,rfl⟩;have r:=Hd o
   have E:Hid (p=1∨p=2):=by
    have:=alt_kind R.out i;rw [← o] at this;exact this
   rw [← o];clear o;by_cases h1:i<l.length
   ·have V:(i:Int)<(l.length:Int):=γ;have i0:(0:Int)≤(i:Int):=γ;obtain ⟨g,off,rfl,c0⟩:=T.out i h1;replace c0:=Qa n.out.2 c0;have zg:=Bt c0;obtain ⟨K,t⟩:∃ v,v=gt l i:=⟨_,rfl⟩;rw [← t] at c0
    have F:Hid (f.take (2*(i+1))=f.take (2*i) ++ [p,K]):=by
     have G:=C.out
     have e1:gt f (2*i)=p:=by
      rw [q.out,crd_even l k i γ,r.out];rfl
     have e2:gt f (2*i+1)=K:=by rw [q.out,crd_odd l k i h1,t]
     have:=take_two (l:=f) (i:=2*i) γ;rw [e1,e2] at this;exact this
    clear t;go_wp2_with (at_builtin;refine wpList_append_own _ rfl (.tmp 19) (.tmp 22) 22 rfl w.heap.size 3 H (I 0) 1 8 Tryz.underlying22 j.out.1 j.out.2.1 j.out.2.2.1 j.out.2.2.2 rfl ψ u5 (2*i) (rowI (f.take (2*i))) rfl (Qj n.out.1 β1) ⟨wr.heap.size,0,none⟩ 2 2 [I p,I K] rfl rfl (two_cells _ _ δ δ) (cell_two _ _) Ξ γ (by have:=n.out.2.size;simp;omega) ?gA)
    case gA =>
     intro v' B b d _
     have m:Hid (B.ownsRow w.heap.size 3 1 v' (2*(i+1)) (rowI (f.take (2*(i+1))))∧Bl w B):=by
      refine ⟨?_,bl_own (Qb n.out.2) (Qj n.out.1 β1) (Nr _) d⟩;rw [F.out,rowI_add];exact b
     clear b d;go_wp2_with (go_at_call 85;refine (D.out _ _ E.out).mono ?_;rintro e w4 ⟨rfl,z⟩)
     go_roundg (l.length - (i+1))
     case measure=>omega
     case rel=>exact ⟨i+1,γ,rfl,σ,by rw [alt_succ,r.out],Qj m.out.1 z,Qc m.out.2 z⟩
   ·have V:¬ (i:Int)<(l.length:Int):=γ;obtain rfl:i=l.length:=γ
    have F:Hid (f=f.take (2*l.length) ++ [p]):=by
     have G:=C.out
     have e1:gt f (2*l.length)=p:=by
      rw [q.out,crd_even l k l.length γ,r.out];rfl
     have:=take_one (l:=f) (i:=2*l.length) γ;rw [e1,List.take_of_length_le γ] at this;exact this
    go_wp2_with (at_builtin;refine wpList_append_own _ rfl (.tmp 27) (.tmp 29) 22 rfl w.heap.size 3 H (I 0) 1 8 Tryz.underlying22 j.out.1 j.out.2.1 j.out.2.2.1 j.out.2.2.2 rfl ψ u5 (2*l.length) (rowI (f.take (2*l.length))) rfl (Qj n.out.1 β1) ⟨wr.heap.size,0,none⟩ 1 1 [I p] rfl rfl (Yd _ δ) (Xx _) Ξ γ (by have:=n.out.2.size;simp;omega) ?gB)
    case gB =>
     intro v' B b d _
     have m:Hid (B.ownsRow w.heap.size 3 1 v' f.length (rowI f)∧Bl w B):=by
      refine ⟨?_,bl_own (Qb n.out.2) (Qj n.out.1 β1) (Nr _) d⟩;rw [C.out,F.out,rowI_add];exact b
     clear b d;go_wp2;go_ret;exact ⟨_,rfl,m.out.1,m.out.2⟩
theorem own_weak {b2:Nat} {size:Nat} {c:List Value} (h:w.ownsRow base e size v n c) (d:b2≤base):w.ownsRow b2 e size v n c:=by
 refine ⟨h.1, ?_⟩;rcases h.2 with h1 | ⟨g,a,b,h1,h2,h3⟩
 ·exact Or.inl h1
 ·exact Or.inr ⟨g,a,b,h1,γ,h3⟩
theorem pow10 (h:n≤10):2 ^ n≤1024:=Nat.pow_le_pow_right (n:=2) γ h
theorem opn_take (h:i<a.length):opn (a.take (i+1))=crd (opn (a.take i)) (gt a i):=by rw [take_one h,opn_snoc]
theorem opn_small (h:a.length≤10) (i:Nat):(opn (a.take i)).length≤1023:=by
 have h1:=opn_len (a.take i);have h2:(a.take i).length≤10:=ω;have:=pow10 h2;omega
theorem opened19 (v:Value) (b:List Int) (w:World) (hv:Sg w v b) (F:b.length≤10) (y:allK b=true) :
  Cl 15 #[v] w fun e w'=>∃ u,e=.returned u∧w'.ownsRow w.heap.size 3 1 u (opn b).length (rowI (opn b))∧Bl w w':=by
 obtain ⟨a,c,rfl,t⟩:=hv;have C:=Hd t;have B:=Hd y;have o:Hid (∀ (v:Value) (l:List Int) (k:Int) (W:World),Sg W v l→l.length≤2000→(k=1∨k=2)→Cl 37 #[v,I k] W fun e w'=>∃ u,e=.returned u∧w'.ownsRow W.heap.size 3 1 u (crd l k).length (rowI (crd l k))∧Bl W w'):=fun v l k W h1 h2 h3=>creased27 v l k W h1 h2 h3;clear t y;go_enter Tryz.func15,Tryz.ntmps15;go_wp2;go_loopg [3,8] b.length (fun E H J z=>∃ i:Nat,i≤b.length∧E=b.length - i∧J=I (i:Int)∧z.ownsRow w.heap.size 3 1 H (opn (b.take i)).length (rowI (opn (b.take i)))∧Bl w z)
 case atStart=>exact ⟨0,γ,rfl,rfl,⟨by simp [rowI,opn],Or.inl ⟨rfl,by simp [opn]⟩⟩,Qe _⟩
 case round =>
  obtain ⟨i,hi,rfl,rfl,s,r⟩:=hrel;have m:=H2 s r;clear s r;by_cases h1:i<b.length
  ·have G:(i:Int)<(b.length:Int):=γ;have K:(0:Int)≤(i:Int):=γ;obtain ⟨g,off,rfl,c0⟩:=C.out i h1;replace c0:=Qa m.out.2 c0;have L:=Bt c0;obtain ⟨j,d⟩:∃ v,v=gt b i:=⟨_,rfl⟩;rw [← d] at c0
   have p:Hid (j=1∨j=2):=by
    have:=allK_at B.out h1;rw [← d] at this;exact this
   have D:Hid (opn (b.take (i+1))=crd (opn (b.take i)) j):=by
    have:=opn_take h1;rw [← d] at this;exact this
   have A:Hid (Cl 37 #[u3,I j] wr fun e w'=>∃ u,e=.returned u∧w'.ownsRow wr.heap.size 3 1 u (crd (opn (b.take i)) j).length (rowI (crd (opn (b.take i)) j))∧Bl wr w') :=
    o.out u3 (opn (b.take i)) j wr (own_sl (n:=(opn (b.take i)).length) (base:=w.heap.size) (e:=3) m.out.1 rfl).sg (by have:=opn_small F i;omega) p.out
   clear d;go_wp2_with (go_at_call 37;refine A.out.mono ?_;rintro e w1 ⟨u,rfl,f,x⟩;have H1:=H2 f x;clear f x)
   go_roundg (b.length - (i+1))
   case measure=>omega
   case rel=>exact ⟨i+1,γ,rfl,σ,by rw [D.out];exact own_weak H1.out.1 m.out.2.size,Qc m.out.2 H1.out.2⟩
  ·have G:¬ (i:Int)<(b.length:Int):=γ;obtain rfl:i=b.length:=γ
   have q:Hid (wr.ownsRow w.heap.size 3 1 u3 (opn b).length (rowI (opn b))∧Bl w wr):=by
    have h:=m.out;rw [List.take_length] at h;exact h
   clear m;go_wp2;go_ret;exact ⟨_,rfl,q.out.1,q.out.2⟩
def wordR (fs:List Int):List Int:=if fmay fs=0 then opn fs else []
theorem fmay_ok:fmay a=0↔a.length≤10∧allK a=true:=by
 unfold fmay;by_cases h:10<a.length
 ·rw [if_pos h];simp;omega
 ·rw [if_neg h];by_cases k:allK a=true
  ·rw [if_pos k];simp [k];omega
  ·rw [if_neg k];simp [k]
theorem word7 (v:Value) (d:List Int) (w:World) (hv:Sg w v d) (s:d.length≤17592186044416) :
  Cl 8 #[v] w fun e w'=>∃ u,e=.returned (.tuple #[u,I (fmay d)])∧Sl w' u (wordR d)∧Bl w w':=by
 have m:=Hd (creases18 v d w hv s);have l:Hid (d.length≤10→allK d=true→∀ W,Bl w W→Cl 15 #[v] W fun e w'=>∃ u,e=.returned u∧w'.ownsRow W.heap.size 3 1 u (opn d).length (rowI (opn d))∧Bl W w'):=fun h1 h2 W r=>opened19 v d W (hv.kept r) h1 h2;obtain ⟨a,c,rfl,p⟩:=hv;clear p;by_cases q:10<(d.length:Int)
 ·have g:fmay d=2:=by rw [fmay,if_pos γ]
  have j:wordR d=[]:=by rw [wordR,g];rfl
  rw [g,j];go_enter Tryz.func8,Tryz.ntmps8;go_wp2;go_ret2
  exact ⟨_,rfl,Or.inl ⟨rfl,rfl⟩,Qe _⟩
 ·obtain ⟨t,f⟩:∃ b,b=allK d:=⟨_,rfl⟩;rw [← f] at m l;have k:d.length≤10:=γ
  cases t
  ·have g:fmay d=4:=by rw [fmay,if_neg γ,← f];rfl
   have j:wordR d=[]:=by rw [wordR,g];rfl
   rw [g,j];clear l f g j;go_enter Tryz.func8,Tryz.ntmps8;go_wp2_with (go_at_call 14;refine m.out.mono ?_;rintro e w1 ⟨rfl,i⟩)
   go_ret2
   exact ⟨_,rfl,Or.inl ⟨rfl,rfl⟩,i⟩
  ·have g:fmay d=0:=fmay_ok.2 ⟨k,f.symm⟩;have j:wordR d=opn d:=by rw [wordR,if_pos g]
   rw [g,j];clear f g j;have o:Hid (∀ W,Bl w W→Cl 15 #[.slice a d.length c] W fun e w'=>∃ u,e=.returned u∧w'.ownsRow W.heap.size 3 1 u (opn d).length (rowI (opn d))∧Bl W w'):=l.out k rfl;clear l;go_enter Tryz.func8,Tryz.ntmps8;go_wp2_with (first | (go_at_call 14;refine m.out.mono ?_;rintro e w1 ⟨rfl,i⟩;have H1:=Hd i;clear i) | (go_at_call 15;refine (o.out _ H1.out).mono ?_;rintro e x ⟨u,rfl,h,i⟩;have H2:=H2 h i;clear h i))
   go_ret2
   exact ⟨_,rfl,own_sl (n:=(opn d).length) (e:=3) H2.out.1 rfl,Qc H1.out H2.out.2⟩
end Go.Proofs.YtjkjpopghkeibaaGreatDoor.Dr
