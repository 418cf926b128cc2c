/- A part of it. -/
import Derived.Test.YtjkjpopghkeibaaGreatDoorQlaf
import Derived.Test.YtjkjpopghkeibaaGreatDoorQlae
import Derived.WideKeyEntry
set_option maxRecDepth 100000
set_option maxHeartbeats 40000000
namespace Go.Proofs.YtjkjpopghkeibaaGreatDoor
open Go.RowKit
variable {l:List T3} {t u:T3} {w:World} {g:Nat} {p q r s:Int}
attribute [local go_sem ↓] Go.wp_at_zero Go.wp_at_succ
def Twl (w:World) (g:Nat) (v0 v1 v2 v3 v4 v5 v6 v7 v8 v9 v10 v11:Int):Prop :=
 At w g 0 (I v0)∧At w g 1 (I v1)∧At w g 2 (I v2)∧At w g 3 (I v3)∧At w g 4 (I v4)∧At w g 5 (I v5)∧At w g 6 (I v6)∧At w g 7 (I v7)∧At w g 8 (I v8)∧At w g 9 (I v9)∧At w g 10 (I v10)∧At w g 11 (I v11)
theorem Twl.lt {v0 c d v3 v4 v5 e f i v9 a b:Int} (h:Twl w g v0 c d v3 v4 v5 e f i v9 a b):g<w.heap.size:=bk h.1
theorem Twl.kept {m:World} {v0 f i v3 v4 v5 j k l v9 b c:Int} (h:Twl w g v0 f i v3 v4 v5 j k l v9 b c) (a:Bl w m):Twl m g v0 f i v3 v4 v5 j k l v9 b c:=by
 obtain ⟨h0,h1,h2,h3,h4,h5,h6,n,o,p,d,e⟩:=h;exact ⟨Qa a h0,Qa a h1,Qa a h2,Qa a h3,Qa a h4,Qa a h5,Qa a h6,Qa a n,Qa a o,Qa a p,Qa a d,Qa a e⟩
theorem eql27 (a b c d p q r s:Int) (w:World) :
  (binOp .eql 47 (.agg #[I a,I b,I c,I d]) (.agg #[I p,I q,I r,I s])).run Tryz.prog w=.ok (.bool (sameB a b c d p q r s)) w:=by
 by_cases h1:a=p
 ·subst h1;by_cases h2:b=q
  ·subst h2;by_cases h3:c=r
   ·subst h3;by_cases h4:d=s
    ·subst h4;simp [go_sem,sameB]
    ·have e:(d == s)=false:=by simpa using h4
     simp [go_sem,sameB,e,h4]
   ·have e:(c == r)=false:=by simpa using h3
    simp [go_sem,sameB,e,h3]
  ·have e:(b == q)=false:=by simpa using h2
   simp [go_sem,sameB,e,h2]
 ·have e:(a == p)=false:=by simpa using h1
  simp [go_sem,sameB,e,h1]
def sameT (x y k X Y K:Int):Bool:=decide (x=X∧y=Y∧k=K)
theorem neq23 (x y k X Y K:Int) (w:World) :
  (binOp .neq 39 (.agg #[I x,I y,I k]) (.agg #[I X,I Y,I K])).run Tryz.prog w=.ok (.bool (!sameT x y k X Y K)) w:=by
 by_cases h1:x=X
 ·subst h1;by_cases h2:y=Y
  ·subst h2;by_cases h3:k=K
   ·subst h3;simp [go_sem,sameT]
   ·have e:(k == K)=false:=by simpa using h3
    simp [go_sem,sameT,e,h3]
  ·have e:(y == Y)=false:=by simpa using h2
   simp [go_sem,sameT,e,h2]
 ·have e:(x == X)=false:=by simpa using h1
  simp [go_sem,sameT,e,h1]
theorem eql23 (x y k X Y K:Int) (w:World) :
  (binOp .eql 39 (.agg #[I x,I y,I k]) (.agg #[I X,I Y,I K])).run Tryz.prog w=.ok (.bool (sameT x y k X Y K)) w:=by
 by_cases h1:x=X
 ·subst h1;by_cases h2:y=Y
  ·subst h2;by_cases h3:k=K
   ·subst h3;simp [go_sem,sameT]
   ·have e:(k == K)=false:=by simpa using h3
    simp [go_sem,sameT,e,h3]
  ·have e:(y == Y)=false:=by simpa using h2
   simp [go_sem,sameT,e,h2]
 ·have e:(x == X)=false:=by simpa using h1
  simp [go_sem,sameT,e,h1]
attribute [local go_sem ↓] Go.wp_at_zero Go.wp_at_succ
def Qd (w:World) (g:Nat) (p q r s:Int):Prop:=At w g 0 (I p)∧At w g 1 (I q)∧At w g 2 (I r)∧At w g 3 (I s)
theorem Qd.lt (h:Qd w g p q r s):g<w.heap.size:=bk h.1
theorem Qd.kept {b:World} (h:Qd w g p q r s) (a:Bl w b):Qd b g p q r s:=by
 obtain ⟨h0,h1,h2,h3⟩:=h;exact ⟨Qa a h0,Qa a h1,Qa a h2,Qa a h3⟩
attribute [local go_sem ↓] Go.wp_at_zero Go.wp_at_succ
theorem Jb {v u:World} (h:Below v.drew.heap.size v.drew u):Bl v u:=Qc (Qg (Qe v)) h
def TRow (w:World) (a:Option Addr) (l:List T3):Prop :=
 ∀ i (h:i<l.length),∃ g,a=Az g∧At w g (i*3) (I l[i].1)∧At w g (i*3+1) (I l[i].2.1)∧At w g (i*3+2) (I l[i].2.2)
theorem TRow.kept {c:World} {a:Option Addr} (h:TRow w a l) (b:Bl w c):TRow c a l:=fun i hi=>by
 obtain ⟨g,e,h0,h1,h2⟩:=h i hi;exact ⟨g,e,Qa b h0,Qa b h1,Qa b h2⟩
theorem Gb:∀ (l:List T3) (i:Nat) (h:i<l.length),(flatV l)[i*3]?=some (I l[i].1)∧(flatV l)[i*3+1]?=some (I l[i].2.1)∧(flatV l)[i*3+2]?=some (I l[i].2.2)
 | t :: l,0,_=>by simp [flatV]
 | t :: l,i+1,h=>by
  have a:=Gb l i (by simpa using h);have e:flatV (t :: l)=[I t.1,I t.2.1,I t.2.2] ++ flatV l:=by simp [flatV]
  rw [e,show (i+1)*3=3+i*3 by omega];simp only [List.getElem_cons_succ];refine ⟨?_, ?_, ?_⟩
  ·rw [List.getElem?_append_right ξ];simpa using a.1
  ·rw [List.getElem?_append_right ω];rw [show 3+i*3+1 - [I t.1,I t.2.1,I t.2.2].length=i*3+1 by simp;omega];exact a.2.1
  ·rw [List.getElem?_append_right ω];rw [show 3+i*3+2 - [I t.1,I t.2.1,I t.2.2].length=i*3+2 by simp;omega];exact a.2.2
theorem Xc {base:Nat} {v:Value} (h:w.ownsRow base 39 3 v l.length (flatV l)):∃ a b,v=.slice a l.length b∧TRow w a l:=by
 rcases h.2 with ⟨rfl,h0⟩ | ⟨g,b,c,rfl,_⟩
 ·exact ⟨none,0,by rw [h0],fun i hi=>by omega⟩
 ·refine ⟨Az g,b,rfl,fun i hi=>⟨g,rfl, ?_⟩⟩;have f:=Gb l i hi;exact ⟨(h.cellAt _ γ).trans f.1,(h.cellAt _ γ).trans f.2.1,(h.cellAt _ γ).trans f.2.2⟩
theorem Kg {zs:List Int} {W H:Nat} (c:W≤8) (b:H≤8):∀ t∈ty zs W H,(0≤t.1∧t.1≤8)∧(0≤t.2.1∧t.2.1≤8)∧(0≤t.2.2∧t.2.2≤3):=by
 intro t a;simp only [ty,tx,tk,List.mem_flatMap,List.mem_map,List.mem_filter,List.mem_range] at a;obtain ⟨y,f,x,e,k,⟨d,_⟩,rfl⟩:=a;dsimp only;omega
def cnt (l:List T3) (p q r s:Int):Nat:=l.countP fun t=>hasB t.1 t.2.1 t.2.2 p q r s
theorem cnt_next {i:Nat} (h:i<l.length):cnt (l.take (i+1)) p q r s=cnt (l.take i) p q r s+if hasB l[i].1 l[i].2.1 l[i].2.2 p q r s=true then 1 else 0:=by
 unfold cnt;rw [List.take_succ_eq_append_getElem h,List.countP_append];simp [List.countP_cons]
attribute [local go_sem ↓] Go.wp_at_zero Go.wp_at_succ
def cmp3 (a b:Int):Int:=if a<b then -1 else if b<a then 1 else 0
def or2 (m n:Int):Int:=if m=0 then n else m
def cmpP (a b c d:Int):Int:=or2 (cmp3 a c) (cmp3 b d)
def cmpE (a b c d p q r s:Int):Int:=or2 (cmpP a b p q) (cmpP c d r s)
theorem isNaN_any (n:Int) (w:World):Cl 113 #[I n] w fun e w'=>e=.returned (.bool false)∧w'=w:=by
 go_enter Tryz.func113,Tryz.ntmps113;go_wp2;go_ret;exact ⟨rfl,rfl⟩
theorem Yn (a b:Int) (w:World):Cl 61 #[I a,I b] w fun e w'=>e=.returned (I (cmp3 a b))∧w'=w:=by
 go_enter Tryz.func61,Tryz.ntmps61;go_wp2_with (go_at_call 113;refine (isNaN_any _ _).mono ?_;rintro e w' ⟨rfl,rfl⟩)
 all_goals
  go_ret;exact ⟨Jp (by unfold cmp3;split <;> (try split) <;> omega),rfl⟩
theorem Kq (m n:Int) (g c:Nat) (w:World) (h0:At w g 0 (I m)) (h1:At w g 1 (I n)) :
  Cl 59 #[.slice (Az g) 2 c] w fun e w'=>e=.returned (I (or2 m n))∧w'=w:=by
 go_enter Tryz.func59,Tryz.ntmps59;go_wp2;go_loopg [8] 2 (fun k l o=>∃ i:Int,0≤i∧i≤2∧(k:Int)=2 - i∧l=I i∧(1≤i→m=0)∧(2≤i→n=0)∧o=w)
 case atStart=>exact ⟨0,γ,γ,γ,rfl,γ,γ,rfl⟩
 case round =>
  obtain ⟨i,p,q,hg,rfl,f,j,rfl⟩:=hrel;have hi:i=0∨i=1∨i=2:=γ;rcases hi with rfl | rfl | rfl
  ·by_cases e:m=0
   ·have a:=Hd e;go_wp2;go_roundg 1
    case measure=>omega
    case rel=>exact ⟨1,γ,γ,γ,σ,fun _=>a.out,γ,rfl⟩
   ·have a:Hid (or2 m n=m):=by show or2 m n=m;simp [or2,e]
    have h:(m == 0)=false:=by simpa using e
    go_wp2;go_ret;exact ⟨Jp a.out.symm,rfl⟩
  ·have b:=f γ;have d:=Hd b;clear b;by_cases e:n=0
   ·have a:=Hd e;go_wp2;go_roundg 0
    case measure=>omega
    case rel=>exact ⟨2,γ,γ,γ,σ,fun _=>d.out,fun _=>a.out,rfl⟩
   ·have a:Hid (or2 m n=n):=by show or2 m n=n;simp [or2,d.out]
    have h:(n == 0)=false:=by simpa using e
    go_wp2;go_ret;exact ⟨Jp a.out.symm,rfl⟩
  ·have a:Hid (or2 m n=0):=by show or2 m n=0;simp [or2,f γ,j γ]
   go_wp2;go_ret;exact ⟨Jp a.out.symm,rfl⟩
theorem Ze (a b p q:Int) (w:World) :
  Rt 112 #[.agg #[I a,I b],.agg #[I p,I q]] w (I (cmpP a b p q)):=by
 go_enter Tryz.func112,Tryz.ntmps112;go_wp2
 go_region_held3 (fun w'=>At w' w.heap.size 0 (I a)∧At w' w.heap.size 1 (I b)∧At w' (w.heap.size+1) 0 (I p)∧At w' (w.heap.size+1) 1 (I q))
  ((refine ⟨?_, ?_, ?_, ?_⟩ <;> (repeat' (first | (with_reducible assumption) | (dsimp only;omega) | (simp [go_sem];done) | (with_reducible refine Qk ?_) | (with_reducible refine Qq ?_)))))
  (first | (go_at_call 61;refine (Yn _ _ _).mono ?_;rintro e c ⟨rfl,rfl⟩) | (go_at_call 59;refine (Kq (cmp3 a p) (cmp3 b q) _ _ _ ε ε).mono ?_;rintro e d ⟨rfl,rfl⟩))
 all_goals
  go_wp2;go_ret;refine ⟨rfl, ?_⟩;with_reducible repeat' (first | exact Qe _ | refine Qb ?_ | refine Qg ?_)
theorem Jo (a b c d p q r s:Int) (w:World) :
  Rt 60 #[.agg #[I a,I b,I c,I d],.agg #[I p,I q,I r,I s]] w (I (cmpE a b c d p q r s)):=by
 go_enter Tryz.func60,Tryz.ntmps60;go_wp2
 go_region_held3 (fun w'=>At w' w.heap.size 0 (I a)∧At w' w.heap.size 1 (I b)∧At w' w.heap.size 2 (I c)∧At w' w.heap.size 3 (I d)∧At w' (w.heap.size+1) 0 (I p)∧At w' (w.heap.size+1) 1 (I q)∧At w' (w.heap.size+1) 2 (I r)∧At w' (w.heap.size+1) 3 (I s))
  ((refine ⟨?_, ?_, ?_, ?_, ?_, ?_, ?_, ?_⟩ <;> (repeat' (first | (with_reducible assumption) | (dsimp only;omega) | (simp [go_sem];done) | (with_reducible refine Qk ?_) | (with_reducible refine Qq ?_)))))
  (first
   | (go_at_call 112;refine (Ze _ _ _ _ _).mono ?_;rintro e g ⟨rfl,f⟩;have i:At g w.heap.size 0 (I a):=Qa f μ;have j:At g w.heap.size 1 (I b):=Qa f μ;have k:At g w.heap.size 2 (I c):=Qa f μ;have l:At g w.heap.size 3 (I d):=Qa f μ;have m:At g (w.heap.size+1) 0 (I p):=Qa f μ;have n:At g (w.heap.size+1) 1 (I q):=Qa f μ;have o:At g (w.heap.size+1) 2 (I r):=Qa f μ;have t:At g (w.heap.size+1) 3 (I s):=Qa f μ;have hq:Bl w g:=(by with_reducible (first | exact Qc h.out f | exact Qc (Qg h.out) f | exact Qc (Qg β2) f | exact Qc β2 f));have h:=Hd hq;clear hq;clear f)
   | (go_at_call 59;refine (Kq (cmpP a b p q) (cmpP c d r s) _ _ _ ε ε).mono ?_;rintro e u ⟨rfl,rfl⟩))
 all_goals
  go_wp2;go_ret;refine ⟨rfl, ?_⟩;with_reducible repeat' (first | exact h.out | refine Qb ?_ | refine Qg ?_)
def hasT (t:T3) (e:E4):Bool:=hasB t.1 t.2.1 t.2.2 e.1 e.2.1 e.2.2.1 e.2.2.2
def edg (t:T3) (i:Nat):Int×Int×Int×Int :=
 if i=0 then (ue0 t.1 t.2.1 t.2.2,ue1 t.1 t.2.1 t.2.2,ue2 t.1 t.2.1 t.2.2,ue3 t.1 t.2.1 t.2.2)
 else if i=1 then (ue4 t.1 t.2.1 t.2.2,ue5 t.1 t.2.1 t.2.2,ue6 t.1 t.2.1 t.2.2,ue7 t.1 t.2.1 t.2.2)
 else (ue8 t.1 t.2.1 t.2.2,ue9 t.1 t.2.1 t.2.2,ue10 t.1 t.2.1 t.2.2,ue11 t.1 t.2.1 t.2.2)
def acr (t:T3) (e:E4):Int×Int×Int :=
 (acX t.1 t.2.1 t.2.2 e.1 e.2.1 e.2.2.1 e.2.2.2,acY t.1 t.2.1 t.2.2 e.1 e.2.1 e.2.2.1 e.2.2.2,acK t.1 t.2.1 t.2.2 e.1 e.2.1 e.2.2.1 e.2.2.2)
def Kd (t:T3):Prop:=0≤t.2.2∧t.2.2≤3
theorem Jc (t:T3) (i:Nat):hasT t (edg t i)=true:=by
 unfold edg;split
 ·simp [hasT,hasB,e0,sameB]
 ·split
  ·simp [hasT,hasB,e1,sameB]
  ·simp [hasT,hasB,e2,sameB]
theorem Vw {e:E4} (h:hasT t e=true):∃ i,i<3∧edg t i=e:=by
 unfold hasT at h;rw [Qx] at h;obtain ⟨p,q,r,s⟩:=e;rcases h with h | h | h
 ·exact ⟨0,γ,by simpa [edg,e0,sameB] using h⟩
 ·exact ⟨1,γ,by simpa [edg,e1,sameB] using h⟩
 ·exact ⟨2,γ,by simpa [edg,e2,sameB] using h⟩
def Adj (t u:T3):Prop:=u≠t∧∃ e,hasT t e=true∧hasT u e=true
theorem Adj.symm (h:Adj t u):Adj u t:=⟨fun e=>h.1 e.symm,h.2.imp fun _ a=>⟨a.2,a.1⟩⟩
def Reach (l:List T3) (t u:T3):Prop:=t∈l∧∀ p:T3→Prop,p t→(∀ a b,p a→b∈l→Adj a b→p b)→p u
theorem Reach.here (h:t∈l):Reach l t t:=⟨h,fun _ k _=>k⟩
theorem Reach.step {v:T3} (h:Reach l t u) (hv:v∈l) (a:Adj u v):Reach l t v:=⟨h.1,fun p k s=>s _ _ (h.2 p k s) hv a⟩
theorem Reach.ind {motive:∀ u,Reach l t u→Prop} (here:∀ h:t∈l,motive t (Reach.here h))
  (step:∀ {u v} (h:Reach l t u) (hv:v∈l) (b:Adj u v),motive u h→motive v (Reach.step h hv b)) (h:Reach l t u):motive u h:=by
 obtain ⟨_,m⟩:=h.2 (fun x=>∃ k:Reach l t x,motive x k) ⟨Reach.here h.1,here h.1⟩ (fun _ _ ⟨_,m⟩ c a=>⟨_,step _ c a m⟩);exact m
theorem Reach.mem (h:Reach l t u):t∈l∧u∈l:=by
 induction h using Reach.ind with
 | here h=>exact ⟨h,h⟩
 | step _ hv _ ih=>exact ⟨ih.1,hv⟩
theorem Reach.trans {v:T3} (h:Reach l t u) (k:Reach l u v):Reach l t v:=by
 induction k using Reach.ind with
 | here _=>exact h
 | step _ hv ha ih=>exact ih.step hv ha
theorem Reach.symm (h:Reach l t u):Reach l u t:=by
 induction h using Reach.ind with
 | here h=>exact .here h
 | step h hv ha ih=>exact ((Reach.here hv).step h.mem.2 ha.symm).trans ih
theorem Jj (b:l.Nodup) {i j:Nat} (hi:i<l.length) (a:j<l.length) (e:l[i]=l[j]):i=j:=by
 have hp:=List.pairwise_iff_getElem.1 b;rcases Nat.lt_trichotomy i j with h | h | h
 ·exact absurd e (hp i j hi a h)
 ·exact h
 ·exact absurd e.symm (hp j i a hi h)
def Joined (l:List T3):Prop := ∃ h:0<l.length,∀ i (hi:i<l.length),Reach l l[0] l[i]
theorem reached_joined (h0:0<l.length) (R:Nat→Prop) (m:R 0)
  (h1:∀ i (hi:i<l.length),R i→Reach l l[0] l[i])
  (h2:∀ i j (hi:i<l.length) (b:j<l.length),R i→Adj l[i] l[j]→R j) (k:l.Nodup) :
  (∀ i,i<l.length→R i)↔Joined l:=by
 constructor
 ·exact fun h=>⟨h0,fun i hi=>h1 i hi (h i hi)⟩
 ·rintro ⟨_,h⟩ i hi
  have c:∀ t,Reach l l[0] t→∀ j (b:j<l.length),l[j]=t→R j:=by
   intro t f;generalize hz':l[0]=z at f;induction f using Reach.ind with
   | here hm =>
    intro j b e;have:j=0:=Jj k b h0 (e.trans hz'.symm);exact this ▸ m
   | @step u v hr hv ha ih =>
    intro j b e;obtain ⟨g,a,d⟩:=List.getElem_of_mem hr.mem.2;exact h2 g j a b (ih g a d) (by rw [e,d];exact ha)
  exact c _ (h i hi) i hi rfl
theorem tk_nodup (zs:List Int) (W x y:Nat):∀ n,(tk zs W x y n).Nodup
 | 0=>by simp [tk]
 | n+1=>by
  cases h:bitAt zs W x y n
  ·rw [tk_no h];exact tk_nodup zs W x y n
  ·rw [tk_yes h,List.nodup_append];refine ⟨tk_nodup zs W x y n,ξ, ?_⟩;intro a c b d;simp [tk] at c d;obtain ⟨k,⟨e,_⟩,rfl⟩:=c;subst d;simp;omega
theorem tx_nodup (zs:List Int) (W y:Nat):∀ n,(tx zs W y n).Nodup
 | 0=>by simp [tx]
 | n+1=>by
  rw [Qbj,List.nodup_append];refine ⟨tx_nodup zs W y n,tk_nodup _ _ _ _ _, ?_⟩;intro a c b d;simp only [tx,tk,List.mem_flatMap,List.mem_map,List.mem_filter,List.mem_range] at c d;obtain ⟨x,e,k,_,rfl⟩:=c;obtain ⟨f,_,rfl⟩:=d;simp;omega
theorem Yl (zs:List Int) (W:Nat):∀ n,(ty zs W n).Nodup
 | 0=>by simp [ty]
 | n+1=>by
  rw [Qbi,List.nodup_append];refine ⟨Yl zs W n,tx_nodup _ _ _ _, ?_⟩;intro a c b d;simp only [ty,tx,tk,List.mem_flatMap,List.mem_map,List.mem_filter,List.mem_range] at c d;obtain ⟨y,f,x,e,k,_,rfl⟩:=c;obtain ⟨h,_,g,_,rfl⟩:=d;simp;omega
end Go.Proofs.YtjkjpopghkeibaaGreatDoor
namespace Go.Proofs.YtjkjpopghkeibaaGreatDoor
open Go.RowKit Go.ChangeMaps
variable {a c i r:Nat} {w:World} {k:E4} {v z:Value} {E T:TypeId} {p q s x y:Int}
def ek (e:E4):Value:=.agg #[I e.1,I e.2.1,I e.2.2.1,I e.2.2.2]
def toE (x:E4×Value×Nat):MapEntry:=⟨ek x.1,x.2.1,x.2.2⟩
theorem equal27 (a b:E4) (w:World):(Op.equal 47 (ek a) (ek b)).run Tryz.prog w=.ok (decide (a=b)) w:=by
 obtain ⟨a0,a1,c,a3⟩:=a;obtain ⟨b0,b1,b2,b3⟩:=b;have h:=eql27 a0 a1 c a3 b0 b1 b2 b3 w;have e:sameB a0 a1 c a3 b0 b1 b2 b3=decide ((a0,a1,c,a3)=(b0,b1,b2,b3)):=by simp [sameB]
 rw [e] at h;unfold ek;simp only [binOp,Sem.run_bind,Sem.run_pure] at h
 cases hr:(Op.equal 47 (.agg #[I a0,I a1,I c,I a3]) (.agg #[I b0,I b1,I b2,I b3])).run Tryz.prog w with
 | ok r w1 =>
  rw [hr] at h;simpa [Result.andThen] using h
 | halt x w1 =>
  rw [hr] at h;simp [Result.andThen] at h
theorem checkInt (em:Bool) (n:Nat) (a:Int) (w:World):(Instr.checkKey em (n+1) 3 (I a)).run Tryz.prog w=.ok () w:=by
 simp [Instr.checkKey,run_underlying Tryz.underlying3,Result.andThen]
theorem check25 (em:Bool) (n:Nat) (a b:Int) (w:World):(Instr.checkKey em (n+2) 45 (.agg #[I a,I b])).run Tryz.prog w=.ok () w:=by
 rw [show n+2=(n+1)+1 by omega];unfold Instr.checkKey;simp [run_underlying Tryz.underlying45,go_sem,checkInt]
theorem check27a (em:Bool) (n:Nat) (a b c d:Int) (w:World):(Instr.checkKey em (n+3) 47 (.agg #[I a,I b,I c,I d])).run Tryz.prog w=.ok () w:=by
 rw [show n+3=(n+2)+1 by omega];unfold Instr.checkKey;simp [run_underlying Tryz.underlying47,go_sem,check25]
theorem check27 (em:Bool) (a:E4) (w:World):(Instr.checkKey em 10000 47 (ek a)).run Tryz.prog w=.ok () w:=check27a em 9997 _ _ _ _ w
theorem stays27 (a:E4) (w:World):(Instr.keyThatStays (ek a) (ek a)).run Tryz.prog w=.ok (ek a) w:=by
 have:Instr.sameBits 10000 (ek a) (ek a)=true:=by
  unfold ek;show Instr.sameBits (9999+1) _ _=true
  simp [Instr.sameBits]
 simp [Instr.keyThatStays,this]
theorem find27 (k:E4) (w:World):∀ (ls:List (E4×Value×Nat)) (i:Nat),
  ((Instr.findAsking 47 (ek k) (ls.map toE) i).run Tryz.prog w=.ok none w∧∀ x∈ls,x.1≠k) ∨
  ∃ j x,(Instr.findAsking 47 (ek k) (ls.map toE) i).run Tryz.prog w=.ok (some (i+j,x.2.1)) w∧ls[j]?=some x∧x.1=k
 | [],i=>Or.inl ⟨by simp [Instr.findAsking],ξ⟩
 | x :: r,i=>by
  by_cases h:k=x.1
  ·refine Or.inr ⟨0,x, ?_,rfl,h.symm⟩;have hq:=equal27 k x.1 w;rw [decide_eq_true h] at hq;rw [List.map_cons];simp only [Instr.findAsking,toE,Sem.run_bind,hq,Result.andThen];rfl
  ·have hq:=equal27 k x.1 w;rw [decide_eq_false h] at hq;rcases find27 k w r (i+1) with ⟨h1,h2⟩ | ⟨j,y,h1,h2,h3⟩
   ·refine Or.inl ⟨?_, ?_⟩
    ·rw [List.map_cons];simp only [Instr.findAsking,toE,Sem.run_bind,hq,Result.andThen];exact h1
    ·intro y a;rcases List.mem_cons.1 a with rfl | a
     ·exact fun e=>h e.symm
     ·exact h2 y a
   ·refine Or.inr ⟨j+1,y, ?_,by simpa using h2,h3⟩;rw [List.map_cons];simp only [Instr.findAsking,toE,Sem.run_bind,hq,Result.andThen];rw [show i+(j+1)=i+1+j by omega];exact h1
def EM (w:World) (r:Nat) (ls:List (E4×Value×Nat)) (clock:Nat):Prop:=w.heap[r]?=some (.map (ls.map toE).toArray clock)
def Good (ls:List (E4×Value×Nat)) (clock:Nat):Prop:=(ls.map (fun x=>x.1)).Nodup∧(ls.map (fun x=>x.2.2)).Nodup∧∀ x∈ls,x.2.2<clock
def lk:List (E4×Value×Nat)→Int×Int×Int×Int→Option Value
 | [],_=>none
 | x :: r,k=>if x.1=k then some x.2.1 else lk r k
theorem Vh:∀ {ls:List (E4×Value×Nat)},(∀ x∈ls,x.1≠k)→lk ls k=none
 | [],_=>rfl
 | x :: r,h=>by simp [lk,h x ξ,Vh (ls:=r) (fun y a=>h y (by simp [a]))]
theorem Kw:∀ {ls:List (E4×Value×Nat)} {j:Nat} {x:E4×Value×Nat},(ls.map (fun x=>x.1)).Nodup→ls[j]?=some x→x.1=k→lk ls k=some x.2.1
 | [],_,_,_,h,_=>by simp at h
 | y :: r,0,x,_,h,hk=>by
  simp at h;subst h;simp [lk,hk]
 | y :: r,j+1,x,hn,h,hk=>by
  simp only [List.getElem?_cons_succ] at h;simp only [List.map_cons,List.nodup_cons] at hn;have a:y.1≠k:=fun e=>hn.1 (List.mem_map.2 ⟨x,List.mem_of_getElem? h,hk.trans e.symm⟩);simp [lk,a,Kw hn.2 h hk]
theorem lk_mem:∀ {ls:List (E4×Value×Nat)},lk ls k=some v→∃ b,(k,v,b)∈ls
 | [],h=>by simp [lk] at h
 | y :: r,h=>by
  unfold lk at h;split at h
  ·rename_i e
   simp at h;subst h;subst e;exact ⟨y.2.2,ξ⟩
  ·obtain ⟨b,a⟩:=lk_mem h;exact ⟨b,by simp [a]⟩
theorem Qbo {ls:List (E4×Value×Nat)} {j:E4} (h:∀ x∈ls,x.1≠k):lk (ls ++ [(k,v,c)]) j=if j=k then some v else lk ls j:=by
 induction ls with
 | nil =>
  by_cases e:j=k
  ·simp [lk,e]
  ·have b:¬ k=j:=fun h=>e h.symm;simp [lk,e,b]
 | cons y r a =>
  have a:=a (fun x d=>h x (by simp [d]));simp only [List.cons_append,lk,a];by_cases e:j=k
  ·subst e;simp [h y ξ]
  ·simp [e]
theorem Qac:∀ {ls:List (E4×Value×Nat)} {i:Nat} {x:E4×Value×Nat} {k j:E4} {v:Value},(ls.map (fun x=>x.1)).Nodup→ls[i]?=some x→x.1=k→lk (ls.set i (k,v,x.2.2)) j=if j=k then some v else lk ls j
 | [],_,_,_,_,_,_,h,_=>by simp at h
 | y :: r,0,x,k,j,v,_,h,hk=>by
  simp at h;subst h;by_cases e:j=k
  ·simp [lk,e]
  ·have b:¬ k=j:=fun h=>e h.symm;simp [lk,e,hk,b]
 | y :: r,i+1,x,k,j,v,hn,h,hk=>by
  simp only [List.getElem?_cons_succ] at h;simp only [List.map_cons,List.nodup_cons] at hn;have a:y.1≠k:=fun e=>hn.1 (List.mem_map.2 ⟨x,List.mem_of_getElem? h,hk.trans e.symm⟩);have c:=Qac (j:=j) (v:=v) hn.2 h hk;simp only [List.set_cons_succ,lk,c];by_cases e:j=k
  ·subst e;simp [a]
  ·simp [e]
theorem set_keys {ls:List (E4×Value×Nat)} {x:E4×Value×Nat} (h:ls[i]?=some x) (v:Value):(ls.set i (x.1,v,x.2.2)).map (fun x=>x.1)=ls.map (fun x=>x.1)∧(ls.set i (x.1,v,x.2.2)).map (fun x=>x.2.2)=ls.map (fun x=>x.2.2):=by
 constructor
 ·rw [List.map_set];exact WideElems.set_self _ _ _ (by simp [h])
 ·rw [List.map_set];exact WideElems.set_self _ _ _ (by simp [h])
theorem Vf {ls:List (E4×Value×Nat)} (hg:Good ls c) (h:∀ x∈ls,x.1≠k):Good (ls ++ [(k,v,c)]) (c+1):=by
 obtain ⟨g,i,g3⟩:=hg;refine ⟨?_, ?_, ?_⟩
 ·rw [List.map_append,List.nodup_append];refine ⟨g,ξ,fun a f b e=>?_⟩;obtain ⟨x,d,rfl⟩:=List.mem_map.1 f;simp at e;subst e;exact h x d
 ·rw [List.map_append,List.nodup_append];refine ⟨i,ξ,fun a f b e=>?_⟩;obtain ⟨x,d,rfl⟩:=List.mem_map.1 f;simp at e;subst e;have:=g3 x d;omega
 ·intro x d;rcases List.mem_append.1 d with d | d
  ·have:=g3 x d;omega
  ·simp at d;subst d;simp
theorem Kz {ls:List (E4×Value×Nat)} {x:E4×Value×Nat} (hg:Good ls a) (h:ls[i]?=some x) (v:Value):Good (ls.set i (x.1,v,x.2.2)) a:=by
 obtain ⟨c,d,g3⟩:=hg;have b:=set_keys h v;refine ⟨b.1 ▸ c,b.2 ▸ d,fun y f=>?_⟩;have:y.2.2∈(ls.set i (x.1,v,x.2.2)).map (fun x=>x.2.2):=List.mem_map.2 ⟨y,f,rfl⟩;rw [b.2] at this;obtain ⟨z,g,e⟩:=List.mem_map.1 this;have:=g3 z g;omega
theorem findKey27 (x:Value) (a:List MapEntry) (w:World):(Instr.findKey 47 x a).run Tryz.prog w=(Instr.findAsking 47 x a).run Tryz.prog w:=by
 cases a with
 | nil=>simp [Instr.findKey,run_underlying Tryz.underlying47,Instr.findNow,Instr.findAsking]
 | cons e a=>simp [Instr.findKey,run_underlying Tryz.underlying47,Instr.findNow,Instr.sameNow]
theorem lookup27 (d:Tryz.prog.underlying T=some (.map 47 E)) (e:∀ u:World,(zeroValue E).run Tryz.prog u=.ok z u) {ls:List (E4×Value×Nat)} (h:EM w r ls a) (hg:Good ls a) (k:E4) :
  (Instr.lookup T (.map (some r)) (ek k) false).run Tryz.prog w=.ok ((lk ls k).getD z) w:=by
 unfold EM at h;have c:=fun em=>check27 em k w;rcases find27 k w ls 0 with ⟨h1,h2⟩ | ⟨j,x,h1,h2,h3⟩
 ·rw [Vh h2];have b:(Instr.findKey 47 (ek k) (ls.map toE)).run Tryz.prog w=.ok none w:=(findKey27 _ _ _).trans h1;simp [Instr.lookup,run_underlying d,MapKept.run_getObj_map h,c,b,e,Result.andThen]
 ·rw [Kw hg.1 h2 h3];have b:(Instr.findKey 47 (ek k) (ls.map toE)).run Tryz.prog w=.ok (some (j,x.2.1)) w:=(findKey27 _ _ _).trans (by simpa using h1);simp [Instr.lookup,run_underlying d,MapKept.run_getObj_map h,c,b,Result.andThen]
theorem Yf {a:Array MapEntry} (h:w.heap[r]?=some (.map a c)) (o:Obj):w.grownBy (setBlock w r o) (some r) :=
 ⟨rfl,rfl,rfl,by simp [setBlock],fun _ _ hi=>heap_setBlock_other h _ (fun e1=>hi (by rw [e1]))⟩
theorem entry27 (y:Tryz.prog.underlying T=some (.map 47 E)) (B:∀ u:World,(zeroValue E).run Tryz.prog u=.ok z u) {ls:List (E4×Value×Nat)} (h:EM w r ls a) (hg:Good ls a) (k:E4) :
  ∃ st ls1 clock1,(Instr.mapEntry T (.map (some r)) (ek k)).run Tryz.prog w=.ok (.tuple #[(lk ls k).getD z,goInt st]) (setBlock w r (.map (ls1.map toE).toArray clock1)) ∧
   ∀ val,∃ ls' clock',Good ls' clock'∧(∀ j,lk ls' j=if j=k then some val else lk ls j)∧(ls'.length=ls.length+if lk ls k=none then 1 else 0) ∧
    ∀ o,EM o r ls1 clock1→(Instr.entryStore T (.map (some r)) (goInt st) val).run Tryz.prog o=.ok () (setBlock o r (.map (ls'.map toE).toArray clock')):=by
 have m:=h;unfold EM at m;have t:=fun em=>check27 em k w;rcases find27 k w ls 0 with ⟨h1,h2⟩ | ⟨j,x,h1,h2,h3⟩
 ·have g:(Instr.findKey 47 (ek k) (ls.map toE)).run Tryz.prog w=.ok none w:=(findKey27 _ _ _).trans h1;refine ⟨a,ls ++ [(k,z,a)],a+1, ?_,fun val=>⟨ls ++ [(k,val,a)],a+1,Vf hg h2,fun j=>Qbo h2,by simp [Vh h2],fun o b=>?_⟩⟩
  ·rw [Vh h2];simp [Instr.mapEntry,run_underlying y,MapKept.run_getObj_map m,t,g,B,MapKept.run_setObj_map _ m,Result.andThen,setBlock,toE]
  ·unfold EM at b
   have c:((ls ++ [(k,z,a)]).map toE).toArray.findIdx? (fun e=>((e.born:Nat):Int) == ((a:Nat):Int))=some ls.length:=by
    rw [WideElems.findIdx_arr]
    have q:(((ls ++ [(k,z,a)]).map toE).map (fun e=>e.born)).Nodup:=by
     have:=(Vf (v:=z) hg h2).2.1;rw [List.map_map];exact this
    exact WideElems.findIdx_born q (j:=ls.length) (e0:=toE (k,z,a)) ξ
   have d:((ls ++ [(k,z,a)]).map toE).toArray.modify ls.length (fun e=>{ e with val:=val })=((ls ++ [(k,val,a)]).map toE).toArray:=by
    apply Array.ext';rw [Array.toList_modify];have:=WideElems.modify_last (fun e:MapEntry=>{ e with val:=val }) (toE (k,z,a)) (ls.map toE);rw [List.length_map] at this;simpa [toE] using this
   simp only [Instr.entryStore,Sem.run_bind,MapKept.run_getObj_map b,Result.andThen,asInt,asIntOf,goInt,Sem.run_pure,c,d,MapKept.run_setObj_map _ b,setBlock]
 ·have g:(Instr.findKey 47 (ek k) (ls.map toE)).run Tryz.prog w=.ok (some (j,x.2.1)) w:=(findKey27 _ _ _).trans (by simpa using h1);have A:((ls.map toE).toArray)[j]?=some (toE x):=by simp [h2]
  have f:(ls.map toE)[j]?=some (toE x):=by simp [h2]
  have n:(toE x).key=ek k:=by simp [toE,h3]
  have l:(ls.map toE).toArray.modify j (fun e=>{ e with key:=ek k })=(ls.map toE).toArray:=by
   apply Array.ext';rw [Array.toList_modify];show (ls.map toE).modify j _=ls.map toE
   rw [modify_eq_set _ _ _ _ f];have:({ toE x with key:=ek k }:MapEntry)=toE x:=by rw [← n]
   rw [this];exact WideElems.set_self _ _ _ f
  have s:=stays27 k w;have e1:lk ls k=some x.2.1:=Kw hg.1 h2 h3;refine ⟨x.2.2,ls,a, ?_,fun val=>⟨ls.set j (x.1,val,x.2.2),a,Kz hg h2 val,fun i=>by have:=Qac (j:=i) (v:=val) hg.1 h2 h3;rwa [← h3] at this ⊢,by simp [e1],fun o b=>?_⟩⟩
  ·rw [e1];have p:(toE x).born=x.2.2:=rfl;simp only [Instr.mapEntry,Sem.run_bind,run_underlying y,MapKept.run_getObj_map m,t,g,Result.andThen,A,Option.map_some,Option.getD_some,n,s,l,MapKept.run_setObj_map _ m,Sem.run_pure,p,setBlock]
  ·unfold EM at b
   have c:(ls.map toE).toArray.findIdx? (fun e=>((e.born:Nat):Int) == ((x.2.2:Nat):Int))=some j:=by
    rw [WideElems.findIdx_arr]
    have q:((ls.map toE).map (fun e=>e.born)).Nodup:=by
     rw [List.map_map];exact hg.2.1
    exact WideElems.findIdx_born q (j:=j) (e0:=toE x) f
   have d:(ls.map toE).toArray.modify j (fun e=>{ e with val:=val })=((ls.set j (x.1,val,x.2.2)).map toE).toArray:=by
    apply Array.ext';rw [Array.toList_modify];show (ls.map toE).modify j _=(ls.set j (x.1,val,x.2.2)).map toE
    rw [modify_eq_set _ _ _ _ f,List.map_set];rfl
   simp only [Instr.entryStore,Sem.run_bind,MapKept.run_getObj_map b,Result.andThen,asInt,asIntOf,goInt,Sem.run_pure,c,d,MapKept.run_setObj_map _ b,setBlock]
theorem update27 (n:Tryz.prog.underlying T=some (.map 47 E)) {ls:List (E4×Value×Nat)} (h:EM w r ls a) (hg:Good ls a) (k:E4) (val:Value) :
  ∃ ls' clock',(Instr.mapUpdate T (.map (some r)) (ek k) val).run Tryz.prog w=.ok () (setBlock w r (.map (ls'.map toE).toArray clock'))∧Good ls' clock'∧(∀ j,lk ls' j=if j=k then some val else lk ls j)∧(ls'.length=ls.length+if lk ls k=none then 1 else 0):=by
 have c:=h;unfold EM at c;have m:=fun em=>check27 em k w;rcases find27 k w ls 0 with ⟨h1,h2⟩ | ⟨j,x,h1,h2,h3⟩
 ·have b:(Instr.findKey 47 (ek k) (ls.map toE)).run Tryz.prog w=.ok none w:=(findKey27 _ _ _).trans h1;refine ⟨ls ++ [(k,val,a)],a+1, ?_,Vf hg h2,fun j=>Qbo h2,by simp [Vh h2]⟩;simp [Instr.mapUpdate,run_underlying n,MapKept.run_getObj_map c,m,b,MapKept.run_setObj_map _ c,Result.andThen,setBlock,toE]
 ·have b:(Instr.findKey 47 (ek k) (ls.map toE)).run Tryz.prog w=.ok (some (j,x.2.1)) w:=(findKey27 _ _ _).trans (by simpa using h1);have o:((ls.map toE).toArray)[j]?=some (toE x):=by simp [h2]
  have g:(ls.map toE)[j]?=some (toE x):=by simp [h2]
  have d:(toE x).key=ek k:=by simp [toE,h3]
  have e1:lk ls k=some x.2.1:=Kw hg.1 h2 h3
  have f:(ls.map toE).toArray.modify j (fun e=>{ e with key:=ek k,val:=val })=((ls.set j (x.1,val,x.2.2)).map toE).toArray:=by
   apply Array.ext';rw [Array.toList_modify];show (ls.map toE).modify j _=(ls.set j (x.1,val,x.2.2)).map toE
   rw [modify_eq_set _ _ _ _ g,List.map_set,← d];rfl
  have l:=stays27 k w;refine ⟨ls.set j (x.1,val,x.2.2),a, ?_,Kz hg h2 val,fun i=>by have:=Qac (j:=i) (v:=val) hg.1 h2 h3;rwa [← h3] at this ⊢,by simp [e1]⟩;simp only [Instr.mapUpdate,Sem.run_bind,run_underlying n,MapKept.run_getObj_map c,m,b,Result.andThen,o,Option.map_some,Option.getD_some,d,l,f,MapKept.run_setObj_map _ c,setBlock]
theorem Qbp (w:World):EM (w.alloc (.map #[] 0)) w.heap.size [] 0:=(MapKept.heap_alloc w _).1
theorem Ga:Good [] 0:=⟨ξ,ξ,ξ⟩
def AW (w wx:World) (x y k p q r s:Int):Prop:=Tr wx (w.heap.size) x y k∧Qd wx (w.heap.size+1) p q r s∧Tr wx (w.heap.size+1+1) 0 0 0∧Fr wx (w.heap.size+1+1)∧Bl w wx
theorem AW.kept {wr b:World} {k r:Int} (h:AW w wr x y k p q r s) (a:Bl wr b):AW w b x y k p q r s :=
 ⟨h.1.kept a,h.2.1.kept a,h.2.2.1.kept a,h.2.2.2.1.kept h.2.2.1.lt a,Qc h.2.2.2.2 a⟩
def NX (x y k p q r s dx:Int):Prop := ∀ a b l:Int, -1≤a→a<dx→-1≤b→b≤1→0≤l→l≤3→¬ Oth x y k p q r s a b l
def NY (x y k p q r s dx dy:Int):Prop := ∀ b l:Int, -1≤b→b<dy→0≤l→l≤3→¬ Oth x y k p q r s dx b l
def NZ (x y k p q r s dx dy l:Int):Prop := ∀ m:Int,0≤m→m<l→¬ Oth x y k p q r s dx dy m
theorem NX.next {k r c:Int} (h:NX x y k p q r s c) (d:NY x y k p q r s c 2):NX x y k p q r s (c+1):=fun a b l a0 a1 b0 b1 l0 l1=>by
 by_cases e:a=c
 ·subst e;exact d b l b0 γ l0 l1
 ·exact h a b l a0 γ b0 b1 l0 l1
theorem NY.next {k r c a:Int} (h:NY x y k p q r s c a) (d:NZ x y k p q r s c a 4):NY x y k p q r s c (a+1):=fun b l b0 b1 l0 l1=>by
 by_cases e:b=a
 ·subst e;exact d l l0 γ
 ·exact h b l b0 γ l0 l1
theorem NZ.next {k r a b l:Int} (h:NZ x y k p q r s a b l) (c:¬ Oth x y k p q r s a b l):NZ x y k p q r s a b (l+1):=fun m d f=>by
 by_cases e:m=l
 ·subst e;exact c
 ·exact h m d γ
def Tek (e:T3):Value:=.agg #[I e.1,I e.2.1,I e.2.2]
def TtoE (x:T3×Value×Nat):MapEntry:=⟨Tek x.1,x.2.1,x.2.2⟩
theorem Tequal27 (a b:T3) (w:World):(Op.equal 39 (Tek a) (Tek b)).run Tryz.prog w=.ok (decide (a=b)) w:=by
 obtain ⟨a0,a1,c⟩:=a;obtain ⟨b0,b1,b2⟩:=b;have h:=eql23 a0 a1 c b0 b1 b2 w;have e:sameT a0 a1 c b0 b1 b2=decide ((a0,a1,c)=(b0,b1,b2)):=by simp [sameT]
 rw [e] at h;unfold Tek;simp only [binOp,Sem.run_bind,Sem.run_pure] at h
 cases hr:(Op.equal 39 (.agg #[I a0,I a1,I c]) (.agg #[I b0,I b1,I b2])).run Tryz.prog w with
 | ok r w1 =>
  rw [hr] at h;simpa [Result.andThen] using h
 | halt x w1 =>
  rw [hr] at h;simp [Result.andThen] at h
theorem Tcheck27a (em:Bool) (n:Nat) (a b c:Int) (w:World):(Instr.checkKey em (n+2) 39 (.agg #[I a,I b,I c])).run Tryz.prog w=.ok () w:=by
 rw [show n+2=(n+1)+1 by omega];unfold Instr.checkKey;simp [run_underlying Tryz.underlying39,go_sem,checkInt]
theorem Tcheck27 (em:Bool) (a:T3) (w:World):(Instr.checkKey em 10000 39 (Tek a)).run Tryz.prog w=.ok () w:=Tcheck27a em 9998 _ _ _ w
theorem Tstays27 (a:T3) (w:World):(Instr.keyThatStays (Tek a) (Tek a)).run Tryz.prog w=.ok (Tek a) w:=by
 have:Instr.sameBits 10000 (Tek a) (Tek a)=true:=by
  unfold Tek;show Instr.sameBits (9999+1) _ _=true
  simp [Instr.sameBits]
 simp [Instr.keyThatStays,this]
theorem Tfind27 (k:T3) (w:World):∀ (ls:List (T3×Value×Nat)) (i:Nat),
  ((Instr.findAsking 39 (Tek k) (ls.map TtoE) i).run Tryz.prog w=.ok none w∧∀ x∈ls,x.1≠k) ∨
  ∃ j x,(Instr.findAsking 39 (Tek k) (ls.map TtoE) i).run Tryz.prog w=.ok (some (i+j,x.2.1)) w∧ls[j]?=some x∧x.1=k
 | [],i=>Or.inl ⟨by simp [Instr.findAsking],ξ⟩
 | x :: r,i=>by
  by_cases h:k=x.1
  ·refine Or.inr ⟨0,x, ?_,rfl,h.symm⟩;have hq:=Tequal27 k x.1 w;rw [decide_eq_true h] at hq;rw [List.map_cons];simp only [Instr.findAsking,TtoE,Sem.run_bind,hq,Result.andThen];rfl
  ·have hq:=Tequal27 k x.1 w;rw [decide_eq_false h] at hq;rcases Tfind27 k w r (i+1) with ⟨h1,h2⟩ | ⟨j,y,h1,h2,h3⟩
   ·refine Or.inl ⟨?_, ?_⟩
    ·rw [List.map_cons];simp only [Instr.findAsking,TtoE,Sem.run_bind,hq,Result.andThen];exact h1
    ·intro y a;rcases List.mem_cons.1 a with rfl | a
     ·exact fun e=>h e.symm
     ·exact h2 y a
   ·refine Or.inr ⟨j+1,y, ?_,by simpa using h2,h3⟩;rw [List.map_cons];simp only [Instr.findAsking,TtoE,Sem.run_bind,hq,Result.andThen];rw [show i+(j+1)=i+1+j by omega];exact h1
def TEM (w:World) (r:Nat) (ls:List (T3×Value×Nat)) (clock:Nat):Prop:=w.heap[r]?=some (.map (ls.map TtoE).toArray clock)
def TGood (ls:List (T3×Value×Nat)) (clock:Nat):Prop:=(ls.map (fun x=>x.1)).Nodup∧(ls.map (fun x=>x.2.2)).Nodup∧∀ x∈ls,x.2.2<clock
def Tlk:List (T3×Value×Nat)→Int×Int×Int→Option Value
 | [],_=>none
 | x :: r,k=>if x.1=k then some x.2.1 else Tlk r k
theorem Tlk_not {k:T3}:∀ {ls:List (T3×Value×Nat)},(∀ x∈ls,x.1≠k)→Tlk ls k=none
 | [],_=>rfl
 | x :: r,h=>by simp [Tlk,h x ξ,Tlk_not (ls:=r) (fun y a=>h y (by simp [a]))]
theorem Tlk_at {k:T3}:∀ {ls:List (T3×Value×Nat)} {j:Nat} {x:T3×Value×Nat},(ls.map (fun x=>x.1)).Nodup→ls[j]?=some x→x.1=k→Tlk ls k=some x.2.1
 | [],_,_,_,h,_=>by simp at h
 | y :: r,0,x,_,h,hk=>by
  simp at h;subst h;simp [Tlk,hk]
 | y :: r,j+1,x,hn,h,hk=>by
  simp only [List.getElem?_cons_succ] at h;simp only [List.map_cons,List.nodup_cons] at hn;have a:y.1≠k:=fun e=>hn.1 (List.mem_map.2 ⟨x,List.mem_of_getElem? h,hk.trans e.symm⟩);simp [Tlk,a,Tlk_at hn.2 h hk]
theorem Tlk_push {ls:List (T3×Value×Nat)} {k j:T3} (h:∀ x∈ls,x.1≠k):Tlk (ls ++ [(k,v,c)]) j=if j=k then some v else Tlk ls j:=by
 induction ls with
 | nil =>
  by_cases e:j=k
  ·simp [Tlk,e]
  ·have b:¬ k=j:=fun h=>e h.symm;simp [Tlk,e,b]
 | cons y r a =>
  have a:=a (fun x d=>h x (by simp [d]));simp only [List.cons_append,Tlk,a];by_cases e:j=k
  ·subst e;simp [h y ξ]
  ·simp [e]
theorem Tlk_set:∀ {ls:List (T3×Value×Nat)} {i:Nat} {x:T3×Value×Nat} {k j:T3} {v:Value},(ls.map (fun x=>x.1)).Nodup→ls[i]?=some x→x.1=k→Tlk (ls.set i (k,v,x.2.2)) j=if j=k then some v else Tlk ls j
 | [],_,_,_,_,_,_,h,_=>by simp at h
 | y :: r,0,x,k,j,v,_,h,hk=>by
  simp at h;subst h;by_cases e:j=k
  ·simp [Tlk,e]
  ·have b:¬ k=j:=fun h=>e h.symm;simp [Tlk,e,hk,b]
 | y :: r,i+1,x,k,j,v,hn,h,hk=>by
  simp only [List.getElem?_cons_succ] at h;simp only [List.map_cons,List.nodup_cons] at hn;have a:y.1≠k:=fun e=>hn.1 (List.mem_map.2 ⟨x,List.mem_of_getElem? h,hk.trans e.symm⟩);have c:=Tlk_set (j:=j) (v:=v) hn.2 h hk;simp only [List.set_cons_succ,Tlk,c];by_cases e:j=k
  ·subst e;simp [a]
  ·simp [e]
theorem Tset_keys {ls:List (T3×Value×Nat)} {x:T3×Value×Nat} (h:ls[i]?=some x) (v:Value):(ls.set i (x.1,v,x.2.2)).map (fun x=>x.1)=ls.map (fun x=>x.1)∧(ls.set i (x.1,v,x.2.2)).map (fun x=>x.2.2)=ls.map (fun x=>x.2.2):=by
 constructor
 ·rw [List.map_set];exact WideElems.set_self _ _ _ (by simp [h])
 ·rw [List.map_set];exact WideElems.set_self _ _ _ (by simp [h])
theorem Tgood_push {ls:List (T3×Value×Nat)} {k:T3} (hg:TGood ls c) (h:∀ x∈ls,x.1≠k):TGood (ls ++ [(k,v,c)]) (c+1):=by
 obtain ⟨g,i,g3⟩:=hg;refine ⟨?_, ?_, ?_⟩
 ·rw [List.map_append,List.nodup_append];refine ⟨g,ξ,fun a f b e=>?_⟩;obtain ⟨x,d,rfl⟩:=List.mem_map.1 f;simp at e;subst e;exact h x d
 ·rw [List.map_append,List.nodup_append];refine ⟨i,ξ,fun a f b e=>?_⟩;obtain ⟨x,d,rfl⟩:=List.mem_map.1 f;simp at e;subst e;have:=g3 x d;omega
 ·intro x d;rcases List.mem_append.1 d with d | d
  ·have:=g3 x d;omega
  ·simp at d;subst d;simp
theorem Tgood_set {ls:List (T3×Value×Nat)} {x:T3×Value×Nat} (hg:TGood ls a) (h:ls[i]?=some x) (v:Value):TGood (ls.set i (x.1,v,x.2.2)) a:=by
 obtain ⟨c,d,g3⟩:=hg;have b:=Tset_keys h v;refine ⟨b.1 ▸ c,b.2 ▸ d,fun y f=>?_⟩;have:y.2.2∈(ls.set i (x.1,v,x.2.2)).map (fun x=>x.2.2):=List.mem_map.2 ⟨y,f,rfl⟩;rw [b.2] at this;obtain ⟨z,g,e⟩:=List.mem_map.1 this;have:=g3 z g;omega
theorem TfindKey27 (x:Value) (a:List MapEntry) (w:World):(Instr.findKey 39 x a).run Tryz.prog w=(Instr.findAsking 39 x a).run Tryz.prog w:=by
 cases a with
 | nil=>simp [Instr.findKey,Instr.findNow,Instr.findAsking]
 | cons e a=>simp [Instr.findKey,Instr.findNow,Instr.sameNow]
theorem Tentry27 (y:Tryz.prog.underlying T=some (.map 39 E)) (B:∀ u:World,(zeroValue E).run Tryz.prog u=.ok z u) {ls:List (T3×Value×Nat)} (h:TEM w r ls a) (hg:TGood ls a) (k:T3) :
  ∃ st ls1 clock1,(Instr.mapEntry T (.map (some r)) (Tek k)).run Tryz.prog w=.ok (.tuple #[(Tlk ls k).getD z,goInt st]) (setBlock w r (.map (ls1.map TtoE).toArray clock1)) ∧
   ∀ val,∃ ls' clock',TGood ls' clock'∧(∀ j,Tlk ls' j=if j=k then some val else Tlk ls j)∧(ls'.length=ls.length+if Tlk ls k=none then 1 else 0) ∧
    ∀ o,TEM o r ls1 clock1→(Instr.entryStore T (.map (some r)) (goInt st) val).run Tryz.prog o=.ok () (setBlock o r (.map (ls'.map TtoE).toArray clock')):=by
 have m:=h;unfold TEM at m;have t:=fun em=>Tcheck27 em k w;rcases Tfind27 k w ls 0 with ⟨h1,h2⟩ | ⟨j,x,h1,h2,h3⟩
 ·have g:(Instr.findKey 39 (Tek k) (ls.map TtoE)).run Tryz.prog w=.ok none w:=(TfindKey27 _ _ _).trans h1;refine ⟨a,ls ++ [(k,z,a)],a+1, ?_,fun val=>⟨ls ++ [(k,val,a)],a+1,Tgood_push hg h2,fun j=>Tlk_push h2,by simp [Tlk_not h2],fun o b=>?_⟩⟩
  ·rw [Tlk_not h2];simp [Instr.mapEntry,run_underlying y,MapKept.run_getObj_map m,t,g,B,MapKept.run_setObj_map _ m,Result.andThen,setBlock,TtoE]
  ·unfold TEM at b
   have c:((ls ++ [(k,z,a)]).map TtoE).toArray.findIdx? (fun e=>((e.born:Nat):Int) == ((a:Nat):Int))=some ls.length:=by
    rw [WideElems.findIdx_arr]
    have q:(((ls ++ [(k,z,a)]).map TtoE).map (fun e=>e.born)).Nodup:=by
     have:=(Tgood_push (v:=z) hg h2).2.1;rw [List.map_map];exact this
    exact WideElems.findIdx_born q (j:=ls.length) (e0:=TtoE (k,z,a)) ξ
   have d:((ls ++ [(k,z,a)]).map TtoE).toArray.modify ls.length (fun e=>{ e with val:=val })=((ls ++ [(k,val,a)]).map TtoE).toArray:=by
    apply Array.ext';rw [Array.toList_modify];have:=WideElems.modify_last (fun e:MapEntry=>{ e with val:=val }) (TtoE (k,z,a)) (ls.map TtoE);rw [List.length_map] at this;simpa [TtoE] using this
   simp only [Instr.entryStore,Sem.run_bind,MapKept.run_getObj_map b,Result.andThen,asInt,asIntOf,goInt,Sem.run_pure,c,d,MapKept.run_setObj_map _ b,setBlock]
 ·have g:(Instr.findKey 39 (Tek k) (ls.map TtoE)).run Tryz.prog w=.ok (some (j,x.2.1)) w:=(TfindKey27 _ _ _).trans (by simpa using h1);have A:((ls.map TtoE).toArray)[j]?=some (TtoE x):=by simp [h2]
  have f:(ls.map TtoE)[j]?=some (TtoE x):=by simp [h2]
  have n:(TtoE x).key=Tek k:=by simp [TtoE,h3]
  have l:(ls.map TtoE).toArray.modify j (fun e=>{ e with key:=Tek k })=(ls.map TtoE).toArray:=by
   apply Array.ext';rw [Array.toList_modify];show (ls.map TtoE).modify j _=ls.map TtoE
   rw [modify_eq_set _ _ _ _ f];have:({ TtoE x with key:=Tek k }:MapEntry)=TtoE x:=by rw [← n]
   rw [this];exact WideElems.set_self _ _ _ f
  have s:=Tstays27 k w;have e1:Tlk ls k=some x.2.1:=Tlk_at hg.1 h2 h3;refine ⟨x.2.2,ls,a, ?_,fun val=>⟨ls.set j (x.1,val,x.2.2),a,Tgood_set hg h2 val,fun i=>by have:=Tlk_set (j:=i) (v:=val) hg.1 h2 h3;rwa [← h3] at this ⊢,by simp [e1],fun o b=>?_⟩⟩
  ·rw [e1];have p:(TtoE x).born=x.2.2:=rfl;simp only [Instr.mapEntry,Sem.run_bind,run_underlying y,MapKept.run_getObj_map m,t,g,Result.andThen,A,Option.map_some,Option.getD_some,n,s,l,MapKept.run_setObj_map _ m,Sem.run_pure,p,setBlock]
  ·unfold TEM at b
   have c:(ls.map TtoE).toArray.findIdx? (fun e=>((e.born:Nat):Int) == ((x.2.2:Nat):Int))=some j:=by
    rw [WideElems.findIdx_arr]
    have q:((ls.map TtoE).map (fun e=>e.born)).Nodup:=by
     rw [List.map_map];exact hg.2.1
    exact WideElems.findIdx_born q (j:=j) (e0:=TtoE x) f
   have d:(ls.map TtoE).toArray.modify j (fun e=>{ e with val:=val })=((ls.set j (x.1,val,x.2.2)).map TtoE).toArray:=by
    apply Array.ext';rw [Array.toList_modify];show (ls.map TtoE).modify j _=(ls.set j (x.1,val,x.2.2)).map TtoE
    rw [modify_eq_set _ _ _ _ f,List.map_set];rfl
   simp only [Instr.entryStore,Sem.run_bind,MapKept.run_getObj_map b,Result.andThen,asInt,asIntOf,goInt,Sem.run_pure,c,d,MapKept.run_setObj_map _ b,setBlock]
end Go.Proofs.YtjkjpopghkeibaaGreatDoor
