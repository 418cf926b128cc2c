/- A part of it. -/
import Derived.Test.YtnpboeodhpenmaaGreatDoorQlae
import Derived.Test.YtnpboeodhpenmaaGreatDoorQlad
set_option maxRecDepth 100000
set_option maxHeartbeats 40000000
namespace Go.Proofs.YtnpboeodhpenmaaGreatDoor
open Go.RowKit
variable {l:List T3} {t u:T3} {w:World} {i:Nat} {e:E4}
attribute [local go_sem ↓] Go.wp_at_zero Go.wp_at_succ
def Qd (w:World) (g:Nat) (p q r s:Int):Prop:=At w g 0 (I p)∧At w g 1 (I q)∧At w g 2 (I r)∧At w g 3 (I s)
theorem Qd.kept {b:World} {g:Nat} {p q r s:Int} (h:Qd w g p q r s) (a:Bl w b):Qd b g p q r s:=by
 obtain ⟨h0,h1,h2,h3⟩:=h;exact ⟨Qa a h0,Qa a h1,Qa a h2,Qa a h3⟩
attribute [local go_sem ↓] Go.wp_at_zero Go.wp_at_succ
theorem Jb {v u:World} (h:Below v.drew.heap.size v.drew u):Bl v u:=Qc (Qg (Qe v)) h
def TRow (w:World) (a:Option Addr) (l:List T3):Prop :=
 ∀ i (h:i<l.length),∃ g,a=Az g∧At w g (i*3) (I l[i].1)∧At w g (i*3+1) (I l[i].2.1)∧At w g (i*3+2) (I l[i].2.2)
theorem TRow.kept {c:World} {a:Option Addr} (h:TRow w a l) (b:Bl w c):TRow c a l:=fun i hi=>by
 obtain ⟨g,e,h0,h1,h2⟩:=h i hi;exact ⟨g,e,Qa b h0,Qa b h1,Qa b h2⟩
theorem Gb:∀ (l:List T3) (i:Nat) (h:i<l.length),(flatV l)[i*3]?=some (I l[i].1)∧(flatV l)[i*3+1]?=some (I l[i].2.1)∧(flatV l)[i*3+2]?=some (I l[i].2.2)
 | t :: l,0,_=>by simp [flatV]
 | t :: l,i+1,h=>by
  have a:=Gb l i (by simpa using h);have e:flatV (t :: l)=[I t.1,I t.2.1,I t.2.2] ++ flatV l:=by simp [flatV]
  rw [e,show (i+1)*3=3+i*3 by omega];simp only [List.getElem_cons_succ];refine ⟨?_, ?_, ?_⟩
  ·rw [List.getElem?_append_right ξ];simpa using a.1
  ·rw [List.getElem?_append_right ω];rw [show 3+i*3+1 - [I t.1,I t.2.1,I t.2.2].length=i*3+1 by simp;omega];exact a.2.1
  ·rw [List.getElem?_append_right ω];rw [show 3+i*3+2 - [I t.1,I t.2.1,I t.2.2].length=i*3+2 by simp;omega];exact a.2.2
theorem Xc {base:Nat} {v:Value} (h:w.ownsRow base 51 3 v l.length (flatV l)):∃ a b,v=.slice a l.length b∧TRow w a l:=by
 rcases h.2 with ⟨rfl,h0⟩ | ⟨g,b,c,rfl,_⟩
 ·exact ⟨none,0,by rw [h0],fun i hi=>by omega⟩
 ·refine ⟨Az g,b,rfl,fun i hi=>⟨g,rfl, ?_⟩⟩;have f:=Gb l i hi;exact ⟨(h.cellAt _ γ).trans f.1,(h.cellAt _ γ).trans f.2.1,(h.cellAt _ γ).trans f.2.2⟩
theorem Kg {zs:List Int} {W H:Nat} (c:W≤8) (b:H≤8):∀ t∈ty zs W H,(0≤t.1∧t.1≤8)∧(0≤t.2.1∧t.2.1≤8)∧(0≤t.2.2∧t.2.2≤3):=by
 intro t a;simp only [ty,tx,tk,List.mem_flatMap,List.mem_map,List.mem_filter,List.mem_range] at a;obtain ⟨y,f,x,e,k,⟨d,_⟩,rfl⟩:=a;dsimp only;omega
def cnt (l:List T3) (p q r s:Int):Nat:=l.countP fun t=>hasB t.1 t.2.1 t.2.2 p q r s
theorem cnt_next {p q r s:Int} (h:i<l.length):cnt (l.take (i+1)) p q r s=cnt (l.take i) p q r s+if hasB l[i].1 l[i].2.1 l[i].2.2 p q r s=true then 1 else 0:=by
 unfold cnt;rw [List.take_succ_eq_append_getElem h,List.countP_append];simp [List.countP_cons]
theorem cnt_le (l:List T3) (p q r s:Int) (i:Nat):cnt (l.take i) p q r s≤l.length:=by
 unfold cnt;exact Nt List.countP_le_length ω
theorem innerEdge_any (W H b off B:Nat) (zs:List Int) (c:Value) (p q r s:Int) (w:World) (hr:Row w (Ad b off) zs) (G:1≤W∧W≤8) (K:1≤H∧H≤8) (X:zs.length=W*H) (Y:maskB zs=true) :
  Rt 121 #[.agg #[I (W:Int),I (H:Int),.slice (Ad b off) zs.length B,c],.agg #[I p,I q,I r,I s]] w (.bool (decide (cnt (ty zs W H) p q r s=2))):=by
 have m:=Hd (fun (A:World) hW'=>Yv W H b off B zs c A (hr.kept hW') G K X Y);have o:Hid (∀ t∈ty zs W H,(0≤t.1∧t.1≤8)∧(0≤t.2.1∧t.2.1≤8)∧(0≤t.2.2∧t.2.2≤3)):=Kg G.2 K.2;have E:(ty zs W H).length≤256:=by have:=Yu zs W H G.2;omega
 clear hr X Y G K;obtain ⟨L,V⟩:∃ L,L=ty zs W H:=⟨_,rfl⟩;rw [← V] at m o E ⊢;clear V;go_enter Tryz.func121,Tryz.ntmps121;go_wp2_with (go_at_call 51;refine (m.out _ Ψ).mono ?_;rintro e w1 ⟨v,rfl,Z,d⟩;have D:Qd w1 (w.heap.size+1) p q r s:=Qd.kept (by simp [Qd,go_sem]) d;have C:Bl w w1:=Qc β2 d;obtain ⟨a,ca,rfl,hT⟩:=Xc Z;have U:=H3 D hT C;clear D C hT Z d)
 go_loopg [6,7] L.length (fun g s6 s7 F=>∃ i:Nat,i≤L.length∧g=L.length - i∧s6=I ((cnt (L.take i) p q r s:Nat):Int)∧s7=I (i:Int)∧Qd F (w.heap.size+1) p q r s∧TRow F a L∧Bl w F)
 case atStart=>exact ⟨0,γ,rfl,by simp [cnt],rfl,U.out⟩
 case round =>
  clear U;obtain ⟨i,hi,rfl,rfl,rfl,D,hT,C⟩:=hrel;have j:=H3 D hT C;clear D hT C;obtain ⟨n,M⟩:∃ n,n=cnt (L.take i) p q r s:=⟨_,rfl⟩;have a2:n≤256:=by have:=cnt_le L p q r s i;omega
  have T:=Hd M;rw [← M];clear M;by_cases h1:i<L.length
  ·have i1:(i:Int)<(L.length:Int):=γ;have i0:(0:Int)≤(i:Int):=γ;obtain ⟨q0,q1,q2,q3⟩:=j.out.1;obtain ⟨g,rfl,t0,P,Q⟩:=j.out.2.1 i h1;have l:=o.out _ (Lm h1);obtain ⟨t,N⟩:∃ t,t=L[i]:=⟨_,rfl⟩;obtain ⟨x,y,k⟩:=t;rw [← N] at t0 P Q l;dsimp only at t0 P Q l
   have u:Hid (cnt (L.take (i+1)) p q r s=n+if hasB x y k p q r s=true then 1 else 0):=by
    show cnt (L.take (i+1)) p q r s=n+if hasB x y k p q r s=true then 1 else 0
    rw [cnt_next h1,← N,← T.out]
   have J:Hid (∀ A:World,Rt 219 #[.agg #[I x,I y,I k],.agg #[I p,I q,I r,I s]] A (.bool (hasB x y k p q r s))):=fun A=>Vx x y k p q r s A γ γ γ γ γ γ;clear N l;have zq:=Bt q0;have zg:=Bt t0;go_wp2;go_cut [21] (fun O F=>O=.bool (hasB x y k p q r s)∧Bl wr F)
   case first =>
    go_region_held3 (fun w'=>At w' g (i*3) (I x)∧At w' g (i*3+1) (I y)∧At w' g (i*3+2) (I k)∧At w' (w.heap.size+1) 0 (I p)∧At w' (w.heap.size+1) 1 (I q)∧At w' (w.heap.size+1) 2 (I r)∧At w' (w.heap.size+1) 3 (I s))
     ((refine ⟨?_, ?_, ?_, ?_, ?_, ?_, ?_⟩ <;> (repeat' (first | (with_reducible assumption) | (dsimp only;omega) | (simp [go_sem];done) | (with_reducible refine Qk ?_) | (with_reducible refine Qq ?_)))))
     ((go_at_call 219;refine (J.out _).mono ?_;rintro e h ⟨rfl,d⟩;have ab:At h g (i*3) (I x):=Qa d γ0;have ac:At h g (i*3+1) (I y):=Qa d γ0;have ad:At h g (i*3+2) (I k):=Qa d γ0;have a6:At h (w.heap.size+1) 0 (I p):=Qa d γ0;have a7:At h (w.heap.size+1) 1 (I q):=Qa d γ0;have a8:At h (w.heap.size+1) 2 (I r):=Qa d γ0;have aa:At h (w.heap.size+1) 3 (I s):=Qa d γ0;have hq:Bl wr h:=(by with_reducible (first | exact d | exact Jb d | exact Jb (Jb d)));have HQ:=Hd hq;clear d hq))
    all_goals
     go_wp2;go_meet
     case rel =>
      refine ⟨rfl, ?_⟩;with_reducible repeat' (first | exact HQ.out | refine Qg ?_)
   case rest =>
    obtain ⟨rfl,f⟩:=hcut;have R:=H3 (j.out.1.kept f) (j.out.2.1.kept f) (Qc j.out.2.2 f);clear f q0 q1 q2 q3 t0 P Q zq zg j
    cases hh:hasB x y k p q r s
    ·have z:Hid (cnt (L.take (i+1)) p q r s=n):=by
      show cnt (L.take (i+1)) p q r s=n
      rw [u.out,hh];simp
     go_wp2;go_roundg (L.length - (i+1))
     case measure=>omega
     case rel=>exact ⟨i+1,γ,rfl,by rw [z.out],σ,R.out⟩
    ·have z:Hid (cnt (L.take (i+1)) p q r s=n+1):=by
      show cnt (L.take (i+1)) p q r s=n+1
      rw [u.out,hh];simp
     go_wp2;go_roundg (L.length - (i+1))
     case measure=>omega
     case rel=>exact ⟨i+1,γ,rfl,by rw [z.out];go_num,σ,R.out⟩
  ·have i1:¬ (i:Int)<(L.length:Int):=γ
   have z:Hid (n=cnt L p q r s):=by
    show n=cnt L p q r s
    rw [T.out,List.take_of_length_le γ]
   go_wp2;go_ret;refine ⟨Qv ?_,j.out.2.2⟩;rw [← z.out];rw [Bool.eq_iff_iff];simp;omega
attribute [local go_sem ↓] Go.wp_at_zero Go.wp_at_succ
def cmp3 (a b:Int):Int:=if a<b then -1 else if b<a then 1 else 0
def or2 (m n:Int):Int:=if m=0 then n else m
def cmpP (a b c d:Int):Int:=or2 (cmp3 a c) (cmp3 b d)
def cmpE (a b c d p q r s:Int):Int:=or2 (cmpP a b p q) (cmpP c d r s)
theorem isNaN_any (n:Int) (w:World):Cl 110 #[I n] w fun e w'=>e=.returned (.bool false)∧w'=w:=by
 go_enter Tryz.func110,Tryz.ntmps110;go_wp2;go_ret;exact ⟨rfl,rfl⟩
theorem Yn (a b:Int) (w:World):Cl 44 #[I a,I b] w fun e w'=>e=.returned (I (cmp3 a b))∧w'=w:=by
 go_enter Tryz.func44,Tryz.ntmps44;go_wp2_with (go_at_call 110;refine (isNaN_any _ _).mono ?_;rintro e w' ⟨rfl,rfl⟩)
 all_goals
  go_ret;exact ⟨Jp (by unfold cmp3;split <;> (try split) <;> omega),rfl⟩
theorem Kq (m n:Int) (g c:Nat) (w:World) (h0:At w g 0 (I m)) (h1:At w g 1 (I n)) :
  Cl 42 #[.slice (Az g) 2 c] w fun e w'=>e=.returned (I (or2 m n))∧w'=w:=by
 go_enter Tryz.func42,Tryz.ntmps42;go_wp2;go_loopg [8] 2 (fun k l o=>∃ i:Int,0≤i∧i≤2∧(k:Int)=2 - i∧l=I i∧(1≤i→m=0)∧(2≤i→n=0)∧o=w)
 case atStart=>exact ⟨0,γ,γ,γ,rfl,γ,γ,rfl⟩
 case round =>
  obtain ⟨i,p,q,hg,rfl,f,j,rfl⟩:=hrel;have hi:i=0∨i=1∨i=2:=γ;rcases hi with rfl | rfl | rfl
  ·by_cases e:m=0
   ·have a:=Hd e;go_wp2;go_roundg 1
    case measure=>omega
    case rel=>exact ⟨1,γ,γ,γ,σ,fun _=>a.out,γ,rfl⟩
   ·have a:Hid (or2 m n=m):=by show or2 m n=m;simp [or2,e]
    have h:(m == 0)=false:=by simpa using e
    go_wp2;go_ret;exact ⟨Jp a.out.symm,rfl⟩
  ·have b:=f γ;have d:=Hd b;clear b;by_cases e:n=0
   ·have a:=Hd e;go_wp2;go_roundg 0
    case measure=>omega
    case rel=>exact ⟨2,γ,γ,γ,σ,fun _=>d.out,fun _=>a.out,rfl⟩
   ·have a:Hid (or2 m n=n):=by show or2 m n=n;simp [or2,d.out]
    have h:(n == 0)=false:=by simpa using e
    go_wp2;go_ret;exact ⟨Jp a.out.symm,rfl⟩
  ·have a:Hid (or2 m n=0):=by show or2 m n=0;simp [or2,f γ,j γ]
   go_wp2;go_ret;exact ⟨Jp a.out.symm,rfl⟩
theorem Ze (a b p q:Int) (w:World) :
  Rt 109 #[.agg #[I a,I b],.agg #[I p,I q]] w (I (cmpP a b p q)):=by
 go_enter Tryz.func109,Tryz.ntmps109;go_wp2
 go_region_held3 (fun w'=>At w' w.heap.size 0 (I a)∧At w' w.heap.size 1 (I b)∧At w' (w.heap.size+1) 0 (I p)∧At w' (w.heap.size+1) 1 (I q))
  ((refine ⟨?_, ?_, ?_, ?_⟩ <;> (repeat' (first | (with_reducible assumption) | (dsimp only;omega) | (simp [go_sem];done) | (with_reducible refine Qk ?_) | (with_reducible refine Qq ?_)))))
  (first | (go_at_call 44;refine (Yn _ _ _).mono ?_;rintro e c ⟨rfl,rfl⟩) | (go_at_call 42;refine (Kq (cmp3 a p) (cmp3 b q) _ _ _ ε ε).mono ?_;rintro e d ⟨rfl,rfl⟩))
 all_goals
  go_wp2;go_ret;refine ⟨rfl, ?_⟩;with_reducible repeat' (first | exact Qe _ | refine Qb ?_ | refine Qg ?_)
theorem Jo (a b c d p q r s:Int) (w:World) :
  Rt 43 #[.agg #[I a,I b,I c,I d],.agg #[I p,I q,I r,I s]] w (I (cmpE a b c d p q r s)):=by
 go_enter Tryz.func43,Tryz.ntmps43;go_wp2
 go_region_held3 (fun w'=>At w' w.heap.size 0 (I a)∧At w' w.heap.size 1 (I b)∧At w' w.heap.size 2 (I c)∧At w' w.heap.size 3 (I d)∧At w' (w.heap.size+1) 0 (I p)∧At w' (w.heap.size+1) 1 (I q)∧At w' (w.heap.size+1) 2 (I r)∧At w' (w.heap.size+1) 3 (I s))
  ((refine ⟨?_, ?_, ?_, ?_, ?_, ?_, ?_, ?_⟩ <;> (repeat' (first | (with_reducible assumption) | (dsimp only;omega) | (simp [go_sem];done) | (with_reducible refine Qk ?_) | (with_reducible refine Qq ?_)))))
  (first
   | (go_at_call 109;refine (Ze _ _ _ _ _).mono ?_;rintro e g ⟨rfl,f⟩;have i:At g w.heap.size 0 (I a):=Qa f μ;have j:At g w.heap.size 1 (I b):=Qa f μ;have k:At g w.heap.size 2 (I c):=Qa f μ;have l:At g w.heap.size 3 (I d):=Qa f μ;have m:At g (w.heap.size+1) 0 (I p):=Qa f μ;have n:At g (w.heap.size+1) 1 (I q):=Qa f μ;have o:At g (w.heap.size+1) 2 (I r):=Qa f μ;have t:At g (w.heap.size+1) 3 (I s):=Qa f μ;have hq:Bl w g:=(by with_reducible (first | exact Qc h.out f | exact Qc (Qg h.out) f | exact Qc (Qg β2) f | exact Qc β2 f));have h:=Hd hq;clear hq;clear f)
   | (go_at_call 42;refine (Kq (cmpP a b p q) (cmpP c d r s) _ _ _ ε ε).mono ?_;rintro e u ⟨rfl,rfl⟩))
 all_goals
  go_wp2;go_ret;refine ⟨rfl, ?_⟩;with_reducible repeat' (first | exact h.out | refine Qb ?_ | refine Qg ?_)
attribute [local go_sem ↓] Go.wp_at_zero Go.wp_at_succ
theorem eql25 (a b p q:Int) (w:World) :
  (binOp .eql 40 (.agg #[I a,I b]) (.agg #[I p,I q])).run Tryz.prog w=.ok (.bool (decide (a=p∧b=q))) w:=by
 by_cases h1:a=p
 ·subst h1;by_cases h2:b=q
  ·subst h2;simp [go_sem]
  ·have e:(b == q)=false:=by simpa using h2
   simp [go_sem,e,h2]
 ·have e:(a == p)=false:=by simpa using h1
  simp [go_sem,e,h1]
def lessE (a b c d p q r s:Int):Bool:=lessB a b p q || (decide (a=p∧b=q) && lessB c d r s)
theorem Js (a b c d p q r s:Int) (w:World) :
  Rt 120 #[.agg #[I a,I b,I c,I d],.agg #[I p,I q,I r,I s]] w (.bool (lessE a b c d p q r s)):=by
 have g:=eql25
 cases h1:lessB a b p q
 ·cases h2:decide (a=p∧b=q)
  ·have f:Hid (lessE a b c d p q r s=false):=by show lessE a b c d p q r s=false;simp only [lessE,h1,h2];rfl
   go_enter Tryz.func120,Tryz.ntmps120;go_wp2_with (go_at_call 218;refine (Xj _ _ _ _ _).mono ?_;rintro e w' ⟨rfl,o1,o2,rfl⟩)
   go_ret;refine ⟨by rw [f.out];rfl, ?_⟩;with_reducible repeat' (first | exact Qe _ | refine Qb ?_ | refine Qg ?_)
  ·have f:Hid (lessE a b c d p q r s=lessB c d r s):=by show lessE a b c d p q r s=lessB c d r s;simp only [lessE,h1,h2];simp
   go_enter Tryz.func120,Tryz.ntmps120;go_wp2_with (go_at_call 218;refine (Xj _ _ _ _ _).mono ?_;rintro e w' ⟨rfl,o1,o2,rfl⟩)
   go_ret;refine ⟨by rw [f.out];rfl, ?_⟩;with_reducible repeat' (first | exact Qe _ | refine Qb ?_ | refine Qg ?_)
 ·have f:Hid (lessE a b c d p q r s=true):=by show lessE a b c d p q r s=true;simp only [lessE,h1];rfl
  go_enter Tryz.func120,Tryz.ntmps120;go_wp2_with (go_at_call 218;refine (Xj _ _ _ _ _).mono ?_;rintro e w' ⟨rfl,o1,o2,rfl⟩)
  go_ret;refine ⟨by rw [f.out];rfl, ?_⟩;with_reducible repeat' (first | exact Qe _ | refine Qb ?_ | refine Qg ?_)
theorem Vg (a b c d p q r s:Int):cmpE a b c d p q r s<0↔lessE a b c d p q r s=true:=by
 unfold cmpE cmpP or2 cmp3 lessE lessB;simp only [Bool.or_eq_true,Bool.and_eq_true,decide_eq_true_eq];split <;> rename_i h1 <;> (repeat' split at h1) <;> (repeat' split) <;> omega
def plc (l:List T3) (t:T3):Int:=if t∈l then (l.idxOf t:Int) else -1
theorem Gv (hi:i<l.length) (a:l[i]=t) (d:∀ j (e:j<l.length),j<i→l[j]≠t):plc l t=i:=by
 have b:t∈l:=a ▸ Lm hi;have h1:=List.idxOf_lt_length_of_mem b;have h2:l[l.idxOf t]=t:=List.getElem_idxOf h1
 have h3:l.idxOf t=i:=by
  rcases Nat.lt_trichotomy (l.idxOf t) i with h | h | h
  ·exact absurd h2 (d _ h1 h)
  ·exact h
  ·simp [List.idxOf] at h;obtain ⟨_,c⟩:=h;exact absurd a (c i (Nr _))
 simp [plc,b,h3]
theorem plc_not (c:∀ j (a:j<l.length),l[j]≠t):plc l t=-1:=by
 have b:¬ t∈l:=fun h=>by
  obtain ⟨j,a,e⟩:=List.getElem_of_mem h;exact c j a e
 simp [plc,b]
theorem Xp (a:Option Addr) (m:Nat) (l:List T3) (x y k:Int) (w:World) (hT:TRow w a l) (r:l.length≤256) :
  Rt 53 #[.slice a l.length m,.agg #[I x,I y,I k]] w (I (plc l (x,y,k))):=by
 have C:=eql23;have u:=Hd hT;clear hT;go_enter Tryz.func53,Tryz.ntmps53;go_wp2;go_loopg [5] l.length (fun g z s=>∃ i:Nat,i≤l.length∧g=l.length - i∧z=I (i:Int)∧(∀ j (c:j<l.length),j<i→l[j]≠(x,y,k))∧(Tr s w.heap.size x y k∧Bl w s))
 case atStart=>exact ⟨0,γ,rfl,rfl,fun j _ h=>by omega,γ8,Qb (Qe _)⟩
 case round =>
  obtain ⟨i,hi,rfl,rfl,hp,⟨t0,A,B⟩,p⟩:=hrel;have d:=Hd hp;have b:=Hd p;have f:Hid (Tr wr w.heap.size x y k):=⟨t0,A,B⟩;clear hp p;by_cases h1:i<l.length
  ·have v:(i:Int)<(l.length:Int):=γ;have D:(0:Int)≤(i:Int):=γ;obtain ⟨g,rfl,c0,c1,c2⟩:=(u.out.kept b.out) i h1;obtain ⟨t,n⟩:∃ t,t=l[i]:=⟨_,rfl⟩;obtain ⟨X,Y,K⟩:=t;rw [← n] at c0 c1 c2;dsimp only at c0 c1 c2;have o:=Hd n;clear n;have E:=Bt c0;have F:=Bt t0
   cases hq:sameT X Y K x y k
   ·go_wp2;go_quiet (fail)
    go_wp2;go_roundg (l.length - (i+1))
    case measure=>omega
    case rel =>
     refine ⟨i+1,γ,rfl,σ,fun j c h=>?_,f.out, ?_⟩
     ·by_cases e:j=i
      ·subst e;rw [← o.out];intro q;simp at q;simp [sameT,q] at hq
      ·exact d.out j c γ
     ·with_reducible repeat' (first | exact b.out | refine Qr ?_ | refine Qg ?_)
   ·go_wp2;go_quiet (fail)
    go_wp2;go_ret;refine ⟨Jp ?_, ?_⟩
    ·refine (Gv h1 ?_ d.out).symm;rw [← o.out];simpa [sameT] using hq
    ·with_reducible repeat' (first | exact b.out | refine Qr ?_ | refine Qg ?_)
  ·have v:¬ (i:Int)<(l.length:Int):=γ;go_wp2;go_ret;exact ⟨Jp (plc_not (fun j c=>d.out j c γ)).symm,b.out⟩
def hasT (t:T3) (e:E4):Bool:=hasB t.1 t.2.1 t.2.2 e.1 e.2.1 e.2.2.1 e.2.2.2
def edg (t:T3) (i:Nat):Int×Int×Int×Int :=
 if i=0 then (ue0 t.1 t.2.1 t.2.2,ue1 t.1 t.2.1 t.2.2,ue2 t.1 t.2.1 t.2.2,ue3 t.1 t.2.1 t.2.2)
 else if i=1 then (ue4 t.1 t.2.1 t.2.2,ue5 t.1 t.2.1 t.2.2,ue6 t.1 t.2.1 t.2.2,ue7 t.1 t.2.1 t.2.2)
 else (ue8 t.1 t.2.1 t.2.2,ue9 t.1 t.2.1 t.2.2,ue10 t.1 t.2.1 t.2.2,ue11 t.1 t.2.1 t.2.2)
def acr (t:T3) (e:E4):Int×Int×Int :=
 (acX t.1 t.2.1 t.2.2 e.1 e.2.1 e.2.2.1 e.2.2.2,acY t.1 t.2.1 t.2.2 e.1 e.2.1 e.2.2.1 e.2.2.2,acK t.1 t.2.1 t.2.2 e.1 e.2.1 e.2.2.1 e.2.2.2)
def Kd (t:T3):Prop:=0≤t.2.2∧t.2.2≤3
theorem Jc (t:T3) (i:Nat):hasT t (edg t i)=true:=by
 unfold edg;split
 ·simp [hasT,hasB,e0,sameB]
 ·split
  ·simp [hasT,hasB,e1,sameB]
  ·simp [hasT,hasB,e2,sameB]
theorem Vw (h:hasT t e=true):∃ i,i<3∧edg t i=e:=by
 unfold hasT at h;rw [Qx] at h;obtain ⟨p,q,r,s⟩:=e;rcases h with h | h | h
 ·exact ⟨0,γ,by simpa [edg,e0,sameB] using h⟩
 ·exact ⟨1,γ,by simpa [edg,e1,sameB] using h⟩
 ·exact ⟨2,γ,by simpa [edg,e2,sameB] using h⟩
def Adj (t u:T3):Prop:=u≠t∧∃ e,hasT t e=true∧hasT u e=true
theorem Adj.symm (h:Adj t u):Adj u t:=⟨fun e=>h.1 e.symm,h.2.imp fun _ a=>⟨a.2,a.1⟩⟩
theorem Jh (f:Kd t) (g:Kd u) (h1:hasT t e=true) (h2:hasT u e=true) (d:u≠t):u=acr t e:=by
 obtain ⟨x,y,k⟩:=t;obtain ⟨X,Y,K⟩:=u;obtain ⟨p,q,r,s⟩:=e;have:=Qaj x y k p q r s (X - x) (Y - y) K f.1 f.2 g.1 g.2 h1 ⟨by rw [show x+(X - x)=X by omega,show y+(Y - y)=Y by omega];exact h2,fun h=>d (by obtain ⟨a,b,c⟩:=h;simp;omega)⟩;simp only [acr,Prod.mk.injEq];omega
theorem Zf (a:Kd t) (h1:hasT t e=true):hasT (acr t e) e=true∧acr t e≠t∧Kd (acr t e):=by
 obtain ⟨x,y,k⟩:=t;obtain ⟨p,q,r,s⟩:=e;obtain ⟨d,f,l,_,_,b,c⟩:=across_has x y k p q r s a.1 a.2 h1;have h:=Qaj x y k p q r s d f l a.1 a.2 b.1 b.2 h1 c;have e:acr (x,y,k) (p,q,r,s)=(x+d,y+f,l):=by simp only [acr,Prod.mk.injEq];omega
 rw [e];exact ⟨c.1,fun g=>c.2 (by simpa using g),b⟩
theorem adj_iff (b:Kd t) (c:Kd u):Adj t u↔∃ i,i<3∧u=acr t (edg t i):=by
 constructor
 ·rintro ⟨a,e,h1,h2⟩;obtain ⟨i,hi,rfl⟩:=Vw h1;exact ⟨i,hi,Jh b c h1 h2 a⟩
 ·rintro ⟨i,_,rfl⟩;have h:=Zf b (Jc t i);exact ⟨h.2.1,_,Jc t i,h.1⟩
def Reach (l:List T3) (t u:T3):Prop:=t∈l∧∀ p:T3→Prop,p t→(∀ a b,p a→b∈l→Adj a b→p b)→p u
theorem Reach.here (h:t∈l):Reach l t t:=⟨h,fun _ k _=>k⟩
theorem Reach.step {v:T3} (h:Reach l t u) (hv:v∈l) (a:Adj u v):Reach l t v:=⟨h.1,fun p k s=>s _ _ (h.2 p k s) hv a⟩
theorem Reach.ind {motive:∀ u,Reach l t u→Prop} (here:∀ h:t∈l,motive t (Reach.here h))
  (step:∀ {u v} (h:Reach l t u) (hv:v∈l) (b:Adj u v),motive u h→motive v (Reach.step h hv b)) (h:Reach l t u):motive u h:=by
 obtain ⟨_,m⟩:=h.2 (fun x=>∃ k:Reach l t x,motive x k) ⟨Reach.here h.1,here h.1⟩ (fun _ _ ⟨_,m⟩ c a=>⟨_,step _ c a m⟩);exact m
theorem Reach.mem (h:Reach l t u):t∈l∧u∈l:=by
 induction h using Reach.ind with
 | here h=>exact ⟨h,h⟩
 | step _ hv _ ih=>exact ⟨ih.1,hv⟩
theorem Reach.trans {v:T3} (h:Reach l t u) (k:Reach l u v):Reach l t v:=by
 induction k using Reach.ind with
 | here _=>exact h
 | step _ hv ha ih=>exact ih.step hv ha
theorem Reach.symm (h:Reach l t u):Reach l u t:=by
 induction h using Reach.ind with
 | here h=>exact .here h
 | step h hv ha ih=>exact ((Reach.here hv).step h.mem.2 ha.symm).trans ih
theorem Jj (b:l.Nodup) {j:Nat} (hi:i<l.length) (a:j<l.length) (e:l[i]=l[j]):i=j:=by
 have hp:=List.pairwise_iff_getElem.1 b;rcases Nat.lt_trichotomy i j with h | h | h
 ·exact absurd e (hp i j hi a h)
 ·exact h
 ·exact absurd e.symm (hp j i a hi h)
def Joined (l:List T3):Prop := ∃ h:0<l.length,∀ i (hi:i<l.length),Reach l l[0] l[i]
theorem who_joined (m:l.Nodup) (h0:0<l.length) (a:Nat→Nat)
  (h1:∀ i (hi:i<l.length),a i≤i∧∃ hw:a i<l.length,Reach l l[i] l[a i])
  (h2:∀ i j (hi:i<l.length) (b:j<l.length),Adj l[i] l[j]→a i≤a j) :
  (∀ i,i<l.length→a i=0)↔Joined l:=by
 constructor
 ·intro h;refine ⟨h0,fun i hi=>?_⟩;obtain ⟨_,_,hr⟩:=h1 i hi;simp only [h i hi] at hr;exact hr.symm
 ·rintro ⟨_,h⟩ i hi
  have d:∀ t,Reach l l[0] t→∀ j (b:j<l.length),l[j]=t→a j=0:=by
   intro t g;generalize hz:l[0]=z at g;induction g using Reach.ind with
   | here hm =>
    intro j b e;have:j=0:=Jj m b h0 (e.trans hz.symm);have:=(h1 j b).1;omega
   | @step u v hr hv ha ih =>
    intro j b e;obtain ⟨k,c,f⟩:=List.getElem_of_mem hr.mem.2;have n:=ih k c f;have:=h2 j k b c (by rw [e,f];exact ha.symm);omega
  exact d _ (h i hi) i hi rfl
theorem reached_joined (h0:0<l.length) (R:Nat→Prop) (m:R 0)
  (h1:∀ i (hi:i<l.length),R i→Reach l l[0] l[i])
  (h2:∀ i j (hi:i<l.length) (b:j<l.length),R i→Adj l[i] l[j]→R j) (k:l.Nodup) :
  (∀ i,i<l.length→R i)↔Joined l:=by
 constructor
 ·exact fun h=>⟨h0,fun i hi=>h1 i hi (h i hi)⟩
 ·rintro ⟨_,h⟩ i hi
  have c:∀ t,Reach l l[0] t→∀ j (b:j<l.length),l[j]=t→R j:=by
   intro t f;generalize hz':l[0]=z at f;induction f using Reach.ind with
   | here hm =>
    intro j b e;have:j=0:=Jj k b h0 (e.trans hz'.symm);exact this ▸ m
   | @step u v hr hv ha ih =>
    intro j b e;obtain ⟨g,a,d⟩:=List.getElem_of_mem hr.mem.2;exact h2 g j a b (ih g a d) (by rw [e,d];exact ha)
  exact c _ (h i hi) i hi rfl
theorem tk_nodup (zs:List Int) (W x y:Nat):∀ n,(tk zs W x y n).Nodup
 | 0=>by simp [tk]
 | n+1=>by
  cases h:bitAt zs W x y n
  ·rw [tk_no h];exact tk_nodup zs W x y n
  ·rw [tk_yes h,List.nodup_append];refine ⟨tk_nodup zs W x y n,ξ, ?_⟩;intro a c b d;simp [tk] at c d;obtain ⟨k,⟨e,_⟩,rfl⟩:=c;subst d;simp;omega
theorem tx_nodup (zs:List Int) (W y:Nat):∀ n,(tx zs W y n).Nodup
 | 0=>by simp [tx]
 | n+1=>by
  rw [Qbj,List.nodup_append];refine ⟨tx_nodup zs W y n,tk_nodup _ _ _ _ _, ?_⟩;intro a c b d;simp only [tx,tk,List.mem_flatMap,List.mem_map,List.mem_filter,List.mem_range] at c d;obtain ⟨x,e,k,_,rfl⟩:=c;obtain ⟨f,_,rfl⟩:=d;simp;omega
theorem Yl (zs:List Int) (W:Nat):∀ n,(ty zs W n).Nodup
 | 0=>by simp [ty]
 | n+1=>by
  rw [Qbi,List.nodup_append];refine ⟨Yl zs W n,tx_nodup _ _ _ _, ?_⟩;intro a c b d;simp only [ty,tx,tk,List.mem_flatMap,List.mem_map,List.mem_filter,List.mem_range] at c d;obtain ⟨y,f,x,e,k,_,rfl⟩:=c;obtain ⟨h,_,g,_,rfl⟩:=d;simp;omega
theorem Vq (x y k:Int) (w:World) (h:triB x y k=true) (hs:Steps w) :
  Rt 188 #[.agg #[I x,I y,I k]] w (.agg #[I (ue0 x y k),I (ue1 x y k),I (ue2 x y k),I (ue3 x y k),I (ue4 x y k),I (ue5 x y k),I (ue6 x y k),I (ue7 x y k),I (ue8 x y k),I (ue9 x y k),I (ue10 x y k),I (ue11 x y k)]):=by
 have i:=Hd hs;clear hs;go_enter Tryz.func188,Tryz.ntmps188;go_wp2_with (go_at_call 254;refine (Edges_yes _ _ _ _ h (i.out.kept β2)).mono ?_;rintro e c ⟨rfl,b⟩;have r0:At c (w.heap.size+1) 0 (I 0):=Qa b ε;have j:=Fk (w.heap.size+1) 0 b;have r1:At c (w.heap.size+1) 1 (I 0):=Qa b ε;have l:=Fk (w.heap.size+1) 1 b;have r2:At c (w.heap.size+1) 2 (I 0):=Qa b ε;have m:=Fk (w.heap.size+1) 2 b;have r3:At c (w.heap.size+1) 3 (I 0):=Qa b ε;have n:=Fk (w.heap.size+1) 3 b;have E:At c (w.heap.size+1) 4 (I 0):=Qa b ε;have o:=Fk (w.heap.size+1) 4 b;have F:At c (w.heap.size+1) 5 (I 0):=Qa b ε;have p:=Fk (w.heap.size+1) 5 b;have G:At c (w.heap.size+1) 6 (I 0):=Qa b ε;have q:=Fk (w.heap.size+1) 6 b;have H:At c (w.heap.size+1) 7 (I 0):=Qa b ε;have r:=Fk (w.heap.size+1) 7 b;have J:At c (w.heap.size+1) 8 (I 0):=Qa b ε;have s:=Fk (w.heap.size+1) 8 b;have K:At c (w.heap.size+1) 9 (I 0):=Qa b ε;have t:=Fk (w.heap.size+1) 9 b;have u:At c (w.heap.size+1) 10 (I 0):=Qa b ε;have d:=Fk (w.heap.size+1) 10 b;have z:At c (w.heap.size+1) 11 (I 0):=Qa b ε;have f:=Fk (w.heap.size+1) 11 b;have A:w.heap.size+1<c.heap.size:=World.block_lt_of_cell? (w:=c) (a:=⟨w.heap.size+1,0,none⟩) r0;have B:w.heap.size+1<c.heap.size+1:=γ;have C:w.heap.size+1<c.heap.size+1+1:=γ;have D:w.heap.size+1<c.heap.size+1+1+1:=γ;have g:=Hd (Qc β2 b);clear b)
 refine bodyPost_ret (v:=.agg #[I (ue0 x y k),I (ue1 x y k),I (ue2 x y k),I (ue3 x y k),I (ue4 x y k),I (ue5 x y k),I (ue6 x y k),I (ue7 x y k),I (ue8 x y k),I (ue9 x y k),I (ue10 x y k),I (ue11 x y k)]) ?_ rfl ⟨rfl, ?_⟩
 ·first | (simp [results,Tryz.results188,go_sem, *];done) | (simp [results,Tryz.results188,go_sem,Ca, *];done)
 ·with_reducible repeat' (first | exact g.out | refine Qh ?_ ?_ | refine Qb ?_ | refine Qg ?_)
  all_goals (first | omega | (simp;done) | (simp;omega))
theorem lay_bad (W H:Int) (a:Option Addr) (b:Nat) (zs:List Int) (c:Value) (w:World) (hr:Row w a zs) (h:cellsB W H zs=false) :
  Rt 85 #[.agg #[I W,I H,.slice a zs.length b,c]] w (.tuple #[.agg #[SN,.map none,.map none],.bool false]):=by
 have j:=Hd hr;clear hr
 cases hW:sideB W
 ·go_enter Tryz.func85,Tryz.ntmps85;go_wp2_with (go_at_call 169;refine (Jm _ _).mono ?_;rintro e w' ⟨rfl,rfl⟩)
  refine bodyPost_ret (v:=.tuple #[.agg #[SN,.map none,.map none],.bool false]) ?_ rfl ⟨rfl, ?_⟩
  ·simp [results,Tryz.results85,go_sem]
  ·with_reducible repeat' (first | exact Qe _ | refine Qb ?_)
 cases hH:sideB H
 ·go_enter Tryz.func85,Tryz.ntmps85;go_wp2_with (go_at_call 169;refine (Jm _ _).mono ?_;rintro e w' ⟨rfl,rfl⟩)
  refine bodyPost_ret (v:=.tuple #[.agg #[SN,.map none,.map none],.bool false]) ?_ rfl ⟨rfl, ?_⟩
  ·simp [results,Tryz.results85,go_sem]
  ·with_reducible repeat' (first | exact Qe _ | refine Qb ?_)
 by_cases hl:(zs.length:Int)=W*H
 ·have i:maskB zs=false:=by
   have:=h;simp only [cellsB,hW,hH,decide_eq_true hl] at this;simpa using this
  have f:Hid (∀ d:World,Bl w d→Cl 170 #[.agg #[I W,I H,.slice a zs.length b,c]] d fun e w'=>e=.returned (.bool false)∧∃ o,w'=d.alloc o):=fun d g=>i ▸ Zc W H a b zs c d hW hH (j.out.kept g) hl;clear i hl h;go_enter Tryz.func85,Tryz.ntmps85;go_wp2_with (first | (go_at_call 169;refine (Jm _ _).mono ?_;rintro e w' ⟨rfl,rfl⟩) | (go_at_call 170;refine (f.out _ Ψ).mono ?_;rintro e w' ⟨rfl,o,rfl⟩))
  refine bodyPost_ret (v:=.tuple #[.agg #[SN,.map none,.map none],.bool false]) ?_ rfl ⟨rfl, ?_⟩
  ·simp [results,Tryz.results85,go_sem]
  ·with_reducible repeat' (first | exact Qe _ | refine Qb ?_)
 ·have f:=Hd (fun (d:World)=>mayMask_len W H a b zs c d hW hH hl);clear hl h;go_enter Tryz.func85,Tryz.ntmps85;go_wp2_with (first | (go_at_call 169;refine (Jm _ _).mono ?_;rintro e w' ⟨rfl,rfl⟩) | (go_at_call 170;refine (f.out _).mono ?_;rintro e w' ⟨rfl,o,rfl⟩))
  refine bodyPost_ret (v:=.tuple #[.agg #[SN,.map none,.map none],.bool false]) ?_ rfl ⟨rfl, ?_⟩
  ·simp [results,Tryz.results85,go_sem]
  ·with_reducible repeat' (first | exact Qe _ | refine Qb ?_)
theorem sheetMay_bad (W H:Int) (a:Option Addr) (b:Nat) (zs:List Int) (c:Value) (w:World) (hr:Row w a zs) (g:cellsB W H zs=false) :
  Rt 49 #[.agg #[I W,I H,.slice a zs.length b,c]] w (.bool false):=by
 have h:Hid (∀ d:World,Bl w d→Cl 119 #[.agg #[I W,I H,.slice a zs.length b,c]] d fun e w'=>e=.returned (.bool false)∧∃ o,w'=d.alloc o):=fun d f=>g ▸ Gg W H a b zs c d (hr.kept f);clear hr g;go_enter Tryz.func49,Tryz.ntmps49;go_wp2_with (go_at_call 119;refine (h.out _ Θ).mono ?_;rintro e i ⟨rfl,o,rfl⟩)
 go_ret;exact ⟨rfl,Qb β1⟩
attribute [local go_sem ↓] Go.wp_at_zero Go.wp_at_succ
def cmpT (a b c p q r:Int):Int:=or2 (cmp3 b q) (or2 (cmp3 a p) (cmp3 c r))
theorem or3_any (m n l:Int) (g c:Nat) (w:World) (h0:At w g 0 (I m)) (h1:At w g 1 (I n)) (h2:At w g 2 (I l)) :
  Cl 42 #[.slice (Az g) 3 c] w fun e w'=>e=.returned (I (or2 m (or2 n l)))∧w'=w:=by
 go_enter Tryz.func42,Tryz.ntmps42;go_wp2;go_loopg [8] 3 (fun k p q=>∃ i:Int,0≤i∧i≤3∧(k:Int)=3 - i∧p=I i∧(1≤i→m=0)∧(2≤i→n=0)∧(3≤i→l=0)∧q=w)
 case atStart=>exact ⟨0,γ,γ,γ,rfl,γ,γ,γ,rfl⟩
 case round =>
  obtain ⟨i,r,s,hg,rfl,d,j,o,rfl⟩:=hrel;have hi:i=0∨i=1∨i=2∨i=3:=γ;rcases hi with rfl | rfl | rfl | rfl
  ·by_cases e:m=0
   ·have a:=Hd e;go_wp2;go_roundg 2
    case measure=>omega
    case rel=>exact ⟨1,γ,γ,γ,σ,fun _=>a.out,γ,γ,rfl⟩
   ·have a:Hid (or2 m (or2 n l)=m):=by show or2 m (or2 n l)=m;simp [or2,e]
    have h:(m == 0)=false:=by simpa using e
    go_wp2;go_ret;exact ⟨Jp a.out.symm,rfl⟩
  ·have b:Hid (m=0):=d γ;by_cases e:n=0
   ·have a:=Hd e;go_wp2;go_roundg 1
    case measure=>omega
    case rel=>exact ⟨2,γ,γ,γ,σ,fun _=>b.out,fun _=>a.out,γ,rfl⟩
   ·have a:Hid (or2 m (or2 n l)=n):=by show or2 m (or2 n l)=n;simp [or2,b.out,e]
    have h:(n == 0)=false:=by simpa using e
    go_wp2;go_ret;exact ⟨Jp a.out.symm,rfl⟩
  ·have b:Hid (m=0):=d γ;have f:Hid (n=0):=j γ;by_cases e:l=0
   ·have a:=Hd e;go_wp2;go_roundg 0
    case measure=>omega
    case rel=>exact ⟨3,γ,γ,γ,σ,fun _=>b.out,fun _=>f.out,fun _=>a.out,rfl⟩
   ·have a:Hid (or2 m (or2 n l)=l):=by show or2 m (or2 n l)=l;simp [or2,b.out,f.out]
    have h:(l == 0)=false:=by simpa using e
    go_wp2;go_ret;exact ⟨Jp a.out.symm,rfl⟩
  ·have a:Hid (or2 m (or2 n l)=0):=by show or2 m (or2 n l)=0;simp [or2,d γ,j γ,o γ]
   go_wp2;go_ret;exact ⟨Jp a.out.symm,rfl⟩
theorem Yo (a b c p q r:Int) (w:World) :
  Rt 151 #[.agg #[I a,I b,I c],.agg #[I p,I q,I r]] w (I (cmpT a b c p q r)):=by
 go_enter Tryz.func151,Tryz.ntmps151;go_wp2
 go_region_held3 (fun w'=>At w' w.heap.size 0 (I a)∧At w' w.heap.size 1 (I b)∧At w' w.heap.size 2 (I c)∧At w' (w.heap.size+1) 0 (I p)∧At w' (w.heap.size+1) 1 (I q)∧At w' (w.heap.size+1) 2 (I r))
  ((refine ⟨?_, ?_, ?_, ?_, ?_, ?_⟩ <;> (repeat' (first | (with_reducible assumption) | (dsimp only;omega) | (simp [go_sem];done) | (with_reducible refine Qk ?_) | (with_reducible refine Qq ?_)))))
  (first | (go_at_call 44;refine (Yn _ _ _).mono ?_;rintro e d ⟨rfl,rfl⟩) | (go_at_call 42;refine (or3_any (cmp3 b q) (cmp3 a p) (cmp3 c r) _ _ _ ε ε ε).mono ?_;rintro e f ⟨rfl,rfl⟩))
 all_goals
  go_wp2;go_ret;refine ⟨rfl, ?_⟩;with_reducible repeat' (first | exact Qe _ | refine Qb ?_ | refine Qg ?_)
end Go.Proofs.YtnpboeodhpenmaaGreatDoor
