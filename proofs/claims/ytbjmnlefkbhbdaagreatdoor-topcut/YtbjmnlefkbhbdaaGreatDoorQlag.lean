/- A part of it. -/
import Derived.Test.YtbjmnlefkbhbdaaGreatDoorQlaf
import Derived.Shelf.SlSortCmp.Kit1
set_option maxRecDepth 100000
set_option maxHeartbeats 40000000
namespace Go.Proofs.YtbjmnlefkbhbdaaGreatDoor
open Go.RowKit
attribute [local go_sem ↓] Go.wp_at_zero Go.wp_at_succ
def cmp3 (a b:Int):Int:=if a<b then -1 else if b<a then 1 else 0
def or2 (m n:Int):Int:=if m=0 then n else m
def cmpP (a b c d:Int):Int:=or2 (cmp3 a c) (cmp3 b d)
def cmpE (a b c d p q r s:Int):Int:=or2 (cmpP a b p q) (cmpP c d r s)
theorem isNaN_any (n:Int) (w:World):Cl 155 #[I n] w fun e w'=>e=.returned (.bool false)∧w'=w:=by
 go_enter Tryz.func155,Tryz.ntmps155;go_wp2;go_ret;exact ⟨rfl,rfl⟩
theorem Xv (a b:Int) (w:World):Cl 113 #[I a,I b] w fun e w'=>e=.returned (I (cmp3 a b))∧w'=w:=by
 go_enter Tryz.func113,Tryz.ntmps113;go_wp2_with (go_at_call 155;refine (isNaN_any _ _).mono ?_;rintro e w' ⟨rfl,rfl⟩)
 all_goals
  go_ret;exact ⟨Ja (by unfold cmp3;split <;> (try split) <;> omega),rfl⟩
theorem Uc (m n:Int) (g c:Nat) (w:World) (h0:At w g 0 (I m)) (h1:At w g 1 (I n)) :
  Cl 112 #[.slice (Az g) 2 c] w fun e w'=>e=.returned (I (or2 m n))∧w'=w:=by
 go_enter Tryz.func112,Tryz.ntmps112;go_wp2;go_loopg [8] 2 (fun k l o=>∃ i:Int,0≤i∧i≤2∧(k:Int)=2 - i∧l=I i∧(1≤i→m=0)∧(2≤i→n=0)∧o=w)
 case atStart=>exact ⟨0,γ,γ,γ,rfl,γ,γ,rfl⟩
 case round =>
  obtain ⟨i,p,q,hg,rfl,f,j,rfl⟩:=hrel;have hi:i=0∨i=1∨i=2:=γ;rcases hi with rfl | rfl | rfl
  ·by_cases e:m=0
   ·have a:=Hd e;go_wp2;go_roundg 1
    case measure=>omega
    case rel=>exact ⟨1,γ,γ,γ,σ,fun _=>a.out,γ,rfl⟩
   ·have a:Hid (or2 m n=m):=by show or2 m n=m;simp [or2,e]
    have h:(m == 0)=false:=by simpa using e
    go_wp2;go_ret;exact ⟨Ja a.out.symm,rfl⟩
  ·have b:=f γ;have d:=Hd b;clear b;by_cases e:n=0
   ·have a:=Hd e;go_wp2;go_roundg 0
    case measure=>omega
    case rel=>exact ⟨2,γ,γ,γ,σ,fun _=>d.out,fun _=>a.out,rfl⟩
   ·have a:Hid (or2 m n=n):=by show or2 m n=n;simp [or2,d.out]
    have h:(n == 0)=false:=by simpa using e
    go_wp2;go_ret;exact ⟨Ja a.out.symm,rfl⟩
  ·have a:Hid (or2 m n=0):=by show or2 m n=0;simp [or2,f γ,j γ]
   go_wp2;go_ret;exact ⟨Ja a.out.symm,rfl⟩
theorem Yo (a b p q:Int) (w:World) :
  Rt 137 #[.agg #[I a,I b],.agg #[I p,I q]] w (I (cmpP a b p q)):=by
 go_enter Tryz.func137,Tryz.ntmps137;go_wp2
 go_region_held3 (fun w'=>At w' w.heap.size 0 (I a)∧At w' w.heap.size 1 (I b)∧At w' (w.heap.size+1) 0 (I p)∧At w' (w.heap.size+1) 1 (I q))
  ((refine ⟨?_, ?_, ?_, ?_⟩ <;> (repeat' (first | (with_reducible assumption) | (dsimp only;omega) | (simp [go_sem];done) | (with_reducible refine Ql ?_) | (with_reducible refine Qi ?_)))))
  (first | (go_at_call 113;refine (Xv _ _ _).mono ?_;rintro e c ⟨rfl,rfl⟩) | (go_at_call 112;refine (Uc (cmp3 a p) (cmp3 b q) _ _ _ ε ε).mono ?_;rintro e d ⟨rfl,rfl⟩))
 all_goals
  go_wp2;go_ret;refine ⟨rfl, ?_⟩;with_reducible repeat' (first | exact Qd _ | refine Qc ?_ | refine Qe ?_)
theorem Jj (a b c d p q r s:Int) (w:World) :
  Rt 93 #[.agg #[I a,I b,I c,I d],.agg #[I p,I q,I r,I s]] w (I (cmpE a b c d p q r s)):=by
 go_enter Tryz.func93,Tryz.ntmps93;go_wp2
 go_region_held3 (fun w'=>At w' w.heap.size 0 (I a)∧At w' w.heap.size 1 (I b)∧At w' w.heap.size 2 (I c)∧At w' w.heap.size 3 (I d)∧At w' (w.heap.size+1) 0 (I p)∧At w' (w.heap.size+1) 1 (I q)∧At w' (w.heap.size+1) 2 (I r)∧At w' (w.heap.size+1) 3 (I s))
  ((refine ⟨?_, ?_, ?_, ?_, ?_, ?_, ?_, ?_⟩ <;> (repeat' (first | (with_reducible assumption) | (dsimp only;omega) | (simp [go_sem];done) | (with_reducible refine Ql ?_) | (with_reducible refine Qi ?_)))))
  (first
   | (go_at_call 137;refine (Yo _ _ _ _ _).mono ?_;rintro e f ⟨rfl,hb⟩;have h:At f w.heap.size 0 (I a):=Qa hb κ;have i:At f w.heap.size 1 (I b):=Qa hb κ;have j:At f w.heap.size 2 (I c):=Qa hb κ;have k:At f w.heap.size 3 (I d):=Qa hb κ;have l:At f (w.heap.size+1) 0 (I p):=Qa hb κ;have m:At f (w.heap.size+1) 1 (I q):=Qa hb κ;have n:At f (w.heap.size+1) 2 (I r):=Qa hb κ;have o:At f (w.heap.size+1) 3 (I s):=Qa hb κ;have hq:Bl w f:=(by with_reducible (first | exact Qb g.out hb | exact Qb (Qe g.out) hb | exact Qb (Qe β2) hb | exact Qb β2 hb));have g:=Hd hq;clear hq;clear hb)
   | (go_at_call 112;refine (Uc (cmpP a b p q) (cmpP c d r s) _ _ _ ε ε).mono ?_;rintro e t ⟨rfl,rfl⟩))
 all_goals
  go_wp2;go_ret;refine ⟨rfl, ?_⟩;with_reducible repeat' (first | exact g.out | refine Qc ?_ | refine Qe ?_)
attribute [local go_sem ↓] Go.wp_at_zero Go.wp_at_succ
def cmpT (a b c p q r:Int):Int:=or2 (cmp3 b q) (or2 (cmp3 a p) (cmp3 c r))
theorem or3_any (m n l:Int) (g c:Nat) (w:World) (h0:At w g 0 (I m)) (h1:At w g 1 (I n)) (h2:At w g 2 (I l)) :
  Cl 112 #[.slice (Az g) 3 c] w fun e w'=>e=.returned (I (or2 m (or2 n l)))∧w'=w:=by
 go_enter Tryz.func112,Tryz.ntmps112;go_wp2;go_loopg [8] 3 (fun k o p=>∃ i:Int,0≤i∧i≤3∧(k:Int)=3 - i∧o=I i∧(1≤i→m=0)∧(2≤i→n=0)∧(3≤i→l=0)∧p=w)
 case atStart=>exact ⟨0,γ,γ,γ,rfl,γ,γ,γ,rfl⟩
 case round =>
  obtain ⟨i,q,r,hg,rfl,d,j,hl,rfl⟩:=hrel;have hi:i=0∨i=1∨i=2∨i=3:=γ;rcases hi with rfl | rfl | rfl | rfl
  ·by_cases e:m=0
   ·have a:=Hd e;go_wp2;go_roundg 2
    case measure=>omega
    case rel=>exact ⟨1,γ,γ,γ,σ,fun _=>a.out,γ,γ,rfl⟩
   ·have a:Hid (or2 m (or2 n l)=m):=by show or2 m (or2 n l)=m;simp [or2,e]
    have h:(m == 0)=false:=by simpa using e
    go_wp2;go_ret;exact ⟨Ja a.out.symm,rfl⟩
  ·have b:Hid (m=0):=d γ;by_cases e:n=0
   ·have a:=Hd e;go_wp2;go_roundg 1
    case measure=>omega
    case rel=>exact ⟨2,γ,γ,γ,σ,fun _=>b.out,fun _=>a.out,γ,rfl⟩
   ·have a:Hid (or2 m (or2 n l)=n):=by show or2 m (or2 n l)=n;simp [or2,b.out,e]
    have h:(n == 0)=false:=by simpa using e
    go_wp2;go_ret;exact ⟨Ja a.out.symm,rfl⟩
  ·have b:Hid (m=0):=d γ;have f:Hid (n=0):=j γ;by_cases e:l=0
   ·have a:=Hd e;go_wp2;go_roundg 0
    case measure=>omega
    case rel=>exact ⟨3,γ,γ,γ,σ,fun _=>b.out,fun _=>f.out,fun _=>a.out,rfl⟩
   ·have a:Hid (or2 m (or2 n l)=l):=by show or2 m (or2 n l)=l;simp [or2,b.out,f.out]
    have h:(l == 0)=false:=by simpa using e
    go_wp2;go_ret;exact ⟨Ja a.out.symm,rfl⟩
  ·have a:Hid (or2 m (or2 n l)=0):=by show or2 m (or2 n l)=0;simp [or2,d γ,j γ,hl γ]
   go_wp2;go_ret;exact ⟨Ja a.out.symm,rfl⟩
theorem Xx (a b c p q r:Int) (w:World) :
  Rt 84 #[.agg #[I a,I b,I c],.agg #[I p,I q,I r]] w (I (cmpT a b c p q r)):=by
 go_enter Tryz.func84,Tryz.ntmps84;go_wp2
 go_region_held3 (fun w'=>At w' w.heap.size 0 (I a)∧At w' w.heap.size 1 (I b)∧At w' w.heap.size 2 (I c)∧At w' (w.heap.size+1) 0 (I p)∧At w' (w.heap.size+1) 1 (I q)∧At w' (w.heap.size+1) 2 (I r))
  ((refine ⟨?_, ?_, ?_, ?_, ?_, ?_⟩ <;> (repeat' (first | (with_reducible assumption) | (dsimp only;omega) | (simp [go_sem];done) | (with_reducible refine Ql ?_) | (with_reducible refine Qi ?_)))))
  (first | (go_at_call 113;refine (Xv _ _ _).mono ?_;rintro e d ⟨rfl,rfl⟩) | (go_at_call 112;refine (or3_any (cmp3 b q) (cmp3 a p) (cmp3 c r) _ _ _ ε ε ε).mono ?_;rintro e f ⟨rfl,rfl⟩))
 all_goals
  go_wp2;go_ret;refine ⟨rfl, ?_⟩;with_reducible repeat' (first | exact Qd _ | refine Qc ?_ | refine Qe ?_)
attribute [local go_sem ↓] Go.wp_at_zero Go.wp_at_succ
def lessE (a b c d p q r s:Int):Bool:=lessB a b p q || (decide (a=p∧b=q) && lessB c d r s)
theorem Yd (a b c d p q r s:Int):cmpE a b c d p q r s<0↔lessE a b c d p q r s=true:=by
 unfold cmpE cmpP or2 cmp3 lessE lessB;simp only [Bool.or_eq_true,Bool.and_eq_true,decide_eq_true_eq];split <;> rename_i h1 <;> (repeat' split at h1) <;> (repeat' split) <;> omega
end Go.Proofs.YtbjmnlefkbhbdaaGreatDoor
namespace Go.Proofs.YtbjmnlefkbhbdaaGreatDoor
open Go.RowKit Go.ChangeMaps
variable {L:List T3} {k m n:Nat} {w:World}
theorem Xl {α:Type} {l:List α} (h:l.Nodup) {i j:Nat} (hi:i<l.length) (a:j<l.length) (e:l[i]=l[j]):i=j:=by
 have hp:=List.pairwise_iff_getElem.1 h;rcases Nat.lt_trichotomy i j with q | q | q
 ·exact absurd e (hp i j hi a q)
 ·exact q
 ·exact absurd e.symm (hp j i a hi q)
def allS (S:List (T3×List T3)):List T3:=S.flatMap fun s=>s.2
structure StOk (L:List T3) (P:Nat→Int×Int×Int) (S:List (T3×List T3)):Prop where
 ne:∀ s∈S,s.2≠[]
 up:∀ n (h:n+1<S.length),ltT S[n].1 S[n+1].1
 pl:∀ s∈S,∀ t∈s.2,∃ i,∃ h:i<L.length,L[i]=t∧P i=s.1
 nd:∀ s∈S,s.2.Nodup
 al:(allS S).length=L.length
theorem up_pair {S:List (T3×List T3)} (h:∀ n (h:n+1<S.length),ltT S[n].1 S[n+1].1):S.Pairwise fun a b=>ltT a.1 b.1:=by
 rw [List.pairwise_iff_getElem];intro i j hi e c;obtain ⟨d,rfl⟩:∃ d,j=i+1+d:=⟨j - (i+1),γ⟩;clear c;induction d with
 | zero=>exact h i e
 | succ d ih=>exact Za _ _ _ (ih γ) (h (i+1+d) e)
theorem Vu:∀ (F L:List T3),F.Nodup→(∀ x∈F,x∈L)→F.length≤L.length
 | [],_,_,_=>by simp
 | a :: F,L,hn,hs=>by
  rw [List.nodup_cons] at hn;have h1:=Vu F (L.erase a) hn.2 fun x c=>(List.mem_erase_of_ne (fun e:x=a=>hn.1 (e ▸ c))).2 (hs x (List.mem_cons_of_mem _ c));have b:=hs a ν;have h2:=List.length_erase_of_mem b;have h3:=List.length_pos_of_mem b;simp only [List.length_cons];omega
theorem StOk.nodup {P:Nat→Int×Int×Int} {S:List (T3×List T3)} (k:L.Nodup) (h:StOk L P S):(allS S).Nodup:=by
 unfold allS List.Nodup;rw [List.pairwise_flatMap];refine ⟨h.nd, ?_⟩;have hp:=up_pair h.up;rw [List.pairwise_iff_getElem] at hp ⊢;intro i j hi d c x m y n e;subst e;obtain ⟨a,l,e1,e2⟩:=h.pl _ (Lm hi) x m;obtain ⟨b,hb,f,g⟩:=h.pl _ (Lm d) x n;have:=Xl k l hb (e1.trans f.symm);subst this;have h3:=hp i j hi d c;rw [← e2,← g] at h3;exact Xo _ h3
theorem StOk.mem {P:Nat→Int×Int×Int} {S:List (T3×List T3)} (h:StOk L P S):∀ t∈allS S,t∈L:=fun t a=>by
 unfold allS at a;rw [List.mem_flatMap] at a;obtain ⟨s,hs,a⟩:=a;obtain ⟨i,hi,e,_⟩:=h.pl s hs t a;exact e ▸ Lm hi
theorem StOk.cov {P:Nat→Int×Int×Int} {S:List (T3×List T3)} (c:L.Nodup) (h:StOk L P S):∀ t∈L,t∈allS S:=fun t d=>by
 refine Classical.byContradiction fun a=>?_
 have:=Vu (t :: allS S) L (List.nodup_cons.2 ⟨a,h.nodup c⟩) fun x b=>by
  rcases List.mem_cons.1 b with e | b
  ·exact e ▸ d
  ·exact h.mem x b
 simp only [List.length_cons] at this;have:=h.al;omega
theorem Kp {S:List (T3×List T3)} (h:n<S.length):allS (S.take (n+1))=allS (S.take n) ++ S[n].2:=by
 unfold allS;rw [List.take_succ_eq_append_getElem h,List.flatMap_append];simp
theorem allS_cut {S:List (T3×List T3)} (h:n<S.length):∃ r,allS S=allS (S.take n) ++ S[n].2 ++ r:=by
 refine ⟨allS (S.drop (n+1)), ?_⟩;rw [← Kp h];unfold allS;rw [← List.flatMap_append,List.take_append_drop]
theorem twice_not {S:List (T3×List T3)} (h:n<S.length) (c:k<S[n].2.length) (b:S[n].2[k]∈allS (S.take n) ++ S[n].2.take k):¬ (allS S).Nodup:=fun a=>by
 obtain ⟨r,e⟩:=allS_cut h;rw [e] at a
 have e2:S[n].2=S[n].2.take k ++ [S[n].2[k]] ++ S[n].2.drop (k+1):=by
  rw [List.append_assoc,List.singleton_append,List.getElem_cons_drop,List.take_append_drop]
 rw [e2,← List.append_assoc,← List.append_assoc] at a;have h1:=(List.nodup_append.1 (List.nodup_append.1 (List.nodup_append.1 a).1).1);exact h1.2.2 _ b _ ν rfl
theorem cmpT_lt0 (a b c p q r:Int):cmpT a b c p q r<0↔ltT (a,b,c) (p,q,r):=by
 unfold cmpT or2 cmp3 ltT;dsimp only;constructor
 ·intro h;repeat' split at h
  all_goals first | omega | (exfalso;omega)
 ·intro h;repeat' split
  all_goals first | omega | (exfalso;omega)
theorem cmpT_eq0 (a b c p q r:Int):cmpT a b c p q r=0↔(a,b,c)=(p,q,r):=by
 unfold cmpT or2 cmp3;simp only [Prod.mk.injEq];constructor
 ·intro h;repeat' split at h
  all_goals first | omega | (exfalso;omega)
 ·rintro ⟨rfl,rfl,rfl⟩;simp
def NumTo (L:List T3) (t:T3) (w w':World) (e:Ending):Prop := ∃ (i:Nat) (b:Bool),e=.returned (.tuple #[I (i:Int),.bool b])∧i≤L.length∧(b=true↔t∈L)∧(b=true→∃ h:i<L.length,L[i]=t)∧Bl w w'
theorem search_any (w:World) (O:Option Addr) (R:Nat) (L:List T3) (x y k:Int) (P:TRow w O L) (F:L.Pairwise ltT) (hL:L.length≤300) :
  Cl 132 #[.slice O L.length R,.agg #[I x,I y,I k],.func (.func 84) #[] #[]] w fun e w'=>NumTo L (x,y,k) w w' e:=by
 have B:=H2 P F;clear P F;go_enter Tryz.func132,Tryz.ntmps132;go_wp2;go_loopg [9,10] L.length (fun T s9 N wx=>∃ i j:Nat,i≤j∧j≤L.length∧T=j - i∧s9=I (i:Int)∧N=I (j:Int)∧(∀ m (h:m<L.length),m<i→ltT L[m] (x,y,k))∧(∀ m (h:m<L.length),j≤m→¬ ltT L[m] (x,y,k))∧Below (w.alloc (.cells #[I x,I y,I k] 44)).heap.size (w.alloc (.cells #[I x,I y,I k] 44)) wx)
 case atStart=>exact ⟨0,L.length,γ,γ,γ,rfl,rfl,fun m _ h=>by omega,fun m h1 h2=>by omega,Qd _⟩
 case round =>
  obtain ⟨i,j,U,V,rfl,rfl,rfl,D,C,u⟩:=hrel;have A:=H2 D C;have s:=H2 (Qb β1 u) u;have b0:At wr w.heap.size 0 (I x):=Qa u ζ;have b1:At wr w.heap.size 1 (I y):=Qa u ζ;have b2:At wr w.heap.size 2 (I k):=Qa u ζ;have zb:=Bt b0;clear D C u;by_cases h1:i<j
  ·have Z:(i:Int)<(j:Int):=γ;obtain ⟨m,E⟩:∃ m,m=(i+j) / 2:=⟨_,rfl⟩;have f:m<L.length:=γ;have m1:(m:Int)<(L.length:Int):=γ;have m0:(0:Int)≤(m:Int):=γ;obtain ⟨g,rfl,t0,l,o⟩:=(B.out.1.kept s.out.1) m f;have zg:=Bt t0
   have z:Hid (((i:Int)+(j:Int)) / 2=(m:Int)):=by
    have:((i:Int)+(j:Int)) / 2=(m:Int):=γ;exact this
   have X:i≤m:=γ;have Y:m<j:=γ;clear E;obtain ⟨p,q,r,a⟩:∃ p q r,L[m]=(p,q,r):=⟨_,_,_,rfl⟩;rw [a] at t0 l o;dsimp only at t0 l o;obtain ⟨c,d⟩:∃ c,c=cmpT p q r x y k:=⟨_,rfl⟩;have J:Hid (∀ W:World,Rt 84 #[.agg #[I p,I q,I r],.agg #[I x,I y,I k]] W (I c)):=fun W=>d ▸ Xx p q r x y k W
   have t:Hid (c<0↔ltT L[m] (x,y,k)):=by
    have:c<0↔ltT L[m] (x,y,k):=by rw [d,a];exact cmpT_lt0 _ _ _ _ _ _
    exact this
   clear d a;go_upto_region 5 with fail
   rw [z.out];obtain ⟨G,H⟩:=kcn wr;refine wk ?_;repeat (go_big_quiet_step ((go_at_call 84;exact Qm (J.out _))))
   refine kq1 (fun Q hq=>?_);clear G H t0 l o b0 b1 b2;by_cases hc0:c<0
   ·go_wp2;go_roundg (j - (m+1))
    case measure=>omega
    case rel =>
     refine ⟨m+1,j,γ,γ,rfl,σ,rfl,fun n b M=>?_,A.out.2,Qb s.out.2 hq⟩;have h2:=t.out.1 hc0;by_cases e:n=m
     ·subst e;exact h2
     ·have:=(List.pairwise_iff_getElem.1 B.out.2) n m b f γ;exact Za _ _ _ this h2
   ·go_wp2;go_roundg (m - i)
    case measure=>omega
    case rel =>
     refine ⟨i,m,γ,γ,rfl,rfl,rfl,A.out.1,fun n b M h3=>?_,Qb s.out.2 hq⟩;by_cases e:n=m
     ·subst e;exact absurd (t.out.2 h3) γ
     ·have:=(List.pairwise_iff_getElem.1 B.out.2) m n f b γ;exact absurd (t.out.2 (Za _ _ _ this h3)) γ
  ·have Z:¬ (i:Int)<(j:Int):=γ;have K:i=j:=γ;subst K;by_cases h2:i<L.length
   ·have i2:(i:Int)<(L.length:Int):=γ;have i0:(0:Int)≤(i:Int):=γ;obtain ⟨g,rfl,t0,l,o⟩:=(B.out.1.kept s.out.1) i h2;have zg:=Bt t0;obtain ⟨p,q,r,a⟩:∃ p q r,L[i]=(p,q,r):=⟨_,_,_,rfl⟩;rw [a] at t0 l o;dsimp only at t0 l o;obtain ⟨c,d⟩:∃ c,c=cmpT p q r x y k:=⟨_,rfl⟩;have J:Hid (∀ W:World,Rt 84 #[.agg #[I p,I q,I r],.agg #[I x,I y,I k]] W (I c)):=fun W=>d ▸ Xx p q r x y k W
    have t:Hid (c=0↔L[i]=(x,y,k)):=by
     have:c=0↔L[i]=(x,y,k):=by rw [d,a];exact cmpT_eq0 _ _ _ _ _ _
     exact this
    clear d a;go_upto_region 8 with fail
    obtain ⟨G,H⟩:=kcn wr;refine wk ?_;repeat (go_big_quiet_step ((go_at_call 84;exact Qm (J.out _))))
    refine kq1 (fun Q hq=>?_);clear G H t0 l o b0 b1 b2;go_wp2;refine bodyPost_ret (v:=.tuple #[I (i:Int),.bool (c == 0)]) (by simp [results,Tryz.results132,go_sem]) rfl ⟨i,c == 0,rfl,γ, ?_,fun h=>?_,Qb s.out.1 hq⟩
    ·rw [beq_iff_eq,t.out];constructor
     ·intro e;rw [← e];exact Lm h2
     ·intro E;obtain ⟨n,b,e⟩:=List.getElem_of_mem E;by_cases e1:n=i
      ·subst e1;exact e
      ·by_cases e2:n<i
       ·have:=A.out.1 n b e2;rw [e] at this;exact absurd this (Xo _)
       ·have h3:=(List.pairwise_iff_getElem.1 B.out.2) i n h2 b γ;rw [e] at h3;exact absurd h3 (A.out.2 i h2 (Nr _))
    ·exact ⟨h2,t.out.1 (by simpa using h)⟩
   ·have i2:¬ (i:Int)<(L.length:Int):=γ;go_upto_region 8 with fail
    obtain ⟨G,H⟩:=kcn wr;refine wk ?_;repeat (go_big_quiet_step (fail))
    refine kq1 (fun Q hq=>?_);clear G H b0 b1 b2;go_wp2;refine bodyPost_ret (v:=.tuple #[I (i:Int),.bool false]) (by simp [results,Tryz.results132,go_sem]) rfl ⟨i,false,rfl,γ, ?_,(fun h=>by cases h),Qb s.out.1 hq⟩;simp only [Bool.false_eq_true,false_iff];intro E;obtain ⟨n,b,e⟩:=List.getElem_of_mem E;have:=A.out.1 n b γ;rw [e] at this;exact Xo _ this
theorem number_any (w:World) (d:Option Addr) (f:Nat) (j l:Value) (L:List T3) (x y k:Int) (g:TRow w d L) (a:L.Pairwise ltT) (h:L.length≤300) :
  Cl 85 #[.agg #[.slice d L.length f,j,l],.agg #[I x,I y,I k]] w fun e w'=>NumTo L (x,y,k) w w' e:=by
 have CS:=Hd (fun (W:World) hW=>search_any W d f L x y k (g.kept hW) a h);clear g a;go_enter Tryz.func85,Tryz.ntmps85;go_wp2_with (go_at_call 132;refine (CS.out _ β2).mono ?_;rintro e m ⟨i,b,rfl,h1,h2,h3,hb⟩;have c:=H3 h2 h3 (Qb β2 hb);clear h2 h3 hb)
 exact bodyPost_ret (v:=.tuple #[I (i:Int),.bool b]) (by simp [results,Tryz.results85,go_sem]) rfl ⟨i,b,rfl,h1,c.out.1,c.out.2.1,c.out.2.2⟩
structure Pre (L:List T3) (P:Nat→Int×Int×Int) (S:List (T3×List T3)) (m:Nat):Prop where
 ne:∀ n (h:n<S.length),n<m→S[n].2≠[]
 up:∀ n (h:n+1<S.length),n+1<m→ltT S[n].1 S[n+1].1
 pl:∀ n (h:n<S.length),n<m→∀ t∈S[n].2,∃ i,∃ h:i<L.length,L[i]=t∧P i=S[n].1
 nd:(allS (S.take m)).Nodup
structure Pri (L:List T3) (P:Nat→Int×Int×Int) (S:List (T3×List T3)) (m k:Nat) (hm:m<S.length):Prop where
 pre:Pre L P S m
 ne:S[m].2≠[]
 up:∀ q (h:q+1=m),ltT (S[q]'γ).1 S[m].1
 pl:∀ j (h:j<S[m].2.length),j<k→∃ i,∃ h':i<L.length,L[i]=S[m].2[j]∧P i=S[m].1
 nd:(allS (S.take m) ++ S[m].2.take k).Nodup
theorem pre_zero (L:List T3) (P:Nat→Int×Int×Int) (S:List (T3×List T3)):Pre L P S 0 :=
 ⟨fun n _ h=>by omega,fun n _ h=>by omega,fun n _ h=>by omega,by simp [allS]⟩
theorem Pre.start {P:Nat→Int×Int×Int} {S:List (T3×List T3)} (h:Pre L P S m) (c:m<S.length) (a:S[m].2≠[]) (b:∀ q (h:q+1=m),ltT (S[q]'γ).1 S[m].1):Pri L P S m 0 c :=
 ⟨h,a,b,fun j _ h=>by omega,by simpa using h.nd⟩
theorem Pri.step {P:Nat→Int×Int×Int} {S:List (T3×List T3)} {c:m<S.length} (h:Pri L P S m k c) (l:k<S[m].2.length) (hl:∃ i,∃ h':i<L.length,L[i]=S[m].2[k]∧P i=S[m].1) (n:S[m].2[k] ∉ allS (S.take m) ++ S[m].2.take k):Pri L P S m (k+1) c:=by
 refine ⟨h.pre,h.ne,h.up,fun j f g=>?_, ?_⟩
 ·by_cases e:j=k
  ·subst e;exact hl
  ·exact h.pl j f γ
 ·rw [List.take_succ_eq_append_getElem l,← List.append_assoc];rw [List.nodup_append];refine ⟨h.nd,ν,fun a d b hb e=>?_⟩;simp at hb;subst hb;exact n (e ▸ d)
theorem Pri.fin {P:Nat→Int×Int×Int} {S:List (T3×List T3)} {c:m<S.length} (h:Pri L P S m k c) (g:k=S[m].2.length):Pre L P S (m+1):=by
 refine ⟨fun n a b=>?_,fun n a b=>?_,fun n a b t d=>?_, ?_⟩
 ·by_cases e:n=m
  ·subst e;exact h.ne
  ·exact h.pre.ne n a γ
 ·by_cases e:n+1=m
  ·subst e;exact h.up n rfl
  ·exact h.pre.up n a γ
 ·by_cases e:n=m
  ·subst e;obtain ⟨j,f,e⟩:=List.getElem_of_mem d;rw [← e];exact h.pl j f γ
  ·exact h.pre.pl n a γ t d
 ·have:=h.nd;rw [g,List.take_length] at this;rw [Kp c];exact this
theorem Pre.ok {P:Nat→Int×Int×Int} {S:List (T3×List T3)} (h:Pre L P S m) (c:m=S.length) (b:(allS S).length=L.length):StOk L P S:=by
 subst c;refine ⟨fun s hs=>?_,fun n a=>h.up n a a,fun s hs=>?_,fun s hs=>?_,b⟩
 ·obtain ⟨n,a,e⟩:=List.getElem_of_mem hs;rw [← e];exact h.ne n a a
 ·obtain ⟨n,a,e⟩:=List.getElem_of_mem hs;rw [← e];exact h.pl n a a
 ·have:=h.nd;rw [List.take_length] at this;unfold allS List.Nodup at this;rw [List.pairwise_flatMap] at this;exact this.1 s hs
theorem Pre.all {P:Nat→Int×Int×Int} {S:List (T3×List T3)} (d:L.Nodup) (h:Pre L P S m) (c:m=S.length) (f:∀ t∈L,t∈allS S):StOk L P S:=by
 refine h.ok c ?_;subst c;have a:=h.nd;rw [List.take_length] at a
 have h1:=Vu (allS S) L a fun t b=>by
  unfold allS at b;rw [List.mem_flatMap] at b;obtain ⟨s,hs,b⟩:=b;obtain ⟨n,a,e⟩:=List.getElem_of_mem hs;obtain ⟨i,hi,e2,_⟩:=h.pl n a a t (e ▸ b);exact e2 ▸ Lm hi
 have h2:=Vu L (allS S) d f;omega
theorem not_ne {P:Nat→Int×Int×Int} {S:List (T3×List T3)} (a:m<S.length) (h:S[m].2.length=0):¬ StOk L P S:=fun k=>k.ne _ (Lm a) (List.eq_nil_of_length_eq_zero h)
theorem not_nd {P:Nat→Int×Int×Int} {S:List (T3×List T3)} {j:Nat} (a:L.Nodup) (c:m<S.length) (b:j<S[m].2.length) (h:S[m].2[j]∈allS (S.take m) ++ S[m].2.take j):¬ StOk L P S:=fun k=>twice_not c b h (k.nodup a)
theorem up_nodup (h:L.Pairwise ltT):L.Nodup:=by
 unfold List.Nodup;refine h.imp ?_;intro a b c e;rw [e] at c;exact Xo b c
attribute [local go_sem ↓] Go.wp_at_zero Go.wp_at_succ
theorem Jt {p a:Addr} {u v:Value} (h:w.cell? a=some v) (b:a.block≠p.block):(w.setCell p u).cell? a=some v:=Xc h b
def ck (ks:List Int) (i j:Nat):Int:=ks.getD (i*5+j) 0
def CrOk (l:List T3) (ks:List Int) (i:Nat):Prop :=
 (0<i→lessE (ck ks (i - 1) 0) (ck ks (i - 1) 1) (ck ks (i - 1) 2) (ck ks (i - 1) 3) (ck ks i 0) (ck ks i 1) (ck ks i 2) (ck ks i 3)=true)∧(ck ks i 4=1∨ck ks i 4=2)∧cnt l (ck ks i 0) (ck ks i 1) (ck ks i 2) (ck ks i 3)=2
def CRow (w:World) (cb:Option Addr) (ks:List Int) (n:Nat):Prop :=
 ∀ i,i<n→∃ bb bo,cb=Ad bb bo∧At w bb (bo+i*5) (I (ck ks i 0))∧At w bb (bo+i*5+1) (I (ck ks i 1))∧At w bb (bo+i*5+2) (I (ck ks i 2))∧At w bb (bo+i*5+3) (I (ck ks i 3))∧At w bb (bo+i*5+4) (I (ck ks i 4))
theorem Vx {f:Option Addr} {b:List Int} (h:Row w f b) (m:b.length=n*5):CRow w f b n:=fun i hi=>by
 have h0:i*5+4<b.length:=γ;obtain ⟨c,d,rfl,c0⟩:=h (i*5) γ;refine ⟨c,d,rfl, ?_⟩
 have a:∀ j,j<5→w.cell? ⟨c,d+i*5+j,none⟩=some (I (ck b i j)):=fun j l=>by
  obtain ⟨k,o,e,g⟩:=h (i*5+j) γ;simp only [Option.some.injEq,Addr.mk.injEq,and_true] at e;obtain ⟨rfl,rfl⟩:=e;(try simp only [I]);rw [Nat.add_assoc,g]
  simp [ck,show i*5+j<b.length by omega]
 exact ⟨a 0 γ,a 1 γ,a 2 γ,a 3 γ,a 4 γ⟩
theorem CRow.kept {c:World} {a:Option Addr} {b:List Int} (h:CRow w a b n) (hb:Bl w c):CRow c a b n:=fun i hi=>by
 obtain ⟨d,f,e,h0,h1,h2,h3,h4⟩:=h i hi;exact ⟨d,f,e,Qa hb h0,Qa hb h1,Qa hb h2,Qa hb h3,Qa hb h4⟩
theorem onSide_any (t a k m B mv:Value) (pa:Option Addr) (q pc:Nat) (n c sd G D E C:Int) (H:Bool) (i:Nat) (L:List T3) (s e0:Int) (w:World) (p:TRow w pa L) (F:L.length=q) (hi:i<L.length)
  (h:∀ V:World,Bl w V→Rt 9 #[.agg #[I n,I c],.agg #[I L[i].1,I L[i].2.1,I L[i].2.2]] V (.tuple #[I s,I e0])) :
  Rt 115 #[.agg #[t,a,k,m,.slice pa q pc,B,I n,I c,I sd,.bool H,I G,I D,I E,I C,mv],I (i:Int)] w (.bool (decide (s=sd))):=by
 have f:=Hd h;obtain ⟨g,hg,c0,c1,c2⟩:=p i hi;subst hg;subst F;have O:(0:Int)≤(i:Int):=γ;have P:(i:Int)<(L.length:Int):=γ;generalize L[i]=u at c0 c1 c2 f;clear h p;go_enter Tryz.func115,Tryz.ntmps115;go_wp2;refine Qj (fun V d=>?_);have j:Bl w V:=by rw [d];exact Qc (Qd _)
 have r:At V w.heap.size 4 (.slice (Az g) L.length pc):=by rw [d];simp [go_sem]
 have v:At V w.heap.size 6 (I n):=by rw [d];simp [go_sem]
 have x:At V w.heap.size 7 (I c):=by rw [d];simp [go_sem]
 have J:At V w.heap.size 8 (I sd):=by rw [d];simp [go_sem]
 have t0:=Qa j c0;have y:=Qa j c1;have z:=Qa j c2;have o:=Hd j;clear d j c0 c1 c2
 go_region_held3 (fun w'=>At w' w.heap.size 4 (.slice (Az g) L.length pc)∧At w' w.heap.size 6 (I n)∧At w' w.heap.size 7 (I c)∧At w' g (i*3) (I u.1)∧At w' g (i*3+1) (I u.2.1)∧At w' g (i*3+2) (I u.2.2))
  (first | exact ⟨Qi r,Qi v,Qi x,Qi t0,Qi y,Qi z⟩ | exact ⟨K,M,N,z0,z1,z2⟩)
  (first
   | (go_at_call 9;(with_reducible refine (f.out _ (Qb o.out (Qe (Qd _)))).mono ?_);rintro e Q ⟨rfl,l⟩;have b:=Qb (Qe (Qd V)) l;have K:=Qa b r;have M:=Qa b v;have N:=Qa b x;have R:=Qa b J;have z0:=Qa b t0;have z1:=Qa b y;have z2:=Qa b z;have A:=Hd (Qb o.out b);clear l b)
   | fail)
 go_wp2;go_ret;exact ⟨by first | rfl | (congr 2;rw [Bool.eq_iff_iff];simp),A.out⟩
theorem kindS_any (t a k m z mv:Value) (pa:Option Addr) (j pc:Nat) (F c sd E B C A:Int) (i:Bool) (e0 e1 e2 D tz:Int) (l:Bool) (w:World)
  (f:∀ V:World,Bl w V→Rt 159 #[.agg #[t,a,k,m,.slice pa j pc],I tz] V (.bool l)) :
  Rt 126 #[.agg #[t,a,k,m,.slice pa j pc,z,I F,I c,I sd,.bool i,I E,I B,I C,I A,mv],.agg #[I e0,I e1,I e2,I D,I tz]] w (I (if i=l then 1 else 2)):=by
 have g:=Hd f;clear f;go_enter Tryz.func126,Tryz.ntmps126;go_wp2;refine Qj (fun V d=>?_);have o:Bl w V:=by rw [d];exact Qc β1
 have p:At V w.heap.size 0 t:=by rw [d];simp [go_sem]
 have q:At V w.heap.size 1 a:=by rw [d];simp [go_sem]
 have r:At V w.heap.size 2 k:=by rw [d];simp [go_sem]
 have s:At V w.heap.size 3 m:=by rw [d];simp [go_sem]
 have u:At V w.heap.size 4 (.slice pa j pc):=by rw [d];simp [go_sem]
 have v:At V w.heap.size 9 (.bool i):=by rw [d];simp [go_sem]
 have x:At V (w.heap.size+1) 4 (I tz):=by rw [d];simp [go_sem]
 have n:=Hd o;clear d o
 go_region_held3 (fun w'=>At w' w.heap.size 0 t∧At w' w.heap.size 1 a∧At w' w.heap.size 2 k∧At w' w.heap.size 3 m∧At w' w.heap.size 4 (.slice pa j pc)∧At w' w.heap.size 9 (.bool i)∧At w' (w.heap.size+1) 4 (I tz))
  (first | exact ⟨Qi p,Qi q,Qi r,Qi s,Qi u,Qi v,Qi x⟩ | exact ⟨H,y1,y2,y3,J,K,G⟩)
  (first
   | (go_at_call 159;(with_reducible refine (g.out _ (Qb n.out (Qe (Qd _)))).mono ?_);rintro e L ⟨rfl,h⟩;have b:=Qb (Qe (Qd V)) h;have H:=Qa b p;have y1:=Qa b q;have y2:=Qa b r;have y3:=Qa b s;have J:=Qa b u;have K:=Qa b v;have G:=Qa b x;have y:=Hd (Qb n.out b);clear h b)
   | fail)
 cases i <;> cases l
 all_goals
  go_wp2;go_ret;exact ⟨rfl,y.out⟩
def nuV (l:List Nat):List Value:=l.map fun (n:Nat)=>I (n:Int)
def whL (f:Nat→Bool) (n:Nat):List Nat:=(List.range n).filter f
theorem whL_yes {f:Nat→Bool} (h:f n=true):whL f (n+1)=whL f n ++ [n]:=by
 unfold whL;rw [List.range_succ,List.filter_append];simp [h]
theorem whL_no {f:Nat→Bool} (h:f n=false):whL f (n+1)=whL f n:=by
 unfold whL;rw [List.range_succ,List.filter_append];simp [h]
theorem whL_le (f:Nat→Bool) (n:Nat):(whL f n).length≤n:=by
 unfold whL;have:=List.length_filter_le f (List.range n);simpa using this
theorem infI:(Tryz.prog.info? 3).map (fun i=>(i.zero,i.size,i.bytes))=some (some (I 0),1,8):=μ
theorem one_int (w:World) (v:Value) (T:TypeId):∀ j u,([v])[j]?=some u→(w.alloc (.cells #[v] T)).cell? ((⟨w.heap.size,0,none⟩:Addr).add j)=some u:=by
 intro j u a;match j,a with
 | 0,a=>simp at a;subst a;simp [Addr.add,go_sem]
theorem where_any (a k m l mv:Value) (z pa:Option Addr) (N A u pc:Nat) (B c sd t p s o:Int) (y:Bool) (f:Nat→Bool) (w:World) (hN:N≤300)
  (F:∀ (V:World) (i:Nat),Bl w V→i<N→Rt 115 #[.agg #[.slice z N A,a,k,m,.slice pa u pc,l,I B,I c,I sd,.bool y,I t,I p,I s,I o,mv],I (i:Int)] V (.bool (f i))) :
  Cl 114 #[.agg #[.slice z N A,a,k,m,.slice pa u pc,l,I B,I c,I sd,.bool y,I t,I p,I s,I o,mv],.func (.func 115) #[.agg #[.slice z N A,a,k,m,.slice pa u pc,l,I B,I c,I sd,.bool y,I t,I p,I s,I o,mv]] #[]] w fun e w'=>∃ v,e=.returned v∧w'.ownsRow w.heap.size 3 1 v (whL f N).length (nuV (whL f N))∧Bl w w':=by
 obtain ⟨i3,hi,J,K,L⟩:=info_parts infI;have M:=H4 hi J K L;have C:=Hd F;clear hi J K L F;have j:Hid (((w.alloc (.cells #[.slice z N A,a,k,m,.slice pa u pc,l,I B,I c,I sd,.bool y,I t,I p,I s,I o,mv] 105)).ownsRow w.heap.size 3 1 SN (whL f 0).length (nuV (whL f 0)))∧Bl w (w.alloc (.cells #[.slice z N A,a,k,m,.slice pa u pc,l,I B,I c,I sd,.bool y,I t,I p,I s,I o,mv] 105))):=⟨by simpa [whL,nuV] using World.ownsRow_nil _ _ _ _,Qc (Qd _)⟩;go_enter Tryz.func114,Tryz.ntmps114;go_wp2;go_loopg [5,6,12] N (fun gk s5 s6 R wx=>∃ i:Nat,i≤N∧gk=N - i∧R=I (i:Int)∧wx.ownsRow w.heap.size 3 1 s5 (whL f i).length (nuV (whL f i))∧Bl w wx)
 case atStart=>exact ⟨0,γ,rfl,rfl,j.out.1,j.out.2⟩
 case round =>
  clear j;obtain ⟨i,hi,rfl,rfl,W,U⟩:=hrel;obtain ⟨Y,Q⟩:∃ x,x=u5:=⟨_,rfl⟩;subst Q;have d:=H2 W U;clear W U;have P:=whL_le f i;by_cases h1:i<N
  ·have i1:(i:Int)<(N:Int):=γ;have i0:(0:Int)≤(i:Int):=γ
   cases hf:f i with
   | false =>
    have CA:Hid (∀ V:World,Bl w V→Rt 115 #[.agg #[.slice z N A,a,k,m,.slice pa u pc,l,I B,I c,I sd,.bool y,I t,I p,I s,I o,mv],I (i:Int)] V (.bool false)):=fun V O=>by
     have h:=C.out V i O h1;rw [hf] at h;exact h
    have D:=whL_no hf
    go_wp2_with (first
     | (go_at_call 115;(with_reducible refine (CA.out _ d.out.2).mono ?_);rintro e T ⟨rfl,b⟩;have g:=Hd b;clear b)
     | fail)
    go_roundg (N - (i+1))
    case measure=>omega
    case rel=>exact ⟨i+1,γ,rfl,σ,by rw [D];exact Qh d.out.1 g.out,Qb d.out.2 g.out⟩
   | true =>
    have CA:Hid (∀ V:World,Bl w V→Rt 115 #[.agg #[.slice z N A,a,k,m,.slice pa u pc,l,I B,I c,I sd,.bool y,I t,I p,I s,I o,mv],I (i:Int)] V (.bool true)):=fun V O=>by
     have h:=C.out V i O h1;rw [hf] at h;exact h
    have D:Hid (nuV (whL f (i+1))=nuV (whL f i) ++ [I (i:Int)]∧(whL f (i+1)).length=(whL f i).length+1):=by
     rw [whL_yes hf];exact ⟨by simp [nuV],ν⟩
    obtain ⟨n0,H⟩:∃ n,n=(whL f i).length:=⟨_,rfl⟩;rw [← H] at d D P;clear hf H
    go_wp2_with (first
     | (go_at_call 115;(with_reducible refine (CA.out _ d.out.2).mono ?_);rintro e T ⟨rfl,b⟩;have g:=H2 (Qh d.out.1 b) (Qb d.out.2 b);clear b)
     | (at_builtin;refine wpList_append_own _ rfl (.tmp 18) (.tmp 20) 23 rfl w.heap.size 3 i3 (I 0) 1 8 Tryz.underlying23 M.out.1 M.out.2.1 M.out.2.2.1 M.out.2.2.2 rfl τ Y n0 (nuV (whL f i)) rfl (Qh g.out.1 β1) ⟨T.heap.size,0,none⟩ 1 1 [I (i:Int)] rfl rfl (one_int _ _ _) (by intro q hq;simp at hq;subst hq;rfl) Γ γ (by have:=g.out.2.size;simp;omega) ?gA)
     | fail)
    case gA =>
     intro v' Z X hg _
     have E:Hid (Z.ownsRow w.heap.size 3 1 v' (whL f (i+1)).length (nuV (whL f (i+1)))∧Bl w Z):=by
      refine ⟨?_, ?_⟩
      ·rw [D.out.1,D.out.2];exact X
      ·have G:Bl w (T.alloc (.cells #[I (i:Int)] 3)):=Qc g.out.2;exact G.grown hg G.size (fun r e=>(g.out.1.lt r e).1)
     clear X hg;go_wp2;go_roundg (N - (i+1))
     case measure=>omega
     case rel=>exact ⟨i+1,γ,rfl,σ,E.out.1,E.out.2⟩
  ·have i1:¬ (i:Int)<(N:Int):=γ;obtain rfl:i=N:=γ;go_wp2;go_ret;exact ⟨Y,rfl,d.out.1,d.out.2⟩
end Go.Proofs.YtbjmnlefkbhbdaaGreatDoor
namespace Go.Proofs.YtbjmnlefkbhbdaaGreatDoor
open Go.RowKit Go.Shelf Go.Lib
open Go.Sort hiding Below
variable {v w:World}
attribute [local go_sem ↓] Go.wp_at_zero Go.wp_at_succ
def GD (w w':World):Prop := ∃ q os,w'=grow (w.drewN q) os
theorem Xz (w:World):GD w w:=⟨0,#[],by rw [grow_empty];rfl⟩
theorem Jl {o:Obj} (h:GD w v):GD w (v.alloc o):=by
 obtain ⟨q,os,rfl⟩:=h;exact ⟨q,os ++ #[o],by rw [alloc_eq_grow,grow_grow]⟩
theorem Xp (h:GD w v):GD w v.drew:=by
 obtain ⟨q,os,rfl⟩:=h;exact ⟨q+1,os,rfl⟩
theorem Ys {u:World} (h:GD w v) (k:GD v u):GD w u:=by
 obtain ⟨q,os,rfl⟩:=h;obtain ⟨b,a,rfl⟩:=k;refine ⟨q+b,os ++ a, ?_⟩;rw [← grow_grow]
 have e:(grow (w.drewN q) os).drewN b=grow (w.drewN (q+b)) os:=by
  simp [grow,World.drewN,Nat.add_assoc]
 rw [e]
theorem gd_below (h:GD w v):Bl w v:=by
 obtain ⟨q,os,rfl⟩:=h;exact ⟨rfl,rfl,rfl,by simp [grow,World.drewN],fun k a=>heap_grow_old (w.drewN q) os a⟩
theorem compareTris_gd (a b c p q r:Int) (w:World) :
  Cl 84 #[.agg #[I a,I b,I c],.agg #[I p,I q,I r]] w fun e w'=>e=.returned (I (cmpT a b c p q r))∧GD w w':=by
 go_enter Tryz.func84,Tryz.ntmps84;go_wp2
 go_region_held3 (fun w'=>At w' w.heap.size 0 (I a)∧At w' w.heap.size 1 (I b)∧At w' w.heap.size 2 (I c)∧At w' (w.heap.size+1) 0 (I p)∧At w' (w.heap.size+1) 1 (I q)∧At w' (w.heap.size+1) 2 (I r))
  ((refine ⟨?_, ?_, ?_, ?_, ?_, ?_⟩ <;> (repeat' (first | (with_reducible assumption) | (dsimp only;omega) | (simp [go_sem];done) | (with_reducible refine Ql ?_) | (with_reducible refine Qi ?_)))))
  (first | (go_at_call 113;refine (Xv _ _ _).mono ?_;rintro e d ⟨rfl,rfl⟩) | (go_at_call 112;refine (or3_any (cmp3 b q) (cmp3 a p) (cmp3 c r) _ _ _ ε ε ε).mono ?_;rintro e f ⟨rfl,rfl⟩))
 all_goals
  go_wp2;go_ret;refine ⟨rfl, ?_⟩;with_reducible repeat' (first | exact Xz _ | refine Jl ?_ | refine Xp ?_)
structure Kig (W:World) where
 w:World
 h:GD W w
theorem Kig.cells (W:World):∀ (n:Kig W) (b o:Nat),b<W.heap.size→n.w.cell? ⟨b,o,none⟩=W.cell? ⟨b,o,none⟩:=fun n b o hb=>(gd_below n.h).cell (p:=⟨b,o,none⟩) hb
theorem wp_region_kig {P:Program} {e:Nat} {Q:Exit→Act→World→Prop} {a:Act} {W:World} {l:List Oper} (d:P.follows .mixedOrders=true) (c:Region.lexB .any l.toArray=true)
  (h:wpQuiet P l.toArray (fun w'=>∃ n:Kig W,w'=n.w) (fun b=>∀ w',(∃ n:Kig W,w'=n.w)→Q .normal b w') l a):(Code.region e l.toArray true).wp P Q a W :=
 wp_region_quiet (C:=fun w'=>∃ n:Kig W,w'=n.w) d c ⟨⟨W.drew,Xp (Xz _)⟩,rfl⟩ (by simpa using h)
theorem kig_of {P:Program} {f:FuncId} {args:Array Value} {W:World} {n:Kig W} {v:Value}
  (h:Calls P f args n.w fun e w'=>e=.returned v∧GD n.w w'):Calls P f args n.w fun e a=>e=.returned v∧∃ m:Kig W,a=m.w :=
 h.mono fun _ w' ⟨b,hb⟩=>⟨b,⟨w',Ys n.h hb⟩,rfl⟩
def At3 (w:World) (g o:Nat) (t:T3):Prop:=At w g o (I t.1)∧At w g (o+1) (I t.2.1)∧At w g (o+2) (I t.2.2)
theorem piledCmp_gd (w:World) (pb c n pc q f y r g A i j:Nat) (s t:T3) (hp:At w pb 4 (.slice (Az c) n pc)) (D:0<f) (E:0<g) (B:At w q 0 (I (i:Int))) (hb:At w r 0 (I (j:Int))) (hi:i<n) (P:j<n) (hs:At3 w c (i*3) s) (F:At3 w c (j*3) t) :
  Cl 140 #[.slice (Az q) f y,.slice (Az r) g A,.pointer (Az pb)] w fun e w'=>e=.returned (I (cmpT s.1 s.2.1 s.2.2 t.1 t.2.1 t.2.2))∧GD w w':=by
 obtain ⟨k,l,m⟩:=s;obtain ⟨o,p,t3⟩:=t;obtain ⟨v,J,K⟩:=hs;obtain ⟨L,M,N⟩:=F;dsimp only at v J K L M N;dsimp only;have C:Hid (∀ b:World,Cl 84 #[.agg #[I k,I l,I m],.agg #[I o,I p,I t3]] b fun e w'=>e=.returned (I (cmpT k l m o p t3))∧GD b w'):=fun b=>compareTris_gd _ _ _ _ _ _ b;generalize cmpT k l m o p t3=z at C ⊢;have z1:=Bt hp;have z2:=Bt B;have z3:=Bt hb;have z4:=Bt v;have Q:(i:Int)<(n:Int):=γ;have R:(j:Int)<(n:Int):=γ;have i3:(0:Int)<(f:Int):=γ;have T:(0:Int)<(g:Int):=γ;have k1:(0:Int)≤(i:Int):=γ;have k2:(0:Int)≤(j:Int):=γ;go_enter Tryz.func140,Tryz.ntmps140;go_wp2;have G:=Kig.cells w;have H:Nonempty (Kig w):=⟨⟨w,Xz _⟩⟩;refine wp_region_kig μ μ ?_;repeat (go_big_quiet_step ((go_at_call 84;exact kig_of (C.out _))))
 refine wpQuiet_nil ?_;intro O d;obtain ⟨u,a⟩:=d;have hq:GD w O:=a ▸ u.h;clear a u G H;have x:=Hd hq;clear hq;go_wp2;go_ret;exact ⟨rfl,x.out⟩
end Go.Proofs.YtbjmnlefkbhbdaaGreatDoor
