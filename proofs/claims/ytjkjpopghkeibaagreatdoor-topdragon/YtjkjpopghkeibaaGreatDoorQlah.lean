/- A part of it. -/
import Derived.Test.YtjkjpopghkeibaaGreatDoorQlag
set_option maxRecDepth 100000
set_option maxHeartbeats 40000000
namespace Go.Proofs.YtjkjpopghkeibaaGreatDoor
open Go.RowKit
variable {w:World} {g n:Nat} {a:Option Addr} {l:List T3}
attribute [local go_sem ↓] Go.wp_at_zero Go.wp_at_succ
def cmpT (a b c p q r:Int):Int:=or2 (cmp3 b q) (or2 (cmp3 a p) (cmp3 c r))
theorem or3_any (m n l:Int) (g c:Nat) (w:World) (h0:At w g 0 (I m)) (h1:At w g 1 (I n)) (h2:At w g 2 (I l)) :
  Cl 59 #[.slice (Az g) 3 c] w fun e w'=>e=.returned (I (or2 m (or2 n l)))∧w'=w:=by
 go_enter Tryz.func59,Tryz.ntmps59;go_wp2;go_loopg [8] 3 (fun k p q=>∃ i:Int,0≤i∧i≤3∧(k:Int)=3 - i∧p=I i∧(1≤i→m=0)∧(2≤i→n=0)∧(3≤i→l=0)∧q=w)
 case atStart=>exact ⟨0,γ,γ,γ,rfl,γ,γ,γ,rfl⟩
 case round =>
  obtain ⟨i,r,s,hg,rfl,d,j,o,rfl⟩:=hrel;have hi:i=0∨i=1∨i=2∨i=3:=γ;rcases hi with rfl | rfl | rfl | rfl
  ·by_cases e:m=0
   ·have a:=Hd e;go_wp2;go_roundg 2
    case measure=>omega
    case rel=>exact ⟨1,γ,γ,γ,σ,fun _=>a.out,γ,γ,rfl⟩
   ·have a:Hid (or2 m (or2 n l)=m):=by show or2 m (or2 n l)=m;simp [or2,e]
    have h:(m == 0)=false:=by simpa using e
    go_wp2;go_ret;exact ⟨Jp a.out.symm,rfl⟩
  ·have b:Hid (m=0):=d γ;by_cases e:n=0
   ·have a:=Hd e;go_wp2;go_roundg 1
    case measure=>omega
    case rel=>exact ⟨2,γ,γ,γ,σ,fun _=>b.out,fun _=>a.out,γ,rfl⟩
   ·have a:Hid (or2 m (or2 n l)=n):=by show or2 m (or2 n l)=n;simp [or2,b.out,e]
    have h:(n == 0)=false:=by simpa using e
    go_wp2;go_ret;exact ⟨Jp a.out.symm,rfl⟩
  ·have b:Hid (m=0):=d γ;have f:Hid (n=0):=j γ;by_cases e:l=0
   ·have a:=Hd e;go_wp2;go_roundg 0
    case measure=>omega
    case rel=>exact ⟨3,γ,γ,γ,σ,fun _=>b.out,fun _=>f.out,fun _=>a.out,rfl⟩
   ·have a:Hid (or2 m (or2 n l)=l):=by show or2 m (or2 n l)=l;simp [or2,b.out,f.out]
    have h:(l == 0)=false:=by simpa using e
    go_wp2;go_ret;exact ⟨Jp a.out.symm,rfl⟩
  ·have a:Hid (or2 m (or2 n l)=0):=by show or2 m (or2 n l)=0;simp [or2,d γ,j γ,o γ]
   go_wp2;go_ret;exact ⟨Jp a.out.symm,rfl⟩
theorem Yo (a b c p q r:Int) (w:World) :
  Rt 87 #[.agg #[I a,I b,I c],.agg #[I p,I q,I r]] w (I (cmpT a b c p q r)):=by
 go_enter Tryz.func87,Tryz.ntmps87;go_wp2
 go_region_held3 (fun w'=>At w' w.heap.size 0 (I a)∧At w' w.heap.size 1 (I b)∧At w' w.heap.size 2 (I c)∧At w' (w.heap.size+1) 0 (I p)∧At w' (w.heap.size+1) 1 (I q)∧At w' (w.heap.size+1) 2 (I r))
  ((refine ⟨?_, ?_, ?_, ?_, ?_, ?_⟩ <;> (repeat' (first | (with_reducible assumption) | (dsimp only;omega) | (simp [go_sem];done) | (with_reducible refine Qk ?_) | (with_reducible refine Qq ?_)))))
  (first | (go_at_call 61;refine (Yn _ _ _).mono ?_;rintro e d ⟨rfl,rfl⟩) | (go_at_call 59;refine (or3_any (cmp3 b q) (cmp3 a p) (cmp3 c r) _ _ _ ε ε ε).mono ?_;rintro e f ⟨rfl,rfl⟩))
 all_goals
  go_wp2;go_ret;refine ⟨rfl, ?_⟩;with_reducible repeat' (first | exact Qe _ | refine Qb ?_ | refine Qg ?_)
attribute [local go_sem ↓] Go.wp_at_zero Go.wp_at_succ
theorem eql25 (a b p q:Int) (w:World) :
  (binOp .eql 45 (.agg #[I a,I b]) (.agg #[I p,I q])).run Tryz.prog w=.ok (.bool (decide (a=p∧b=q))) w:=by
 by_cases h1:a=p
 ·subst h1;by_cases h2:b=q
  ·subst h2;simp [go_sem]
  ·have e:(b == q)=false:=by simpa using h2
   simp [go_sem,e,h2]
 ·have e:(a == p)=false:=by simpa using h1
  simp [go_sem,e,h1]
def lessE (a b c d p q r s:Int):Bool:=lessB a b p q || (decide (a=p∧b=q) && lessB c d r s)
theorem Vg (a b c d p q r s:Int):cmpE a b c d p q r s<0↔lessE a b c d p q r s=true:=by
 unfold cmpE cmpP or2 cmp3 lessE lessB;simp only [Bool.or_eq_true,Bool.and_eq_true,decide_eq_true_eq];split <;> rename_i h1 <;> (repeat' split at h1) <;> (repeat' split) <;> omega
attribute [local go_sem ↓] Go.wp_at_zero Go.wp_at_succ
def WRow (w:World) (g n:Nat) (who:Nat→Nat):Prop := ∀ i,i<n→At w g i (I (who i:Int))∧Fn w g i
theorem WRow.kept {c:World} {a:Nat→Nat} (h:WRow w g n a) (b:Bl w c):WRow c g n a:=fun i hi =>
 ⟨Qa b (h i hi).1,(b.frozen (p:=⟨g,i,none⟩) (bk (h i hi).1)).trans (h i hi).2⟩
def upd (who:Nat→Nat) (i v:Nat):Nat→Nat:=fun j=>if j=i then v else who j
theorem WRow.set {a:Nat→Nat} (h:WRow w g n a) {i v:Nat} (hi:i<n):WRow (w.setCell ⟨g,i,none⟩ (I (v:Int))) g n (upd a i v):=fun j b=>by
 refine ⟨?_,by show World.frozen? _ _=_;rw [Fz];exact (h j b).2⟩;by_cases e:j=i
 ·subst e;simp only [upd,if_true];exact Cs _ _ _ (h j b).1
 ·simp only [upd,if_neg e];exact (Co _ _ _ _ (by intro c;injection c with _ h2;exact e h2.symm)).trans (h j b).1
def TRB (w:World) (a:Option Addr) (l:List T3) (g:Nat):Prop :=
 ∀ i (h:i<l.length),∃ ga,a=Az ga∧ga≠g∧At w ga (i*3) (I l[i].1)∧At w ga (i*3+1) (I l[i].2.1)∧At w ga (i*3+2) (I l[i].2.2)
theorem TRB.row (h:TRB w a l g):TRow w a l:=fun i hi=>by
 obtain ⟨b,e,_,c⟩:=h i hi;exact ⟨b,e,c⟩
theorem TRB.kept {c:World} (h:TRB w a l g) (b:Bl w c):TRB c a l g:=fun i hi=>by
 obtain ⟨d,e,f,h0,h1,h2⟩:=h i hi;exact ⟨d,e,f,Qa b h0,Qa b h1,Qa b h2⟩
theorem TRB.set {i:Nat} {v:Value} (h:TRB w a l g):TRB (w.setCell ⟨g,i,none⟩ v) a l g:=fun j c=>by
 obtain ⟨b,e,d,h0,h1,h2⟩:=h j c;exact ⟨b,e,d,Qo h0 θ,Qo h1 θ,Qo h2 θ⟩
theorem Twl.set {v0 e f v3 v4 v5 i j k v9 a b:Int} (h:Twl w g v0 e f v3 v4 v5 i j k v9 a b) {p:Addr} {u:Value} (hp:g≠p.block):Twl (w.setCell p u) g v0 e f v3 v4 v5 i j k v9 a b:=by
 obtain ⟨h0,h1,h2,h3,h4,h5,h6,l,m,n,c,d⟩:=h;exact ⟨Qo h0 hp,Qo h1 hp,Qo h2 hp,Qo h3 hp,Qo h4 hp,Qo h5 hp,Qo h6 hp,Qo l hp,Qo m hp,Qo n hp,Qo c hp,Qo d hp⟩
theorem Xh {p a:Addr} {u v:Value} (h:w.cell? a=some v) (b:a.block≠p.block):(w.setCell p u).cell? a=some v:=Qo h b
def GWp (w wx:World) (a:Option Addr) (L:List T3) (g:Nat) (who:Nat→Nat):Prop:=TRB wx a L g∧WRow wx g L.length who∧Bl w wx
theorem GWp.kept {wr d:World} {L:List T3} {b:Nat→Nat} (h:GWp w wr a L g b) (c:Bl wr d):GWp w d a L g b:=⟨h.1.kept c,h.2.1.kept c,Qc h.2.2 c⟩
def ck (ks:List Int) (i j:Nat):Int:=ks.getD (i*5+j) 0
def CrOk (l:List T3) (ks:List Int) (i:Nat):Prop :=
 (0<i→lessE (ck ks (i - 1) 0) (ck ks (i - 1) 1) (ck ks (i - 1) 2) (ck ks (i - 1) 3) (ck ks i 0) (ck ks i 1) (ck ks i 2) (ck ks i 3)=true)∧(ck ks i 4=1∨ck ks i 4=2)∧cnt l (ck ks i 0) (ck ks i 1) (ck ks i 2) (ck ks i 3)=2
def CRow (w:World) (cb:Option Addr) (ks:List Int) (n:Nat):Prop :=
 ∀ i,i<n→∃ bb bo,cb=Ad bb bo∧At w bb (bo+i*5) (I (ck ks i 0))∧At w bb (bo+i*5+1) (I (ck ks i 1))∧At w bb (bo+i*5+2) (I (ck ks i 2))∧At w bb (bo+i*5+3) (I (ck ks i 3))∧At w bb (bo+i*5+4) (I (ck ks i 4))
theorem Xu {f:Option Addr} {b:List Int} (h:Row w f b) (m:b.length=n*5):CRow w f b n:=fun i hi=>by
 have h0:i*5+4<b.length:=γ;obtain ⟨c,d,rfl,c0⟩:=h (i*5) γ;refine ⟨c,d,rfl, ?_⟩
 have a:∀ j,j<5→w.cell? ⟨c,d+i*5+j,none⟩=some (I (ck b i j)):=fun j l=>by
  obtain ⟨k,o,e,g⟩:=h (i*5+j) γ;simp only [Option.some.injEq,Addr.mk.injEq,and_true] at e;obtain ⟨rfl,rfl⟩:=e;(try simp only [I]);rw [Nat.add_assoc,g]
  simp [ck,show i*5+j<b.length by omega]
 exact ⟨a 0 γ,a 1 γ,a 2 γ,a 3 γ,a 4 γ⟩
theorem CRow.kept {d:World} {b:Option Addr} {c:List Int} (h:CRow w b c n) (a:Bl w d):CRow d b c n:=fun i hi=>by
 obtain ⟨f,g,e,h0,h1,h2,h3,h4⟩:=h i hi;exact ⟨f,g,e,Qa a h0,Qa a h1,Qa a h2,Qa a h3,Qa a h4⟩
theorem onSide_any (t a k m B mv:Value) (pa:Option Addr) (q o:Nat) (n c sd G D E C:Int) (H:Bool) (i:Nat) (L:List T3) (s e0:Int) (w:World) (hT:TRow w pa L) (F:L.length=q) (hi:i<L.length)
  (h:∀ V:World,Bl w V→Rt 62 #[.agg #[I n,I c],.agg #[I L[i].1,I L[i].2.1,I L[i].2.2]] V (.tuple #[I s,I e0])) :
  Rt 64 #[.agg #[t,a,k,m,.slice pa q o,B,I n,I c,I sd,.bool H,I G,I D,I E,I C,mv],I (i:Int)] w (.bool (decide (s=sd))):=by
 have f:=Hd h;obtain ⟨g,hg,c0,c1,c2⟩:=hT i hi;subst hg;subst F;have O:(0:Int)≤(i:Int):=γ;have P:(i:Int)<(L.length:Int):=γ;generalize L[i]=u at c0 c1 c2 f;clear h hT;go_enter Tryz.func64,Tryz.ntmps64;go_wp2;refine Qi (fun V d=>?_);have j:Bl w V:=by rw [d];exact Qb (Qe _)
 have r:At V w.heap.size 4 (.slice (Az g) L.length o):=by rw [d];simp [go_sem]
 have v:At V w.heap.size 6 (I n):=by rw [d];simp [go_sem]
 have x:At V w.heap.size 7 (I c):=by rw [d];simp [go_sem]
 have J:At V w.heap.size 8 (I sd):=by rw [d];simp [go_sem]
 have t0:=Qa j c0;have y:=Qa j c1;have z:=Qa j c2;have p:=Hd j;clear d j c0 c1 c2
 go_region_held3 (fun w'=>At w' w.heap.size 4 (.slice (Az g) L.length o)∧At w' w.heap.size 6 (I n)∧At w' w.heap.size 7 (I c)∧At w' g (i*3) (I u.1)∧At w' g (i*3+1) (I u.2.1)∧At w' g (i*3+2) (I u.2.2))
  (first | exact ⟨Qq r,Qq v,Qq x,Qq t0,Qq y,Qq z⟩ | exact ⟨K,M,N,z0,z1,z2⟩)
  (first
   | (go_at_call 62;(with_reducible refine (f.out _ (Qc p.out (Qg (Qe _)))).mono ?_);rintro e Q ⟨rfl,l⟩;have b:=Qc (Qg (Qe V)) l;have K:=Qa b r;have M:=Qa b v;have N:=Qa b x;have R:=Qa b J;have z0:=Qa b t0;have z1:=Qa b y;have z2:=Qa b z;have A:=Hd (Qc p.out b);clear l b)
   | fail)
 go_wp2;go_ret;exact ⟨by first | rfl | (congr 2;rw [Bool.eq_iff_iff];simp),A.out⟩
theorem kindS_any (t a k m z mv:Value) (pa:Option Addr) (j l:Nat) (E c sd D B C A:Int) (i:Bool) (e0 e1 e2 e3 tz:Int) (tv:Bool) (w:World)
  (f:∀ V:World,Bl w V→Rt 126 #[.agg #[t,a,k,m,.slice pa j l],I tz] V (.bool tv)) :
  Rt 77 #[.agg #[t,a,k,m,.slice pa j l,z,I E,I c,I sd,.bool i,I D,I B,I C,I A,mv],.agg #[I e0,I e1,I e2,I e3,I tz]] w (I (if i=tv then 1 else 2)):=by
 have g:=Hd f;clear f;go_enter Tryz.func77,Tryz.ntmps77;go_wp2;refine Qi (fun V d=>?_);have o:Bl w V:=by rw [d];exact Qb β1
 have p:At V w.heap.size 0 t:=by rw [d];simp [go_sem]
 have q:At V w.heap.size 1 a:=by rw [d];simp [go_sem]
 have r:At V w.heap.size 2 k:=by rw [d];simp [go_sem]
 have s:At V w.heap.size 3 m:=by rw [d];simp [go_sem]
 have u:At V w.heap.size 4 (.slice pa j l):=by rw [d];simp [go_sem]
 have v:At V w.heap.size 9 (.bool i):=by rw [d];simp [go_sem]
 have x:At V (w.heap.size+1) 4 (I tz):=by rw [d];simp [go_sem]
 have n:=Hd o;clear d o
 go_region_held3 (fun w'=>At w' w.heap.size 0 t∧At w' w.heap.size 1 a∧At w' w.heap.size 2 k∧At w' w.heap.size 3 m∧At w' w.heap.size 4 (.slice pa j l)∧At w' w.heap.size 9 (.bool i)∧At w' (w.heap.size+1) 4 (I tz))
  (first | exact ⟨Qq p,Qq q,Qq r,Qq s,Qq u,Qq v,Qq x⟩ | exact ⟨G,y1,y2,y3,H,J,F⟩)
  (first
   | (go_at_call 126;(with_reducible refine (g.out _ (Qc n.out (Qg (Qe _)))).mono ?_);rintro e K ⟨rfl,h⟩;have b:=Qc (Qg (Qe V)) h;have G:=Qa b p;have y1:=Qa b q;have y2:=Qa b r;have y3:=Qa b s;have H:=Qa b u;have J:=Qa b v;have F:=Qa b x;have y:=Hd (Qc n.out b);clear h b)
   | fail)
 cases i <;> cases tv
 all_goals
  go_wp2;go_ret;exact ⟨rfl,y.out⟩
end Go.Proofs.YtjkjpopghkeibaaGreatDoor
