/- A part of it. -/
import Derived.Test.YtnpboeodhpenmaaGreatDoorQlak
import Derived.Test.YtnpboeodhpenmaaGreatDoorQlan
import Derived.Test.YtnpboeodhpenmaaGreatDoorQlap
set_option maxRecDepth 100000
set_option maxHeartbeats 40000000
namespace Go.Proofs.YtnpboeodhpenmaaGreatDoor
open Go.RowKit
variable {a w w':World} {l:List T3} {B base c d e g i k n r:Nat} {f j u v:Value} {h:Nat→Int} {α:Type} {p:Addr} {M:Nat→M6}
def pls (L:List T3) (M:Nat→M6) (n:Nat):List T3:=(List.range n).map fun i=>mvt (M i) (L.getD i (0,0,0))
theorem Yj (L:List T3) (M:Nat→M6) (n:Nat):(pls L M n).length=n:=by simp [pls]
theorem pls_succ (L:List T3) (M:Nat→M6) (n:Nat):pls L M (n+1)=pls L M n ++ [mvt (M n) (L.getD n (0,0,0))]:=by
 unfold pls;rw [List.range_succ,List.map_append];rfl
structure SpB (w0 wx:World) (B:Nat) (ad:Option Addr) (n cc ra rk gm cm:Nat) (v:Value) (l:List T3):Prop where
 c0:At wx B 0 (.slice ad n cc)
 c1:At wx B 1 (.map (some ra))
 c2:At wx B 2 (.map (some rk))
 c3:At wx B 3 (.slice (Az gm) n cm)
 c4:At wx B 4 v
 f4:Fn wx B 4
 own:wx.ownsRow (B+1) 51 3 v l.length (flatV l)
 low:w0.heap.size≤B
 bel:Bl w0 wx
theorem SpB.lt {i:World} {b:Option Addr} {f:Nat} (h:SpB i a B b n c f g e d v l):B<a.heap.size:=bk h.c0
theorem SpB.kept {i j:World} {b:Option Addr} {f:Nat} (h:SpB i j B b n c f g e d v l) (a:Bl j w'):SpB i w' B b n c f g e d v l :=
 ⟨Qa a h.c0,Qa a h.c1,Qa a h.c2,Qa a h.c3,Qa a h.c4,(a.frozen h.lt).trans h.f4,Qj h.own a,h.low,Qc h.bel a⟩
theorem SpB.more {s u c:World} {f:Option Addr} {q j:Nat} {v':Value} {t:T3} (h:SpB s u B f n g q r j i v l) (hg:u.grownBy c v.ownBlock) (o:c.ownsRow (B+1) 51 3 v' (l.length+1) (flatV l ++ [I t.1,I t.2.1,I t.2.2])):SpB s (c.setCell ⟨B,4,none⟩ v') B f n g q r j i v' (l ++ [t]):=by
 have b:some B≠v.ownBlock:=fun e=>by
  have:=Qw h.own B e.symm;omega
 have d:v'.ownBlock≠some B:=fun e=>by
  have:=Qw o B e;omega
 have x:=h.bel.grown hg h.bel.size (fun k y=>by have:=Qw h.own k y;have:=h.low;omega);have m:B<c.heap.size:=Nl h.lt hg.size;have c4:=hg.cell h.c4 b;have f4:Fn c B 4:=(Fo (a:=⟨B,4,none⟩) (hg.block B h.lt b)).trans h.f4;refine ⟨Qn (hg.cell h.c0 b) γ,Qn (hg.cell h.c1 b) γ,Qn (hg.cell h.c2 b) γ,Qn (hg.cell h.c3 b) γ,Jq c4, ?_, ?_,h.low, ?_⟩
 ·simp [go_sem,f4]
 ·rw [Xr,List.length_append,List.length_singleton];exact o.kept (Ql c B 4 v') (Or.inr d)
 ·exact x.setCell (p:=⟨B,4,none⟩) h.low _
theorem TRow.far {pa:Option Addr} (h:TRow w pa l) (a:∀ g,pa=Az g→g≠p.block):TRow (w.setCell p u) pa l:=fun i hi=>by
 obtain ⟨g,e,c0,c1,c2⟩:=h i hi;exact ⟨g,e,Xh c0 (a g e),Xh c1 (a g e),Xh c2 (a g e)⟩
theorem fresh3_d {v:World} (hg:v.heap.size=g) (b:Below ((v.alloc (.cells #[I 0,I 0,I 0] 51)).drew).heap.size ((v.alloc (.cells #[I 0,I 0,I 0] 51)).drew) a):(At a g 0 (I 0)∧At a g 1 (I 0)∧At a g 2 (I 0))∧(Fn a g 0∧Fn a g 1∧Fn a g 2)∧g<a.heap.size:=by
 subst hg;have c0:At a v.heap.size 0 (I 0):=Qa b δ;refine ⟨⟨c0,Qa b δ,Qa b δ⟩,⟨?_, ?_, ?_⟩,bk c0⟩
 all_goals exact (b.frozen ξ).trans δ
def rowS (R:List (T3×Value)):List Value:=R.flatMap fun s=>[I s.1.1,I s.1.2.1,I s.1.2.2,s.2]
theorem rowS_add (l m:List (T3×Value)):rowS (l ++ m)=rowS l ++ rowS m:=by simp [rowS]
theorem rowS_len (R:List (T3×Value)):(rowS R).length=R.length*4:=by
 induction R with
 | nil=>rfl
 | cons s r ih =>
  have:rowS (s :: r)=[I s.1.1,I s.1.2.1,I s.1.2.2,s.2] ++ rowS r:=by simp [rowS]
  rw [this,List.length_append,ih];simp;omega
theorem Qbk:∀ (R:List (T3×Value)) (i:Nat) (h:i<R.length),(rowS R)[i*4]?=some (I R[i].1.1)∧(rowS R)[i*4+1]?=some (I R[i].1.2.1)∧(rowS R)[i*4+2]?=some (I R[i].1.2.2)∧(rowS R)[i*4+3]?=some R[i].2
 | s :: r,0,_=>by simp [rowS]
 | s :: r,i+1,h=>by
  have a:=Qbk r i (by simpa using h);have e:rowS (s :: r)=[I s.1.1,I s.1.2.1,I s.1.2.2,s.2] ++ rowS r:=by simp [rowS]
  have f:∀ k,(rowS (s :: r))[(i+1)*4+k]?=(rowS r)[i*4+k]?:=fun k=>by
   rw [e,List.getElem?_append_right ω];congr 1
   simp;omega
  have f0:=f 0;rw [Nat.add_zero,Nat.add_zero] at f0;simp only [List.getElem_cons_succ];exact ⟨f0.trans a.1,(f 1).trans a.2.1,(f 2).trans a.2.2.1,(f 3).trans a.2.2.2⟩
theorem rowS_set:∀ (R:List (T3×Value)) (i:Nat) (t:T3) (u:Value),i<R.length→((((rowS R).set (i*4) (I t.1)).set (i*4+1) (I t.2.1)).set (i*4+2) (I t.2.2)).set (i*4+3) u=rowS (R.set i (t,u))
 | s :: r,0,t,u,_=>by simp [rowS]
 | s :: r,i+1,t,u,h=>by
  have b:=rowS_set r i t u (by simpa using h);have e:rowS (s :: r)=[I s.1.1,I s.1.2.1,I s.1.2.2,s.2] ++ rowS r:=by simp [rowS]
  have e2:rowS ((s :: r).set (i+1) (t,u))=[I s.1.1,I s.1.2.1,I s.1.2.2,s.2] ++ rowS (r.set i (t,u)):=by simp [rowS]
  have a:∀ (k:Nat) (x:Value) (l:List Value),([I s.1.1,I s.1.2.1,I s.1.2.2,s.2] ++ l).set (4+k) x=[I s.1.1,I s.1.2.1,I s.1.2.2,s.2] ++ l.set k x:=fun k x l=>by
   rw [Nat.add_comm];rfl
  rw [e2,← b,e,show (i+1)*4=4+i*4 by omega,a,show 4+i*4+1=4+(i*4+1) by omega,a,show 4+i*4+2=4+(i*4+2) by omega,a,show 4+i*4+3=4+(i*4+3) by omega,a]
theorem set_same {l:List Value} {a:Value} (h:l[n]?=some a):l.set n a=l:=by
 apply List.ext_getElem?;intro m;rw [List.getElem?_set];by_cases e:n=m
 ·subst e
  have b:n<l.length:=by
   rcases Nat.lt_or_ge n l.length with q | q
   ·exact q
   ·rw [List.getElem?_eq_none q] at h
    cases h
  rw [if_pos rfl,if_pos b,h]
 ·rw [if_neg e]
theorem rowS_set3 (R:List (T3×Value)) (i:Nat) (u:Value) (h:i<R.length):(rowS R).set (i*4+3) u=rowS (R.set i (R[i].1,u)):=by
 rw [← rowS_set R i R[i].1 u h];obtain ⟨h0,h1,h2,_⟩:=Qbk R i h;rw [set_same h0,set_same h1,set_same h2]
def TrisAt (w:World) (v:Value) (l:List T3):Prop := ∃ a c,v=.slice a l.length c∧TRow w a l
theorem TrisAt.kept (h:TrisAt w v l) (b:Bl w w'):TrisAt w' v l:=by
 obtain ⟨a,c,e,d⟩:=h;exact ⟨a,c,e,d.kept b⟩
theorem TRow.grownN {pa:Option Addr} {row:Option Nat} (h:TRow w pa l) (hg:w.grownBy w' row) (b:∀ g,pa=Az g→some g≠row):TRow w' pa l:=fun i hi=>by
 obtain ⟨g,e,c0,c1,c2⟩:=h i hi;have a:=b g e;exact ⟨g,e,hg.cell c0 a,hg.cell c1 a,hg.cell c2 a⟩
theorem TrisAt.grown {row:Option Nat} (h:TrisAt w v l) (hg:w.grownBy w' row) (b:∀ g,v.ownBlock=some g→some g≠row):TrisAt w' v l:=by
 obtain ⟨a,c,rfl,d⟩:=h;exact ⟨a,c,rfl,d.grownN hg fun g e=>b g (by rw [e];rfl)⟩
structure HSt (w0 wx:World) (B:Nat) (p0 p1 p2 p3 p4 v:Value) (R:List (T3×Value)) (S:List (T3×List T3)):Prop where
 c0:At wx B 0 p0
 c1:At wx B 1 p1
 c2:At wx B 2 p2
 c3:At wx B 3 p3
 c4:At wx B 4 p4
 c5:At wx B 5 v
 f5:Fn wx B 5
 own:wx.ownsRow (B+1) 107 4 v R.length (rowS R)
 apart:∀ s∈R,∀ g,s.2.ownBlock=some g→B<g∧g<wx.heap.size∧v.ownBlock≠some g
 len:R.length=S.length
 hold:∀ i (h:i<R.length) (h':i<S.length),R[i].1=S[i].1∧TrisAt wx R[i].2 S[i].2
 low:w0.heap.size≤B
 bel:Bl w0 wx
theorem HSt.lt {g:World} {b c d e:Value} {R:List (T3×Value)} {S:List (T3×List T3)} (h:HSt g a B b c d e f v R S):B<a.heap.size:=bk h.c0
theorem HSt.kept {k l:World} {c d e:Value} {R:List (T3×Value)} {S:List (T3×List T3)} (h:HSt k l B c d e f j v R S) (a:Bl l w'):HSt k w' B c d e f j v R S :=
 ⟨Qa a h.c0,Qa a h.c1,Qa a h.c2,Qa a h.c3,Qa a h.c4,Qa a h.c5,(a.frozen h.lt).trans h.f5,Qj h.own a,fun s hs g hg=>by
  have:=h.apart s hs g hg;exact ⟨this.1,Nl this.2.1 a.size,this.2.2⟩,h.len,fun i hi b=>⟨(h.hold i hi b).1,(h.hold i hi b).2.kept a⟩,h.low,Qc h.bel a⟩
theorem HSt.more {z o f:World} {r t x y v':Value} {R:List (T3×Value)} {S:List (T3×List T3)} (h:HSt z o B r t u x y v R S) (hg:o.grownBy f v.ownBlock) (q:f.ownsRow (B+1) 107 4 v' (R.length+1) (rowS R ++ [I 0,I 0,I 0,SN])) (hv:v'.ownBlock=v.ownBlock∨v'.ownBlock=some o.heap.size) :
  HSt z (f.setCell ⟨B,5,none⟩ v') B r t u x y v' (R ++ [((0,0,0),SN)]) (S ++ [((0,0,0),[])]):=by
 have b:some B≠v.ownBlock:=fun e=>by
  have:=Qw h.own B e.symm;omega
 have l:v'.ownBlock≠some B:=fun e=>by
  have:=Qw q B e;omega
 have C:=h.bel.grown hg h.bel.size (fun k E=>by have:=Qw h.own k E;have:=h.low;omega);have j:=Ql f B 5 v';have c5:=hg.cell h.c5 b;have f5:Fn f B 5:=(Fo (a:=⟨B,5,none⟩) (hg.block B h.lt b)).trans h.f5;refine ⟨Qn (hg.cell h.c0 b) γ,Qn (hg.cell h.c1 b) γ,Qn (hg.cell h.c2 b) γ,Qn (hg.cell h.c3 b) γ,Qn (hg.cell h.c4 b) γ,Jq c5,by simp [go_sem,f5], ?_, ?_,by simp [h.len], ?_,h.low,C.setCell (p:=⟨B,5,none⟩) h.low _⟩
 ·rw [rowS_add,List.length_append,List.length_singleton];exact q.kept j (Or.inr l)
 ·intro s hs g c;rcases List.mem_append.1 hs with hs | hs
  ·obtain ⟨a1,A,a3⟩:=h.apart s hs g c;refine ⟨a1,Nl A (Nt hg.size j.size),fun e=>?_⟩;rcases hv with e2 | e2
   ·exact a3 (e2 ▸ e)
   ·rw [e2] at e
    cases e;omega
  ·simp at hs;subst hs;simp [Value.ownBlock] at c
 ·intro i hi D;by_cases hiR:i<R.length
  ·have d:i<S.length:=by rw [← h.len];exact hiR
   obtain ⟨e1,e2⟩:=h.hold i hiR d;have m:(R ++ [((0,0,0),SN)])[i]=R[i]:=List.getElem_append_left hiR;have n:(S ++ [((0,0,0),[])])[i]=S[i]:=List.getElem_append_left d;rw [m,n];refine ⟨e1,(e2.grown hg fun g e=>?_).grown j fun g e=>?_⟩
   ·exact fun e3=>(h.apart _ (Lm hiR) g e).2.2 e3.symm
   ·have:=(h.apart _ (Lm hiR) g e).1;intro e3
    cases e3;omega
  ·have e1:i=R.length:=by simp at hi;omega
   have e2:i=S.length:=by rw [e1,h.len]
   have m:(R ++ [((0,0,0),SN)])[i]=((0,0,0),SN):=by
    rw [List.getElem_append_right γ];simp [e1]
   have n:(S ++ [((0,0,0),[])])[i]=((0,0,0),[]):=by
    rw [List.getElem_append_right γ];simp [e2]
   rw [m,n];exact ⟨rfl,none,0,rfl,fun i hi=>by simp at hi⟩
theorem HSt.put {E m v:World} {b o:Nat} {y z A C D:Value} {R:List (T3×Value)} {S:List (T3×List T3)} (h:HSt E m B y z A C D (.slice (Az b) R.length o) R S) (_hi:i<R.length) {t:T3}
  (hg:m.grownBy v (some b)) (H:v.ownsRow (B+1) 107 4 (.slice (Az b) R.length o) R.length (rowS (R.set i (t,u)))) (x:∀ g,u.ownBlock=some g→B<g∧g<m.heap.size∧g≠b) (hT:TrisAt m u l) :
  HSt E v B y z A C D (.slice (Az b) R.length o) (R.set i (t,u)) (S.set i (t,l)):=by
 have J:B+1≤b:=Qw h.own b rfl
 have c:some B≠some b:=fun e=>by
  cases e;omega
 refine ⟨hg.cell h.c0 c,hg.cell h.c1 c,hg.cell h.c2 c,hg.cell h.c3 c,hg.cell h.c4 c,hg.cell h.c5 c,(Fo (a:=⟨B,5,none⟩) (hg.block B h.lt c)).trans h.f5,by rw [List.length_set];exact H, ?_,by simp [h.len], ?_,h.low,h.bel.grown hg h.bel.size (fun k G=>by cases G;have:=h.low;omega)⟩
 ·intro s hs g d;rcases List.mem_or_eq_of_mem_set hs with hs | hs
  ·obtain ⟨a1,n,a3⟩:=h.apart s hs g d;exact ⟨a1,Nl n hg.size,a3⟩
  ·subst hs;obtain ⟨a1,n,a3⟩:=x g d;refine ⟨a1,Nl n hg.size,fun e=>a3 ?_⟩
   cases e;rfl
 ·intro j F q;rw [List.getElem_set,List.getElem_set];by_cases e:i=j
  ·rw [if_pos e,if_pos e];exact ⟨rfl,hT.grown hg fun g p e2=>(x g p).2.2 (by cases e2;rfl)⟩
  ·rw [if_neg e,if_neg e];have f:j<R.length:=by simpa using F
   have r:j<S.length:=by simpa using q
   obtain ⟨e1,e2⟩:=h.hold j f r;exact ⟨e1,e2.grown hg fun g p e3=>(h.apart _ (Lm f) g p).2.2 (by rw [e3];rfl)⟩
theorem insN_at:∀ (l:List Nat) (n:Nat),n≤l.length→(∀ j (c:j<l.length),j<n→h l[j]<h i)→(∀ hn:n<l.length,¬ h l[n]<h i)→insN h i l=l.take n ++ i :: l.drop n
 | [],n,hn,_,_=>by
  have:n=0:=by simpa using hn
  subst this;rfl
 | a :: r,0,_,_,h2=>by
  have:=h2 ξ;simp at this;unfold insN;rw [if_neg γ];rfl
 | a :: r,n+1,hn,h1,h2=>by
  have h0:=h1 0 ξ γ;simp at h0;unfold insN;rw [if_pos h0,insN_at r n (by simpa using hn) (fun j c d=>h1 (j+1) (Nat.succ_lt_succ c) γ) (fun b=>h2 (Nat.succ_lt_succ b))];rfl
theorem insS_new {b:T3}:∀ (S:List (T3×List Nat)) (k:Nat),k≤S.length→(∀ j (d:j<S.length),j<k→ltB S[j].1 b=true)→(∀ hk:k<S.length,ltB S[k].1 b=false∧S[k].1≠b)→insS h i b S=S.take k ++ (b,[i]) :: S.drop k
 | [],k,hk,_,_=>by
  have:k=0:=by simpa using hk
  subst this;rfl
 | a :: r,0,_,_,h2=>by
  have:=h2 ξ;simp at this;unfold insS;rw [if_neg (by simp [this.1]),if_neg this.2];rfl
 | a :: r,k+1,hk,h1,h2=>by
  have h0:=h1 0 ξ γ;simp at h0;unfold insS;rw [if_pos h0,insS_new r k (by simpa using hk) (fun j d e=>h1 (j+1) (Nat.succ_lt_succ d) γ) (fun c=>h2 (Nat.succ_lt_succ c))];rfl
theorem insS_old {b:T3}:∀ (S:List (T3×List Nat)) (k:Nat) (d:k<S.length),(∀ j (c:j<S.length),j<k→ltB S[j].1 b=true)→S[k].1=b→insS h i b S=S.set k (b,insN h i S[k].2)
 | a :: r,0,_,_,h2=>by
  simp at h2;have g:¬ ltB a.1 b=true:=fun e=>Jr b (by rw [← h2] at e ⊢;exact Ud.1 e);unfold insS;rw [if_neg g,if_pos h2];simp [h2]
 | a :: r,k+1,d,h1,h2=>by
  have h0:=h1 0 ξ γ;simp at h0;unfold insS;rw [if_pos h0,insS_old r k (by simpa using d) (fun j c f=>h1 (j+1) (Nat.succ_lt_succ c) γ) h2];rfl
theorem shift_step (S:List α) (y : α) (j:Nat) (a:j+1≤S.length):(S.take (j+1) ++ y :: S.drop (j+1)).set (j+1) (S[j]'γ)=S.take j ++ (S[j]'γ) :: S.drop j:=by
 have e1:(S.take (j+1)).length=j+1:=γ6;have e2:S.drop j=S[j]'γ :: S.drop (j+1):=List.drop_eq_getElem_cons γ
 have e3:S.take (j+1)=S.take j ++ [S[j]'γ]:=by
  rw [List.take_add_one,List.getElem?_eq_getElem γ];rfl
 rw [List.set_append_right _ _ γ,e1,Nat.sub_self,List.set_cons_zero,← e2,e3,List.append_assoc];rfl
theorem Gt (S:List α) (x y : α) (k:Nat) (a:k≤S.length):(S.take k ++ y :: S.drop k).set k x=S.take k ++ x :: S.drop k:=by
 have e1:(S.take k).length=k:=γ6;rw [List.set_append_right _ _ γ,e1,Nat.sub_self,List.set_cons_zero]
theorem Qam (S:List α) (y : α):S ++ [y]=S.take S.length ++ y :: S.drop S.length:=ξ
theorem Kk (S:List α) (y : α) (j:Nat) (a:j+1≤S.length):(S.take (j+1) ++ y :: S.drop (j+1))[j]?=some (S[j]'γ):=by
 rw [List.getElem?_append_left γ6,List.getElem?_take_of_lt γ,List.getElem?_eq_getElem γ]
def flatM (M:Nat→M6) (n:Nat):List Value:=(List.range n).flatMap fun i=>[I (M i).1,I (M i).2.1,I (M i).2.2.1,I (M i).2.2.2.1,I (M i).2.2.2.2.1,I (M i).2.2.2.2.2]
theorem flatM_succ (M:Nat→M6) (n:Nat):flatM M (n+1)=flatM M n ++ [I (M n).1,I (M n).2.1,I (M n).2.2.1,I (M n).2.2.2.1,I (M n).2.2.2.2.1,I (M n).2.2.2.2.2]:=by
 unfold flatM;rw [List.range_succ,List.flatMap_append];simp
theorem Yt (M:Nat→M6):∀ n,(flatM M n).length=n*6
 | 0=>rfl
 | n+1=>by
  rw [flatM_succ,List.length_append,Yt M n];simp;omega
theorem Gc (M:Nat→M6):∀ (n i:Nat),i<n→(flatM M n)[i*6]?=some (I (M i).1)∧(flatM M n)[i*6+1]?=some (I (M i).2.1)∧(flatM M n)[i*6+2]?=some (I (M i).2.2.1)∧(flatM M n)[i*6+3]?=some (I (M i).2.2.2.1)∧(flatM M n)[i*6+4]?=some (I (M i).2.2.2.2.1)∧(flatM M n)[i*6+5]?=some (I (M i).2.2.2.2.2)
 | 0,i,h=>by omega
 | n+1,i,h=>by
  have a:=Yt M n;rw [flatM_succ];by_cases e:i=n
  ·subst e;refine ⟨?_, ?_, ?_, ?_, ?_, ?_⟩
   all_goals
    rw [List.getElem?_append_right γ];simp [a]
  ·obtain ⟨h0,h1,h2,h3,h4,h5⟩:=Gc M n i γ;refine ⟨?_, ?_, ?_, ?_, ?_, ?_⟩
   all_goals
    rw [List.getElem?_append_left γ];assumption
theorem MRow.flat (h:MRow w g n M):∀ j u,(flatM M n)[j]?=some u→w.cell? ((⟨g,0,none⟩:Addr).add j)=some u:=fun j u a=>by
 have c:j<n*6:=by
  rcases Nat.lt_or_ge j (n*6) with q | q
  ·exact q
  ·rw [List.getElem?_eq_none (by rw [Yt];exact q)] at a
   cases a
 have hi:j / 6<n:=γ;obtain ⟨⟨c0,c1,c2,c3,c4,c5⟩,_⟩:=h (j / 6) hi;obtain ⟨f0,f1,f2,f3,f4,f5⟩:=Gc M n (j / 6) hi;have b:(⟨g,0,none⟩:Addr).add j=⟨g,j,none⟩:=by simp [Addr.add] <;> omega
 rw [b];have:j % 6=0∨j % 6=1∨j % 6=2∨j % 6=3∨j % 6=4∨j % 6=5:=γ;rcases this with e | e | e | e | e | e
 ·have q:j=j / 6*6:=γ;rw [q] at a ⊢;rw [f0] at a;rw [c0];exact a
 ·have q:j=j / 6*6+1:=γ;rw [q] at a ⊢;rw [f1] at a;rw [c1];exact a
 ·have q:j=j / 6*6+2:=γ;rw [q] at a ⊢;rw [f2] at a;rw [c2];exact a
 ·have q:j=j / 6*6+3:=γ;rw [q] at a ⊢;rw [f3] at a;rw [c3];exact a
 ·have q:j=j / 6*6+4:=γ;rw [q] at a ⊢;rw [f4] at a;rw [c4];exact a
 ·have q:j=j / 6*6+5:=γ;rw [q] at a ⊢;rw [f5] at a;rw [c5];exact a
theorem own_maps (h:w.ownsRow base 91 6 (.slice (Az g) n c) n (flatM M n)):MRow w g n M:=fun i hi=>by
 obtain ⟨f0,f1,f2,f3,f4,f5⟩:=Gc M n i hi;exact ⟨⟨(h.cellAt _ γ).trans f0,(h.cellAt _ γ).trans f1,(h.cellAt _ γ).trans f2,(h.cellAt _ γ).trans f3,(h.cellAt _ γ).trans f4,(h.cellAt _ γ).trans f5⟩,h.frozenAt _,h.frozenAt _,h.frozenAt _,h.frozenAt _,h.frozenAt _,h.frozenAt _⟩
open Go.ChangeMaps
def hpN (pl:Nat→Int×Int×Int) (h:Nat→Int):Nat→List (T3×List Nat)
 | 0=>[]
 | i+1=>insS h i (pl i) (hpN pl h i)
theorem insS_len (h:Nat→Int) (i:Nat) (a:T3):∀ S:List (T3×List Nat),(insS h i a S).length≤S.length+1
 | []=>by simp [insS]
 | s :: r=>by
  have:=insS_len h i a r;unfold insS;repeat' split
  all_goals (simp only [List.length_cons];omega)
theorem hpN_len (pl:Nat→Int×Int×Int) (h:Nat→Int):∀ i,(hpN pl h i).length≤i
 | 0=>by simp [hpN]
 | i+1=>by
  have:=hpN_len pl h i;have:=insS_len h i (pl i) (hpN pl h i);unfold hpN;omega
def tg (L:List T3) (j:Nat):Int×Int×Int:=L.getD j (0,0,0)
def trS (L:List T3) (S:List (T3×List Nat)):List (T3×List T3):=S.map fun s=>(s.1,s.2.map (tg L))
def hvs (hs:List Int) (k:Nat):Int:=hs.getD k 0
def mvP (L:List T3) (M:Nat→M6) (i:Nat):Int×Int×Int:=mvt (M i) (tg L i)
theorem Yw {c:List Value} (h:w.ownsRow base e k v n c) (d:0<n):∃ g q,v=.slice (Az g) n q:=by
 rcases h.2 with ⟨_,h0⟩ | ⟨g,a,b,hv,_⟩
 ·omega
 ·exact ⟨g,a,hv⟩
theorem box3 (b:Below (w.drew.alloc (.cells #[I 0,I 0,I 0] 51)).heap.size (w.drew.alloc (.cells #[I 0,I 0,I 0] 51)) a):At a w.heap.size 0 (I 0)∧At a w.heap.size 1 (I 0)∧At a w.heap.size 2 (I 0)∧Fn a w.heap.size 0∧Fn a w.heap.size 1∧Fn a w.heap.size 2 :=
 ⟨Qa b δ,Qa b δ,Qa b δ,(Below.frozen b ξ).trans δ,(Below.frozen b ξ).trans δ,(Below.frozen b ξ).trans δ⟩
theorem box3k {G:Prop} (b:Below (w.drew.alloc (.cells #[I 0,I 0,I 0] 51)).heap.size (w.drew.alloc (.cells #[I 0,I 0,I 0] 51)) a) (h:(At a w.heap.size 0 (I 0)∧At a w.heap.size 1 (I 0)∧At a w.heap.size 2 (I 0)∧Fn a w.heap.size 0∧Fn a w.heap.size 1∧Fn a w.heap.size 2)→G):G:=h (box3 b)
def Past (S:List (T3×List Nat)) (P:T3) (k:Nat):Prop := ∀ j (hj:j<S.length),j<k→ltB S[j].1 P=true
def Found (S:List (T3×List Nat)) (P:T3) (k:Nat):Prop:=Past S P k∧∀ hk:k<S.length,ltB S[k].1 P=false
theorem past_next {S:List (T3×List Nat)} {P:T3} (h:Past S P k) (d:k<S.length) (c:ltB S[k].1 P=true):Past S P (k+1):=fun j a b=>by
 by_cases e:j=k
 ·subst e;exact c
 ·exact h j a γ
theorem own_any {f:List Value} (h:w.ownsRow base e k v n f):∃ a c,v=.slice a n c:=by
 rcases h.2 with ⟨e1,e2⟩ | ⟨g,b,d,hv,_⟩
 ·subst e2;exact ⟨none,0,e1⟩
 ·exact ⟨_,b,hv⟩
theorem Gw {m:Nat} {a:Option Addr} {b:List Value} (h:w.ownsRow base e k (.slice a m c) n b) (h0:0<n):∃ g,a=Az g:=by
 obtain ⟨g,q,e⟩:=Yw h h0
 cases e;exact ⟨g,rfl⟩
theorem HSt.cells {m b:World} {a:Nat} {g i l:Value} {R:List (T3×Value)} {S:List (T3×List T3)} (h:HSt m b B f g i j l (.slice (Az a) r d) R S) (hr:r=R.length) (e:k<R.length):At b a (k*4) (I R[k].1.1)∧At b a (k*4+1) (I R[k].1.2.1)∧At b a (k*4+2) (I R[k].1.2.2)∧At b a (k*4+3) R[k].2:=by
 obtain ⟨e0,e1,e2,e3⟩:=Qbk R k e;have n:=rowS_len R;subst hr;have c:=h.own;exact ⟨(c.cellAt (k*4) γ).trans e0,(c.cellAt (k*4+1) γ).trans e1,(c.cellAt (k*4+2) γ).trans e2,(c.cellAt (k*4+3) γ).trans e3⟩
theorem neq85 (x y k X Y K:Int) (w:World) :
  (binOp .neq 51 (.agg #[I x,I y,I k]) (.agg #[I X,I Y,I K])).run Tryz.prog w=.ok (.bool (!sameT x y k X Y K)) w:=by
 by_cases h1:x=X
 ·subst h1;by_cases h2:y=Y
  ·subst h2;by_cases h3:k=K
   ·subst h3;simp [go_sem,sameT]
   ·have e:(k == K)=false:=by simpa using h3
    simp [go_sem,sameT,e,h3]
  ·have e:(y == Y)=false:=by simpa using h2
   simp [go_sem,sameT,e,h2]
 ·have e:(x == X)=false:=by simpa using h1
  simp [go_sem,sameT,e,h1]
def withP (S:List (T3×List Nat)) (P:T3) (k:Nat):List (T3×List Nat):=if decide (¬ ∃ h:k<S.length,S[k].1=P)=true then S.take k ++ (P,[]) :: S.drop k else S
def ShiftS (w4 wx:World) (B _r:Nat) (v:Value) (R:List (T3×Value)) (T:List (T3×List T3)) (A:Nat) (P0 P1 P2:Int) (p0 p1 p2 p3 p4:Value) (j:Nat):Prop := ∃ y z,HSt w4 wx B p0 p1 p2 p3 p4 v (R.take j ++ y :: R.drop j) (T.take j ++ z :: T.drop j)∧At wx A 0 (I P0)∧At wx A 1 (I P1)∧At wx A 2 (I P2)
theorem HSt.put4 {n b:World} {a:Nat} {e k m:Value} {R:List (T3×Value)} {S:List (T3×List T3)} (h:HSt n b B e f j k m (.slice (Az a) r c) R S) (hr:r=R.length) (hi:i<R.length) (t:T3) (u:Value) (l:List T3) (s:∀ g,u.ownBlock=some g→B<g∧g<b.heap.size∧g≠a) (hT:TrisAt b u l) :
  HSt n ((((b.setCell ⟨a,i*4,none⟩ (I t.1)).setCell ⟨a,i*4+1,none⟩ (I t.2.1)).setCell ⟨a,i*4+2,none⟩ (I t.2.2)).setCell ⟨a,i*4+3,none⟩ u) B e f j k m (.slice (Az a) r c) (R.set i (t,u)) (S.set i (t,l)):=by
 subst hr;obtain ⟨o1,o⟩:=h.own.stored (i*4) (I t.1);obtain ⟨o2,p⟩:=o1.stored (i*4+1) (I t.2.1);obtain ⟨o3,g3⟩:=o2.stored (i*4+2) (I t.2.2);obtain ⟨d,q⟩:=o3.stored (i*4+3) u;rw [rowS_set R i t u hi] at d;exact h.put hi (Ji (Ji (Ji o p) g3) q) d s hT
theorem Uo {a:Int} (h:0≤a∧a≤300):IntKind.i64.wrap a=a:=υ
theorem insS_mem (h:Nat→Int) (i:Nat) (a:T3):∀ S:List (T3×List Nat),∀ s∈insS h i a S,∀ j∈s.2,j=i∨∃ c∈S,j∈c.2
 | []=>by simp [insS]
 | x :: r=>by
  intro s hs j b;unfold insS at hs;split at hs
  ·rcases List.mem_cons.1 hs with rfl | hs
   ·exact Or.inr ⟨_,ξ,b⟩
   ·rcases insS_mem h i a r s hs j b with e | ⟨c,h1,h2⟩
    ·exact Or.inl e
    ·exact Or.inr ⟨c,by simp [h1],h2⟩
  ·split at hs
   ·rcases List.mem_cons.1 hs with rfl | hs
    ·rcases Vd.1 b with e | e
     ·exact Or.inl e
     ·exact Or.inr ⟨x,ξ,e⟩
    ·exact Or.inr ⟨s,by simp [hs],b⟩
   ·rcases List.mem_cons.1 hs with rfl | hs
    ·simp at b;exact Or.inl b
    ·exact Or.inr ⟨s,hs,b⟩
theorem hpN_lt (pl:Nat→Int×Int×Int) (h:Nat→Int):∀ i,∀ s∈hpN pl h i,∀ j∈s.2,j<i
 | 0=>by simp [hpN]
 | i+1=>fun s hs j a=>by
  unfold hpN at hs;rcases insS_mem h i (pl i) _ s hs j a with e | ⟨b,h1,h2⟩
  ·omega
  ·have:=hpN_lt pl h i b h1 j h2;omega
theorem insN_len (h:Nat→Int) (i:Nat):∀ l:List Nat,(insN h i l).length=l.length+1
 | []=>by simp [insN]
 | x :: r=>by
  unfold insN;split
  ·simp [insN_len h i r]
  ·simp
theorem insS_lens (h:Nat→Int) (i:Nat) (a:T3) (b:Nat):∀ S:List (T3×List Nat),(∀ s∈S,s.2.length≤b)→∀ s∈insS h i a S,s.2.length≤b+1
 | [],_=>by simp [insS]
 | x :: r,hS=>by
  intro s hs;unfold insS at hs;split at hs
  ·rcases List.mem_cons.1 hs with rfl | hs
   ·have:=hS s ξ;omega
   ·exact insS_lens h i a b r (fun q hq=>hS q (by simp [hq])) s hs
  ·split at hs
   ·rcases List.mem_cons.1 hs with rfl | hs
    ·have:=hS x ξ;simp only [insN_len];omega
    ·have:=hS s (by simp [hs]);omega
   ·rcases List.mem_cons.1 hs with rfl | hs
    ·simp
    ·have:=hS s hs;omega
theorem hpN_lens (pl:Nat→Int×Int×Int) (h:Nat→Int):∀ i,∀ s∈hpN pl h i,s.2.length≤i
 | 0=>by simp [hpN]
 | i+1=>by
  unfold hpN;exact insS_lens h i (pl i) i _ (hpN_lens pl h i)
def Spot (h:Nat→Int) (i:Nat) (l:List Nat) (p:Nat):Prop:=(∀ j (hj:j<l.length),j<p→h l[j]<h i)∧∀ hp:p<l.length,¬ h l[p]<h i
def LowN (h:Nat→Int) (i:Nat) (l:List Nat) (p:Nat):Prop := ∀ j (hj:j<l.length),j<p→h l[j]<h i
theorem lowN_next {p:Nat} {l:List Nat} (a:LowN h i l p) (hp:p<l.length) (d:h l[p]<h i):LowN h i l (p+1):=fun j b c=>by
 by_cases e:j=p
 ·subst e;exact d
 ·exact a j b γ
theorem withP_at {S:List (T3×List Nat)} {P:T3} (h:Nat→Int) (i:Nat) (d:Found S P k) (f:k≤S.length):∃ a:k<(withP S P k).length,(withP S P k)[k].1=P∧(∀ j∈(withP S P k)[k].2,∃ s∈S,j∈s.2)∧insS h i P S=(withP S P k).set k (P,insN h i (withP S P k)[k].2)∧((withP S P k)[k].2=[]∨∃ s∈S,(withP S P k)[k].2=s.2):=by
 by_cases e:∃ h:k<S.length,S[k].1=P
 ·have c:withP S P k=S:=by
   unfold withP;rw [if_neg (by simpa using e)]
  obtain ⟨h1,h2⟩:=e;rw [c];exact ⟨h1,h2,fun j l=>⟨_,Lm h1,l⟩,insS_old S k h1 d.1 h2,Or.inr ⟨_,Lm h1,rfl⟩⟩
 ·have c:withP S P k=S.take k ++ (P,[]) :: S.drop k:=by
   unfold withP;rw [if_pos (by simpa using e)]
  rw [c]
  have b:(S.take k ++ (P,[]) :: S.drop k)[k]'ω=(P,[]):=by
   rw [List.getElem_append_right ω];simp [Nat.min_eq_left f]
  refine ⟨ω,by rw [b],by rw [b];simp, ?_,Or.inl (by rw [b])⟩;rw [b,Gt S (P,insN h i []) (P,[]) k f];exact insS_new S k f d.1 (fun a=>⟨d.2 a,fun g=>e ⟨a,g⟩⟩)
def CapsOk (R:List (T3×Value)):Prop := ∀ x∈R,∀ a n c,x.2=.slice a n c→n≤c
theorem caps_put {R:List (T3×Value)} (h:CapsOk R) (t:T3) (k:Nat):CapsOk (R.take k ++ (t,SN) :: R.drop k):=fun x b a n c e=>by
 rcases List.mem_append.1 b with b | b
 ·exact h x (List.mem_of_mem_take b) a n c e
 ·rcases List.mem_cons.1 b with rfl | b
  ·simp at e;omega
  ·exact h x (List.mem_of_mem_drop b) a n c e
theorem Xf:∀ l:List T3,(flatV l).length=l.length*3
 | []=>rfl
 | x :: r=>by
  have:=Xf r;simp only [flatV,List.flatMap_cons,List.length_append,List.length_cons,List.length_nil] at this ⊢;omega
theorem Ue (l:List T3):∀ u∈flatV l,u.oneCell'=true:=fun u a=>by
 simp only [flatV,List.mem_flatMap] at a;obtain ⟨x,_,b⟩:=a;simp at b;rcases b with rfl | rfl | rfl <;> rfl
theorem trow_flat (h:TRow w (Az g) l) (j:Nat) (u:Value) (a:(flatV l)[j]?=some u):At w g j u:=by
 have c:j<(flatV l).length:=(List.getElem?_eq_some_iff.1 a).1;rw [Xf] at c;obtain ⟨q,hq⟩:∃ q,q=j / 3:=⟨_,rfl⟩;have b:q<l.length:=γ;obtain ⟨d,e,c0,c1,c2⟩:=h q b
 cases e;obtain ⟨f0,f1,f2⟩:=Gb l q b;have e3:j=q*3∨j=q*3+1∨j=q*3+2:=γ;clear hq c;rcases e3 with rfl | rfl | rfl
 ·rw [f0] at a;exact c0.trans a
 ·rw [f1] at a;exact c1.trans a
 ·rw [f2] at a;exact c2.trans a
theorem trow_take (h:TRow w (Az g) l) (p j:Nat) (u:Value) (a:(flatV (l.take p))[j]?=some u):At w g j u:=by
 refine trow_flat h j u ?_;have e:flatV l=flatV (l.take p) ++ flatV (l.drop p):=by rw [← Xr,List.take_append_drop]
 rw [e,List.getElem?_append_left (List.getElem?_eq_some_iff.1 a).1];exact a
theorem Gp (g o j:Nat):(⟨g,o,none⟩:Addr).add j=⟨g,o+j,none⟩:=by
 unfold Addr.add;split <;> simp_all
theorem trow_drop (h:TRow w (Az g) l) (p j:Nat) (u:Value) (a:(flatV (l.drop p))[j]?=some u):At w g (p*3+j) u:=by
 refine trow_flat h _ u ?_;have e:flatV l=flatV (l.take p) ++ flatV (l.drop p):=by rw [← Xr,List.take_append_drop]
 have b:j<(flatV (l.drop p)).length:=(List.getElem?_eq_some_iff.1 a).1;rw [Xf,List.length_drop] at b;have c:(flatV (l.take p)).length=p*3:=by rw [Xf,List.length_take,Nat.min_eq_left γ]
 rw [e,List.getElem?_append_right γ,c,Nat.add_sub_cancel_left];exact a
theorem hst_nil {b c d e:Value} (c0:At a B 0 b) (c1:At a B 1 c) (c2:At a B 2 d) (c3:At a B 3 e) (c4:At a B 4 f) (c5:At a B 5 SN) (f5:Fn a B 5) (g:w.heap.size≤B) (h:Bl w a):HSt w a B b c d e f SN [] [] :=
 ⟨c0,c1,c2,c3,c4,c5,f5,⟨by simp [rowS],Or.inl ⟨rfl,rfl⟩⟩,ξ,rfl,fun i hi=>by simp at hi,g,h⟩
theorem TRow.farE {a:Option Addr} (h:TRow w a l) (hp:∀ q,a=Az q→q≠p.block):TRow (w.setCell p u) a l:=fun i hi=>by
 obtain ⟨g,e,c0,c1,c2⟩:=h i hi;have hg:=hp g e;exact ⟨g,e,Qo c0 (by dsimp only;exact hg),Qo c1 (by dsimp only;exact hg),Qo c2 (by dsimp only;exact hg)⟩
def SRowE (w:World) (base:Nat) (a:Option Addr) (S:List (T3×List T3)):Prop :=
 ∀ i (h:i<S.length),∃ g sa sc,a=Az g∧base≤g∧At w g (i*4) (I S[i].1.1)∧At w g (i*4+1) (I S[i].1.2.1)∧At w g (i*4+2) (I S[i].1.2.2)∧At w g (i*4+3) (.slice sa S[i].2.length sc)∧TRow w sa S[i].2∧∀ q,sa=Az q→base≤q
theorem SRowE.row {a:Option Addr} {S:List (T3×List T3)} (h:SRowE w base a S):SRow w a S:=fun i hi=>by
 obtain ⟨g,c,d,e,_,c0,c1,c2,c3,b,_⟩:=h i hi;exact ⟨g,c,d,e,c0,c1,c2,c3,b⟩
theorem SRowE.low {base':Nat} {a:Option Addr} {S:List (T3×List T3)} (h:SRowE w base a S) (f:base'≤base):SRowE w base' a S:=fun i hi=>by
 obtain ⟨g,c,d,e,h1,c0,c1,c2,c3,b,hq⟩:=h i hi;exact ⟨g,c,d,e,γ,c0,c1,c2,c3,b,fun q e=>by have:=hq q e;omega⟩
theorem SRowE.set {a:Option Addr} {S:List (T3×List T3)} (h:SRowE w base a S) (hp:p.block<base):SRowE (w.setCell p u) base a S:=fun i hi=>by
 obtain ⟨g,c,d,e,h1,c0,c1,c2,c3,b,hq⟩:=h i hi;exact ⟨g,c,d,e,h1,Qo c0 θ,Qo c1 θ,Qo c2 θ,Qo c3 θ,b.farE (fun q e=>by have:=hq q e;omega),hq⟩
theorem MRow.setE (h:MRow w g n M) {b o:Nat} (a:g≠b):MRow (w.setCell ⟨b,o,none⟩ u) g n M:=h.grown (Ql w b o u) (by simpa using a)
theorem HSt.srowE {r j:World} {l m n o p:Value} {R:List (T3×Value)} {S:List (T3×List T3)} (h:HSt r j B l m n o p v R S) (s:base≤B):∃ t u,v=.slice t S.length u∧SRowE j base t S:=by
 obtain ⟨a,c,hv⟩:=own_any h.own;refine ⟨a,c,by rw [hv,h.len],fun i hi=>?_⟩;have b:i<R.length:=by rw [h.len];exact hi
 have f:=h.own;rw [hv] at f;obtain ⟨g,rfl⟩:=Gw f γ;have h2:=h;rw [hv] at h2;obtain ⟨c0,c1,c2,c3⟩:=h2.cells rfl b;obtain ⟨e1,a9,c9,e2,k⟩:=h.hold i b hi;have d:=h.apart R[i] (Lm b);rw [e1] at c0 c1 c2;rw [e2] at c3 d;have hg:=(f.lt g rfl).1
 exact ⟨g,a9,c9,rfl,γ,c0,c1,c2,c3,k,fun q e=>by
  subst e;have:=(d q rfl).1;omega⟩
def HeapF (w w':World) (W H:Int) (m n nn:Nat) (zs ks:List Int) (M:Nat→M6) (S:List (T3×List T3)) (e:Ending):Prop := ∃ a ca b cb g c t u,e=.returned (.agg #[I W,I H,.slice a m ca,.slice b n cb,.slice (Az g) nn c,.slice t S.length u])∧RowF w' w.heap.size a zs∧RowF w' w.heap.size b ks∧(MRow w' g nn M∧w.heap.size≤g)∧SRowE w' w.heap.size t S∧Bl w w'
def BoxR (w:World) (g:Nat):Prop:=(At w g 0 (I 0)∧At w g 1 (I 0)∧At w g 2 SN∧At w g 3 SN∧At w g 4 SN∧At w g 5 SN)∧∀ q,Fn w g q
theorem BoxR.kept (h:BoxR w g) (a:Bl w w'):BoxR w' g:=by
 obtain ⟨⟨c0,c1,c2,c3,c4,c5⟩,b⟩:=h;exact ⟨⟨Qa a c0,Qa a c1,Qa a c2,Qa a c3,Qa a c4,Qa a c5⟩,fun q=>(a.frozen (p:=⟨g,q,none⟩) (by have:=bk c0;exact this)).trans (b q)⟩
theorem boxR_new (o):BoxR ((w.alloc o).alloc (.cells #[I 0,I 0,SN,SN,SN,SN] 29)) (w.heap.size+1):=by
 have e:w.heap.size+1=(w.alloc o).heap.size:=ξ;rw [e];exact ⟨⟨δ,δ,δ,δ,δ,δ⟩,fun q=>by simp [go_sem]⟩
theorem heaped_any (W H b off Y m n b8 G gm cm gh oh ch:Nat) (cb:Option Addr) (zs ks hs:List Int) (L:List T3) (M:Nat→M6) (w:World)
  (CT:Hid (∀ W':World,Bl w W'→Cl 51 #[.agg #[I (W:Int),I (H:Int),.slice (Ad b off) m Y,.slice cb n b8]] W' fun e w'=>∃ a c,e=.returned (.slice a G c)∧TRow w' a L∧Bl W' w'))
  (CO:Hid (∀ W':World,Bl w W'→Cl 37 #[.agg #[I (W:Int),I (H:Int),.slice (Ad b off) m Y,.slice cb n b8]] W' fun e w'=>∃ a' T b' U,e=.returned (.agg #[I (W:Int),I (H:Int),.slice a' m T,.slice b' n U])∧RowF w' W'.heap.size a' zs∧RowF w' W'.heap.size b' ks∧Bl W' w'))
  (fu:G=L.length) (h0:0<G) (fj:G≤256) (hM:MRow w gm G M) (hG:∀ i,i<G→mapM (M i)=true) (hh:Row w (Ad gh oh) hs) (fg:hs.length=G) (fb:∀ t∈L,(0≤t.1∧t.1≤8)∧(0≤t.2.1∧t.2.1≤8)∧(0≤t.2.2∧t.2.2≤3)) (ft:L.Nodup) :
  Cl 63 #[.agg #[I (W:Int),I (H:Int),.slice (Ad b off) m Y,.slice cb n b8],.slice (Az gm) G cm,.slice (Ad gh oh) G ch] w fun e w'=>HeapF w w' (W:Int) (H:Int) m n G zs ks M (trS L (hpN (mvP L M) (hvs hs) G)) e:=by
 obtain ⟨i6,fh,d8,d9,da⟩:=info_parts inf59;have bi:=H4 fh d8 d9 da;obtain ⟨hf,bs,bt,bu,bv⟩:=info_parts inf98H;have b7:=H4 bs bt bu bv;clear bs bt bu bv;obtain ⟨bh,bs,bt,bu,bv⟩:=info_parts inf23;have o:=H4 bs bt bu bv;clear bs bt bu bv;have HD:Hid (G=L.length∧MRow w gm G M∧(∀ i,i<G→mapM (M i)=true)∧Row w (Ad gh oh) hs∧hs.length=G∧L.Nodup∧∀ t∈L,(0≤t.1∧t.1≤8)∧(0≤t.2.1∧t.2.1≤8)∧(0≤t.2.2∧t.2.2≤3)):=⟨fu,hM,hG,hh,fg,ft,fb⟩;clear fu hM hG hh fg fb ft fh d8 d9 da;go_enter Tryz.func63,Tryz.ntmps63;go_upto_region 1 with fail
 refine Qi (fun W0 hW0=>?_);have dz:Bl w W0:=by rw [hW0];exact Qb β1
 have g6:At W0 w.heap.size 0 (I (W:Int)):=ν;have ga:At W0 w.heap.size 1 (I (H:Int)):=ν;have gb:At W0 w.heap.size 2 (.slice (Ad b off) m Y):=ν;have gc:At W0 w.heap.size 3 (.slice cb n b8):=ν;have z0:w.heap.size+1<W0.heap.size:=by rw [hW0];simp
 have xb:BoxR W0 (w.heap.size+1):=by rw [hW0];exact boxR_new _
 have d6:=Hd xb;clear hW0 xb;go_upto_region 2 with (go_at_call 51;refine (CT.out _ dz).mono ?_;rintro e w2 ⟨a7,c7,rfl,hT,ax⟩)
 have gd:=Qa ax g6;have hy:=Qa ax ga;have i2:=Qa ax gb;have i3:=Qa ax gc;have z2:=Bt gd;have HT:=H2 hT (Qc dz ax);have bn:=Hd (d6.out.kept ax);clear g6 ga gb gc hT ax dz
 go_upto_region 3 with (first
  | (go_at_call 37;refine (CO.out _ HT.out.2).mono ?_;rintro e w3 ⟨a',T,b',U,rfl,hz,hk,et⟩;have ab:=H3 et hz hk;clear hz hk et)
  | (at_builtin;refine wpList_append_grows _ rfl (.const SN) (.tmp 20) 26 rfl 91 i6 (.agg #[I 0,I 0,I 0,I 0,I 0,I 0]) 6 48 Tryz.underlying26 bi.out.1 bi.out.2.1 bi.out.2.2.1 bi.out.2.2.2 rfl ψ none 0 0 [] rfl (fun _=>⟨rfl,rfl⟩) rfl (by intro _ h;simp at h) ⟨gm,0,none⟩ G cm (flatM M G) rfl (Yt M _) ((HD.out.2.1.kept (Qc HT.out.2 ab.out.1)).flat) (by intro u hu;simp [flatM] at hu;obtain ⟨i,_,hu⟩:=hu;rcases hu with rfl | rfl | rfl | rfl | rfl | rfl <;> rfl) γ Ξ γ ?_;intro v' w4 J d;rw [Nat.zero_add,List.nil_append] at J;obtain ⟨g',c',rfl⟩:=Yw J h0;have ac:Hid (Bl w3 w4∧MRow w4 g' G M∧w3.heap.size≤g'):=⟨(Below.refl _ _).grown d (Nr _) (fun k h=>by cases h),own_maps J,(J.lt g' rfl).1⟩;clear J d))
 refine Qi (fun W5 aa=>?_);obtain ⟨B,hB⟩:∃ B,B=w4.heap.size:=⟨_,rfl⟩
 have ex:Bl w4 W5:=by
  rw [aa];with_reducible repeat' (first | exact Qe _ | refine Qh ?_ ?_ | refine Qb ?_)
  all_goals (dsimp only;omega)
 have cz:Bl w w4:=Qc HT.out.2 (Qc ab.out.1 ac.out.1);have eh:=Hd (bn.out.kept (Qc ab.out.1 ac.out.1));have ee:Hid (HSt w4 W5 B (I (W:Int)) (I (H:Int)) (.slice a' m T) (.slice b' n U) (.slice (Az g') G c') SN [] []):=hst_nil (by rw [aa,hB];simp [go_sem]) (by rw [aa,hB];simp [go_sem]) (by rw [aa,hB];simp [go_sem]) (by rw [aa,hB];simp [go_sem]) (by rw [aa,hB];simp [go_sem]) (by rw [aa,hB];simp [go_sem]) (by rw [aa,hB];simp [go_sem]) (by rw [hB];exact Nr _) ex;have an:=H8 (HT.out.1.kept (Qc ab.out.1 ac.out.1)) ac.out.2.1 (HD.out.2.1.kept cz) (HD.out.2.2.2.1.kept cz) (ab.out.2.1.row.kept ac.out.1) (ab.out.2.2.row.kept ac.out.1) cz hB;have N:=H5 (ab.out.2.1.kept ac.out.1) (ab.out.2.2.kept ac.out.1) (Nt ab.out.1.size ac.out.2.2) (bk bn.out.1.1) (Nt ab.out.1.size ac.out.1.size);rw [← hB];clear aa ex cz hB gd hy i2 i3 HT ab ac CT CO bi z0 z2 d6 bn;go_wp2;go_loopg [9] G (fun gk s9 wx=>∃ (i:Nat) (v:Value) (R:List (T3×Value)),i≤G∧gk=G - i∧s9=I (i:Int)∧HSt w4 wx B (I (W:Int)) (I (H:Int)) (.slice a' m T) (.slice b' n U) (.slice (Az g') G c') v R (trS L (hpN (mvP L M) (hvs hs) i))∧CapsOk R)
 case atStart=>exact ⟨0,_,[],γ,rfl,rfl,ee.out,fun x hx=>by simp at hx⟩
 case round =>
  clear ee;obtain ⟨i,v,R,hi,rfl,rfl,hS,fc⟩:=hrel;have ec:=Hd fc;clear fc;have HS:=Hd hS;clear hS;by_cases h1:i<G
  ·have i1:(i:Int)<(G:Int):=γ;have i0:(0:Int)≤(i:Int):=γ;have co:i<L.length:=by rw [← HD.out.1];exact h1
   obtain ⟨⟨m0,m1,m2,m3,m4,m5⟩,_⟩:=(an.out.2.2.1.kept HS.out.bel) i h1;obtain ⟨g7,e7,t0,t1,t2⟩:=(an.out.1.kept HS.out.bel) i co;subst e7;have am:L[i]=tg L i:=by unfold tg;rw [List.getD_eq_getElem?_getD,List.getElem?_eq_getElem co];rfl
   rw [am] at t0 t1 t2;have HC:Hid (∀ V:World,Rt 54 #[.agg #[I (M i).1,I (M i).2.1,I (M i).2.2.1,I (M i).2.2.2.1,I (M i).2.2.2.2.1,I (M i).2.2.2.2.2],.agg #[I (tg L i).1,I (tg L i).2.1,I (tg L i).2.2]] V (.agg #[I (mvP L M i).1,I (mvP L M i).2.1,I (mvP L M i).2.2])):=fun V=>Yh (M i) (tg L i) V (HD.out.2.2.1 i h1) (by rw [← am];exact HD.out.2.2.2.2.2.2 _ (Lm co));have zm:=Bt m0;have zt:=Bt t0;obtain ⟨mi,ds⟩:∃ mi,mi=M i:=⟨_,rfl⟩;obtain ⟨ti,bb⟩:∃ ti,ti=tg L i:=⟨_,rfl⟩;obtain ⟨pi,dv⟩:∃ pi,pi=mvP L M i:=⟨_,rfl⟩;rw [← ds] at m0 m1 m2 m3 m4 m5;rw [← bb] at t0 t1 t2;rw [← ds,← bb,← dv] at HC;obtain ⟨A0,A1,A2,A3,A4,A5⟩:=mi;obtain ⟨T0,T1,T2⟩:=ti;obtain ⟨C,D,E⟩:=pi;dsimp only at m0 m1 m2 m3 m4 m5 t0 t1 t2;have dd:=H2 dv bb;clear ds bb dv am co;go_upto_region 6 with fail
   go_cut [10] (fun hn wx=>∃ A:Nat,hn=.pointer (Az A)∧At wx A 0 (I C)∧At wx A 1 (I D)∧At wx A 2 (I E)∧wr.heap.size≤A∧Bl wr wx)
   case first =>
    go_region_held3 (fun w'=>At w' gm (i*6) (I A0)∧At w' gm (i*6+1) (I A1)∧At w' gm (i*6+2) (I A2)∧At w' gm (i*6+3) (I A3)∧At w' gm (i*6+4) (I A4)∧At w' gm (i*6+5) (I A5)∧At w' g7 (i*3) (I T0)∧At w' g7 (i*3+1) (I T1)∧At w' g7 (i*3+2) (I T2))
     ((refine ⟨?_, ?_, ?_, ?_, ?_, ?_, ?_, ?_, ?_⟩ <;> (with_reducible repeat (first | assumption | refine Qk ?_ | refine Qq ?_ | refine Qa cy ?_ | refine Qo ?_ θ))))
     (first | (go_at_call 54;refine (HC.out _).mono ?_;rintro e w8 ⟨rfl,aq⟩;have cy:Bl wr w8:=Qc γ1 aq;have he:=cy.size;(first | (refine box3k aq ?_;rintro ⟨b0,b1,b2,k0,k1,k2⟩;have ij:=Bt b0) | skip)))
    all_goals
     go_wp2;go_meet
     case rel =>
      first
      | exact ⟨_,rfl,δ,δ,δ,he,Qb cy⟩
      | exact ⟨_,rfl,by simp [go_sem,b0],by simp [go_sem,b1],by simp [go_sem,b2],Nr _,Qh (Qh (Qh cy (Nr _)) (Nr _)) (Nr _)⟩
   case rest =>
    obtain ⟨A,rfl,a0,a1,a2,hA,ey⟩:=hcut;obtain ⟨wA,gx⟩:∃ x,x=wc:=⟨_,rfl⟩;subst gx;obtain ⟨S,dh⟩:∃ S,S=hpN (mvP L M) (hvs hs) i:=⟨_,rfl⟩;have ah:=HS.out.kept ey;rw [← dh] at ah;obtain ⟨av,cv,hv⟩:=own_any ah.own;obtain ⟨r,hr⟩:∃ r,r=R.length:=⟨_,rfl⟩;subst hv;rw [← hr] at ah;have ag:=Hd ah;have Q:Hid (r=R.length∧r=S.length∧S=hpN (mvP L M) (hvs hs) i):=⟨hr,by rw [hr,ah.len];simp [trS],dh⟩;have HA:Hid (w4.heap.size≤B∧B<A∧∀ g,(Value.slice av R.length cv).ownBlock=some g→g≠A):=⟨ah.low,by have:=HS.out.lt;omega,fun g e=>by have:=(HS.out.own.lt g e).2;omega⟩
    have ih:r≤300:=by
     have:=hpN_len (mvP L M) (hvs hs) i;have e1:=Q.out.2.1;rw [Q.out.2.2] at e1;omega
    rw [← Q.out.1] at HA;clear HS ey hA m0 m1 m2 m3 m4 m5 t0 t1 t2 HC zm zt dh ah hr;go_upto_block 2 with fail
    go_cut [11] (fun cf wx=>∃ k:Nat,cf=I (k:Int)∧k≤r∧Found S (C,D,E) k∧Bl wA wx)
    case first =>
     go_wp2;go_loopg [11] r (fun gk cf wx=>∃ k:Nat,k≤r∧gk=r - k∧cf=I (k:Int)∧Past S (C,D,E) k∧Bl wA wx)
     case atStart=>exact ⟨0,γ,rfl,rfl,fun j hj h=>by omega,Qe _⟩
     case round =>
      obtain ⟨k,hk,rfl,rfl,fv,a8⟩:=hrel;have O:=H2 fv a8;have q5:At wr B 5 (.slice av r cv):=Qa a8 ag.out.c5;have b0:=Qa a8 a0;have b1:=Qa a8 a1;have b2:=Qa a8 a2;have zB:=Bt q5;have zA:=Bt b0;clear fv a8;by_cases h2:k<r
      ·have k1:(k:Int)<(r:Int):=γ;have k0:(0:Int)≤(k:Int):=γ;obtain ⟨P,dk⟩:=Gw ag.out.own (by rw [← Q.out.1];omega);subst dk;obtain ⟨s0,s1,s2,s3⟩:=ag.out.cells Q.out.1 (Q.out.1 ▸ h2:k<R.length);replace s0:=Qa O.out.2 s0;replace s1:=Qa O.out.2 s1;replace s2:=Qa O.out.2 s2;have be:k<S.length:=by rw [← Q.out.2.1];exact h2
       have au:R[k]'(Q.out.1 ▸ h2)=(S[k].1,(R[k]'(Q.out.1 ▸ h2)).2):=by
        have e:=(ag.out.hold k (Q.out.1 ▸ h2) (by simpa [trS] using be)).1;simp [trS] at e;rw [← e]
       rw [au] at s0 s1 s2;obtain ⟨q,ak⟩:∃ q,q=S[k].1:=⟨_,rfl⟩;rw [← ak] at s0 s1 s2;obtain ⟨Q0,Q1,Q2⟩:=q;dsimp only at s0 s1 s2;have HQ:=H2 ak be;have zv:=Bt s0;clear ak au s3;by_cases hl:ltB (Q0,Q1,Q2) (C,D,E)=true
       ·have db:Hid (∀ V:World,Rt 52 #[.agg #[I Q0,I Q1,I Q2],.agg #[I C,I D,I E]] V (.bool true)):=fun V=>by
         have:=Vv Q0 Q1 Q2 C D E V;rw [hl] at this;exact this
        obtain ⟨kc,kn⟩:=kcn wr;go_upto_region 8 with fail
        refine wk ?_;repeat (go_big_quiet_step ((go_at_call 52;exact Qf (db.out _))))
        refine kq1 (fun wq hq=>?_);clear kc kn;clear s0 s1 s2 b0 b1 b2 q5;go_wp2;go_roundg (r - (k+1))
        case measure=>omega
        case rel=>exact ⟨k+1,γ,rfl,σ,past_next O.out.1 HQ.out.2 (by rw [← HQ.out.1];exact hl),Qc O.out.2 hq⟩
       ·have bz:ltB (Q0,Q1,Q2) (C,D,E)=false:=by simpa using hl
        have db:Hid (∀ V:World,Rt 52 #[.agg #[I Q0,I Q1,I Q2],.agg #[I C,I D,I E]] V (.bool false)):=fun V=>by
         have:=Vv Q0 Q1 Q2 C D E V;rw [bz] at this;exact this
        obtain ⟨kc,kn⟩:=kcn wr;go_upto_region 8 with fail
        refine wk ?_;repeat (go_big_quiet_step ((go_at_call 52;exact Qf (db.out _))))
        refine kq1 (fun wq hq=>?_);clear kc kn;clear s0 s1 s2 b0 b1 b2 q5;go_wp2;go_meet
        case rel=>exact ⟨k,rfl,hk,⟨O.out.1,fun _=>by rw [← HQ.out.1];exact bz⟩,Qc O.out.2 hq⟩
      ·have k1:¬ (k:Int)<(r:Int):=γ;obtain ⟨kc,kn⟩:=kcn wr;go_upto_region 8 with fail
       refine wk ?_;repeat (go_big_quiet_step (fail))
       refine kq1 (fun wq hq=>?_);clear kc kn;clear b0 b1 b2 q5;go_wp2;go_meet
       case rel=>exact ⟨k,rfl,hk,⟨O.out.1,fun h=>absurd h (by rw [← Q.out.2.1];exact h2)⟩,Qc O.out.2 hq⟩
    case rest =>
     obtain ⟨k,rfl,hk,hF,a8⟩:=hcut;obtain ⟨wB,gy⟩:∃ x,x=wc:=⟨_,rfl⟩;subst gy;have O:=H2 hF a8;have q5:At wB B 5 (.slice av r cv):=Qa a8 ag.out.c5;have b0:=Qa a8 a0;have b1:=Qa a8 a1;have b2:=Qa a8 a2;have zB:=Bt q5;have zA:=Bt b0;clear hF a8 a0 a1 a2;obtain ⟨nb,fq⟩:∃ nb:Bool,nb=decide (¬ ∃ h:k<S.length,S[k].1=(C,D,E)):=⟨_,rfl⟩;have bc:=Hd fq;clear fq;go_upto_region 10 with fail
     go_cut [69] (fun hw wx=>hw=.bool nb∧Bl wB wx)
     case first =>
      by_cases h2:k<r
      ·have k1:(k:Int)<(r:Int):=γ;have k2:decide ((k:Int)=(r:Int))=false:=decide_eq_false γ;have k3:decide (k=r)=false:=decide_eq_false γ;have k6:((k:Int) == (r:Int))=false:=by simpa using k2
       have k7:(k == r)=false:=by simpa using k3
       have k0:(0:Int)≤(k:Int):=γ;obtain ⟨P,dk⟩:=Gw ag.out.own (by rw [← Q.out.1];omega);subst dk;obtain ⟨s0,s1,s2,s3⟩:=ag.out.cells Q.out.1 (Q.out.1 ▸ h2:k<R.length);replace s0:=Qa O.out.2 s0;replace s1:=Qa O.out.2 s1;replace s2:=Qa O.out.2 s2;have be:k<S.length:=by rw [← Q.out.2.1];exact h2
       have au:R[k]'(Q.out.1 ▸ h2)=(S[k].1,(R[k]'(Q.out.1 ▸ h2)).2):=by
        have e:=(ag.out.hold k (Q.out.1 ▸ h2) (by simpa [trS] using be)).1;simp [trS] at e;rw [← e]
       rw [au] at s0 s1 s2;obtain ⟨q,ak⟩:∃ q,q=S[k].1:=⟨_,rfl⟩;rw [← ak] at s0 s1 s2;obtain ⟨Q0,Q1,Q2⟩:=q;dsimp only at s0 s1 s2;have HQ:=H2 ak be;have zv:=Bt s0;have dt:=neq85 Q0 Q1 Q2 C D E
       have HE:Hid ((!sameT Q0 Q1 Q2 C D E)=nb):=by
        have:(!sameT Q0 Q1 Q2 C D E)=nb:=by
         rw [bc.out];by_cases e:S[k].1=(C,D,E)
         ·have e2:∃ h:k<S.length,S[k].1=(C,D,E):=⟨be,e⟩;rw [decide_eq_false (fun q=>q e2)];rw [← ak] at e;simp at e;simp [sameT,e]
         ·have e2:¬ ∃ h:k<S.length,S[k].1=(C,D,E):=fun ⟨_,q⟩=>e q;rw [decide_eq_true e2];rw [← ak] at e;simp at e;simp [sameT]
          exact Classical.byContradiction fun q=>by
           simp only [not_or,Classical.not_not] at q;exact e q.1 q.2.1 q.2.2
        exact this
       obtain ⟨sb,fw⟩:∃ sb,sb = !sameT Q0 Q1 Q2 C D E:=⟨_,rfl⟩;rw [← fw] at dt HE;clear ak au s3 fw;obtain ⟨kc,kn⟩:=kcn wB;refine wk ?_;repeat (go_big_quiet_step (fail))
       refine kq1 (fun wq hq=>?_);clear kc kn;clear s0 s1 s2 b0 b1 b2 q5;go_wp2;go_meet
       case rel =>
        refine ⟨?_,hq⟩;rw [← HE.out]
      ·have k1:¬ (k:Int)<(r:Int):=γ;obtain rfl:k=r:=γ
       have HE:Hid (nb=true):=by
        have:nb=true:=by
         rw [bc.out,decide_eq_true_eq];rintro ⟨h,_⟩;rw [← Q.out.2.1] at h;exact h2 h
        exact this
       obtain ⟨kc,kn⟩:=kcn wB;refine wk ?_;repeat (go_big_quiet_step (fail))
       refine kq1 (fun wq hq=>?_);clear kc kn;clear b0 b1 b2 q5;go_wp2;go_meet
       case rel =>
        refine ⟨?_,hq⟩;rw [HE.out]
     case rest =>
      obtain ⟨rfl,bq⟩:=hcut;obtain ⟨wC,gz⟩:∃ x,x=wc:=⟨_,rfl⟩;subst gz;have ap:=Hd (ag.out.kept (Qc O.out.2 bq));have q5:At wC B 5 (.slice av r cv):=ap.out.c5;have f5:Fn wC B 5:=ap.out.f5;replace b0:=Qa bq b0;replace b1:=Qa bq b1;replace b2:=Qa bq b2;replace zB:B<wC.heap.size:=bk q5;replace zA:A<wC.heap.size:=bk b0;have HF:=Hd O.out.1;clear O ag bq;go_upto_if 69 with fail
      go_cut [11] (fun cf wx=>cf=I (k:Int)∧∃ v' R',HSt w4 wx B (I (W:Int)) (I (H:Int)) (.slice a' m T) (.slice b' n U) (.slice (Az g') G c') v' R' (trS L (withP S (C,D,E) k))∧CapsOk R')
      case first =>
       cases nb
       ·have HE:Hid (withP S (C,D,E) k=S):=by
         have:withP S (C,D,E) k=S:=by
          have e:=bc.out;unfold withP;rw [← e];rfl
         exact this
        go_wp2;go_meet
        case rel=>exact ⟨rfl,_,_,by rw [HE.out];exact ap.out,ec.out⟩
       ·have HE:Hid (withP S (C,D,E) k=S.take k ++ ((C,D,E),[]) :: S.drop k):=by
         have:withP S (C,D,E) k=S.take k ++ ((C,D,E),[]) :: S.drop k:=by
          have e:=bc.out;unfold withP;rw [← e];rfl
         exact this
        clear bc;have ed:Hid (∀ b,b<B+1→some b≠(Value.slice av r cv).ownBlock):=fun b hb e=>by have:=(ap.out.own.lt b e.symm).1;omega
        go_wp2_with (at_builtin;refine wpList_append_lies _ rfl (.tmp 71) (.tmp 73) 27 rfl (B+1) 107 hf (.agg #[I 0,I 0,I 0,SN]) 4 48 Tryz.underlying27 b7.out.1 b7.out.2.1 b7.out.2.2.1 b7.out.2.2.2 rfl ψ (.slice av r cv) r (rowS R) rfl (Qj (Q.out.1 ▸ ap.out.own) β1) ⟨wC.heap.size,0,none⟩ 1 1 [I 0,I 0,I 0,SN] rfl rfl (cell_fourH _ _ _ _ _ _) (four_oneH _ _ _ _ _ _) ψ Ξ γ ω (wC.heap.size+1) ξ ?grow)
        case grow =>
         intro Z Y W3 az d bp bg;have eo:=(ap.out.kept β1).more (v':=.slice (Az Z) (r+1) Y) d (by rw [← Q.out.1];exact az) (bp.imp (fun e=>e.symm) (fun e=>by rw [e];simp [Value.ownBlock]))
         have fe:Z≠A:=by
          rcases bp with e | e
          ·exact HA.out.2.2 _ e
          ·omega
         have ff:Z≠B:=by
          have:=(az.lt Z rfl).1;omega
         have cu:some A≠(Value.slice av r cv).ownBlock:=fun e=>HA.out.2.2 A e.symm rfl;have q6:At W3 B 5 (.slice av r cv):=d.cell (Qk q5) (ed.out B γ);have i4:B<(wC.alloc (.cells #[I 0,I 0,I 0,SN] 107)).heap.size:=by rw [World.size_alloc];omega
         have f6:Fn W3 B 5:=(Fo (a:=⟨B,5,none⟩) (d.block B i4 (ed.out B γ))).trans ((Below.frozen (Qb (Qe wC)) zB).trans f5);have c0:At W3 A 0 (I C):=d.cell (Qk b0) cu;have c1:At W3 A 1 (I D):=d.cell (Qk b1) cu;have c2:At W3 A 2 (I E):=d.cell (Qk b2) cu;have HG:Hid (Z≠A∧Z≠B∧A≠B):=⟨fe,ff,by have:=HA.out.2.1;omega⟩;have zW:=Bt q6;clear az d bp bg fe ff cu q5 f5 b0 b1 b2;go_upto_region 12 with fail
         refine Qi (fun W5 aa=>?_)
         have X:Hid (ShiftS w4 W5 B r (.slice (Az Z) (r+1) Y) R (trS L S) A C D E (I (W:Int)) (I (H:Int)) (.slice a' m T) (.slice b' n U) (.slice (Az g') G c') r):=by
          have er:=aa;subst er;refine ⟨((0,0,0),SN),((0,0,0),[]), ?_,Qo c0 (by have:=HG.out.2.2;exact this),Qo c1 (by have:=HG.out.2.2;exact this),Qo c2 (by have:=HG.out.2.2;exact this)⟩;have e1:=Qam R ((0,0,0),SN);have e2:=Qam (trS L S) ((0,0,0),[]);rw [← Q.out.1] at e1;have e3:(trS L S).length=r:=by rw [Q.out.2.1];simp [trS]
          rw [e3] at e2;rw [← e1,← e2];exact eo
         clear aa eo q6 f6 c0 c1 c2 zW ap
         have q7:At W5 B 5 (.slice (Az Z) (r+1) Y):=by
          obtain ⟨_,_,h,_⟩:=X.out;exact h.c5
         go_wp2;go_loopg [12] (r - k) (fun gk ht wx=>∃ j:Nat,k≤j∧j≤r∧gk=j - k∧ht=I (j:Int)∧ShiftS w4 wx B r (.slice (Az Z) (r+1) Y) R (trS L S) A C D E (I (W:Int)) (I (H:Int)) (.slice a' m T) (.slice b' n U) (.slice (Az g') G c') j)
         case atStart=>exact ⟨r,hk,Nr _,rfl,σ,X.out⟩
         case round =>
          clear X q7;obtain ⟨j,id,ic,rfl,rfl,y,z,hX,e0,e1,e2⟩:=hrel;have q7:At wr B 5 (.slice (Az Z) (r+1) Y):=hX.c5;have iw:=Bt q7;have iv:=Bt e0;have i8:R.length=r:=Q.out.1.symm;have i9:(trS L S).length=r:=by rw [Q.out.2.1];simp [trS]
          by_cases hj:k<j
          ·obtain ⟨f,rfl⟩:∃ f,j=f+1:=⟨j - 1,γ⟩;have ai:r+1=(R.take (f+1) ++ y :: R.drop (f+1)).length:=ω;have dw:r+1=((trS L S).take (f+1) ++ z :: (trS L S).drop (f+1)).length:=ω;have dp:f+1≤R.length:=γ;have fi:f+1≤(trS L S).length:=γ
           have eR:(R.take (f+1) ++ y :: R.drop (f+1))[f]'γ=R[f]:=by
            have:=Kk R y f dp;rw [List.getElem?_eq_getElem γ] at this;exact Option.some.inj this
           have eT:((trS L S).take (f+1) ++ z :: (trS L S).drop (f+1))[f]'γ=(trS L S)[f]:=by
            have:=Kk (trS L S) z f fi;rw [List.getElem?_eq_getElem γ] at this;exact Option.some.inj this
           obtain ⟨s0,s1,s2,s3⟩:=hX.cells ai (k:=f) γ;obtain ⟨d0,d1,d2,d3⟩:=hX.cells ai (k:=f+1) γ
           have eY:(R.take (f+1) ++ y :: R.drop (f+1))[f+1]'γ=y:=by
            rw [List.getElem_append_right ω];simp [Nat.min_eq_left dp]
           rw [eY] at d0 d1 d2 d3;have br:=hX.hold f γ γ;have a6:=hX.apart _ (Lm (l:=R.take (f+1) ++ y :: R.drop (f+1)) (n:=f) γ);rw [eR] at s0 s1 s2 s3 br a6;rw [eT] at br;have ce:=shift_step R y f dp;have fy:=shift_step (trS L S) z f fi;obtain ⟨x,hx⟩:∃ x,x=R[f]:=⟨_,rfl⟩;rw [← hx] at s0 s1 s2 s3 br a6 ce;obtain ⟨⟨X0,X1,X2⟩,u⟩:=x;dsimp only at s0 s1 s2 s3 br a6;obtain ⟨g4,ua,uc,rfl,aw⟩:=br;obtain ⟨K,aj⟩:∃ K,K=((trS L S)[f]).2.length:=⟨_,rfl⟩;rw [← aj] at s3 ce a6
           have HP:Hid (ShiftS w4 ((((wr.drew.setCell ⟨Z,(f+1)*4,none⟩ (I X0)).setCell ⟨Z,(f+1)*4+1,none⟩ (I X1)).setCell ⟨Z,(f+1)*4+2,none⟩ (I X2)).setCell ⟨Z,(f+1)*4+3,none⟩ (.slice ua K uc)) B r (.slice (Az Z) (r+1) Y) R (trS L S) A C D E (I (W:Int)) (I (H:Int)) (.slice a' m T) (.slice b' n U) (.slice (Az g') G c') f):=by
            have hp:=(hX.kept (Qg (Qe _))).put4 ai (i:=f+1) γ (X0,X1,X2) (.slice ua K uc) ((trS L S)[f]).2 (fun g e=>⟨(a6 g e).1,(a6 g e).2.1,fun e9=>(a6 g e).2.2 (by rw [e9];rfl)⟩) (by rw [aj];exact ⟨ua,uc,rfl,aw.kept (Qg (Qe _))⟩);rw [ce] at hp;have gw:((X0,X1,X2),((trS L S)[f]).2)=(trS L S)[f]:=by rw [g4]
            rw [gw,fy] at hp;have na:A≠Z:=fun e9=>HG.out.1 e9.symm;exact ⟨_,_,hp,Qo (Qo (Qo (Qo e0 na) na) na) na,Qo (Qo (Qo (Qo e1 na) na) na) na,Qo (Qo (Qo (Qo e2 na) na) na) na⟩
           have g0:=hX.own;rw [← ai] at g0;have k0:=g0.frozenAt ((f+1)*4);have k1:=g0.frozenAt ((f+1)*4+1);have k2:=g0.frozenAt ((f+1)*4+2);have k3:=g0.frozenAt ((f+1)*4+3);have zq:=Bt s0;have jk:(k:Int)<(f:Int)+1:=γ;have jr:(f:Int)+1<(r:Int)+1:=γ;have ip:(f:Int)<(r:Int)+1:=γ;have j0:(0:Int)≤(f:Int):=γ;have j1:(0:Int)≤(f:Int)+1:=γ;have jm:(f:Int)≤300:=γ;have ia:Z≠B:=HG.out.2.1
           have iq:IntKind.i64.wrap ((f:Int)+1 - 1)=(f:Int):=by
            have e9:(f:Int)+1 - 1=(f:Int):=γ;rw [e9];exact Uo γ
           have ir:IntKind.i64.wrap (((f+1:Nat):Int) - 1)=(f:Int):=by
            have e9:((f+1:Nat):Int) - 1=(f:Int):=γ;rw [e9];exact Uo γ
           have iu:IntKind.i64.wrap (f:Int)=(f:Int):=Uo γ;have il:((f+1:Nat):Int)<((r+1:Nat):Int):=γ;have im:(f:Int)<((r+1:Nat):Int):=γ;have io:(0:Int)≤((f+1:Nat):Int):=γ;clear g4 aw aj hx ce fy a6 hX g0 eR eT eY ai dw e0 e1 e2;obtain ⟨⟨Y0,Y1,Y2⟩,yv⟩:=y;dsimp only at d0 d1 d2 d3;go_upto_region 15 with fail
           go_region_held3 (fun w'=>At w' B 5 (.slice (Az Z) (r+1) Y)∧At w' Z (f*4) (I X0)∧At w' Z (f*4+1) (I X1)∧At w' Z (f*4+2) (I X2)∧At w' Z (f*4+3) (.slice ua K uc))
            ((refine ⟨?_, ?_, ?_, ?_, ?_⟩ <;> (with_reducible repeat (first | assumption | refine Qq ?_ | refine Qn ?_ γ | refine Qo ?_ θ))))
            (fail)
           all_goals
            go_wp2;go_roundg (f - k)
            case measure=>omega
            case rel=>exact ⟨f,γ,γ,rfl,σ,HP.out⟩
          ·obtain rfl:k=j:=γ;have ai:r+1=(R.take k ++ y :: R.drop k).length:=ω;have dw:r+1=((trS L S).take k ++ z :: (trS L S).drop k).length:=ω;obtain ⟨d0,d1,d2,d3⟩:=hX.cells ai (k:=k) γ
           have eY:(R.take k ++ y :: R.drop k)[k]'γ=y:=by
            rw [List.getElem_append_right ω];simp [Nat.min_eq_left (by omega:k≤R.length)]
           rw [eY] at d0 d1 d2 d3
           have HP:Hid (HSt w4 ((((wr.setCell ⟨Z,k*4,none⟩ (I C)).setCell ⟨Z,k*4+1,none⟩ (I D)).setCell ⟨Z,k*4+2,none⟩ (I E)).setCell ⟨Z,k*4+3,none⟩ SN) B (I (W:Int)) (I (H:Int)) (.slice a' m T) (.slice b' n U) (.slice (Az g') G c') (.slice (Az Z) (r+1) Y) (R.take k ++ ((C,D,E),SN) :: R.drop k) (trS L (withP S (C,D,E) k))):=by
            have hp:=hX.put4 ai (i:=k) γ (C,D,E) SN [] (fun g e=>by simp [Value.ownBlock] at e) ⟨none,0,rfl,fun i hi=>by simp at hi⟩;rw [Gt R ((C,D,E),SN) y k γ,Gt (trS L S) ((C,D,E),[]) z k γ] at hp
            have ew:trS L (withP S (C,D,E) k)=(trS L S).take k ++ ((C,D,E),[]) :: (trS L S).drop k:=by
             rw [HE.out];simp [trS]
            rw [ew];exact hp
           have g0:=hX.own;rw [← ai] at g0;have k0:=g0.frozenAt (k*4);have k1:=g0.frozenAt (k*4+1);have k2:=g0.frozenAt (k*4+2);have k3:=g0.frozenAt (k*4+3);have jk:¬ (k:Int)<(k:Int):=γ;have jr:(k:Int)<(r:Int)+1:=γ;have jc:(k:Int)<((r+1:Nat):Int):=γ;have j0:(0:Int)≤(k:Int):=γ;clear hX g0 eY ai dw;obtain ⟨⟨Y0,Y1,Y2⟩,yv⟩:=y;dsimp only at d0 d1 d2 d3;go_wp2;go_meet
           case rel=>exact ⟨rfl,_,_,HP.out,caps_put ec.out _ k⟩
      case rest =>
       obtain ⟨rfl,v1,R1,af,di⟩:=hcut;obtain ⟨wD,h8⟩:∃ x,x=wc:=⟨_,rfl⟩;subst h8;clear ap q5 f5 b0 b1 b2 zB zA bc HA;obtain ⟨bw,dg,cp,ba,cr⟩:=withP_at (hvs hs) i HF.out (by rw [← Q.out.2.1];exact hk);obtain ⟨S1,ah⟩:∃ S1,S1=withP S (C,D,E) k:=⟨_,rfl⟩;simp only [← ah] at bw dg cp ba cr af;have ar:k<R1.length:=by rw [af.len];simpa [trS] using bw
       have au:R1.length=S1.length:=by rw [af.len];simp [trS]
       obtain ⟨P,ae,rfl⟩:=Yw af.own γ;obtain ⟨s0,s1,s2,s3⟩:=af.cells rfl ar;obtain ⟨e4,ua,uc,b6,aw⟩:=af.hold k ar (by simpa [trS] using bw);have bz:(trS L S1)[k]'(by simpa [trS] using bw)=(S1[k].1,S1[k].2.map (tg L)):=by simp [trS]
       rw [bz] at e4 b6 aw;obtain ⟨l,hl⟩:∃ l,l=S1[k].2:=⟨_,rfl⟩;simp only [← hl] at b6 aw cp ba cr;have fk:(l.map (tg L)).length=l.length:=ξ;rw [fk] at b6;rw [b6] at s3
       have bg:∀ j∈l,j<i:=fun j hj=>by
        obtain ⟨s,bo,df⟩:=cp j hj;rw [Q.out.2.2] at bo;exact hpN_lt _ _ i s bo j df
       have a6:=af.apart _ (Lm ar);rw [b6] at a6;obtain ⟨K,aj⟩:∃ K,K=l.length:=⟨_,rfl⟩;obtain ⟨r1,cd⟩:∃ r1,r1=R1.length:=⟨_,rfl⟩;rw [← aj] at s3 a6;rw [← cd] at af;have ef:=Hd af;have F:=H6 cd ar aj aw bg ba;have gi:Hid (R1[k].1=(C,D,E)∧∀ g,(Value.slice ua K uc).ownBlock=some g→B<g∧g<wD.heap.size∧(Value.slice (Az P) R1.length ae).ownBlock≠some g):=⟨e4.trans dg,a6⟩;have ii:K≤uc:=di _ (Lm ar) ua K uc (by rw [b6,aj]);have gg:=Hd di;clear di;have q5:At wD B 5 (.slice (Az P) r1 ae):=af.c5;have kr:(k:Int)<(r1:Int):=γ;have k0:(0:Int)≤(k:Int):=γ
       have i7:K≤300:=by
        rcases cr with e | ⟨s,bo,df⟩
        ·rw [aj,e];simp
        ·rw [Q.out.2.2] at bo;have:=hpN_lens _ _ i s bo;rw [aj,df];omega
       clear bw dg cp ba cr af e4 b6 aw bz hl fk bg a6 aj cd s0 s1 s2 ah au;go_upto_block 6 with fail
       go_cut [14] (fun e5 wx=>∃ p:Nat,e5=I (p:Int)∧p≤K∧Spot (hvs hs) i l p∧Bl wD wx)
       case first =>
        go_wp2;go_loopg [14] K (fun gk e5 wx=>∃ p:Nat,p≤K∧gk=K - p∧e5=I (p:Int)∧LowN (hvs hs) i l p∧Bl wD wx)
        case atStart=>exact ⟨0,γ,rfl,rfl,fun j hj h=>by omega,Qe _⟩
        case round =>
         obtain ⟨p,hp,rfl,rfl,fl,ay⟩:=hrel;have ao:=H2 fl ay;clear fl ay q5 s3;by_cases h2:p<K
         ·have p1:(p:Int)<(K:Int):=γ;have p0:(0:Int)≤(p:Int):=γ;have cx:p<l.length:=by rw [← F.out.2.2.1];exact h2
          obtain ⟨gu,eu,t0,t1,t2⟩:=(F.out.2.2.2.1.kept ao.out.2) p (by simpa using cx);subst eu;have fp:(l.map (tg L))[p]'(by simpa using cx)=tg L l[p]:=ξ;rw [fp] at t0 t1 t2;obtain ⟨nm,cw⟩:∃ nm,nm=l[p]:=⟨_,rfl⟩;rw [← cw] at t0 t1 t2;have ie:nm<i:=by rw [cw];exact F.out.2.2.2.2.1 _ (Lm cx)
          have ca:nm<L.length:=by rw [← HD.out.1];omega
          have du:plc L (tg L nm)=(nm:Int):=Gv ca (by unfold tg;rw [List.getD_eq_getElem?_getD,List.getElem?_eq_getElem ca];rfl) (fun j hj ib e9=>by
           have e8:tg L nm=L[nm]:=by unfold tg;rw [List.getD_eq_getElem?_getD,List.getElem?_eq_getElem ca];rfl
           rw [e8] at e9;have:=Ys HD.out.2.2.2.2.2.1 hj ca e9;omega)
          have cn:Bl w4 wr:=Qc ef.out.bel ao.out.2;obtain ⟨ti,am⟩:∃ ti,ti=tg L nm:=⟨_,rfl⟩;rw [← am] at t0 t1 t2 du;obtain ⟨U0,U1,U2⟩:=ti;dsimp only at t0 t1 t2
          have ea:Hid (∀ V:World,Bl wr V→Rt 53 #[.slice (Az g7) G c7,.agg #[I U0,I U1,I U2]] V (I (nm:Int))):=fun V hV=>by
           have:=Xp (Az g7) c7 L U0 U1 U2 V (an.out.1.kept (Qc cn hV)) (by rw [← HD.out.1];exact fj);rw [du,← HD.out.1] at this;exact this
          have ct:=row_getH (an.out.2.2.2.1.kept cn) (i:=nm) (by rw [HD.out.2.2.2.2.1];omega);have dn:=row_getH (an.out.2.2.2.1.kept cn) (i:=i) (by rw [HD.out.2.2.2.2.1];omega);obtain ⟨hN,dm⟩:∃ x,x=hs.getD nm 0:=⟨_,rfl⟩;obtain ⟨hI,dl⟩:∃ x,x=hs.getD i 0:=⟨_,rfl⟩;rw [← dm] at ct;rw [← dl] at dn;have HH:Hid (hN=hvs hs l[p]∧hI=hvs hs i):=⟨by rw [dm,cw];rfl,dl⟩;have zu:=Bt t0;have zh:=Bt ct;have n1:(nm:Int)<(G:Int):=γ;have n0:(0:Int)≤(nm:Int):=γ;clear cw du am cn dm dl fp ca;by_cases hl:hN<hI
          ·have hd:decide (hN<hI)=true:=decide_eq_true hl;obtain ⟨kc,kn⟩:=kcn wr;go_upto_region 19 with fail
           refine wk ?_;repeat (go_big_quiet_step ((go_at_call 53;exact Qf (ea.out _ (Kin.h _)))))
           refine kq1 (fun wq hq=>?_);clear kc kn;clear t0 t1 t2 ct dn;go_wp2;go_roundg (K - (p+1))
           case measure=>omega
           case rel=>exact ⟨p+1,γ,rfl,σ,lowN_next ao.out.1 cx (by rw [← HH.out.1,← HH.out.2];exact hl),Qc ao.out.2 hq⟩
          ·have hd:decide (hN<hI)=false:=decide_eq_false hl;obtain ⟨kc,kn⟩:=kcn wr;go_upto_region 19 with fail
           refine wk ?_;repeat (go_big_quiet_step ((go_at_call 53;exact Qf (ea.out _ (Kin.h _)))))
           refine kq1 (fun wq hq=>?_);clear kc kn;clear t0 t1 t2 ct dn;go_wp2;go_meet
           case rel=>exact ⟨p,rfl,hp,⟨ao.out.1,fun _=>by rw [← HH.out.1,← HH.out.2];omega⟩,Qc ao.out.2 hq⟩
         ·have p1:¬ (p:Int)<(K:Int):=γ;obtain ⟨kc,kn⟩:=kcn wr;go_upto_region 19 with fail
          refine wk ?_;repeat (go_big_quiet_step (fail))
          refine kq1 (fun wq hq=>?_);clear kc kn;go_wp2;go_meet
          case rel=>exact ⟨p,rfl,hp,⟨ao.out.1,fun h=>absurd h (by rw [← F.out.2.2.1];exact h2)⟩,Qc ao.out.2 hq⟩
       case rest =>
        obtain ⟨p,rfl,hp,fx,ay⟩:=hcut;obtain ⟨wE,h9⟩:∃ x,x=wc:=⟨_,rfl⟩;subst h9;have X:=Hd (ef.out.kept ay);have bm:=H3 (F.out.2.2.2.1.kept ay) fx ay;clear fx ay q5 s3;have gt:=hp;have p0:(0:Int)≤(p:Int):=γ;have pu:(p:Int)≤(K:Int):=γ;have pc:(p:Int)≤(uc:Int):=γ;have uu:(K:Int)≤(uc:Int):=γ;go_upto_region 22 with fail
        go_cut [15] (fun e6 wx=>∃ v6:Value,v6=e6∧wx.ownsRow wE.heap.size 51 3 v6 p (flatV ((l.map (tg L)).take p))∧Bl wE wx)
        case first =>
         by_cases hu0:0<K
         ·obtain ⟨gu,eu,_⟩:=bm.out.1 0 (by rw [List.length_map,← F.out.2.2.1];exact hu0);subst eu;by_cases hp0:0<p
          ·go_wp2_with (at_builtin;refine wpList_append_grows _ rfl (.tmp 129) (.tmp 132) 55 rfl 51 bh (.agg #[I 0,I 0,I 0]) 3 24 Tryz.underlying55 o.out.1 o.out.2.1 o.out.2.2.1 o.out.2.2.2 rfl ψ none 0 0 [] rfl (fun _=>⟨rfl,rfl⟩) rfl (by intro _ h;simp at h) ⟨gu,0,none⟩ p uc (flatV ((l.map (tg L)).take p)) rfl (by rw [Xf,List.length_take,List.length_map,← F.out.2.2.1,Nat.min_eq_left hp]) (fun j u hu=>by rw [Gp,Nat.zero_add];exact trow_take bm.out.1 p j u hu) (Ue _) γ Ξ γ ?_;intro v' w6 J d;rw [Nat.zero_add,List.nil_append] at J;have eb:Hid (w6.ownsRow wE.heap.size 51 3 v' p (flatV ((l.map (tg L)).take p))∧Bl wE w6):=⟨J,(Below.refl _ _).grown d (Nr _) (fun k h=>by cases h)⟩;clear J d)
           go_meet
           case rel=>exact ⟨_,rfl,eb.out.1,eb.out.2⟩
          ·obtain rfl:p=0:=γ;go_wp2;go_meet
           case rel=>exact ⟨_,rfl,⟨by simp [flatV],Or.inl ⟨rfl,rfl⟩⟩,φ⟩
         ·obtain rfl:K=0:=γ;obtain rfl:p=0:=γ;have dx:ua=none∨∃ x,ua=some x:=by cases ua <;> simp
          rcases dx with rfl | ⟨x,rfl⟩
          ·go_wp2;go_meet
           case rel=>exact ⟨_,rfl,⟨by simp [flatV],Or.inl ⟨rfl,rfl⟩⟩,φ⟩
          ·go_wp2;go_meet
           case rel=>exact ⟨_,rfl,⟨by simp [flatV],Or.inl ⟨rfl,rfl⟩⟩,φ⟩
        case rest =>
         obtain ⟨v6,rfl,el,cl⟩:=hcut;obtain ⟨wF,ha⟩:∃ x,x=wc:=⟨_,rfl⟩;subst ha;have dc:=H2 el cl;have ik:=cl.size;have ez:Bl w4 wF:=Qc X.out.bel cl;obtain ⟨g9,e9,t0,t1,t2⟩:=(an.out.1.kept ez) i (by rw [← HD.out.1];exact h1)
         cases e9;have am:L[i]'(by rw [← HD.out.1];exact h1)=(T0,T1,T2):=by rw [dd.out.2];unfold tg;rw [List.getD_eq_getElem?_getD,List.getElem?_eq_getElem (by rw [← HD.out.1];exact h1)];rfl
         rw [am] at t0 t1 t2;dsimp only at t0 t1 t2;have zt:=Bt t0;clear el cl ez am;go_upto_region 23 with fail
         go_cut [15] (fun e6 wx=>∃ g8 c8:Nat,e6=.slice (Az g8) (p+1) c8∧wx.ownsRow wE.heap.size 51 3 (.slice (Az g8) (p+1) c8) (p+1) (flatV ((l.map (tg L)).take p ++ [(T0,T1,T2)]))∧Bl wE wx)
         case first =>
          go_wp2_with (at_builtin;refine wpList_append_lies _ rfl (.tmp 134) (.tmp 139) 55 rfl wE.heap.size 51 bh (.agg #[I 0,I 0,I 0]) 3 24 Tryz.underlying55 o.out.1 o.out.2.1 o.out.2.2.1 o.out.2.2.2 rfl ψ v6 p (flatV ((l.map (tg L)).take p)) rfl (Qj dc.out.1 β1) ⟨wF.heap.size,0,none⟩ 1 1 [I T0,I T1,I T2] rfl rfl (Xg _ _ _ _) (Ue [(T0,T1,T2)]) ψ Ξ γ ω (wF.heap.size+1) ξ ?grow)
          case grow =>
           intro g8 c8 w8 cc b9 es fm
           have ad:Hid (w8.ownsRow wE.heap.size 51 3 (.slice (Az g8) (p+1) c8) (p+1) (flatV ((l.map (tg L)).take p ++ [(T0,T1,T2)]))∧Bl wE w8):=by
            refine ⟨by rw [Xr];exact cc, ?_⟩;have fa:Bl wE (wF.alloc (.cells #[I T0,I T1,I T2] 51)):=Qc dc.out.2 β1;exact fa.grown b9 fa.size (fun q e=>(dc.out.1.lt q e).1)
           clear cc b9 es fm;go_wp2;go_meet
           case rel=>exact ⟨g8,c8,rfl,ad.out.1,ad.out.2⟩
         case rest =>
          obtain ⟨g8,c8,rfl,en,aq⟩:=hcut;obtain ⟨wG,hc⟩:∃ x,x=wc:=⟨_,rfl⟩;subst hc;have ad:=H2 en aq;have de:=Hd (X.out.kept aq);have eg:=Hd (bm.out.1.kept aq);have g5:=aq.size;have q5:At wG B 5 (.slice (Az P) r1 ae):=de.out.c5;obtain ⟨_,_,_,s3⟩:=de.out.cells F.out.1 ar;have g0:=de.out.own;rw [← F.out.1] at g0;have k3:=g0.frozenAt (k*4+3)
          have zv:P<wE.heap.size:=by
           have g1:=X.out.own;rw [← F.out.1] at g1;exact (g1.lt P rfl).2
          have zB:B<wE.heap.size:=X.out.lt;clear en aq t0 t1 t2 zt g0
          have ei:Hid (∀ (v9:Value) (wH:World),wH.ownsRow wE.heap.size 51 3 v9 (K+1) (flatV ((l.map (tg L)).take p ++ [(T0,T1,T2)] ++ (l.map (tg L)).drop p))→Bl wE wH→HSt w4 (wH.setCell ⟨P,k*4+3,none⟩ v9) B (I (W:Int)) (I (H:Int)) (.slice a' m T) (.slice b' n U) (.slice (Az g') G c') (.slice (Az P) r1 ae) (R1.set k ((C,D,E),v9)) (trS L (hpN (mvP L M) (hvs hs) (i+1)))∧CapsOk (R1.set k ((C,D,E),v9))):=fun v9 wH cj gn=>by
           have gj:((l.map (tg L)).take p ++ [(T0,T1,T2)] ++ (l.map (tg L)).drop p).length=K+1:=by
            rw [F.out.2.2.1];simp;have:=F.out.2.2.1;omega
           rw [← gj] at cj;obtain ⟨a9,c9,dy,ep⟩:=Xc cj;have hh:=X.out.kept gn;have ho:=hh.own;have ce:=ho;have cd:=F.out.1;subst cd;obtain ⟨o1,g1⟩:=ho.stored (k*4+3) v9;rw [rowS_set3 R1 k v9 ar,gi.out.1] at o1
           have hp:=hh.put ar g1 o1 (fun q e=>by
            have h5:=cj.lt q e
            have h6:P<wE.heap.size:=by
             have g1:=X.out.own;exact (g1.lt P rfl).2
            have h7:=X.out.lt;exact ⟨γ,h5.2,γ⟩) ⟨a9,c9,dy,ep⟩
           refine ⟨?_,fun x hx a n c e=>?_⟩
           ·have e1:trS L (hpN (mvP L M) (hvs hs) (i+1))=(trS L S1).set k ((C,D,E),(l.map (tg L)).take p ++ [(T0,T1,T2)] ++ (l.map (tg L)).drop p):=by
             have e2:hpN (mvP L M) (hvs hs) (i+1)=insS (hvs hs) i (C,D,E) S:=by rw [Q.out.2.2,dd.out.1];rfl
             rw [e2,F.out.2.2.2.2.2,insN_at l p (by rw [← F.out.2.2.1];exact gt) bm.out.2.1.1 bm.out.2.1.2];simp [trS,List.map_set,dd.out.2]
            rw [e1];exact hp
           ·rcases List.mem_or_eq_of_mem_set hx with hx | hx
            ·exact gg.out x hx a n c e
            ·subst hx;dsimp only at e;rcases cj.2 with ⟨h5,h6⟩ | ⟨_,_,_,h5,_,_,h6,_⟩
             ·rw [h5] at e
              cases e;omega
             ·rw [h5] at e
              cases e;exact h6
          by_cases hpu:p<K
          ·obtain ⟨gu,eu,_⟩:=eg.out 0 (by rw [List.length_map,← F.out.2.2.1];omega);subst eu;have gs:=ad.out.1.lt g8 rfl
           have nB:some B≠(Value.slice (Az g8) (p+1) c8).ownBlock:=fun e=>by
            simp [Value.ownBlock] at e;omega
           have nv:some P≠(Value.slice (Az g8) (p+1) c8).ownBlock:=fun e=>by
            simp [Value.ownBlock] at e;omega
           have ge:P<wG.heap.size:=γ;have g2:¬ uc=p:=γ
           have hm:B<P:=by
            have g1:=X.out.own;rw [← F.out.1] at g1;have:=(g1.lt P rfl).1;omega
           go_upto_region 24 with fail
           go_region_held3 (fun w'=>At w' B 5 (.slice (Az P) r1 ae))
            ((with_reducible repeat (first | assumption | refine Qq ?_ | refine Qo ?_ θ)))
            (first
             | (refine step_append_lies _ Ω (.tmp 144) (.tmp 147) 55 Ω wE.heap.size 51 bh (.agg #[I 0,I 0,I 0]) 3 24 Tryz.underlying55 o.out.1 o.out.2.1 o.out.2.2.1 o.out.2.2.2 rfl ψ (.slice (some ⟨g8,0,none⟩) (p+1) c8) (p+1) (flatV ((l.map (tg L)).take p ++ [(T0,T1,T2)])) Ω (Qj ad.out.1 (Qg (Qe _))) ⟨gu,p*3,none⟩ (K - p) (uc - p) (flatV ((l.map (tg L)).drop p)) Ω (by rw [Xf,List.length_drop,List.length_map,← F.out.2.2.1]) (fun j u hu=>by rw [Gp];exact trow_drop eg.out p j u hu) (Ue _) γ Ξ γ (by exact g5) wG.heap.size Ω ?_;intro ci c10 cg J d bp bg;have z5:At cg B 5 (.slice (some ⟨P,0,none⟩) r1 ae):=d.cell (Qq q5) nB;have z3:=d.cell (Qq s3) nv;have zk:Fn cg P (k*4+3):=(Fo (a:=⟨P,k*4+3,none⟩) (d.block P ge nv)).trans k3;have bj:Hid (cg.ownsRow wE.heap.size 51 3 (.slice (some ⟨ci,0,none⟩) (p+1+(K - p)) c10) (p+1+(K - p)) (flatV ((l.map (tg L)).take p ++ [(T0,T1,T2)]) ++ flatV ((l.map (tg L)).drop p))∧Bl wE cg):=⟨J,(Qc ad.out.2 (Qg (Qe _))).grown d (Nt g5 (Nr _)) (fun q e=>(ad.out.1.lt q e).1)⟩;clear J d bp bg))
           have ej:p+1+(K - p)=K+1:=γ
           all_goals
            rw [ej,← Xr] at bj;have O:Hid (HSt w4 (cg.setCell ⟨P,k*4+3,none⟩ (.slice (Az ci) (K+1) c10)) B (I (W:Int)) (I (H:Int)) (.slice a' m T) (.slice b' n U) (.slice (Az g') G c') (.slice (Az P) r1 ae) (R1.set k ((C,D,E),.slice (Az ci) (K+1) c10)) (trS L (hpN (mvP L M) (hvs hs) (i+1)))∧CapsOk (R1.set k ((C,D,E),.slice (Az ci) (K+1) c10))):=ei.out _ _ bj.out.1 bj.out.2;go_wp2;go_roundg (G - (i+1))
            case measure=>omega
            case rel=>exact ⟨i+1,_,_,γ,rfl,σ,by first | exact O.out.1 | (rw [ej];exact O.out.1),O.out.2⟩
          ·obtain rfl:p=K:=γ;have gp:(l.map (tg L)).drop p=[]:=List.drop_eq_nil_of_le (by rw [List.length_map,← F.out.2.2.1];exact Nr _)
           have O:Hid (∀ wq:World,wq=wG∨wq=wG.drew→HSt w4 (wq.setCell ⟨P,k*4+3,none⟩ (.slice (Az g8) (p+1) c8)) B (I (W:Int)) (I (H:Int)) (.slice a' m T) (.slice b' n U) (.slice (Az g') G c') (.slice (Az P) r1 ae) (R1.set k ((C,D,E),.slice (Az g8) (p+1) c8)) (trS L (hpN (mvP L M) (hvs hs) (i+1)))∧CapsOk (R1.set k ((C,D,E),.slice (Az g8) (p+1) c8))):=fun wq e=>by
            have hd:Bl wG wq:=by
             rcases e with rfl | rfl
             ·exact Qe _
             ·exact Qg (Qe _)
            refine ei.out _ wq ?_ (Qc ad.out.2 hd);rw [gp,List.append_nil];exact Qj ad.out.1 hd
           have dj:p+1≤c8:=by
            rcases ad.out.1.2 with ⟨e,_⟩ | ⟨_,_,_,e,_,_,h4,_⟩
            ·cases e
            ·cases e;exact h4
           have i5:(p:Int)+1≤(c8:Int):=γ;have gs:=ad.out.1.lt g8 rfl;have ge:P<wG.heap.size:=γ;have ig:p - p=0:=γ
           have hm:B<P:=by
            have g1:=X.out.own;rw [← F.out.1] at g1;have:=(g1.lt P rfl).1;omega
           have dx:ua=none∨∃ x,ua=some x:=by cases ua <;> simp
           rcases dx with rfl | ⟨x,rfl⟩
           ·go_upto_region 24 with fail
            go_region_held3 (fun w'=>At w' B 5 (.slice (Az P) r1 ae))
             ((with_reducible repeat (first | assumption | refine Qq ?_ | refine Qo ?_ θ)))
             (first | (refine Xt Ω (.tmp 144) (.tmp 147) 55 Ω 51 bh Tryz.underlying55 o.out.1 g8 (p+1) c8 dj _ _ Ω Ω ?_))
            all_goals
             go_wp2;go_roundg (G - (i+1))
             case measure=>omega
             case rel=>exact ⟨i+1,_,_,γ,rfl,σ,by first | (with_reducible exact (O.out wG (Or.inl rfl)).1.kept (Qg (Qe _))) | (with_reducible exact (O.out wG (Or.inl rfl)).1),(O.out wG (Or.inl rfl)).2⟩
           ·by_cases g2:uc=p
            ·go_upto_region 24 with fail
             go_region_held3 (fun w'=>At w' B 5 (.slice (Az P) r1 ae))
              ((with_reducible repeat (first | assumption | refine Qq ?_ | refine Qo ?_ θ)))
              (first | (refine Xt Ω (.tmp 144) (.tmp 147) 55 Ω 51 bh Tryz.underlying55 o.out.1 g8 (p+1) c8 dj _ _ Ω Ω ?_))
             all_goals
              go_wp2;go_roundg (G - (i+1))
              case measure=>omega
              case rel=>exact ⟨i+1,_,_,γ,rfl,σ,by first | (with_reducible exact (O.out wG (Or.inl rfl)).1.kept (Qg (Qe _))) | (with_reducible exact (O.out wG (Or.inl rfl)).1),(O.out wG (Or.inl rfl)).2⟩
            ·go_upto_region 24 with fail
             go_region_held3 (fun w'=>At w' B 5 (.slice (Az P) r1 ae))
              ((with_reducible repeat (first | assumption | refine Qq ?_ | refine Qo ?_ θ)))
              (first | (refine Xt Ω (.tmp 144) (.tmp 147) 55 Ω 51 bh Tryz.underlying55 o.out.1 g8 (p+1) c8 dj _ _ Ω Ω ?_))
             all_goals
              go_wp2;go_roundg (G - (i+1))
              case measure=>omega
              case rel=>exact ⟨i+1,_,_,γ,rfl,σ,by first | (with_reducible exact (O.out wG (Or.inl rfl)).1.kept (Qg (Qe _))) | (with_reducible exact (O.out wG (Or.inl rfl)).1),(O.out wG (Or.inl rfl)).2⟩
  ·have i1:¬ (i:Int)<(G:Int):=γ;obtain rfl:i=G:=γ;obtain ⟨t9,u9,dy,d7⟩:=HS.out.srowE (base:=w2.heap.size) (Nt N.out.2.2.2.2 HS.out.low);subst dy;have c0:=HS.out.c0;have c1:=HS.out.c1;have c2:=HS.out.c2;have c3:=HS.out.c3;have c4:=HS.out.c4;have c5:=HS.out.c5;obtain ⟨⟨b0,b1,b2,b3,b4,b5⟩,bf⟩:=eh.out.kept HS.out.bel;have k0:=bf 0;have k1:=bf 1;have k2:=bf 2;have k3:=bf 3;have k4:=bf 4;have k5:=bf 5;have zB:B<wr.heap.size:=HS.out.lt;have zb:w.heap.size+1<B:=Nl N.out.2.2.2.1 (Nt N.out.2.2.2.2 HS.out.low);have HE:=Hd d7;clear bf d7;go_wp2;refine bodyPost_ret (v:=.agg #[I (W:Int),I (H:Int),.slice a' m T,.slice b' n U,.slice (Az g') i c',.slice t9 (trS L (hpN (mvP L M) (hvs hs) i)).length u9]) (by simp [results,Tryz.results63,go_sem, *]) rfl ⟨a',T,b',U,g',c',t9,u9,rfl, ?_, ?_,⟨?_, ?_⟩, ?_, ?_⟩
   ·refine RowF.low (base:=w2.heap.size) ?_ (by have:=N.out.2.2.2.1;omega);with_reducible repeat (refine RowF.set ?_ (by dsimp only;exact N.out.2.2.2.1))
    exact N.out.1.kept HS.out.bel
   ·refine RowF.low (base:=w2.heap.size) ?_ (by have:=N.out.2.2.2.1;omega);with_reducible repeat (refine RowF.set ?_ (by dsimp only;exact N.out.2.2.2.1))
    exact N.out.2.1.kept HS.out.bel
   ·have dt:g'≠w.heap.size+1:=by
     have h1:=N.out.2.2.1;have h2:=N.out.2.2.2.1;omega
    with_reducible repeat (refine MRow.setE ?_ dt)
    exact an.out.2.1.kept HS.out.bel
   ·have h1:=N.out.2.2.1;have h2:=N.out.2.2.2.1;omega
   ·refine SRowE.low (base:=w2.heap.size) ?_ (by have:=N.out.2.2.2.1;omega);with_reducible repeat (refine SRowE.set ?_ (by dsimp only;exact N.out.2.2.2.1))
    exact HE.out
   ·with_reducible repeat (refine Qh ?_ ?_)
    all_goals first | exact Qc an.out.2.2.2.2.2.2.1 HS.out.bel | (dsimp only;omega)
end Go.Proofs.YtnpboeodhpenmaaGreatDoor
namespace Go.Proofs.YtnpboeodhpenmaaGreatDoor
open Go.RowKit Go.Shelf Go.ChangeMaps
def Gn (pl:List T3):Nat→Int×Int×Int→List Int
 | 0,_=>[]
 | i+1,e=>if e=pl.getD i (0,0,0) then Gn pl i (pl.getD i (0,0,0)) ++ [(i:Int)] else Gn pl i e
theorem Gn_len (pl:List T3):∀ i e,(Gn pl i e).length≤i
 | 0,e=>by simp [Gn]
 | i+1,e=>by
  unfold Gn;split
  ·rw [List.length_append,List.length_singleton];have:=Gn_len pl i (pl.getD i (0,0,0));omega
  ·have:=Gn_len pl i e;omega
theorem Gn_mem (pl:List T3) (e:T3):∀ i (k:Nat),(k:Int)∈Gn pl i e↔k<i∧pl.getD k (0,0,0)=e
 | 0,k=>by simp [Gn]
 | i+1,k=>by
  unfold Gn;by_cases q:e=pl.getD i (0,0,0)
  ·rw [if_pos q,← q,List.mem_append,Gn_mem pl e i k];constructor
   ·rintro (h | h)
    ·exact ⟨γ,h.2⟩
    ·simp at h;have:k=i:=γ;subst this;exact ⟨γ,q.symm⟩
   ·rintro ⟨h1,h2⟩;by_cases q2:k<i
    ·exact Or.inl ⟨q2,h2⟩
    ·have:k=i:=γ;subst this;exact Or.inr ξ
  ·rw [if_neg q,Gn_mem pl e i k];constructor
   ·rintro ⟨h1,h2⟩;exact ⟨γ,h2⟩
   ·rintro ⟨h1,h2⟩;refine ⟨?_,h2⟩;by_cases q2:k<i
    ·exact q2
    ·have:k=i:=γ;subst this;exact absurd h2.symm q
theorem Gn_nat (pl:List T3):∀ i e,∀ x∈Gn pl i e,∃ k:Nat,x=(k:Int)
 | 0,e,x,h=>by simp [Gn] at h
 | i+1,e,x,h=>by
  unfold Gn at h;split at h
  ·rcases List.mem_append.1 h with h | h
   ·exact Gn_nat pl i _ x h
   ·simp at h;exact ⟨i,h⟩
  ·exact Gn_nat pl i e x h
theorem sub_lenP {α:Type} [DecidableEq α]:∀ (l m:List α),l.Nodup→(∀ x∈l,x∈m)→l.length≤m.length
 | [],_,_,_=>by simp
 | x :: r,b,h,hs=>by
  rw [List.nodup_cons] at h;have c:=hs x ξ
  have h1:=sub_lenP r (b.erase x) h.2 (fun y d=>by
   have a:y≠x:=fun e=>h.1 (e ▸ d);exact (List.mem_erase_of_ne a).2 (hs y (by simp [d])))
  rw [List.length_erase_of_mem c] at h1;have:=List.length_pos_of_mem c;rw [List.length_cons];omega
structure PLW (w wx:World) (rm n pc:Nat) (pa:Option Addr) (pl:List T3) (i:Nat):Prop where
 m:TGP wx (w.heap.size+2) rm SN (Gn pl i)
 p:At wx w.heap.size 4 (.slice pa n pc)
 b:Bl w wx
def blkOf:Value→Nat
 | .slice (some a) _ _=>a.block
 | _=>0
def capOf:Value→Nat
 | .slice _ _ c=>c
 | _=>0
structure PiledTo (w w':World) (pl:List T3) (g m c:Nat) (S:List (T3×Nat×Nat)):Prop where
 len:S.length=m
 ord:S.Pairwise (fun x y=>ltT x.1 y.1)
 row:∀ i (hi:i<S.length),At w' g i (.slice (Az (S[i].2.1)) (Gn pl pl.length S[i].1).length S[i].2.2)
 own:∀ s∈S,w'.ownsRow w.heap.size 3 1 (.slice (Az s.2.1) (Gn pl pl.length s.1).length s.2.2) (Gn pl pl.length s.1).length ((Gn pl pl.length s.1).map (Value.int .i64))
 ne:∀ s∈S,Gn pl pl.length s.1≠[]
 all:∀ k,k<pl.length→∃ s∈S,s.1=pl.getD k (0,0,0)
 far:S.Pairwise (fun x y=>x.2.1≠y.2.1)
 off:∀ s∈S,s.2.1≠g
 b:Bl w w'
theorem Tlk_of {ls:List (T3×Value×Nat)} {c:Nat} (b:TGood ls c) {x:(T3×Value×Nat)} (a:x∈ls):Tlk ls x.1=some x.2.1:=by
 have h1:=b.1;clear b;induction ls with
 | nil=>cases a
 | cons y r ih =>
  rw [List.map_cons,List.nodup_cons] at h1;unfold Tlk;rcases List.mem_cons.1 a with rfl | a
  ·rw [if_pos rfl]
  ·have:y.1≠x.1:=fun e=>h1.1 (e ▸ List.mem_map.2 ⟨x,a,rfl⟩);rw [if_neg this];exact ih a h1.2
theorem Tlk_some {ls:List (T3×Value×Nat)} {k:T3} {v:Value} (h:Tlk ls k=some v):∃ x∈ls,x.1=k∧x.2.1=v:=by
 induction ls with
 | nil=>cases h
 | cons y r ih =>
  unfold Tlk at h;by_cases q:y.1=k
  ·rw [if_pos q] at h;simp at h;exact ⟨y,ξ,q,h⟩
  ·rw [if_neg q] at h;obtain ⟨x,a,e⟩:=ih h;exact ⟨x,by simp [a],e⟩
theorem piled_any (w:World) (ad ma pa:Option Addr) (na ca nm cm U:Nat) (ra rk:Option Nat) (pl:List T3) (hT:TRow w pa pl) (h0:0<pl.length) (hn:pl.length≤300) :
  Cl 214 #[.agg #[.slice ad na ca,.map ra,.map rk,.slice ma nm cm,.slice pa pl.length U]] w fun e w'=>∃ g m c S,e=.returned (.slice (Az g) m c)∧PiledTo w w' pl g m c S:=by
 obtain ⟨F,rfl⟩:∃ F,pa=Az F:=by
  obtain ⟨g,e,_⟩:=hT 0 h0;exact ⟨g,e⟩
 have HT:=Hd hT;obtain ⟨i3,an,Z,a6,a7⟩:=info_parts inf3;have HI:=H4 an Z a6 a7;obtain ⟨n,L⟩:∃ n,n=pl.length:=⟨_,rfl⟩;have l:=Hd L;have bb:n≤300:=γ;have az:0<n:=γ;rw [← L];clear hT an Z a6 a7 L h0 hn;have b5:=@run_makeMap Tryz.prog;go_enter Tryz.func214,Tryz.ntmps214;go_wp2;obtain ⟨W1,hW1⟩:∃ W1,W1=(w.alloc (.cells #[.slice ad na ca,.map ra,.map rk,.slice ma nm cm,.slice (Az F) n U] 100)).alloc (.map #[] 0):=⟨_,rfl⟩
 have ag:Hid (PLW w W1 (w.heap.size+1) n U (Az F) pl 0):=by
  have:PLW w W1 (w.heap.size+1) n U (Az F) pl 0:=by
   rw [hW1];refine ⟨⟨[],0, ?_,⟨ξ,ξ,ξ⟩,fun e _=>rfl,fun e v h=>by simp [Tlk] at h,fun e e' v v' _ h=>by simp [Tlk] at h⟩,δ,Qb β1⟩;have h9:=heap_alloc_new (w.alloc (.cells #[.slice ad na ca,.map ra,.map rk,.slice ma nm cm,.slice (Az F) n U] 100)) (.map #[] 0);rw [World.size_alloc] at h9;exact h9
  exact this
 rw [← hW1];clear hW1 b5;go_loopg [10] n (fun gk b8 wx=>∃ i:Nat,i≤n∧gk=n - i∧b8=I (i:Int)∧PLW w wx (w.heap.size+1) n U (Az F) pl i)
 case atStart=>exact ⟨0,γ,rfl,rfl,ag.out⟩
 case round =>
  clear ag;obtain ⟨i,hi,rfl,rfl,hP⟩:=hrel;have Q:=Hd hP;clear hP;by_cases h1:i<n
  ·have i1:(i:Int)<(n:Int):=γ;have i0:(0:Int)≤(i:Int):=γ;have aa:i<pl.length:=by rw [← l.out];exact h1
   obtain ⟨g',eg,q0,P,q2⟩:=(HT.out.kept Q.out.b) i aa
   cases eg;obtain ⟨t,ht⟩:∃ t,t=pl[i]:=⟨_,rfl⟩;obtain ⟨x,y,z⟩:=t;rw [← ht] at q0 P q2;dsimp only at q0 P q2;have hgt:pl.getD i (0,0,0)=(x,y,z):=by rw [List.getD_eq_getElem?_getD,List.getElem?_eq_getElem aa,ht];rfl
   have zg:=Bt q0;obtain ⟨v0,st,f,Y,T,au,M,H⟩:=(Q.out.m.kept (w':=(wr.alloc (.cells #[I x,I y,I z] 51)).alloc (.cells #[I (i:Int)] 3)) β2).entry γ (fun g h=>by simp [Value.ownBlock] at h) (x,y,z) (i:Int);have b7:(Instr.mapEntry 336 (.map (some (w.heap.size+1))) (.agg #[I x,I y,I z])).run Tryz.prog ((wr.alloc (.cells #[I x,I y,I z] 51)).alloc (.cells #[I (i:Int)] 3))=.ok (.tuple #[v0,I st]) f:=Y;have C:f.heap.size=wr.heap.size+2:=by rw [au];simp
   have ba:w.heap.size+1<wr.heap.size:=by
    obtain ⟨ls,c,h,_⟩:=Q.out.m;exact h.lt
   have b6:At f (wr.heap.size+1) 0 (I (i:Int)):=T.cell δ (fun e=>by simp at e;omega)
   have a8:Hid ((Gn pl i (x,y,z)).length≤300):=by
    have:=Gn_len pl i (x,y,z);have:(Gn pl i (x,y,z)).length≤300:=γ;exact this
   have af:=Hd M;have aq:At f w.heap.size 4 (.slice (Az F) n U):=T.cell (Qa β2 Q.out.p) (fun e=>by simp at e)
   have u:Bl w f:=by
    have k1:Bl w ((wr.alloc (.cells #[I x,I y,I z] 51)).alloc (.cells #[I (i:Int)] 3)):=Qb (Qb Q.out.b);exact k1.grown T k1.size (fun r e=>by cases e;omega)
   have ae:Hid (∀ g o V,f.grownBy V v0.ownBlock→V.ownsRow (w.heap.size+2) 3 1 (.slice (Az g) ((Gn pl i (x,y,z)).length+1) o) ((Gn pl i (x,y,z)).length+1) ((Gn pl i (x,y,z)).map (Value.int .i64) ++ [I (i:Int)])→(v0.ownBlock=some g∨g=wr.heap.size+2) →
     ∃ W4,(Instr.entryStore 336 (.map (some (w.heap.size+1))) (I st) (.slice (Az g) ((Gn pl i (x,y,z)).length+1) o)).run Tryz.prog V=.ok () W4∧PLW w W4 (w.heap.size+1) n U (Az F) pl (i+1)):=fun g o V u1 u2 u3=>by
    obtain ⟨W4,s1,s2,s3⟩:=H (.slice (Az g) ((Gn pl i (x,y,z)).length+1) o) V u1 u2 (u3.imp (fun q=>q.symm) (fun q=>by rw [q,C];rfl));have nb:∀ r,v0.ownBlock=some r→w.heap.size+2≤r:=fun r e=>(M.lt r e).1;have k3:Bl w V:=u.grown u1 u.size (fun r e=>by have:=nb r e;omega);refine ⟨W4,s1, ?_,s2.cell (u1.cell aq (fun e=>by have:=nb _ e.symm;dsimp only at this;omega)) (fun e=>by simp at e),k3.grown s2 k3.size (fun r e=>by cases e;omega)⟩
    have e9:(fun j=>if j=(x,y,z) then Gn pl i (x,y,z) ++ [(i:Int)] else Gn pl i j)=Gn pl (i+1):=by
     funext j
     show _=if j=pl.getD i (0,0,0) then Gn pl i (pl.getD i (0,0,0)) ++ [(i:Int)] else Gn pl i j
     rw [hgt]
    rw [e9] at s3;exact s3
   obtain ⟨nG,ac⟩:∃ m,m=(Gn pl i (x,y,z)).length:=⟨_,rfl⟩;obtain ⟨xG,ar⟩:∃ m,m=(Gn pl i (x,y,z)).map (Value.int .i64):=⟨_,rfl⟩;rw [← ac,← ar] at af ae;rw [← ac] at a8;clear M H Y T au hgt ht ac ar u aq aa;go_wp2_with (at_builtin;refine wpList_append_lies _ rfl (.tmp 17) (.tmp 19) 22 rfl (w.heap.size+2) 3 i3 (I 0) 1 8 Tryz.underlying22 HI.out.1 HI.out.2.1 HI.out.2.2.1 HI.out.2.2.2 rfl ψ v0 nG xG rfl af.out ⟨wr.heap.size+1,0,none⟩ 1 1 [I (i:Int)] rfl rfl (Yd _ b6) (Xx _) ψ (by have:=a8.out;unfold maxLen;omega) (by have:=a8.out;omega) γ f.heap.size rfl ?grow)
   case grow =>
    intro g o V N J aj b9;obtain ⟨W4,bc,ah⟩:=ae.out g o V J N aj;have aw:=Hd ah;clear ah N aj J;go_wp2;go_roundg (n - (i+1))
    case measure=>omega
    case rel=>exact ⟨i+1,γ,rfl,σ,aw.out⟩
  ·have i1:¬ (i:Int)<(n:Int):=γ;obtain rfl:i=n:=γ;obtain ⟨f,C⟩:∃ f,f=wr.alloc (.cells #[.map (some (w.heap.size+1))] 336):=⟨_,rfl⟩;have R:Bl wr f:=by rw [C];exact Qb (Qe _)
   obtain ⟨ls,c,t1,t2,t3,t4,t5⟩:=Q.out.m.kept R;have ak:At f wr.heap.size 0 (.map (some (w.heap.size+1))):=by rw [C];simp [go_sem]
   have am:F<w.heap.size:=by
    obtain ⟨g',eg,q0,_⟩:=HT.out 0 (by rw [← l.out];omega)
    cases eg;exact bk q0
   have u:Bl w f:=Qc Q.out.b R
   have B:∀ x∈ls,∃ g q,x.2.1=.slice (Az g) (Gn pl i x.1).length q∧f.ownsRow (w.heap.size+2) 3 1 x.2.1 (Gn pl i x.1).length ((Gn pl i x.1).map (Value.int .i64))∧Gn pl i x.1≠[]:=fun x d=>by
    obtain ⟨a1,a2,_⟩:=t4 x.1 x.2.1 (Tlk_of t2 d);obtain ⟨g,q,e⟩:=own_slice a1 (List.length_pos_iff.2 a2);exact ⟨g,q,e,a1,a2⟩
   have ai:∀ x∈ls,RowAt f F i x:=fun x d=>by
    obtain ⟨g,q,e,a1,a2⟩:=B x d;have O:=List.length_pos_iff.2 a2;obtain ⟨k,W⟩:=Gn_nat pl i x.1 ((Gn pl i x.1)[0]) (Lm O);have D:=(Gn_mem pl x.1 i k).1 (by rw [← W];exact Lm O);rw [e] at a1;have hc:=a1.cellAt 0 γ;have K:k<pl.length:=by rw [← l.out];exact D.1
    obtain ⟨g',eg,q0,P,q2⟩:=(HT.out.kept u) k K
    cases eg;have e3:pl[k]=x.1:=by rw [← D.2,List.getD_eq_getElem?_getD,List.getElem?_eq_getElem K];rfl
    rw [e3] at q0 P q2;refine ⟨g,_,q,k,e,O, ?_,D.1,q0,P,q2⟩;show World.cell? _ _=_
    rw [hc,List.getElem?_map,List.getElem?_eq_getElem O,W];rfl
   have X:ls.length≤300:=by
    have h1:=sub_lenP (ls.map (fun x=>x.1)) pl t2.1 (fun e he=>by
     obtain ⟨x,d,rfl⟩:=List.mem_map.1 he;obtain ⟨g,q,e,a1,a2⟩:=B x d;have O:=List.length_pos_iff.2 a2;obtain ⟨k,W⟩:=Gn_nat pl i x.1 ((Gn pl i x.1)[0]) (Lm O);have D:=(Gn_mem pl x.1 i k).1 (by rw [← W];exact Lm O);have K:k<pl.length:=by rw [← l.out];exact D.1
     rw [← D.2,List.getD_eq_getElem?_getD,List.getElem?_eq_getElem K];exact Lm K)
    rw [List.length_map,← l.out] at h1;omega
   have G:∀ k,k<pl.length→∃ x∈ls,x.1=pl.getD k (0,0,0):=fun k W=>by
    have hm:=(Gn_mem pl (pl.getD k (0,0,0)) i k).2 ⟨by rw [l.out];exact W,rfl⟩
    cases O:Tlk ls (pl.getD k (0,0,0)) with
    | none =>
     rw [t3 _ O] at hm
     cases hm
    | some v =>
     obtain ⟨x,d,e,_⟩:=Tlk_some O;exact ⟨x,d,e⟩
   have h0:ls≠[]:=fun e=>by
    obtain ⟨x,d,_⟩:=G 0 (by rw [← l.out];exact az);rw [e] at d
    cases d
   have CS:Hid (Cl 262 #[.func (.func 286) #[] #[.pointer (Az wr.heap.size)],.func (.func 264) #[] #[.pointer (Az w.heap.size)]] f fun e w'=>SRows f w' ls e):=sortedRows_any f wr.heap.size (w.heap.size+1) c w.heap.size F i U ls t2 h0 X ak t1 (Qa R Q.out.p) (Nl am u.size) ai;have av:=H5 B G t2 t5 u;have ax:=Hd C;clear t1 t2 t3 t4 t5 ak B ai X G h0 R u C;go_wp2_with (first | (go_at_call 263;refine (values_any _ _).mono ?_;rintro e w2 ⟨rfl,rfl⟩;rw [← ax.out]) | (go_at_call 262;refine CS.out.mono ?_;rintro e w3 ⟨g,q,E,rfl,h1,h2,h3,h4,h5⟩;have HF:=H5 h1 h2 h3 h4 h5;clear h1 h2 h3 h4 h5))
   go_ret;obtain ⟨f1,f2,f3,f4,f5⟩:=HF.out;obtain ⟨l1,l2,l3,l4,l5⟩:=av.out;have zm:=Q.out.b.size;have A:∀ x∈E,x∈ls:=fun x d=>f1.mem_iff.1 d;have L:=l.out;subst L;have ap:(E.map (fun x=>x.1)).Nodup:=(f1.map (fun x=>x.1)).nodup_iff.2 l3.1;refine ⟨g,E.length,q,E.map (fun x=>(x.1,blkOf x.2.1,capOf x.2.1)),ξ,⟨ξ, ?_, ?_, ?_, ?_, ?_, ?_, ?_,Qc l5 f5⟩⟩
   ·rw [List.pairwise_map];have ab:=List.pairwise_map.1 ap;exact (f2.and ab).imp (fun {a b} h=>Qaa h.1 (fun e=>h.2 e.symm))
   ·intro j hj;have ao:j<E.length:=by simpa using hj
    obtain ⟨g1,P,e1,_⟩:=l1 E[j] (A _ (Lm ao));show World.cell? _ _=_
    rw [f3 j ao,List.getElem_map];rw [e1];simp [blkOf,capOf]
   ·intro s hs;obtain ⟨x,d,rfl⟩:=List.mem_map.1 hs;obtain ⟨g1,P,e1,o1,_⟩:=l1 x (A x d);have o2:=Qj o1 f5;rw [e1] at o2 ⊢;exact ⟨o2.1,o2.2.imp id (fun ⟨g,o,ay,h1,h2,h3⟩=>⟨g,o,ay,h1,Nt γ h2,h3⟩)⟩
   ·intro s hs;obtain ⟨x,d,rfl⟩:=List.mem_map.1 hs;obtain ⟨g1,P,e1,_,o2⟩:=l1 x (A x d);exact o2
   ·intro k W;obtain ⟨x,d,e1⟩:=l2 k W;exact ⟨_,List.mem_map.2 ⟨x,f1.mem_iff.2 d,rfl⟩,e1⟩
   ·rw [List.pairwise_map];have ab:=List.pairwise_map.1 ap;refine ab.imp_of_mem (fun {a b} ha hb h=>?_);have k1:=l4 a.1 b.1 a.2.1 b.2.1 h (Tlk_of l3 (A a ha)) (Tlk_of l3 (A b hb));obtain ⟨g1,P,e1,_⟩:=l1 a (A a ha);obtain ⟨g2,q2,e2,_⟩:=l1 b (A b hb);rw [e1,e2] at k1 ⊢;simpa [Value.ownBlock,blkOf] using k1
   ·intro s hs;obtain ⟨x,d,rfl⟩:=List.mem_map.1 hs;obtain ⟨g1,P,e1,o1,o2⟩:=l1 x (A x d);rw [e1] at o1 ⊢;have z1:=(o1.lt g1 rfl).2;simp only [blkOf];omega
end Go.Proofs.YtnpboeodhpenmaaGreatDoor
